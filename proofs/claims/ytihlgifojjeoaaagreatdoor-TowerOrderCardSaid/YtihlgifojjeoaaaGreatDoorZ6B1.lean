import Derived.Test.YtihlgifojjeoaaaGreatDoorZ6A9
import Derived.Deep.Cut
set_option maxRecDepth 1000000
set_option maxHeartbeats 40000000
open Go.Value renaming string→Z
open Go.Obj renaming cells→O
namespace Go.Proofs.YtihlgifojjeoaaaGreatDoor
section
open Go.RowKit Nm

theorem QiG (x y:Int) (u v:Value) (w:World) (hx:IsN w u x) (hy:IsN w v y) (hl:(natL x.natAbs).length≤1000) (hl2:(natL y.natAbs).length≤1000) :
  Calls Tryz.prog 185 #[u,v] w fun e w'=>∃ r,e = .returned r∧IsN w' r (x-y)∧Below w.heap.size w w':=by
 have HX:=hx;have HY:=hy;obtain ⟨p,cap,rfl,hN⟩:=hx;obtain ⟨q,cap',rfl,hN'⟩:=hy;have HB0:Shut _:=⟨QcF w #[.bool (decide (x<0)),.slice p (natL x.natAbs).length cap] #[.bool (decide (y<0)),.slice q (natL y.natAbs).length cap'] #[.bool false,.slice none 0 0]⟩;obtain ⟨r1,r2,r3⟩:=QeD w #[.bool (decide (x<0)),.slice p (natL x.natAbs).length cap] #[.bool (decide (y<0)),.slice q (natL y.natAbs).length cap'] #[.bool false,.slice none 0 0];go_enter Tryz.func185, Tryz.ntmps185;go_wp2;rw [show ((w.alloc (O #[.bool (decide (x<0)),.slice p (natL x.natAbs).length cap] 130)).alloc (O #[.bool (decide (y<0)),.slice q (natL y.natAbs).length cap'] 130)).alloc (O #[.bool false,.slice none 0 0] 130)=box3 w #[.bool (decide (x<0)),.slice p (natL x.natAbs).length cap] #[.bool (decide (y<0)),.slice q (natL y.natAbs).length cap'] #[.bool false,.slice none 0 0] from rfl];generalize box3 w #[.bool (decide (x<0)),.slice p (natL x.natAbs).length cap] #[.bool (decide (y<0)),.slice q (natL y.natAbs).length cap'] #[.bool false,.slice none 0 0]=W0 at *
 have hd:Below W0.heap.size W0 W0.drew:=(Below.refl _ _).drew;have hwd:Below w.heap.size w W0.drew:=HB0.o.drew;obtain ⟨a1,a2,_,_⟩:=Qaf r1 (Below.refl _ W0);obtain ⟨b1,b2,_,_⟩:=Qaf r2 (Below.refl _ W0);obtain ⟨d1,d2,d3,d4⟩:=Qaf r3 (Below.refl _ W0);have cn:=QjG y _ W0.drew (HY.below hwd Lr);have HXS:Shut _:=⟨HX⟩;have hl3:(natL (-y).natAbs).length≤1000:=by rw [Int.natAbs_neg];exact hl2
 have HR1:Shut _:=⟨r1⟩;have HR2:Shut _:=⟨r2⟩;have HR3:Shut _:=⟨r3⟩;have n1:¬(w.heap.size=w.heap.size+1+1):=by omega
 have n2:¬(w.heap.size+1+1=w.heap.size):=by omega
 clear r1 r2 r3 hN hN' HX HY
 go_region_held3 (fun w'=>w'.cell? ⟨w.heap.size,0,none⟩=some (.bool (decide (x<0)))∧w'.cell? ⟨w.heap.size,1,none⟩=some (.slice p (natL x.natAbs).length cap)∧w'.cell? ⟨w.heap.size+1,0,none⟩=some (.bool (decide (y<0)))∧w'.cell? ⟨w.heap.size+1,1,none⟩=some (.slice q (natL y.natAbs).length cap')) (go_keep) (first | (go_at_call 221; refine cn.mono ?_;rintro e w1 ⟨v1,rfl,hv1,hB1⟩;have hB1':=hd.trans hB1;obtain ⟨e1,e2,_,_⟩:=Qaf HR1.o hB1';obtain ⟨f1,f2,_,_⟩:=Qaf HR2.o hB1';obtain ⟨g1,g2,g3,g4⟩:=Qaf HR3.o hB1';have hw1:=HB0.o.trans (hB1'.mono HB0.o.size)) | (go_at_call 168; refine (Qgc x (-y) _ _ _ (HXS.o.below hw1 Lr) hv1 hl hl3).mono ?_;rintro e w2 ⟨r9,rfl,hr9,hB2⟩;obtain ⟨p9,c9,rfl,hn9⟩:=hr9;have hB2':=hB1'.trans (hB2.mono hB1'.size);obtain ⟨h1,h2,_,_⟩:=Qaf HR1.o hB2';obtain ⟨i1,i2,_,_⟩:=Qaf HR2.o hB2';obtain ⟨j1,j2,j3,j4⟩:=Qaf HR3.o hB2'))
 all_goals go_wp2
 all_goals (have hF:=((HB0.o.trans (hB2'.mono HB0.o.size)).setCell (p:=⟨w.heap.size+1+1,0,none⟩) (by show w.heap.size≤w.heap.size+1+1;omega) (.bool (decide (x + -y<0)))).setCell (p:=⟨w.heap.size+1+1,1,none⟩) (by show w.heap.size≤w.heap.size+1+1;omega) (.slice p9 (natL (x + -y).natAbs).length c9))
 all_goals (have hv2:=hn9.setNum2 (RowAt.below HR3.o hB2' (RowAt.lt HR3.o)) (fun _ _=>by simp) (fun _ _=>by simp) (decide (x + -y<0)) (.slice p9 (natL (x + -y).natAbs).length c9))
 all_goals refine bodyPost_ret (v:=.agg #[.bool (decide (x + -y<0)),.slice p9 (natL (x + -y).natAbs).length c9]) (by simp [results,Tryz.results185, go_sem,j1,j2]) rfl ⟨_,rfl,⟨p9,c9,by rw [Int.sub_eq_add_neg],by rw [Int.sub_eq_add_neg];exact hv2⟩,hF⟩
theorem QcU (a b:ByteArray):(a.toList == b.toList)=decide (a=b):=by
 rw [Bool.eq_iff_iff,beq_iff_eq,decide_eq_true_iff,ByteArray.toList_eq,ByteArray.toList_eq];constructor
 ·intro h;cases a;cases b;congr;exact Array.toList_inj.1 h
 ·rintro rfl;rfl
def hd0 (s:ByteArray):Nat:=(bl s).getD 0 0
def cutB (s:ByteArray):Bool×ByteArray:=if hd0 s=45 then (true,s.extract 1 s.size) else (false,s)
theorem Qnq {s:ByteArray} (h:s.size=0):hd0 s=0:=by
 have:bl s = []:=List.eq_nil_of_length_eq_zero (by rw [QcA];exact h);rw [hd0,this];rfl

theorem Qgd (s:ByteArray) (hs:s.size≤1000000) (w:World) :
  Calls Tryz.prog 187 #[Z s] w fun e w'=>e = .returned (.tuple #[.bool (cutB s).1,Z (cutB s).2])∧∃ m,w'=w.drewN m:=by
 go_enter Tryz.func187, Tryz.ntmps187;by_cases h0:s.size=0
 ·have HC:Shut (cutB s=(false,s)):=⟨by rw [cutB,Qnq h0];rfl⟩;go_wp2
  go_ret2
  exact ⟨by rw [HC.o];rfl,0,rfl⟩
 ·have hp:0<s.size:=by omega
  have hg:=QeC s 0 hp;by_cases h45:hd0 s=45
  ·have HC:Shut (cutB s=(true,s.extract 1 s.size)):=⟨by rw [cutB,if_pos h45]⟩;have hb:s[0].toNat=45:=by rw [←hg];exact h45
   have hi1:(1:Int)≤(s.size:Int):=by omega
   clear h45 hg;go_wp2
   go_quiet (fail)
   go_wp2
   go_ret2
   exact ⟨by rw [HC.o];rfl,_,rfl⟩
  ·have HC:Shut (cutB s=(false,s)):=⟨by rw [cutB,if_neg h45]⟩;have hb:s[0].toNat≠45:=by rw [←hg];exact h45
   have hb2:((s[0].toNat:Nat):Int)≠45:=by omega
   clear h45 hg;go_wp2
   go_ret2
   exact ⟨by rw [HC.o];rfl,0,rfl⟩

def okC (y:Nat):Bool:=decide (48≤y) && decide (y<58)
def Qap (s:ByteArray):Bool:=if (cutB s).2.size=0∨200<(cutB s).2.size then false else if hd0 (cutB s).2=48 then decide (s=ba [48]) else (bl (cutB s).2).all okC
theorem Qnr (s:ByteArray):(cutB s).2.size≤s.size:=by
 rw [cutB];split
 ·rw [ByteArray.size_extract];omega
 ·exact Nat.le_refl _

theorem Qdf (s:ByteArray) (hs:s.size≤1000000) (w:World) :
  Calls Tryz.prog 149 #[Z s] w fun e w'=>e = .returned (.bool (Qap s))∧∃ m,w'=w.drewN m:=by
 have cc:=Qgd s hs w;have hcs:=Qnr s;have HV:Shut (Qap s=if (cutB s).2.size=0∨200<(cutB s).2.size then false else if hd0 (cutB s).2=48 then decide (s=ba [48]) else (bl (cutB s).2).all okC):=⟨rfl⟩;generalize (cutB s).1=neg at *
 generalize (cutB s).2=d at *
 obtain ⟨vr,hvr⟩:∃ vr,vr=Qap s:=⟨_,rfl⟩;have HVR:Shut _:=⟨hvr⟩;rw [←hvr] at HV ⊢;clear hvr;go_enter Tryz.func149, Tryz.ntmps149;go_upto_region 2 with (go_at_call 187; refine cc.mono ?_;rintro e w1 ⟨rfl,m0,rfl⟩)
 by_cases h0:d.size=0
 ·have HC:Shut (vr=false):=⟨by rw [HV.o,if_pos (.inl h0)]⟩;clear HV;go_wp2;go_ret;exact ⟨by rw [HC.o];rfl,m0,rfl⟩
 ·by_cases h200:200<d.size
  ·have HC:Shut (vr=false):=⟨by rw [HV.o,if_pos (.inr h200)]⟩;have hz:((d.size:Int) == 0)=false:=by rw [beq_eq_false_iff_ne];omega
   have hd2:decide ((200:Int)<(d.size:Int))=true:=decide_eq_true (by omega);clear HV;go_wp2;go_ret;exact ⟨by rw [HC.o];rfl,m0,rfl⟩
  ·have hp:0<d.size:=by omega
   have hz:((d.size:Int) == 0)=false:=by rw [beq_eq_false_iff_ne];omega
   have hd2:decide ((200:Int)<(d.size:Int))=false:=decide_eq_false (by omega);have hg:=QeC d 0 hp;by_cases h48:hd0 d=48
   ·have HC:Shut (vr=decide (s=ba [48])):=⟨by rw [HV.o,if_neg (by omega),if_pos h48]⟩;have hb:d[0].toNat=48:=by rw [←hg];exact h48
    have hse:(s.toList == [48])=decide (s=ba [48]):=by rw [←QcU,show (ba [48]).toList = [48] by rw [ByteArray.toList_eq];rfl]
    have HSE:Shut _:=⟨hse⟩;clear hse;clear hg h48 HV;go_wp2;go_ret;exact ⟨by rw [HC.o,←HSE.o];rfl,m0,rfl⟩
   ·have HC:Shut (vr=(bl d).all okC):=⟨by rw [HV.o,if_neg (by omega),if_neg h48]⟩;have hb:d[0].toNat≠48:=by rw [←hg];exact h48
    have hb2:(((d[0].toNat:Nat):Int) == 48)=false:=by rw [beq_eq_false_iff_ne];omega
    clear hg h48 HV;go_wp2
    go_loopw [26] (fun iv wr=>∃ k:Nat,k≤d.size∧iv = .int .i64 k∧(∃ m,wr=w.drewN m)∧Shut (∀ j,j<k→okC ((bl d).getD j 0)=true)) (fun iv _=>d.size-(intOf iv).toNat)
    case atStart=>exact ⟨0,by omega,rfl,⟨m0,rfl⟩,⟨fun j hj=>by omega⟩⟩
    case round =>
     obtain ⟨k,hk,rfl,⟨m,hw⟩,hall⟩:=hrel;have HW:Shut _:=⟨hw⟩;clear hw;by_cases hlt:k<d.size
     ·have hgk:=QeC d k hlt;by_cases hok:okC ((bl d).getD k 0)=true
      ·have hall2:Shut (∀ j,j<k+1→okC ((bl d).getD j 0)=true):=⟨fun j hj=>by
        by_cases e:j=k
        ·rw [e];exact hok
        ·exact hall.o j (by omega)⟩
       rw [hgk,okC,Bool.and_eq_true,decide_eq_true_eq,decide_eq_true_eq] at hok;obtain ⟨h1,h2⟩:=hok;clear hgk hall;go_wp2;exact ⟨⟨k+1,by omega,by go_num,⟨m,HW.o⟩,hall2⟩,by simp [intOf];omega⟩
      ·have HF:Shut (vr=false):=⟨by
        rw [HC.o,List.all_eq_false];refine ⟨(bl d).getD k 0, ?_,hok⟩;have hkl:k<(bl d).length:=by rw [QcA];exact hlt
        rw [List.getD_eq_getElem?_getD,List.getElem?_eq_getElem hkl];exact List.getElem_mem hkl⟩
       rw [hgk,okC,Bool.and_eq_true,decide_eq_true_eq,decide_eq_true_eq] at hok;clear hgk hall;by_cases h1:d[k].toNat<48
       ·go_wp2;go_ret;exact ⟨by rw [HF.o];rfl,m,HW.o⟩
       ·have h2:57<d[k].toNat:=by omega
        go_wp2;go_ret;exact ⟨by rw [HF.o];rfl,m,HW.o⟩
     ·obtain rfl:k=d.size:=by omega
      have HT:Shut (vr=true):=⟨by
       rw [HC.o,List.all_eq_true];intro y hy;obtain ⟨j,hj,rfl⟩:=List.getElem_of_mem hy;have:=hall.o j (by rw [←QcA];exact hj)
       rwa [List.getD_eq_getElem?_getD,List.getElem?_eq_getElem hj] at this⟩
      clear hall;go_wp2;go_ret;exact ⟨by rw [HT.o];rfl,m,HW.o⟩

/-! ### what is valid is the text of an integer -/
theorem Qns (y:Nat):okC y=true↔48≤y∧y<58:=by rw [okC,Bool.and_eq_true,decide_eq_true_eq,decide_eq_true_eq]
theorem Qhh (z:Int):bl (txt z)=if z=0 then [48] else if z<0 then 45 :: decN z.natAbs else decN z.natAbs:=by
 rw [txt];split
 ·rfl
 ·split
  ·rw [QeB];intro y hy;rcases List.mem_cons.1 hy with rfl | hy
   ·decide
   ·have:=QaQ _ y hy;omega
  ·rw [QeB];intro y hy;have:=QaQ _ y hy;omega
theorem Qnt (n:Nat) (h:n≠0):decN n ≠ []:=fun e=>h (QeA.1 e)
theorem Qnu (n:Nat) (h:n≠0):49≤(decN n).getD 0 0∧(decN n).getD 0 0<58:=by
 have h1:=QcN n h;cases hd:decN n with
 | nil=>exact absurd hd (Qnt n h)
 | cons a r =>
  rw [hd] at h1;have h2:=QaQ n a (by rw [hd];simp);simp at h1 ⊢;omega
theorem Qge (z:Int):cutB (txt z)=(decide (z<0),ba (if z=0 then [48] else decN z.natAbs)):=by
 have hb:=Qhh z;rw [cutB,hd0,hb];by_cases h0:z=0
 ·rw [if_pos h0,if_pos h0,if_neg (by decide),decide_eq_false (by omega),txt,if_pos h0]
 ·rw [if_neg h0,if_neg h0];by_cases hn:z<0
  ·rw [if_pos hn,if_pos (by rfl),decide_eq_true hn];congr 1;apply Qkx;rw [Qde,hb,if_neg h0,if_pos hn,←QcA,hb,if_neg h0,if_pos hn,List.take_length,QeB _ (fun y hy=>by have:=QaQ _ y hy;omega)];rfl
  ·have:=Qnu z.natAbs (by omega);rw [if_neg hn,if_neg (by omega),decide_eq_false hn,txt,if_neg h0,if_neg hn]
def Fits (z:Int):Prop:=(decN z.natAbs).length≤200
instance fits_dec (z:Int):Decidable (Fits z):=by unfold Fits;infer_instance
theorem Qbx {z:Int} (h:Fits z):(natL z.natAbs).length≤50:=by
 refine Qat ?_;have h1:=QjF z.natAbs;have h2:10^(decN z.natAbs).length≤10^200:=Nat.pow_le_pow_right (by decide) h;rw [show (10000:Nat)^50=10^200 by rw [show (10000:Nat)=10^4 from rfl,←Nat.pow_mul]];omega
theorem Qax (z:Int) (h:Fits z):Qap (txt z)=true:=by
 rw [Qap,Qge];by_cases h0:z=0
 ·subst h0;rfl
 ·have hne:=Qnt z.natAbs (by omega);have hl:(decN z.natAbs).length≠0:=fun e=>hne (List.eq_nil_of_length_eq_zero e);have hhd:=Qnu z.natAbs (by omega);have hb:bl (ba (decN z.natAbs))=decN z.natAbs:=QeB _ (fun y hy=>by have:=QaQ _ y hy;omega);unfold Fits at h;simp only [if_neg h0];rw [if_neg (by rw [Qeo];omega),hd0,hb,if_neg (by omega),List.all_eq_true];intro y hy;exact (Qns y).2 (QaQ _ y hy)
theorem QdY {s:ByteArray} (h:Qap s=true):∃ z:Int,s=txt z∧Fits z:=by
 rw [Qap] at h;split at h
 ·cases h
 ·rename_i hsz;split at h
  ·rename_i h48;rw [decide_eq_true_eq] at h;exact ⟨0,h,by unfold Fits;rw [show (0:Int).natAbs=0 from rfl,Qbe];simp⟩
  ·rename_i h48;have hd:∀ y∈bl (cutB s).2,48≤y∧y<58:=fun y hy=>(Qns y).1 (List.all_eq_true.1 h y hy);have hne:(bl (cutB s).2).length≠0:=by rw [QcA];omega
   have hz:bl (cutB s).2 = []∨(bl (cutB s).2).getD 0 0≠48:=.inr h48;have he:=QrS _ hd hz
   have hv0:dvl (bl (cutB s).2)≠0:=by
    intro e;rw [e,Qbe] at he;rw [he] at hne;simp at hne
   by_cases hs:hd0 s=45
   ·have hc:(cutB s).2=s.extract 1 s.size:=by rw [cutB,if_pos hs]
    have hbs:bl s=45 :: bl (cutB s).2:=by
     rw [hc,Qde,←QcA,List.take_length];cases hb:bl s with
     | nil=>rw [hd0,hb] at hs;simp at hs
     | cons a r=>rw [hd0,hb] at hs;simp at hs;rw [hs];rfl
    refine ⟨-(dvl (bl (cutB s).2):Int), ?_, ?_⟩
    ·apply Qkx;rw [Qhh,if_neg (by omega),if_pos (by omega),Int.natAbs_neg,Int.natAbs_natCast,←he,hbs]
    ·unfold Fits;rw [Int.natAbs_neg,Int.natAbs_natCast,←he,QcA];omega
   ·have hc:(cutB s).2=s:=by rw [cutB,if_neg hs]
    rw [hc] at he hv0 hsz;refine ⟨(dvl (bl s):Int), ?_, ?_⟩
    ·apply Qkx;rw [Qhh,if_neg (by omega),if_neg (by omega),Int.natAbs_natCast,←he]
    ·unfold Fits;rw [Int.natAbs_natCast,←he,QcA];omega
theorem QeE (z:Int):Qap (txt z)=decide (Fits z):=by
 by_cases h:Fits z
 ·rw [Qax z h,decide_eq_true h]
 ·rw [decide_eq_false h];rw [Qap,Qge];by_cases h0:z=0
  ·subst h0;exact absurd (by unfold Fits;rw [show (0:Int).natAbs=0 from rfl,Qbe];simp) h
  ·simp only [if_neg h0];unfold Fits at h;rw [if_pos (.inr (by rw [Qeo];omega))]
theorem Qcv {x y:Int} (h:txt x=txt y):x=y:=by
 have h1:cutB (txt x)=cutB (txt y):=by rw [h]
 rw [Qge,Qge] at h1;injection h1 with h2 h3;rw [decide_eq_decide] at h2
 have hlt:∀ z:Int,∀ y∈(if z=0 then [48] else decN z.natAbs),y<256:=by
  intro z y hy;split at hy
  ·simp at hy;omega
  ·have:=QaQ _ y hy;omega
 have h4:=QtW (hlt x) (hlt y) h3
 have h5:∀ z:Int,dvl (if z=0 then [48] else decN z.natAbs)=z.natAbs:=by
  intro z;split
  ·rename_i h0;subst h0;rfl
  ·exact QdX _
 have h6:=h5 x;rw [h4,h5 y] at h6;omega
theorem Qbm {z:Int} (h:Fits z):(txt z).size≤201:=by
 unfold Fits at h;rw [←QcA,Qhh];split
 ·simp
 ·split
  ·simp;omega
  ·omega
theorem QhP (z:Int) (h:Fits z) (w:World) :
  Calls Tryz.prog 152 #[Z (txt z)] w fun e w'=>∃ u,e = .returned (.tuple #[u,.bool true])∧IsN w' u z∧Below w.heap.size w w':=by
 have hsz:=Qbm h;have hB0:Below w.heap.size w (w.alloc (O #[.bool false,.slice none 0 0] 130)):=(Below.refl _ w).alloc Lr _;have HR:Shut _:=⟨RowAt.new w #[.bool false,.slice none 0 0] 130⟩;have HB0:Shut _:=⟨hB0⟩;have cv:=fun W=>Qdf (txt z) (by omega) W;rw [Qax z h] at cv;have cc:=fun W=>Qgd (txt z) (by omega) W;rw [Qge] at cc
 have hdl:∀ y∈bl (ba (if z=0 then [48] else decN z.natAbs)),48≤y∧y<58:=by
  intro y hy;rw [QeB _ (fun y hy=>by split at hy;(simp at hy;omega);(have:=QaQ _ y hy;omega))] at hy;split at hy
  ·simp at hy;omega
  ·exact QaQ _ y hy
 have hdv:dvl (bl (ba (if z=0 then [48] else decN z.natAbs)))=z.natAbs:=by
  rw [QeB _ (fun y hy=>by split at hy;(simp at hy;omega);(have:=QaQ _ y hy;omega))];split
  ·rename_i h0;subst h0;rfl
  ·exact QdX _
 have hds:(ba (if z=0 then [48] else decN z.natAbs)).size≤1000:=by
  unfold Fits at h;rw [Qeo];split
  ·simp
  ·omega
 have co:=fun W=>QiD (ba (if z=0 then [48] else decN z.natAbs)) hds hdl W;rw [hdv] at co;generalize ba (if z=0 then [48] else decN z.natAbs)=ds at *
 generalize txt z=s at *
 clear hdl hdv hds hB0;go_enter Tryz.func152, Tryz.ntmps152;go_wp2_with (first | (go_at_call 149; refine (cv _).mono ?_;rintro e w1 ⟨rfl,m1,rfl⟩) | (go_at_call 187; refine (cc _).mono ?_;rintro e w2 ⟨rfl,m2,rfl⟩) | (go_at_call 192; refine (co _).mono ?_;rintro e w3 ⟨v3,rfl,hv3,hB3⟩;obtain ⟨p3,c3,rfl,hv3'⟩:=hv3.out;have hB3':=(Qag (Below.refl _ (w.alloc (O #[.bool false,.slice none 0 0] 130))) (m1+m2)).trans hB3;obtain ⟨k1,k2,k3,k4⟩:=Qaf HR.o hB3'));have hw3:=HB0.o.trans (hB3'.mono HB0.o.size);have hF:=(hw3.setCell (p:=⟨w.heap.size,0,none⟩) Lr (.bool (decide (z<0)))).setCell (p:=⟨w.heap.size,1,none⟩) Lr (.slice p3 (natL z.natAbs).length c3);have hv2:=hv3.setNum2 (RowAt.below HR.o hB3' (RowAt.lt HR.o)) (fun _ _=>by simp) (fun _ _=>by simp) (decide (z<0)) (.slice p3 (natL z.natAbs).length c3);refine bodyPost_ret (v:=.tuple #[.agg #[.bool (decide (z<0)),.slice p3 (natL z.natAbs).length c3],.bool true]) (by simp [results,Tryz.results152, go_sem,k1,k2]) rfl ⟨_,rfl,⟨p3,c3,rfl,hv2⟩,hF⟩

theorem Qnv (s:ByteArray) (hs:s.size≤1000000) (h:Qap s=false) (w:World) :
  Calls Tryz.prog 152 #[Z s] w fun e w'=>e = .returned (.tuple #[.agg #[.bool false,.slice none 0 0],.bool false])∧Below w.heap.size w w':=by
 have hB0:Below w.heap.size w (w.alloc (O #[.bool false,.slice none 0 0] 130)):=(Below.refl _ w).alloc Lr _;have HR:Shut _:=⟨RowAt.new w #[.bool false,.slice none 0 0] 130⟩;have HB0:Shut _:=⟨hB0⟩;have cv:=fun W=>Qdf s hs W;rw [h] at cv;go_enter Tryz.func152, Tryz.ntmps152;clear hB0;go_wp2_with (first | (go_at_call 149; refine (cv _).mono ?_;rintro e w1 ⟨rfl,m1,rfl⟩;obtain ⟨k1,k2,k3,k4⟩:=Qaf HR.o (Qag (Below.refl _ _) m1)));have hF:=((Qag HB0.o m1).setCell (p:=⟨w.heap.size,0,none⟩) Lr (.bool false)).setCell (p:=⟨w.heap.size,1,none⟩) Lr (.slice none 0 0);refine bodyPost_ret (v:=.tuple #[.agg #[.bool false,.slice none 0 0],.bool false]) (by simp [results,Tryz.results152, go_sem,k1,k2]) rfl ⟨rfl,hF⟩

theorem QiH (s:ByteArray) (hs:s.size≤1000000) (w:World) :
  Calls Tryz.prog 152 #[Z s] w fun e w'=>∃ b p n c,e = .returned (.tuple #[.agg #[.bool b,.slice p n c],.bool (Qap s)])∧(∀ z,s=txt z→Fits z→IsN w' (.agg #[.bool b,.slice p n c]) z)∧Below w.heap.size w w':=by
 by_cases h:Qap s=true
 ·obtain ⟨z,rfl,hz⟩:=QdY h;refine (QhP z hz w).mono ?_;rintro e w' ⟨u,rfl,hu,hB⟩;obtain ⟨p,c,rfl,hn⟩:=hu;refine ⟨_,_,_,_,by rw [h],fun z' hz' _ => ?_,hB⟩;rw [←Qcv hz'];exact ⟨p,c,rfl,hn⟩
 ·have hf:Qap s=false:=by simpa using h
  refine (Qnv s hs hf w).mono ?_;rintro e w' ⟨rfl,hB⟩;refine ⟨_,_,_,_,by rw [hf],fun z' hz' hft => ?_,hB⟩;rw [hz',Qax z' hft] at hf;cases hf

theorem NA.set4 {W:World} {v:Value} {l:List Nat} {a:Nat} (h:NA W v l) (h1:RowAt W a #[.bool false,.slice none 0 0] 130) (h2:RowAt W (a+1) #[.bool false,.slice none 0 0] 130) (B B':Bool) (p p':Option Addr) (n n' c c':Nat) :
  NA ((((W.setCell ⟨a,0,none⟩ (.bool B)).setCell ⟨a,1,none⟩ (.slice p n c)).setCell ⟨a+1,0,none⟩ (.bool B')).setCell ⟨a+1,1,none⟩ (.slice p' n' c')) v l:=by
 have e:a+1≠a:=by omega
 have h3:=h.setNum2 h1 (fun _ _=>by simp) (fun _ _=>by simp) B (.slice p n c);have h4:=(RowAt.set_other h2 ⟨a,0,none⟩ e (.bool B)).set_other ⟨a,1,none⟩ e (.slice p n c);exact h3.setNum2 h4 (fun _ _=>by simp) (fun _ _=>by simp) B' (.slice p' n' c')
theorem QaW (s t:ByteArray) (hs:s.size≤1000000) (ht:t.size≤1000000) (w:World) :
  Calls Tryz.prog 114 #[Z s,Z t] w fun e w'=>∃ b p n c b' p' n' c',e = .returned (.tuple #[.agg #[.bool b,.slice p n c],.agg #[.bool b',.slice p' n' c'],.bool (Qap s && Qap t)])∧(∀ z,s=txt z→Fits z→IsN w' (.agg #[.bool b,.slice p n c]) z)∧(∀ z,t=txt z→Fits z→IsN w' (.agg #[.bool b',.slice p' n' c']) z)∧Below w.heap.size w w':=by
 have c1:=fun W=>QiH s hs W;have c2:=fun W=>QiH t ht W;go_enter Tryz.func114, Tryz.ntmps114;go_upto_region 2 with (go_at_call 152; refine (c1 _).mono ?_;rintro e w1 ⟨b,p,n,c,rfl,hz1,hB1⟩)
 have hz0:((w.alloc (O #[.bool false,.slice none 0 0] 130)).alloc (O #[.bool false,.slice none 0 0] 130)).heap.size=w.heap.size+2:=by rw [World.size_alloc,World.size_alloc]
 have hB0:Below w.heap.size w ((w.alloc (O #[.bool false,.slice none 0 0] 130)).alloc (O #[.bool false,.slice none 0 0] 130)):=((Below.refl _ w).alloc Lr _).alloc (by rw [World.size_alloc];omega) _;have r4:=(RowAt.new w #[.bool false,.slice none 0 0] 130).alloc (O #[.bool false,.slice none 0 0] 130);have r5:=box2 w (O #[.bool false,.slice none 0 0] 130) (.bool false) (.slice none 0 0);generalize (w.alloc (O #[.bool false,.slice none 0 0] 130)).alloc (O #[.bool false,.slice none 0 0] 130)=W0 at *
 have hs1:=hB1.size;have hB2:Below w1.heap.size w1 (w1.alloc (O #[.bool b,.slice p n c] 130)):=(Below.refl _ _).alloc Lr _;have r7:=RowAt.new w1 #[.bool b,.slice p n c] 130;have hz2:(w1.alloc (O #[.bool b,.slice p n c] 130)).heap.size=w1.heap.size+1:=World.size_alloc _ _;generalize w1.alloc (O #[.bool b,.slice p n c] 130)=W2 at *
 go_upto_region 3 with (go_at_call 152; refine (c2 _).mono ?_;rintro e w3 ⟨b',p',n',c',rfl,hz3,hB3⟩)
 have hs3:=hB3.size;have hB4:Below w3.heap.size w3 (w3.alloc (O #[.bool b',.slice p' n' c'] 130)):=(Below.refl _ _).alloc Lr _;have r9:=RowAt.new w3 #[.bool b',.slice p' n' c'] 130;have hz4:(w3.alloc (O #[.bool b',.slice p' n' c'] 130)).heap.size=w3.heap.size+1:=World.size_alloc _ _;generalize w3.alloc (O #[.bool b',.slice p' n' c'] 130)=W4 at *
 have hB24:Below W2.heap.size W2 W4:=hB3.trans (hB4.mono hB3.size);have hB14:Below w1.heap.size w1 W4:=hB2.trans (hB24.mono hB2.size);have hB04:Below W0.heap.size W0 W4:=hB1.trans (hB14.mono hB1.size);have hBw4:Below w.heap.size w W4:=hB0.trans (hB04.mono hB0.size);have hN1:∀ z,s=txt z→Fits z→IsN W4 (.agg #[.bool b,.slice p n c]) z:=fun z h1 h2=>(hz1 z h1 h2).below hB14 Lr;have hN2:∀ z,t=txt z→Fits z→IsN W4 (.agg #[.bool b',.slice p' n' c']) z:=fun z h1 h2=>(hz3 z h1 h2).below hB4 Lr;have R4:=RowAt.below r4 hB04 (RowAt.lt r4);have R5:=RowAt.below r5 hB04 (RowAt.lt r5);have R7:=RowAt.below r7 hB24 (RowAt.lt r7)
 have HF:Shut (∀ z,s=txt z→Fits z→IsN ((((W4.drew.setCell ⟨w.heap.size,0,none⟩ (.bool b)).setCell ⟨w.heap.size,1,none⟩ (.slice p n c)).setCell ⟨w.heap.size+1,0,none⟩ (.bool b')).setCell ⟨w.heap.size+1,1,none⟩ (.slice p' n' c')) (.agg #[.bool b,.slice p n c]) z):=⟨fun z h1 h2=>by
  obtain ⟨pp,cc,e,hna⟩:=hN1 z h1 h2;exact ⟨pp,cc,e,NA.set4 (W:=W4.drew) hna R4 R5 _ _ _ _ _ _ _ _⟩⟩
 have HF2:Shut (∀ z,t=txt z→Fits z→IsN ((((W4.drew.setCell ⟨w.heap.size,0,none⟩ (.bool b)).setCell ⟨w.heap.size,1,none⟩ (.slice p n c)).setCell ⟨w.heap.size+1,0,none⟩ (.bool b')).setCell ⟨w.heap.size+1,1,none⟩ (.slice p' n' c')) (.agg #[.bool b',.slice p' n' c']) z):=⟨fun z h1 h2=>by
  obtain ⟨pp,cc,e,hna⟩:=hN2 z h1 h2;exact ⟨pp,cc,e,NA.set4 (W:=W4.drew) hna R4 R5 _ _ _ _ _ _ _ _⟩⟩
 have HB:Shut _:=⟨(((hBw4.drew.setCell (p:=⟨w.heap.size,0,none⟩) Lr (.bool b)).setCell (p:=⟨w.heap.size,1,none⟩) Lr (.slice p n c)).setCell (p:=⟨w.heap.size+1,0,none⟩) (Nat.le_succ _) (.bool b')).setCell (p:=⟨w.heap.size+1,1,none⟩) (Nat.le_succ _) (.slice p' n' c')⟩;obtain ⟨a1,a2,a3,a4⟩:=Qaf R4 (Below.refl _ _);obtain ⟨b1,b2,b3,b4⟩:=Qaf R5 (Below.refl _ _);obtain ⟨d1,d2,d3,d4⟩:=Qaf R7 (Below.refl _ _);obtain ⟨e1,e2,e3,e4⟩:=Qaf r9 (Below.refl _ _);obtain ⟨b7,hb7⟩:∃ b7,b7=w1.heap.size:=⟨_,rfl⟩;obtain ⟨b9,hb9⟩:∃ b9,b9=w3.heap.size:=⟨_,rfl⟩;rw [←hb7] at d1 d2 d3 d4 ⊢;rw [←hb9] at e1 e2 e3 e4 ⊢;have q1:¬ b7=w.heap.size:=by omega
 have q2:¬ b7=w.heap.size+1:=by omega
 have q3:¬ b9=w.heap.size:=by omega
 have q4:¬ b9=w.heap.size+1:=by omega
 have q5:¬ b7=b9:=by omega
 have q6:¬ b9=b7:=by omega
 have q7:¬ w.heap.size=b7:=by omega
 have q8:¬ w.heap.size=b9:=by omega
 have q9:¬ w.heap.size+1=b7:=by omega
 have q10:¬ w.heap.size+1=b9:=by omega
 clear hb7 hb9 r4 r5 r7 r9 R4 R5 R7 hN1 hN2 hz1 hz3 hB0 hB1 hB2 hB3 hB4 hB24 hB14 hB04 hBw4 hz0 hz2 hz4 hs1 hs3 c1 c2;cases hv1:Qap s with
 | true =>
  go_region
  all_goals go_wp2
  all_goals refine bodyPost_ret (v:=.tuple #[.agg #[.bool b,.slice p n c],.agg #[.bool b',.slice p' n' c'],.bool (Qap t)]) (by simp [results,Tryz.results114, go_sem,a1,a2,b1,b2]) rfl ⟨_,_,_,_,_,_,_,_,by first | rfl | rw [Bool.true_and] | simp [hv1],HF.o,HF2.o,HB.o⟩
 | false =>
  go_region
  all_goals go_wp2
  all_goals refine bodyPost_ret (v:=.tuple #[.agg #[.bool b,.slice p n c],.agg #[.bool b',.slice p' n' c'],.bool false]) (by simp [results,Tryz.results114, go_sem,a1,a2,b1,b2]) rfl ⟨_,_,_,_,_,_,_,_,by first | rfl | rw [Bool.false_and] | simp [hv1],HF.o,HF2.o,HB.o⟩
end
end Go.Proofs.YtihlgifojjeoaaaGreatDoor
