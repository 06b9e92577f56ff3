import Derived.Test.YtadcmepaniiciaaGreatDoorZb
set_option maxRecDepth 1000000
set_option maxHeartbeats 40000000
open Go.Value renaming string→Z
open Go.Obj renaming cells→O
namespace Go.Proofs.YtadcmepaniiciaaGreatDoor
section
open Go.RowKit Nm
theorem QiG (x y:Int) (u v:Value) (w:World) (hx:IsN w u x) (hy:IsN w v y) (hl:(natL x.natAbs).length≤1000) (hl2:(natL y.natAbs).length≤1000) :
  Calls Tryz.prog 185 #[u,v] w fun e w'=>∃ r,e = .returned r∧IsN w' r (x-y)∧Below w.heap.size w w':=by
 have HX:=hx;have HY:=hy;obtain ⟨p,cap,rfl,hN⟩:=hx;obtain ⟨q,cap',rfl,hN'⟩:=hy;have HB0:Shut _:=⟨QcF w #[.bool (decide (x<0)),.slice p (natL x.natAbs).length cap] #[.bool (decide (y<0)),.slice q (natL y.natAbs).length cap'] #[.bool false,.slice none 0 0]⟩;obtain ⟨r1,r2,r3⟩:=QeD w #[.bool (decide (x<0)),.slice p (natL x.natAbs).length cap] #[.bool (decide (y<0)),.slice q (natL y.natAbs).length cap'] #[.bool false,.slice none 0 0];go_enter Tryz.func185, Tryz.ntmps185;go_wp2;rw [show ((w.alloc (O #[.bool (decide (x<0)),.slice p (natL x.natAbs).length cap] 130)).alloc (O #[.bool (decide (y<0)),.slice q (natL y.natAbs).length cap'] 130)).alloc (O #[.bool false,.slice none 0 0] 130)=box3 w #[.bool (decide (x<0)),.slice p (natL x.natAbs).length cap] #[.bool (decide (y<0)),.slice q (natL y.natAbs).length cap'] #[.bool false,.slice none 0 0] from rfl];generalize box3 w #[.bool (decide (x<0)),.slice p (natL x.natAbs).length cap] #[.bool (decide (y<0)),.slice q (natL y.natAbs).length cap'] #[.bool false,.slice none 0 0]=W0 at *
 have hd:Below W0.heap.size W0 W0.drew:=(Below.refl _ _).drew;have hwd:Below w.heap.size w W0.drew:=HB0.o.drew;obtain ⟨a1,a2,_,_⟩:=Qaf r1 (Below.refl _ W0);obtain ⟨b1,b2,_,_⟩:=Qaf r2 (Below.refl _ W0);obtain ⟨d1,d2,d3,d4⟩:=Qaf r3 (Below.refl _ W0);have cn:=QjG y _ W0.drew (HY.below hwd Lr);have HXS:Shut _:=⟨HX⟩;have hl3:(natL (-y).natAbs).length≤1000:=by rw [Int.natAbs_neg];exact hl2
 have HR1:Shut _:=⟨r1⟩;have HR2:Shut _:=⟨r2⟩;have HR3:Shut _:=⟨r3⟩;have n1:¬(w.heap.size=w.heap.size+1+1):=by omega
 have n2:¬(w.heap.size+1+1=w.heap.size):=by omega
 clear r1 r2 r3 hN hN' HX HY
 go_region_held3 (fun w'=>w'.cell? ⟨w.heap.size,0,none⟩=some (.bool (decide (x<0)))∧w'.cell? ⟨w.heap.size,1,none⟩=some (.slice p (natL x.natAbs).length cap)∧w'.cell? ⟨w.heap.size+1,0,none⟩=some (.bool (decide (y<0)))∧w'.cell? ⟨w.heap.size+1,1,none⟩=some (.slice q (natL y.natAbs).length cap')) (go_keep) (first | (go_at_call 221; refine cn.mono ?_;rintro e w1 ⟨v1,rfl,hv1,hB1⟩;have hB1':=hd.trans hB1;obtain ⟨e1,e2,_,_⟩:=Qaf HR1.o hB1';obtain ⟨f1,f2,_,_⟩:=Qaf HR2.o hB1';obtain ⟨g1,g2,g3,g4⟩:=Qaf HR3.o hB1';have hw1:=HB0.o.trans (hB1'.mono HB0.o.size)) | (go_at_call 168; refine (Qgc x (-y) _ _ _ (HXS.o.below hw1 Lr) hv1 hl hl3).mono ?_;rintro e w2 ⟨r9,rfl,hr9,hB2⟩;obtain ⟨p9,c9,rfl,hn9⟩:=hr9;have hB2':=hB1'.trans (hB2.mono hB1'.size);obtain ⟨h1,h2,_,_⟩:=Qaf HR1.o hB2';obtain ⟨i1,i2,_,_⟩:=Qaf HR2.o hB2';obtain ⟨j1,j2,j3,j4⟩:=Qaf HR3.o hB2'))
 all_goals go_wp2
 all_goals (have hF:=((HB0.o.trans (hB2'.mono HB0.o.size)).setCell (p:=⟨w.heap.size+1+1,0,none⟩) (by show w.heap.size≤w.heap.size+1+1;omega) (.bool (decide (x + -y<0)))).setCell (p:=⟨w.heap.size+1+1,1,none⟩) (by show w.heap.size≤w.heap.size+1+1;omega) (.slice p9 (natL (x + -y).natAbs).length c9))
 all_goals (have hv2:=hn9.setNum2 (RowAt.below HR3.o hB2' (RowAt.lt HR3.o)) (fun _ _=>by simp) (fun _ _=>by simp) (decide (x + -y<0)) (.slice p9 (natL (x + -y).natAbs).length c9))
 all_goals refine bodyPost_ret (v:=.agg #[.bool (decide (x + -y<0)),.slice p9 (natL (x + -y).natAbs).length c9]) (by simp [results,Tryz.results185, go_sem,j1,j2]) rfl ⟨_,rfl,⟨p9,c9,by rw [Int.sub_eq_add_neg],by rw [Int.sub_eq_add_neg];exact hv2⟩,hF⟩
theorem QcU (a b:ByteArray):(a.toList == b.toList)=decide (a=b):=by
 rw [Bool.eq_iff_iff,beq_iff_eq,decide_eq_true_iff,ByteArray.toList_eq,ByteArray.toList_eq];constructor
 ·intro h;cases a;cases b;congr;exact Array.toList_inj.1 h
 ·rintro rfl;rfl
def hd0 (s:ByteArray):Nat:=(bl s).getD 0 0
def cutB (s:ByteArray):Bool×ByteArray:=if hd0 s=45 then (true,s.extract 1 s.size) else (false,s)
theorem Qnq {s:ByteArray} (h:s.size=0):hd0 s=0:=by
 have:bl s = []:=List.eq_nil_of_length_eq_zero (by rw [QcA];exact h);rw [hd0,this];rfl
theorem Qgd (s:ByteArray) (hs:s.size≤1000000) (w:World) :
  Calls Tryz.prog 187 #[Z s] w fun e w'=>e = .returned (.tuple #[.bool (cutB s).1,Z (cutB s).2])∧∃ m,w'=w.drewN m:=by
 go_enter Tryz.func187, Tryz.ntmps187;by_cases h0:s.size=0
 ·have HC:Shut (cutB s=(false,s)):=⟨by rw [cutB,Qnq h0];rfl⟩;go_wp2
  go_ret2
  exact ⟨by rw [HC.o];rfl,0,rfl⟩
 ·have hp:0<s.size:=by omega
  have hg:=QeC s 0 hp;by_cases h45:hd0 s=45
  ·have HC:Shut (cutB s=(true,s.extract 1 s.size)):=⟨by rw [cutB,if_pos h45]⟩;have hb:s[0].toNat=45:=by rw [←hg];exact h45
   have hi1:(1:Int)≤(s.size:Int):=by omega
   clear h45 hg;go_wp2
   go_quiet (fail)
   go_wp2
   go_ret2
   exact ⟨by rw [HC.o];rfl,_,rfl⟩
  ·have HC:Shut (cutB s=(false,s)):=⟨by rw [cutB,if_neg h45]⟩;have hb:s[0].toNat≠45:=by rw [←hg];exact h45
   have hb2:((s[0].toNat:Nat):Int)≠45:=by omega
   clear h45 hg;go_wp2
   go_ret2
   exact ⟨by rw [HC.o];rfl,0,rfl⟩
def okC (y:Nat):Bool:=decide (48≤y) && decide (y<58)
def Qap (s:ByteArray):Bool:=if (cutB s).2.size=0∨200<(cutB s).2.size then false else if hd0 (cutB s).2=48 then decide (s=ba [48]) else (bl (cutB s).2).all okC
theorem Qnr (s:ByteArray):(cutB s).2.size≤s.size:=by
 rw [cutB];split
 ·rw [ByteArray.size_extract];omega
 ·exact Nat.le_refl _
theorem Qdf (s:ByteArray) (hs:s.size≤1000000) (w:World) :
  Calls Tryz.prog 149 #[Z s] w fun e w'=>e = .returned (.bool (Qap s))∧∃ m,w'=w.drewN m:=by
 have cc:=Qgd s hs w;have hcs:=Qnr s;have HV:Shut (Qap s=if (cutB s).2.size=0∨200<(cutB s).2.size then false else if hd0 (cutB s).2=48 then decide (s=ba [48]) else (bl (cutB s).2).all okC):=⟨rfl⟩;generalize (cutB s).1=neg at *
 generalize (cutB s).2=d at *
 obtain ⟨vr,hvr⟩:∃ vr,vr=Qap s:=⟨_,rfl⟩;have HVR:Shut _:=⟨hvr⟩;rw [←hvr] at HV ⊢;clear hvr;go_enter Tryz.func149, Tryz.ntmps149;go_upto_region 2 with (go_at_call 187; refine cc.mono ?_;rintro e w1 ⟨rfl,m0,rfl⟩)
 by_cases h0:d.size=0
 ·have HC:Shut (vr=false):=⟨by rw [HV.o,if_pos (.inl h0)]⟩;clear HV;go_wp2;go_ret;exact ⟨by rw [HC.o];rfl,m0,rfl⟩
 ·by_cases h200:200<d.size
  ·have HC:Shut (vr=false):=⟨by rw [HV.o,if_pos (.inr h200)]⟩;have hz:((d.size:Int) == 0)=false:=by rw [beq_eq_false_iff_ne];omega
   have hd2:decide ((200:Int)<(d.size:Int))=true:=decide_eq_true (by omega);clear HV;go_wp2;go_ret;exact ⟨by rw [HC.o];rfl,m0,rfl⟩
  ·have hp:0<d.size:=by omega
   have hz:((d.size:Int) == 0)=false:=by rw [beq_eq_false_iff_ne];omega
   have hd2:decide ((200:Int)<(d.size:Int))=false:=decide_eq_false (by omega);have hg:=QeC d 0 hp;by_cases h48:hd0 d=48
   ·have HC:Shut (vr=decide (s=ba [48])):=⟨by rw [HV.o,if_neg (by omega),if_pos h48]⟩;have hb:d[0].toNat=48:=by rw [←hg];exact h48
    have hse:(s.toList == [48])=decide (s=ba [48]):=by rw [←QcU,show (ba [48]).toList = [48] by rw [ByteArray.toList_eq];rfl]
    have HSE:Shut _:=⟨hse⟩;clear hse;clear hg h48 HV;go_wp2;go_ret;exact ⟨by rw [HC.o,←HSE.o];rfl,m0,rfl⟩
   ·have HC:Shut (vr=(bl d).all okC):=⟨by rw [HV.o,if_neg (by omega),if_neg h48]⟩;have hb:d[0].toNat≠48:=by rw [←hg];exact h48
    have hb2:(((d[0].toNat:Nat):Int) == 48)=false:=by rw [beq_eq_false_iff_ne];omega
    clear hg h48 HV;go_wp2
    go_loopw [26] (fun iv wr=>∃ k:Nat,k≤d.size∧iv = .int .i64 k∧(∃ m,wr=w.drewN m)∧Shut (∀ j,j<k→okC ((bl d).getD j 0)=true)) (fun iv _=>d.size-(intOf iv).toNat)
    case atStart=>exact ⟨0,by omega,rfl,⟨m0,rfl⟩,⟨fun j hj=>by omega⟩⟩
    case round =>
     obtain ⟨k,hk,rfl,⟨m,hw⟩,hall⟩:=hrel;have HW:Shut _:=⟨hw⟩;clear hw;by_cases hlt:k<d.size
     ·have hgk:=QeC d k hlt;by_cases hok:okC ((bl d).getD k 0)=true
      ·have hall2:Shut (∀ j,j<k+1→okC ((bl d).getD j 0)=true):=⟨fun j hj=>by
        by_cases e:j=k
        ·rw [e];exact hok
        ·exact hall.o j (by omega)⟩
       rw [hgk,okC,Bool.and_eq_true,decide_eq_true_eq,decide_eq_true_eq] at hok;obtain ⟨h1,h2⟩:=hok;clear hgk hall;go_wp2;exact ⟨⟨k+1,by omega,by go_num,⟨m,HW.o⟩,hall2⟩,by simp [intOf];omega⟩
      ·have HF:Shut (vr=false):=⟨by
        rw [HC.o,List.all_eq_false];refine ⟨(bl d).getD k 0, ?_,hok⟩;have hkl:k<(bl d).length:=by rw [QcA];exact hlt
        rw [List.getD_eq_getElem?_getD,List.getElem?_eq_getElem hkl];exact List.getElem_mem hkl⟩
       rw [hgk,okC,Bool.and_eq_true,decide_eq_true_eq,decide_eq_true_eq] at hok;clear hgk hall;by_cases h1:d[k].toNat<48
       ·go_wp2;go_ret;exact ⟨by rw [HF.o];rfl,m,HW.o⟩
       ·have h2:57<d[k].toNat:=by omega
        go_wp2;go_ret;exact ⟨by rw [HF.o];rfl,m,HW.o⟩
     ·obtain rfl:k=d.size:=by omega
      have HT:Shut (vr=true):=⟨by
       rw [HC.o,List.all_eq_true];intro y hy;obtain ⟨j,hj,rfl⟩:=List.getElem_of_mem hy;have:=hall.o j (by rw [←QcA];exact hj)
       rwa [List.getD_eq_getElem?_getD,List.getElem?_eq_getElem hj] at this⟩
      clear hall;go_wp2;go_ret;exact ⟨by rw [HT.o];rfl,m,HW.o⟩
/-! ### what is valid is the text of an integer -/
theorem Qns (y:Nat):okC y=true↔48≤y∧y<58:=by rw [okC,Bool.and_eq_true,decide_eq_true_eq,decide_eq_true_eq]
theorem Qhh (z:Int):bl (txt z)=if z=0 then [48] else if z<0 then 45 :: decN z.natAbs else decN z.natAbs:=by
 rw [txt];split
 ·rfl
 ·split
  ·rw [QeB];intro y hy;rcases List.mem_cons.1 hy with rfl | hy
   ·decide
   ·have:=QaQ _ y hy;omega
  ·rw [QeB];intro y hy;have:=QaQ _ y hy;omega
theorem Qnt (n:Nat) (h:n≠0):decN n ≠ []:=fun e=>h (QeA.1 e)
theorem Qnu (n:Nat) (h:n≠0):49≤(decN n).getD 0 0∧(decN n).getD 0 0<58:=by
 have h1:=QcN n h;cases hd:decN n with
 | nil=>exact absurd hd (Qnt n h)
 | cons a r =>
  rw [hd] at h1;have h2:=QaQ n a (by rw [hd];simp);simp at h1 ⊢;omega
theorem Qge (z:Int):cutB (txt z)=(decide (z<0),ba (if z=0 then [48] else decN z.natAbs)):=by
 have hb:=Qhh z;rw [cutB,hd0,hb];by_cases h0:z=0
 ·rw [if_pos h0,if_pos h0,if_neg (by decide),decide_eq_false (by omega),txt,if_pos h0]
 ·rw [if_neg h0,if_neg h0];by_cases hn:z<0
  ·rw [if_pos hn,if_pos (by rfl),decide_eq_true hn];congr 1;apply Qkx;rw [Qde,hb,if_neg h0,if_pos hn,←QcA,hb,if_neg h0,if_pos hn,List.take_length,QeB _ (fun y hy=>by have:=QaQ _ y hy;omega)];rfl
  ·have:=Qnu z.natAbs (by omega);rw [if_neg hn,if_neg (by omega),decide_eq_false hn,txt,if_neg h0,if_neg hn]
def Fits (z:Int):Prop:=(decN z.natAbs).length≤200
instance fits_dec (z:Int):Decidable (Fits z):=by unfold Fits;infer_instance
theorem Qbx {z:Int} (h:Fits z):(natL z.natAbs).length≤50:=by
 refine Qat ?_;have h1:=QjF z.natAbs;have h2:10^(decN z.natAbs).length≤10^200:=Nat.pow_le_pow_right (by decide) h;rw [show (10000:Nat)^50=10^200 by rw [show (10000:Nat)=10^4 from rfl,←Nat.pow_mul]];omega
theorem Qax (z:Int) (h:Fits z):Qap (txt z)=true:=by
 rw [Qap,Qge];by_cases h0:z=0
 ·subst h0;rfl
 ·have hne:=Qnt z.natAbs (by omega);have hl:(decN z.natAbs).length≠0:=fun e=>hne (List.eq_nil_of_length_eq_zero e);have hhd:=Qnu z.natAbs (by omega);have hb:bl (ba (decN z.natAbs))=decN z.natAbs:=QeB _ (fun y hy=>by have:=QaQ _ y hy;omega);unfold Fits at h;simp only [if_neg h0];rw [if_neg (by rw [Qeo];omega),hd0,hb,if_neg (by omega),List.all_eq_true];intro y hy;exact (Qns y).2 (QaQ _ y hy)
theorem QdY {s:ByteArray} (h:Qap s=true):∃ z:Int,s=txt z∧Fits z:=by
 rw [Qap] at h;split at h
 ·cases h
 ·rename_i hsz;split at h
  ·rename_i h48;rw [decide_eq_true_eq] at h;exact ⟨0,h,by unfold Fits;rw [show (0:Int).natAbs=0 from rfl,Qbe];simp⟩
  ·rename_i h48;have hd:∀ y∈bl (cutB s).2,48≤y∧y<58:=fun y hy=>(Qns y).1 (List.all_eq_true.1 h y hy);have hne:(bl (cutB s).2).length≠0:=by rw [QcA];omega
   have hz:bl (cutB s).2 = []∨(bl (cutB s).2).getD 0 0≠48:=.inr h48;have he:=QrS _ hd hz
   have hv0:dvl (bl (cutB s).2)≠0:=by
    intro e;rw [e,Qbe] at he;rw [he] at hne;simp at hne
   by_cases hs:hd0 s=45
   ·have hc:(cutB s).2=s.extract 1 s.size:=by rw [cutB,if_pos hs]
    have hbs:bl s=45 :: bl (cutB s).2:=by
     rw [hc,Qde,←QcA,List.take_length];cases hb:bl s with
     | nil=>rw [hd0,hb] at hs;simp at hs
     | cons a r=>rw [hd0,hb] at hs;simp at hs;rw [hs];rfl
    refine ⟨-(dvl (bl (cutB s).2):Int), ?_, ?_⟩
    ·apply Qkx;rw [Qhh,if_neg (by omega),if_pos (by omega),Int.natAbs_neg,Int.natAbs_natCast,←he,hbs]
    ·unfold Fits;rw [Int.natAbs_neg,Int.natAbs_natCast,←he,QcA];omega
   ·have hc:(cutB s).2=s:=by rw [cutB,if_neg hs]
    rw [hc] at he hv0 hsz;refine ⟨(dvl (bl s):Int), ?_, ?_⟩
    ·apply Qkx;rw [Qhh,if_neg (by omega),if_neg (by omega),Int.natAbs_natCast,←he]
    ·unfold Fits;rw [Int.natAbs_natCast,←he,QcA];omega
theorem QeE (z:Int):Qap (txt z)=decide (Fits z):=by
 by_cases h:Fits z
 ·rw [Qax z h,decide_eq_true h]
 ·rw [decide_eq_false h];rw [Qap,Qge];by_cases h0:z=0
  ·subst h0;exact absurd (by unfold Fits;rw [show (0:Int).natAbs=0 from rfl,Qbe];simp) h
  ·simp only [if_neg h0];unfold Fits at h;rw [if_pos (.inr (by rw [Qeo];omega))]
theorem Qcv {x y:Int} (h:txt x=txt y):x=y:=by
 have h1:cutB (txt x)=cutB (txt y):=by rw [h]
 rw [Qge,Qge] at h1;injection h1 with h2 h3;rw [decide_eq_decide] at h2
 have hlt:∀ z:Int,∀ y∈(if z=0 then [48] else decN z.natAbs),y<256:=by
  intro z y hy;split at hy
  ·simp at hy;omega
  ·have:=QaQ _ y hy;omega
 have h4:=QtW (hlt x) (hlt y) h3
 have h5:∀ z:Int,dvl (if z=0 then [48] else decN z.natAbs)=z.natAbs:=by
  intro z;split
  ·rename_i h0;subst h0;rfl
  ·exact QdX _
 have h6:=h5 x;rw [h4,h5 y] at h6;omega
theorem Qbm {z:Int} (h:Fits z):(txt z).size≤201:=by
 unfold Fits at h;rw [←QcA,Qhh];split
 ·simp
 ·split
  ·simp;omega
  ·omega
theorem QhP (z:Int) (h:Fits z) (w:World) :
  Calls Tryz.prog 152 #[Z (txt z)] w fun e w'=>∃ u,e = .returned (.tuple #[u,.bool true])∧IsN w' u z∧Below w.heap.size w w':=by
 have hsz:=Qbm h;have hB0:Below w.heap.size w (w.alloc (O #[.bool false,.slice none 0 0] 130)):=(Below.refl _ w).alloc Lr _;have HR:Shut _:=⟨RowAt.new w #[.bool false,.slice none 0 0] 130⟩;have HB0:Shut _:=⟨hB0⟩;have cv:=fun W=>Qdf (txt z) (by omega) W;rw [Qax z h] at cv;have cc:=fun W=>Qgd (txt z) (by omega) W;rw [Qge] at cc
 have hdl:∀ y∈bl (ba (if z=0 then [48] else decN z.natAbs)),48≤y∧y<58:=by
  intro y hy;rw [QeB _ (fun y hy=>by split at hy;(simp at hy;omega);(have:=QaQ _ y hy;omega))] at hy;split at hy
  ·simp at hy;omega
  ·exact QaQ _ y hy
 have hdv:dvl (bl (ba (if z=0 then [48] else decN z.natAbs)))=z.natAbs:=by
  rw [QeB _ (fun y hy=>by split at hy;(simp at hy;omega);(have:=QaQ _ y hy;omega))];split
  ·rename_i h0;subst h0;rfl
  ·exact QdX _
 have hds:(ba (if z=0 then [48] else decN z.natAbs)).size≤1000:=by
  unfold Fits at h;rw [Qeo];split
  ·simp
  ·omega
 have co:=fun W=>QiD (ba (if z=0 then [48] else decN z.natAbs)) hds hdl W;rw [hdv] at co;generalize ba (if z=0 then [48] else decN z.natAbs)=ds at *
 generalize txt z=s at *
 clear hdl hdv hds hB0;go_enter Tryz.func152, Tryz.ntmps152;go_wp2_with (first | (go_at_call 149; refine (cv _).mono ?_;rintro e w1 ⟨rfl,m1,rfl⟩) | (go_at_call 187; refine (cc _).mono ?_;rintro e w2 ⟨rfl,m2,rfl⟩) | (go_at_call 192; refine (co _).mono ?_;rintro e w3 ⟨v3,rfl,hv3,hB3⟩;obtain ⟨p3,c3,rfl,hv3'⟩:=hv3.out;have hB3':=(Qag (Below.refl _ (w.alloc (O #[.bool false,.slice none 0 0] 130))) (m1+m2)).trans hB3;obtain ⟨k1,k2,k3,k4⟩:=Qaf HR.o hB3'));have hw3:=HB0.o.trans (hB3'.mono HB0.o.size);have hF:=(hw3.setCell (p:=⟨w.heap.size,0,none⟩) Lr (.bool (decide (z<0)))).setCell (p:=⟨w.heap.size,1,none⟩) Lr (.slice p3 (natL z.natAbs).length c3);have hv2:=hv3.setNum2 (RowAt.below HR.o hB3' (RowAt.lt HR.o)) (fun _ _=>by simp) (fun _ _=>by simp) (decide (z<0)) (.slice p3 (natL z.natAbs).length c3);refine bodyPost_ret (v:=.tuple #[.agg #[.bool (decide (z<0)),.slice p3 (natL z.natAbs).length c3],.bool true]) (by simp [results,Tryz.results152, go_sem,k1,k2]) rfl ⟨_,rfl,⟨p3,c3,rfl,hv2⟩,hF⟩
theorem Qnv (s:ByteArray) (hs:s.size≤1000000) (h:Qap s=false) (w:World) :
  Calls Tryz.prog 152 #[Z s] w fun e w'=>e = .returned (.tuple #[.agg #[.bool false,.slice none 0 0],.bool false])∧Below w.heap.size w w':=by
 have hB0:Below w.heap.size w (w.alloc (O #[.bool false,.slice none 0 0] 130)):=(Below.refl _ w).alloc Lr _;have HR:Shut _:=⟨RowAt.new w #[.bool false,.slice none 0 0] 130⟩;have HB0:Shut _:=⟨hB0⟩;have cv:=fun W=>Qdf s hs W;rw [h] at cv;go_enter Tryz.func152, Tryz.ntmps152;clear hB0;go_wp2_with (first | (go_at_call 149; refine (cv _).mono ?_;rintro e w1 ⟨rfl,m1,rfl⟩;obtain ⟨k1,k2,k3,k4⟩:=Qaf HR.o (Qag (Below.refl _ _) m1)));have hF:=((Qag HB0.o m1).setCell (p:=⟨w.heap.size,0,none⟩) Lr (.bool false)).setCell (p:=⟨w.heap.size,1,none⟩) Lr (.slice none 0 0);refine bodyPost_ret (v:=.tuple #[.agg #[.bool false,.slice none 0 0],.bool false]) (by simp [results,Tryz.results152, go_sem,k1,k2]) rfl ⟨rfl,hF⟩
theorem QiH (s:ByteArray) (hs:s.size≤1000000) (w:World) :
  Calls Tryz.prog 152 #[Z s] w fun e w'=>∃ b p n c,e = .returned (.tuple #[.agg #[.bool b,.slice p n c],.bool (Qap s)])∧(∀ z,s=txt z→Fits z→IsN w' (.agg #[.bool b,.slice p n c]) z)∧Below w.heap.size w w':=by
 by_cases h:Qap s=true
 ·obtain ⟨z,rfl,hz⟩:=QdY h;refine (QhP z hz w).mono ?_;rintro e w' ⟨u,rfl,hu,hB⟩;obtain ⟨p,c,rfl,hn⟩:=hu;refine ⟨_,_,_,_,by rw [h],fun z' hz' _ => ?_,hB⟩;rw [←Qcv hz'];exact ⟨p,c,rfl,hn⟩
 ·have hf:Qap s=false:=by simpa using h
  refine (Qnv s hs hf w).mono ?_;rintro e w' ⟨rfl,hB⟩;refine ⟨_,_,_,_,by rw [hf],fun z' hz' hft => ?_,hB⟩;rw [hz',Qax z' hft] at hf;cases hf
theorem NA.set4 {W:World} {v:Value} {l:List Nat} {a:Nat} (h:NA W v l) (h1:RowAt W a #[.bool false,.slice none 0 0] 130) (h2:RowAt W (a+1) #[.bool false,.slice none 0 0] 130) (B B':Bool) (p p':Option Addr) (n n' c c':Nat) :
  NA ((((W.setCell ⟨a,0,none⟩ (.bool B)).setCell ⟨a,1,none⟩ (.slice p n c)).setCell ⟨a+1,0,none⟩ (.bool B')).setCell ⟨a+1,1,none⟩ (.slice p' n' c')) v l:=by
 have e:a+1≠a:=by omega
 have h3:=h.setNum2 h1 (fun _ _=>by simp) (fun _ _=>by simp) B (.slice p n c);have h4:=(RowAt.set_other h2 ⟨a,0,none⟩ e (.bool B)).set_other ⟨a,1,none⟩ e (.slice p n c);exact h3.setNum2 h4 (fun _ _=>by simp) (fun _ _=>by simp) B' (.slice p' n' c')
theorem QaW (s t:ByteArray) (hs:s.size≤1000000) (ht:t.size≤1000000) (w:World) :
  Calls Tryz.prog 114 #[Z s,Z t] w fun e w'=>∃ b p n c b' p' n' c',e = .returned (.tuple #[.agg #[.bool b,.slice p n c],.agg #[.bool b',.slice p' n' c'],.bool (Qap s && Qap t)])∧(∀ z,s=txt z→Fits z→IsN w' (.agg #[.bool b,.slice p n c]) z)∧(∀ z,t=txt z→Fits z→IsN w' (.agg #[.bool b',.slice p' n' c']) z)∧Below w.heap.size w w':=by
 have c1:=fun W=>QiH s hs W;have c2:=fun W=>QiH t ht W;go_enter Tryz.func114, Tryz.ntmps114;go_upto_region 2 with (go_at_call 152; refine (c1 _).mono ?_;rintro e w1 ⟨b,p,n,c,rfl,hz1,hB1⟩)
 have hz0:((w.alloc (O #[.bool false,.slice none 0 0] 130)).alloc (O #[.bool false,.slice none 0 0] 130)).heap.size=w.heap.size+2:=by rw [World.size_alloc,World.size_alloc]
 have hB0:Below w.heap.size w ((w.alloc (O #[.bool false,.slice none 0 0] 130)).alloc (O #[.bool false,.slice none 0 0] 130)):=((Below.refl _ w).alloc Lr _).alloc (by rw [World.size_alloc];omega) _;have r4:=(RowAt.new w #[.bool false,.slice none 0 0] 130).alloc (O #[.bool false,.slice none 0 0] 130);have r5:=box2 w (O #[.bool false,.slice none 0 0] 130) (.bool false) (.slice none 0 0);generalize (w.alloc (O #[.bool false,.slice none 0 0] 130)).alloc (O #[.bool false,.slice none 0 0] 130)=W0 at *
 have hs1:=hB1.size;have hB2:Below w1.heap.size w1 (w1.alloc (O #[.bool b,.slice p n c] 130)):=(Below.refl _ _).alloc Lr _;have r7:=RowAt.new w1 #[.bool b,.slice p n c] 130;have hz2:(w1.alloc (O #[.bool b,.slice p n c] 130)).heap.size=w1.heap.size+1:=World.size_alloc _ _;generalize w1.alloc (O #[.bool b,.slice p n c] 130)=W2 at *
 go_upto_region 3 with (go_at_call 152; refine (c2 _).mono ?_;rintro e w3 ⟨b',p',n',c',rfl,hz3,hB3⟩)
 have hs3:=hB3.size;have hB4:Below w3.heap.size w3 (w3.alloc (O #[.bool b',.slice p' n' c'] 130)):=(Below.refl _ _).alloc Lr _;have r9:=RowAt.new w3 #[.bool b',.slice p' n' c'] 130;have hz4:(w3.alloc (O #[.bool b',.slice p' n' c'] 130)).heap.size=w3.heap.size+1:=World.size_alloc _ _;generalize w3.alloc (O #[.bool b',.slice p' n' c'] 130)=W4 at *
 have hB24:Below W2.heap.size W2 W4:=hB3.trans (hB4.mono hB3.size);have hB14:Below w1.heap.size w1 W4:=hB2.trans (hB24.mono hB2.size);have hB04:Below W0.heap.size W0 W4:=hB1.trans (hB14.mono hB1.size);have hBw4:Below w.heap.size w W4:=hB0.trans (hB04.mono hB0.size);have hN1:∀ z,s=txt z→Fits z→IsN W4 (.agg #[.bool b,.slice p n c]) z:=fun z h1 h2=>(hz1 z h1 h2).below hB14 Lr;have hN2:∀ z,t=txt z→Fits z→IsN W4 (.agg #[.bool b',.slice p' n' c']) z:=fun z h1 h2=>(hz3 z h1 h2).below hB4 Lr;have R4:=RowAt.below r4 hB04 (RowAt.lt r4);have R5:=RowAt.below r5 hB04 (RowAt.lt r5);have R7:=RowAt.below r7 hB24 (RowAt.lt r7)
 have HF:Shut (∀ z,s=txt z→Fits z→IsN ((((W4.drew.setCell ⟨w.heap.size,0,none⟩ (.bool b)).setCell ⟨w.heap.size,1,none⟩ (.slice p n c)).setCell ⟨w.heap.size+1,0,none⟩ (.bool b')).setCell ⟨w.heap.size+1,1,none⟩ (.slice p' n' c')) (.agg #[.bool b,.slice p n c]) z):=⟨fun z h1 h2=>by
  obtain ⟨pp,cc,e,hna⟩:=hN1 z h1 h2;exact ⟨pp,cc,e,NA.set4 (W:=W4.drew) hna R4 R5 _ _ _ _ _ _ _ _⟩⟩
 have HF2:Shut (∀ z,t=txt z→Fits z→IsN ((((W4.drew.setCell ⟨w.heap.size,0,none⟩ (.bool b)).setCell ⟨w.heap.size,1,none⟩ (.slice p n c)).setCell ⟨w.heap.size+1,0,none⟩ (.bool b')).setCell ⟨w.heap.size+1,1,none⟩ (.slice p' n' c')) (.agg #[.bool b',.slice p' n' c']) z):=⟨fun z h1 h2=>by
  obtain ⟨pp,cc,e,hna⟩:=hN2 z h1 h2;exact ⟨pp,cc,e,NA.set4 (W:=W4.drew) hna R4 R5 _ _ _ _ _ _ _ _⟩⟩
 have HB:Shut _:=⟨(((hBw4.drew.setCell (p:=⟨w.heap.size,0,none⟩) Lr (.bool b)).setCell (p:=⟨w.heap.size,1,none⟩) Lr (.slice p n c)).setCell (p:=⟨w.heap.size+1,0,none⟩) (Nat.le_succ _) (.bool b')).setCell (p:=⟨w.heap.size+1,1,none⟩) (Nat.le_succ _) (.slice p' n' c')⟩;obtain ⟨a1,a2,a3,a4⟩:=Qaf R4 (Below.refl _ _);obtain ⟨b1,b2,b3,b4⟩:=Qaf R5 (Below.refl _ _);obtain ⟨d1,d2,d3,d4⟩:=Qaf R7 (Below.refl _ _);obtain ⟨e1,e2,e3,e4⟩:=Qaf r9 (Below.refl _ _);obtain ⟨b7,hb7⟩:∃ b7,b7=w1.heap.size:=⟨_,rfl⟩;obtain ⟨b9,hb9⟩:∃ b9,b9=w3.heap.size:=⟨_,rfl⟩;rw [←hb7] at d1 d2 d3 d4 ⊢;rw [←hb9] at e1 e2 e3 e4 ⊢;have q1:¬ b7=w.heap.size:=by omega
 have q2:¬ b7=w.heap.size+1:=by omega
 have q3:¬ b9=w.heap.size:=by omega
 have q4:¬ b9=w.heap.size+1:=by omega
 have q5:¬ b7=b9:=by omega
 have q6:¬ b9=b7:=by omega
 have q7:¬ w.heap.size=b7:=by omega
 have q8:¬ w.heap.size=b9:=by omega
 have q9:¬ w.heap.size+1=b7:=by omega
 have q10:¬ w.heap.size+1=b9:=by omega
 clear hb7 hb9 r4 r5 r7 r9 R4 R5 R7 hN1 hN2 hz1 hz3 hB0 hB1 hB2 hB3 hB4 hB24 hB14 hB04 hBw4 hz0 hz2 hz4 hs1 hs3 c1 c2;cases hv1:Qap s with
 | true =>
  go_region
  all_goals go_wp2
  all_goals refine bodyPost_ret (v:=.tuple #[.agg #[.bool b,.slice p n c],.agg #[.bool b',.slice p' n' c'],.bool (Qap t)]) (by simp [results,Tryz.results114, go_sem,a1,a2,b1,b2]) rfl ⟨_,_,_,_,_,_,_,_,by first | rfl | rw [Bool.true_and] | simp [hv1],HF.o,HF2.o,HB.o⟩
 | false =>
  go_region
  all_goals go_wp2
  all_goals refine bodyPost_ret (v:=.tuple #[.agg #[.bool b,.slice p n c],.agg #[.bool b',.slice p' n' c'],.bool false]) (by simp [results,Tryz.results114, go_sem,a1,a2,b1,b2]) rfl ⟨_,_,_,_,_,_,_,_,by first | rfl | rw [Bool.false_and] | simp [hv1],HF.o,HF2.o,HB.o⟩
theorem Qnw (a b:Nat):(decide (cmpN a b≤0))=decide (a≤b):=by
 rw [decide_eq_decide];unfold cmpN;(repeat' split) <;> omega
theorem NA.one (w:World) (f:Nat):NA (w.alloc (O #[.int .u32 (f:Int)] 171)) (.slice (some ⟨w.heap.size,0,none⟩) 1 1) [f]:=by
 refine ⟨_,1,rfl,Nat.le_refl _,by unfold maxLen;omega,.inr ⟨w.heap.size,0,rfl,by rw [World.size_alloc];omega,fun i hi => ?_⟩⟩;have hi0:i=0:=by simp at hi;omega
 subst hi0;exact RowAt.cell (RowAt.new w #[.int .u32 (f:Int)] 171) 0
theorem Qnx (x:Int):IntKind.u32.wrap x=x % 4294967296:=by simp [IntKind.wrap,IntKind.signed,IntKind.bits]
theorem NA.trim {W:World} {p:Option Addr} {c:Nat} {l:List Nat} (h:NA W (.slice p l.length c) l) (hd:Dig l):NA W (.slice p (natL (nv l)).length c) (natL (nv l)):=by
 obtain ⟨p',c',e,h1,h2,⟨rfl,rfl,rfl⟩ | ⟨g,o,rfl,hg,hu⟩⟩:=h
 ·injection e with e1 e2 e3;subst e1;subst e3;rw [nv,Qau];exact ⟨none,0,rfl,Nat.le_refl _,by omega,.inl ⟨rfl,rfl,rfl⟩⟩
 ·injection e with e1 e2 e3;subst e1;subst e3;exact QhM hd hu hg h1 h2
theorem QtX (l:List Nat) (p:Option Addr) (c:Nat) (W:World) (h:NA W (.slice p l.length c) l) (hd:Dig l) (hl:l.length≤1000000) :
  Calls Tryz.prog 191 #[.slice p l.length c] W fun e w'=>e = .returned (.slice p (natL (nv l)).length c)∧w'=W:=by
 obtain ⟨p',c',g,o,e,h1,h2,h3,hu⟩:=h.open;injection e with e1 e2 e3;subst e1;subst e3;exact QcK l p c g o W (fun h=>(h3 h).1) hu hd hl h1 h2
theorem QpB (d f:Nat) (hf:f≤10000) (pd:Option Addr) (cd:Nat) (la:List Nat) (hla:Dig la) (pa:Option Addr) (ca b1 b2:Nat) (w:World)
  (h1:w.cell? ⟨b1,0,none⟩=some (.func (Fn.func 151) #[.slice pd (natL d).length cd] #[])) (h2:w.cell? ⟨b2,0,none⟩=some (.slice pa la.length ca)) (hd:NA w (.slice pd (natL d).length cd) (natL d))
  (hA:NA w (.slice pa la.length ca) la) (hl1:(natL d).length≤900) (hl2:la.length≤1000) :
  Calls Tryz.prog 237 #[.int .u64 f,.pointer (some ⟨b1,0,none⟩),.pointer (some ⟨b2,0,none⟩)] w fun e w'=>e = .returned (.bool (decide (d*f≤nv la)))∧Below w.heap.size w w':=by
 have hroom:d*nv [f]<10000^((natL d).length + [f].length):=by
  have:=QaI d;rw [List.length_singleton,Nat.pow_succ,nv,nv];have hp:d*(f+10000*0)≤d*10000:=Nat.mul_le_mul_left d (by omega);omega
 have hb1:b1<w.heap.size:=World.block_lt_of_cell? w _ h1;have hb2:b2<w.heap.size:=World.block_lt_of_cell? w _ h2;have hB0:Below w.heap.size w (w.alloc (O #[.int .u32 (f:Int)] 171)).drew:=((Below.refl _ w).alloc Lr _).drew;have ct:=QiC d [f] (fun z hz=>by simp at hz;omega) (.slice pd (natL d).length cd) (.slice (some ⟨w.heap.size,0,none⟩) 1 1) _ (hd.below hB0 Lr) (NA.one w f) (by omega) (by simp) hroom;have e1:nv [f]=f:=by rw [nv,nv];omega
 rw [e1] at ct;have ctr:∀ W,Below w.heap.size w W→Calls Tryz.prog 191 #[.slice pa la.length ca] W fun e w'=>e = .returned (.slice pa (natL (nv la)).length ca)∧w'=W:=fun W hW=>QtX la pa ca W (hA.below hW Lr) hla (by omega);have hna:=hA.trim hla;have hlt:(natL (nv la)).length≤1000:=Nat.le_trans (QdT hla) hl2
 have hlm:(natL (d*f)).length≤1000:=by
  have:=Qat (n:=d*f) (k:=(natL d).length+1) (by rw [e1] at hroom;exact hroom);omega
 have cc:∀ (W:World) (v:Value),Below w.heap.size w W→NA W v (natL (d*f))→Calls Tryz.prog 153 #[v,.slice pa (natL (nv la)).length ca] W fun e w'=>e = .returned (.int .i64 (cmpN (d*f) (nv la)))∧∃ m,w'=W.drewN m:=fun W v hW hv=>by
  obtain ⟨p,cap,rfl,hv2⟩:=hv.out;exact QrY (d*f) (nv la) p pa cap ca W hv2 (hna.below hW Lr) hlm hlt
 have HC:=Qnw (d*f) (nv la);have HCS:Shut _:=⟨HC⟩;have hwf:IntKind.u32.wrap (f:Int)=(f:Int):=by rw [Qnx];omega
 clear hroom hA hd hna hlt hlm HC hla e1;generalize cmpN (d*f) (nv la)=cv at *
 generalize (natL (nv la)).length=tl at *
 go_enter Tryz.func237, Tryz.ntmps237;go_wp2
 go_region_held3 (fun w'=>w'.cell? ⟨b1,0,none⟩=some (.func (Fn.func 151) #[.slice pd (natL d).length cd] #[])∧w'.cell? ⟨b2,0,none⟩=some (.slice pa la.length ca)) (go_keep) (first | (go_at_call 151; refine ct.mono ?_;rintro e w1 ⟨v1,rfl,hv1,hB1⟩;have hB1':=hB0.trans (hB1.mono hB0.size);have k1:=(hB1'.cell (p:=⟨b1,0,none⟩) hb1).trans h1;have k2:=(hB1'.cell (p:=⟨b2,0,none⟩) hb2).trans h2) | (go_at_call 191; refine (ctr _ hB1').mono ?_;rintro e w2 ⟨rfl,rfl⟩) | (go_at_call 153; refine (cc _ _ hB1' hv1).mono ?_;rintro e w3 ⟨rfl,m3,rfl⟩))
 all_goals go_wp2
 all_goals go_ret
 all_goals exact ⟨by rw [←HCS.o];rfl,Qag hB1' m3⟩
theorem QlP (low high q:Nat) (b1 b2:Nat) (hlq:low≤q) (hqh:q≤high) (hh:high<18446744073709551616) (w:World)
  (cF:∀ (W:World) (f:Nat),Below w.heap.size w W→f≤high→Calls Tryz.prog 237 #[.int .u64 f,.pointer (some ⟨b1,0,none⟩),.pointer (some ⟨b2,0,none⟩)] W fun e w'=>e = .returned (.bool (decide (f≤q)))∧Below W.heap.size W w') :
  Calls Tryz.prog 236 #[.int .u64 low,.int .u64 high,.func (Fn.func 237) #[] #[.pointer (some ⟨b1,0,none⟩),.pointer (some ⟨b2,0,none⟩)]] w fun e w'=>e = .returned (.int .u64 q)∧Below w.heap.size w w':=by
 have HC:Shut _:=⟨cF⟩;clear cF;go_enter Tryz.func236, Tryz.ntmps236;go_wp2
 go_loopw [0,1] (fun lv hv wr=>∃ a b:Nat,a≤q∧q≤b∧b≤high∧lv = .int .u64 a∧hv = .int .u64 b∧Below w.heap.size w wr) (fun lv hv _=>(intOf hv).toNat-(intOf lv).toNat)
 case atStart=>exact ⟨low,high,hlq,hqh,Nat.le_refl _,rfl,rfl,Below.refl _ _⟩
 case round =>
  obtain ⟨a,b,ha,hb,hbh,rfl,rfl,hB⟩:=hrel;by_cases hlt:a<b
  ·obtain ⟨m,hm⟩:∃ m,m=b-(b-a) / 2:=⟨_,rfl⟩;have hmi:((b:Int)-((b:Int)-(a:Int)) / 2)=(m:Int):=by omega
   have hm1:a<m:=by omega
   have hm2:m≤b:=by omega
   have c1:=HC.o wr m hB (by omega);clear hm;by_cases hf:m≤q
   ·rw [decide_eq_true hf] at c1;go_wp2_with (go_at_call 237; refine c1.mono ?_;rintro e w1 ⟨rfl,hB1⟩);exact ⟨⟨m,b,hf,hb,hbh,rfl,rfl,hB.trans (hB1.mono hB.size)⟩,by simp [intOf];omega⟩
   ·rw [decide_eq_false hf] at c1;go_wp2_with (go_at_call 237; refine c1.mono ?_;rintro e w1 ⟨rfl,hB1⟩);exact ⟨⟨a,m-1,ha,by omega,by omega,rfl,by congr 1;omega,hB.trans (hB1.mono hB.size)⟩,by simp [intOf];omega⟩
  ·obtain rfl:a=q:=by omega
   go_wp2;go_ret;exact ⟨rfl,hB⟩
theorem Qeq (l:List Nat) (hd:Dig l) (k:Nat) (hk:k≤l.length):nv (l.drop k)=nv l / 10000^k:=by
 have h1:=QaH l k hk;have h2:=QdC (hd.take k);rw [List.length_take,Nat.min_eq_left hk] at h2;rw [h1,Nat.add_mul_div_left _ _ (Nat.pow_pos (by decide)),Nat.div_eq_of_lt h2,Nat.zero_add]
theorem QpC (A d P:Nat) (hP:0<P) (hb:0<d / P):A / d≤(A / P) / (d / P):=by
 rw [Nat.le_div_iff_mul_le hb,Nat.le_div_iff_mul_le hP,Nat.mul_assoc];have h1:d / P*P≤d:=Nat.div_mul_le_self d P
 calc A / d*(d / P*P)≤A / d*d:=Nat.mul_le_mul_left _ h1
  _≤A:=Nat.div_mul_le_self A d
theorem QrZ (A d P:Nat) (hP:0<P) (hd:0<d):(A / P) / (d / P+1)≤A / d:=by
 rw [Nat.le_div_iff_mul_le hd]
 have h1:d≤(d / P+1)*P:=by
  have:=Nat.div_add_mod d P;have:=Nat.mod_lt d hP;rw [Nat.add_mul,Nat.one_mul,Nat.mul_comm (d / P) P];omega
 calc A / P / (d / P+1)*d≤A / P / (d / P+1)*((d / P+1)*P):=Nat.mul_le_mul_left _ h1
  _=(A / P / (d / P+1)*(d / P+1))*P:=by rw [Nat.mul_assoc]
  _≤A / P*P:=Nat.mul_le_mul_right _ (Nat.div_mul_le_self _ _)
  _≤A:=Nat.div_mul_le_self A P
theorem Qsa (A d P:Nat) (hP:0<P) (hb:0<d / P) (h:A<10000*d) (hbig:10000≤d / P∨P=1):(A / P) / (d / P)≤10000:=by
 rw [←Nat.lt_succ_iff,Nat.div_lt_iff_lt_mul hb,Nat.div_lt_iff_lt_mul hP]
 have h1:d<(d / P+1)*P:=by
  have:=Nat.div_add_mod d P;have:=Nat.mod_lt d hP;rw [Nat.add_mul,Nat.one_mul,Nat.mul_comm (d / P) P];omega
 rcases hbig with hb1 | rfl
 ·have h2:10000*(d / P+1)≤(10000+1)*(d / P):=by omega
  calc A<10000*d:=h
   _≤10000*((d / P+1)*P):=Nat.mul_le_mul_left _ (by omega)
   _=10000*(d / P+1)*P:=by rw [Nat.mul_assoc]
   _≤(10000+1)*(d / P)*P:=Nat.mul_le_mul_right _ h2
 ·rw [Nat.div_one,Nat.mul_one];omega
theorem NA.from {W:World} {p:Option Addr} {c:Nat} {l:List Nat} (h:NA W (.slice p l.length c) l) (hl:1≤l.length):∃ g o,p=some ⟨g,o,none⟩∧g<W.heap.size∧UA W g o l∧l.length≤c∧c≤maxLen:=by
 obtain ⟨p',c',e,h1,h2,⟨rfl,rfl,rfl⟩ | ⟨g,o,rfl,hg,hu⟩⟩:=h
 ·simp at hl
 ·injection e with e1 e2 e3;subst e1;subst e3;exact ⟨g,o,rfl,hg,hu,h1,h2⟩
theorem QlQ (W:World) (F:Value) (hF:F.oneCell'=true):∃ Wg,Sem.run Tryz.prog (store ⟨W.heap.size,0,none⟩ F) (W.alloc (O #[.nilFunc] 165)) = .ok () Wg∧Below W.heap.size W Wg∧Wg.cell? ⟨W.heap.size,0,none⟩=some F:=by
 have hr:=RowAt.new W #[.nilFunc] 165;have hc:(W.alloc (O #[.nilFunc] 165)).cell? ⟨W.heap.size,0,none⟩=some .nilFunc:=by rw [RowAt.cell hr 0];rfl
 have hf:=RowAt.frozen hr 0;have h2:=RowAt.set_same hr 0 F;refine ⟨(W.alloc (O #[.nilFunc] 165)).setCell ⟨W.heap.size,0,none⟩ F, ?_,((Below.refl _ W).alloc Lr _).setCell (p:=⟨W.heap.size,0,none⟩) Lr F,by rw [RowAt.cell h2 0];rfl⟩;rw [run_store Tryz.prog _ _ _ _ hF,hc];simp [hf]
set_option maxRecDepth 100000 in
theorem QlR (d:Nat) (hd0:d≠0) (la:List Nat) (hla:Dig la) (pa pd:Option Addr) (ca cd:Nat) (w:World) (hA:NA w (.slice pa la.length ca) la) (hD:NA w (.slice pd (natL d).length cd) (natL d))
  (hl1:(natL d).length≤la.length) (hl2:la.length≤(natL d).length+1) (hl3:(natL d).length≤900) (hq:nv la<10000*d) :
  Calls Tryz.prog 226 #[.slice pa la.length ca,.slice pd (natL d).length cd] w fun e w'=>e = .returned (.int .u32 (nv la / d:Nat))∧Below w.heap.size w w':=by
 have hld:1≤(natL d).length:=by
  rcases Nat.eq_zero_or_pos (natL d).length with h | h
  ·exact absurd (QaF.1 h) hd0
  ·exact h
 have hAS:=hA;have hDS:=hD;obtain ⟨ga,oa,rfl,hga,hua,hca,hcam⟩:=hA.from (by omega);obtain ⟨gd,od,rfl,hgd,hud,hcd,hcdm⟩:=hD.from hld;obtain ⟨cut,hcut⟩:∃ cut,cut=(natL d).length-3:=⟨_,rfl⟩;have hP:0<10000^cut:=Nat.pow_pos (by decide);have ha1:=Qeq la hla cut (by omega);have hd1:=Qeq (natL d) (Qao d) cut (by omega);rw [Qan] at hd1;have hlow:=QrZ (nv la) d (10000^cut) hP (by omega);have hge:=QdD d hd0
 have hbelow:0<d / 10000^cut:=by
  refine Nat.div_pos ?_ hP;exact Nat.le_trans (Nat.pow_le_pow_right (by decide) (by omega)) hge
 have hhigh:=QpC (nv la) d (10000^cut) hP hbelow
 have hbig:10000≤d / 10000^cut∨10000^cut=1:=by
  rcases Nat.eq_zero_or_pos cut with h0 | h0
  ·right;rw [h0]
  ·left;rw [Nat.le_div_iff_mul_le hP,←Nat.pow_succ'];exact Nat.le_trans (Nat.pow_le_pow_right (by decide) (by omega)) hge
 have htop:=Qsa (nv la) d (10000^cut) hP hbelow hq hbig
 have hab:nv (la.drop cut)<18446744073709551616:=by
  have:=QdC (hla.drop cut);have h4:10000^(la.drop cut).length≤10000^4:=Nat.pow_le_pow_right (by decide) (by rw [List.length_drop];omega);omega
 have hbb:nv ((natL d).drop cut)<1000000000000:=by
  have:=QdC ((Qao d).drop cut);have h4:10000^((natL d).drop cut).length≤10000^3:=Nat.pow_le_pow_right (by decide) (by rw [List.length_drop];omega);omega
 have cw1:=fun W (hW:Below w.heap.size w W)=>Qex (la.drop cut) (some ⟨ga,oa+cut,none⟩) (ca-cut) ga (oa+cut) W (fun _=>rfl) ((hua.drop cut).below hW hga) (hla.drop cut) (by rw [List.length_drop];omega) hab;have cw2:=fun W (hW:Below w.heap.size w W)=>Qex ((natL d).drop cut) (some ⟨gd,od+cut,none⟩) (cd-cut) gd (od+cut) W (fun _=>rfl) ((hud.drop cut).below hW hgd) ((Qao d).drop cut) (by rw [List.length_drop];omega) (by omega);rw [List.length_drop,ha1] at cw1;rw [List.length_drop,hd1] at cw2;rw [ha1] at hab;rw [hd1] at hbb;have hq2:nv la / d<10000:=by rw [Nat.div_lt_iff_lt_mul (by omega)];exact hq
 have hcz:cut=0→nv la / 10000^cut / (d / 10000^cut)=nv la / d:=fun h=>by rw [h];simp
 generalize nv la / 10000^cut=above at *
 generalize d / 10000^cut=below at *
 obtain ⟨q,hqe⟩:∃ q,q=nv la / d:=⟨_,rfl⟩;rw [←hqe] at hlow hhigh hq2 hcz ⊢;have HFD:Shut (∀ f,decide (d*f≤nv la)=decide (f≤q)):=⟨fun f=>by rw [decide_eq_decide,hqe,Nat.le_div_iff_mul_le (by omega),Nat.mul_comm]⟩;have hqe0:cut=0→above / below=q:=hcz;have c1:(0:Int)≤(cut:Int):=by omega
 have c2:(cut:Int)≤(la.length:Int):=by omega
 have c3:(la.length:Int)≤(ca:Int):=by omega
 have c4:(cut:Int)≤((natL d).length:Int):=by omega
 have c5:((natL d).length:Int)≤(cd:Int):=by omega
 have c6:¬ ca=cut:=by omega
 have c7:¬ cd=cut:=by omega
 have hmax:max (((natL d).length:Int)-3) 0=(cut:Int):=by omega
 have hmax2:(if ((natL d).length:Int)-3<0 then (0:Int) else ((natL d).length:Int)-3)=(cut:Int):=by split <;> omega
 have hB0:Below w.heap.size w (w.alloc (O #[.slice (some ⟨ga,oa,none⟩) la.length ca] 128)):=(Below.refl _ w).alloc Lr _
 have hbox:(w.alloc (O #[.slice (some ⟨ga,oa,none⟩) la.length ca] 128)).cell? ⟨w.heap.size,0,none⟩=some (.slice (some ⟨ga,oa,none⟩) la.length ca):=by
  rw [(RowAt.new w #[.slice (some ⟨ga,oa,none⟩) la.length ca] 128).cell 0];rfl
 have hz0:(w.alloc (O #[.slice (some ⟨ga,oa,none⟩) la.length ca] 128)).heap.size=w.heap.size+1:=World.size_alloc _ _;have HAS:Shut _:=⟨And.intro hAS hDS⟩;have HLA:Shut _:=⟨hla⟩
 have HGF:Shut (∀ (Wg:World) (lo hi:Nat),Below w.heap.size w Wg→Wg.cell? ⟨w.heap.size+1,0,none⟩=some (.func (Fn.func 151) #[.slice (some ⟨gd,od,none⟩) (natL d).length cd] #[])→Wg.cell? ⟨w.heap.size,0,none⟩=some (.slice (some ⟨ga,oa,none⟩) la.length ca)→lo≤q→q≤hi→hi≤10000→Calls Tryz.prog 236 #[.int .u64 lo,.int .u64 hi,.func (Fn.func 237) #[] #[.pointer (some ⟨w.heap.size+1,0,none⟩),.pointer (some ⟨w.heap.size,0,none⟩)]] Wg fun e w'=>e = .returned (.int .u64 q)∧Below Wg.heap.size Wg w'):=⟨fun Wg lo hi hW k1 k2 h1 h2 h3=>by
  refine QlP lo hi q (w.heap.size+1) w.heap.size h1 h2 (by omega) Wg (fun W f hf hle => ?_);have hB:=hW.trans (hf.mono hW.size);have:=QpB d f (by omega) (some ⟨gd,od,none⟩) cd la hla (some ⟨ga,oa,none⟩) ca (w.heap.size+1) w.heap.size W ((hf.cell (p:=⟨w.heap.size+1,0,none⟩) (World.block_lt_of_cell? Wg _ k1)).trans k1) ((hf.cell (p:=⟨w.heap.size,0,none⟩) (World.block_lt_of_cell? Wg _ k2)).trans k2) (hDS.below hB Lr) (hAS.below hB Lr) hl3 (by omega);rw [HFD.o f] at this;exact this⟩
 obtain ⟨lo,hlo⟩:∃ lo,lo=above / (below+1):=⟨_,rfl⟩;obtain ⟨hi,hhi⟩:∃ hi,hi=above / below:=⟨_,rfl⟩;rw [←hlo] at hlow;rw [←hhi] at hhigh htop hqe0;have hloi:((above:Int) / ((below:Int)+1))=(lo:Int):=by rw [hlo];rfl
 have hhii:((above:Int) / (below:Int))=(hi:Int):=by rw [hhi];rfl
 have hb0:((below:Int) == 0)=false:=by rw [beq_eq_false_iff_ne];omega
 have hb1:((below:Int)+1 == 0)=false:=by rw [beq_eq_false_iff_ne];omega
 have hb2:(below:Int)≠0:=by omega
 have hb3:(below:Int)+1≠0:=by omega
 have HCZ2:Shut _:=⟨hqe0⟩;clear hlo hhi;clear hcz hqe0 hqe ha1 hd1 hA hD hAS hDS hua hud hP hge hbig hcut hq hla;go_enter Tryz.func226, Tryz.ntmps226;go_upto_region 2 with fail
 generalize w.alloc (O #[.slice (some ⟨ga,oa,none⟩) la.length ca] 128)=W0 at *
 have d1:=cw1 W0.drew hB0.drew;have d2:=cw2 W0.drew hB0.drew
 go_region_held3 (fun w'=>w'.cell? ⟨w.heap.size,0,none⟩=some (.slice (some ⟨ga,oa,none⟩) la.length ca)) (go_keep) (first | (go_at_call_of 223 (Value.slice (some ⟨ga,oa+cut,none⟩) (la.length-cut) (ca-cut));refine d1.mono ?_;rintro e w1 ⟨rfl,rfl⟩) | (go_at_call_of 223 (Value.slice (some ⟨gd,od+cut,none⟩) ((natL d).length-cut) (cd-cut));refine d2.mono ?_;rintro e w2 ⟨rfl,rfl⟩))
 clear d1 d2 cw1 cw2;have hB1:=hB0.drew;have hbox1:W0.drew.cell? ⟨w.heap.size,0,none⟩=some (.slice (some ⟨ga,oa,none⟩) la.length ca):=hbox;have hz1:W0.drew.heap.size=w.heap.size+1:=hz0;generalize W0.drew=W1 at *
 go_upto_region 3 with fail
 go_quiet (fail)
 generalize hW2:W1.drewN nq=W2 at *
 have hB2:Below w.heap.size w W2:=by rw [←hW2];exact Qag hB1 nq
 have hbox2:W2.cell? ⟨w.heap.size,0,none⟩=some (.slice (some ⟨ga,oa,none⟩) la.length ca):=by rw [←hW2];exact hbox1
 have hz2:W2.heap.size=w.heap.size+1:=by rw [←hW2];exact hz1
 obtain ⟨Wg,hst,hBn,k1⟩:=QlQ W2 (.func (Fn.func 151) #[.slice (some ⟨gd,od,none⟩) (natL d).length cd] #[]) rfl;have hBg:=hB2.trans (hBn.mono hB2.size);rw [hz2] at k1;have k2:=(hBn.cell (p:=⟨w.heap.size,0,none⟩) (by rw [hz2];exact Nat.lt_succ_self _)).trans hbox2;have hwq:IntKind.u32.wrap (q:Int)=(q:Int):=by rw [Qnx];omega
 have HZ2:Shut _:=⟨hz2⟩;clear hW2 hB1 hbox1 hz1 hbox hB0 hz0 hBn hz2;by_cases hc0:cut=0
 ·have hcz:((cut:Int) == 0)=true:=by rw [beq_iff_eq];omega
  have HQH:Shut _:=⟨HCZ2.o hc0⟩;clear hc0;go_upto_region 7 with fail
  have cG:=HGF.o Wg hi hi hBg k1 k2 (Nat.le_of_eq HQH.o) (by omega) (by omega);rw [←HZ2.o] at cG;go_wp2_with (go_at_call 236; refine cG.mono ?_;rintro e w9 ⟨rfl,hB9⟩);go_ret;exact ⟨rfl,hBg.trans (hB9.mono hBg.size)⟩
 ·have hcz:((cut:Int) == 0)=false:=by rw [beq_eq_false_iff_ne];omega
  clear hc0;go_upto_region 7 with fail
  have cG:=HGF.o Wg lo hi hBg k1 k2 hlow hhigh htop;rw [←HZ2.o] at cG;go_wp2_with (go_at_call 236; refine cG.mono ?_;rintro e w9 ⟨rfl,hB9⟩);go_ret;exact ⟨rfl,hBg.trans (hB9.mono hBg.size)⟩
structure OB (g:Nat) (w w':World):Prop where
 os:w'.os=w.os
 tape:w'.tape=w.tape
 output:w'.output=w.output
 size:w.heap.size≤w'.heap.size
 block:∀ k,k<w.heap.size→k≠g→w'.heap[k]? = w.heap[k]?
theorem OB.trans {g:Nat} {a b c:World} (h:OB g a b) (k:OB g b c):OB g a c :=
 ⟨k.os.trans h.os,k.tape.trans h.tape,k.output.trans h.output,Nat.le_trans h.size k.size,fun i hi hg=>(k.block i (Nat.lt_of_lt_of_le hi h.size) hg).trans (h.block i hi hg)⟩
theorem OB.ofBelow {g:Nat} {w w':World} (h:Below w.heap.size w w'):OB g w w':=⟨h.os,h.tape,h.output,h.size,fun k hk _=>h.block k hk⟩
theorem OB.ofOnly {g:Nat} {w w':World} (h:Only g w w'):OB g w w':=⟨h.os,h.tape,h.output,Nat.le_of_eq h.size.symm,fun k _ hg=>h.block k hg⟩
theorem OB.below {g B:Nat} {w w':World} (h:OB g w w') (h1:B≤g) (h2:B≤w.heap.size):Below B w w':=⟨h.os,h.tape,h.output,h.size,fun k hk=>h.block k (by omega) (by omega)⟩
theorem UR.ob {w w':World} {b g:Nat} {l:List Nat} (h:UR w b l) (k:OB g w w') (hb:b≠g):UR w' b l:=by
 obtain ⟨X,h⟩:=h;exact ⟨X,(k.block b (RowAt.lt h) hb).trans h⟩
theorem QfF (n m y:Nat) (hm:m≤n) (hy:y<10000^m):padL n y=padL m y++padL (n-m) 0:=by
 have:=QbR m (n-m) y 0 hy
 rwa [Nat.mul_zero,Nat.add_zero,show m+(n-m)=n by omega] at this
theorem Qsb (n k m V:Nat) (hkm:k+m≤n) (hV:V / 10000^k<10000^m):((padL n V).drop k).take m=padL m (V / 10000^k):=by
 have hl:(padL k (V % 10000^k)).length=k:=Qaq _ _;rw [Qdq n k V (by omega),List.drop_append_of_le_length (by omega),List.drop_eq_nil_iff.2 (by omega),List.nil_append,QfF (n-k) m _ (by omega) hV,List.take_append_of_le_length (by rw [Qaq];exact Nat.le_refl _),List.take_of_length_le (by rw [Qaq];exact Nat.le_refl _)]
theorem Qsc (n k m V x:Nat) (hkm:k+m≤n) (hV:V / 10000^k<10000^m) (hx:x<10000^m):rowR (padL n V) k m x=padL n (V % 10000^k+10000^k*x):=by
 have hP:V % 10000^k<10000^k:=Nat.mod_lt _ (Nat.pow_pos (by decide));have hl:(padL k (V % 10000^k)).length=k:=Qaq _ _;have h1:(padL n V).take k=padL k (V % 10000^k):=by rw [Qdq n k V (by omega),List.take_append_of_le_length (by omega),List.take_of_length_le (by omega)]
 have h2:(padL n V).drop (k+m)=padL (n-k-m) 0:=by
  have hl2:(padL k (V % 10000^k)++padL m (V / 10000^k)).length=k+m:=by rw [List.length_append,Qaq,Qaq]
  rw [Qdq n k V (by omega),QfF (n-k) m _ (by omega) hV,←List.append_assoc,List.drop_append_of_le_length (by omega),List.drop_eq_nil_iff.2 (by omega),List.nil_append]
 have h3:=QbR k (n-k) (V % 10000^k) x hP;rw [show k+(n-k)=n by omega] at h3;rw [rowR,h1,h2,h3,QfF (n-k) m x (by omega) hx,List.append_assoc]
theorem QjH (V P x:Nat) (hx:x≤V / P):V % P+P*(V / P-x)=V-P*x:=by
 have h1:=Nat.mod_add_div V P;have h2:P*(V / P-x)=P*(V / P)-P*x:=by rw [Nat.mul_sub]
 have h3:P*x≤P*(V / P):=Nat.mul_le_mul_left P hx;omega
set_option maxRecDepth 100000 in
theorem Qfc (d:Nat) (hd0:d≠0) (pd:Option Addr) (cd g n c k V:Nat) (w:World) (hD:NA w (.slice pd (natL d).length cd) (natL d)) (hDg:∀ gd od,pd=some ⟨gd,od,none⟩→gd≠g)
  (hr:UR w g (padL n V)) (hV:V<10000^n) (hVk:V<10000^(k+1)*d) (hk:k+(natL d).length≤n) (hn:n≤2000) (hl3:(natL d).length≤900) (hc:n≤c) (hcm:c≤maxLen) :
  Calls Tryz.prog 196 #[.slice (some ⟨g,0,none⟩) n c,.slice pd (natL d).length cd,.int .i64 k] w fun e w'=>e = .returned (.int .u32 (V / 10000^k / d:Nat))∧OB g w w'∧UR w' g (padL n (V-10000^k*(d*(V / 10000^k / d)))):=by
 have hld:1≤(natL d).length:=by
  rcases Nat.eq_zero_or_pos (natL d).length with h | h
  ·exact absurd (QaF.1 h) hd0
  ·exact h
 obtain ⟨m,hm⟩:∃ m,m=min (k+(natL d).length+1) n-k:=⟨_,rfl⟩;have hP:0<10000^k:=Nat.pow_pos (by decide);have hm1:k+m≤n:=by omega
 have hm2:(natL d).length≤m:=by omega
 have hm3:m≤(natL d).length+1:=by omega
 have hq:V / 10000^k<10000*d:=by
  rw [Nat.div_lt_iff_lt_mul hP];rw [Nat.pow_succ] at hVk
  calc V<10000^k*10000*d:=hVk
   _=10000*d*10000^k:=by rw [Nat.mul_assoc,Nat.mul_comm]
 have hVm:V / 10000^k<10000^m:=by
  rcases Nat.lt_or_ge m ((natL d).length+1) with h1 | h1
  ·have:m=n-k:=by omega
   rw [this,Nat.div_lt_iff_lt_mul hP,←Nat.pow_add,show n-k+k=n by omega];exact hV
  ·have:m=(natL d).length+1:=by omega
   rw [this,Nat.pow_succ];have:=QaI d;omega
 have hw:=Qsb n k m V hm1 hVm;have hwl:(((padL n V).drop k).take m).length=m:=by rw [hw,Qaq]
 have hnv:nv (((padL n V).drop k).take m)=V / 10000^k:=by rw [hw,QbZ m _ hVm]
 have hdig:Dig (((padL n V).drop k).take m):=by rw [hw];exact Qbl _ _
 have hDS:=hD;obtain ⟨gd,od,rfl,hgd,hud,hcd,hcdm⟩:=hD.from hld;have hgg:=hDg gd od rfl;have hua:=hr.uaSeg k m;have hna:NA w (.slice (some ⟨g,k,none⟩) (((padL n V).drop k).take m).length (c-k)) (((padL n V).drop k).take m):=⟨_,c-k,rfl,by rw [hwl];omega,by omega,.inr ⟨g,k,rfl,hr.lt,hua⟩⟩;have cF:=QlR d hd0 (((padL n V).drop k).take m) hdig (some ⟨g,k,none⟩) (some ⟨gd,od,none⟩) (c-k) cd w hna hDS (by rw [hwl];exact hm2) (by rw [hwl];exact hm3) hl3 (by rw [hnv];exact hq);rw [hnv,hwl] at cF;have hq2:V / 10000^k / d<10000:=by rw [Nat.div_lt_iff_lt_mul (by omega)];exact hq
 have hdq:d*(V / 10000^k / d)≤V / 10000^k:=Nat.mul_div_le _ _
 have cT:∀ W,Below w.heap.size w W→Calls Tryz.prog 197 #[.slice (some ⟨g,k,none⟩) m (c-k),.slice (some ⟨gd,od,none⟩) (natL d).length cd,.int .u32 (V / 10000^k / d:Nat)] W fun e w'=>e = .returned (.tuple #[])∧Only g W w'∧UR w' g (padL n (V-10000^k*(d*(V / 10000^k / d)))):=fun W hW=>by
  have:=Qkw g k m (c-k) (padL n V) (some ⟨gd,od,none⟩) gd od cd (natL d) (V / 10000^k / d) W (hr.below hW hr.lt) (by rw [Qaq];exact hm1) (fun _=>hgg) (hud.below hW hgd) (fun _=>rfl) (by omega) (by omega) (Qbl _ _) (Qao _) hq2 (by rw [hnv,Qan];exact hdq);rw [hnv,Qan,Qsc n k m V _ hm1 hVm (by omega),QjH V (10000^k) _ hdq] at this;exact this
 have HT:Shut _:=⟨cT⟩;have HR:Shut _:=⟨And.intro hr.lt hgg⟩;have i1:(0:Int)≤(k:Int):=by omega
 obtain ⟨e,he⟩:∃ e,e=k+m:=⟨_,rfl⟩;have i2:(k:Int)≤(e:Int):=by omega
 have i3:(e:Int)≤(n:Int):=by omega
 have i4:(n:Int)≤(c:Int):=by omega
 have i5:¬ c=k:=by omega
 have i6:(e:Int)≤(c:Int):=by omega
 have hem:e-k=m:=by omega
 have hmin:min ((k:Int)+((natL d).length:Int)+1) (n:Int)=(e:Int):=by omega
 have hmin2:(if (n:Int)<(k:Int)+((natL d).length:Int)+1 then (n:Int) else (k:Int)+((natL d).length:Int)+1)=(e:Int):=by split <;> omega
 clear he;generalize V-10000^k*(d*(V / 10000^k / d))=V2 at *
 generalize V / 10000^k / d=q at *
 clear hm hw hwl hnv hdig hDS hud hua hna hVm hq hdq cT hP hV hVk hr hD hDg;go_enter Tryz.func196, Tryz.ntmps196;go_wp2_with (first | (go_at_call 226; refine cF.mono ?_;rintro e9 w1 ⟨rfl,hB1⟩) | (go_at_call 197; refine (HT.o w1 hB1).mono ?_;rintro e9 w2 ⟨rfl,hO2,hu2⟩));go_ret;exact ⟨rfl,(OB.ofBelow hB1).trans (OB.ofOnly hO2),hu2⟩
theorem Qsd (n k T q:Nat) (hk:k<n) (hq:q<10000):(padL n (10000^(k+1)*T)).set k q=padL n (10000^k*(10000*T+q)):=by
 obtain ⟨r,rfl⟩:∃ r,n=k+(r+1):=⟨n-k-1,by omega⟩;have hp:0<10000^k:=Nat.pow_pos (by decide);have h1:=QbR k (r+1) 0 (10000*T) hp;have h2:=QbR k (r+1) 0 (10000*T+q) hp;rw [Nat.zero_add] at h1 h2;rw [show 10000^(k+1)*T=10000^k*(10000*T) by rw [Nat.pow_succ,Nat.mul_assoc],h1,h2];rw [padL,padL,show 10000*T % 10000=0 by omega,show 10000*T / 10000=T by omega,show (10000*T+q) % 10000=q by omega,show (10000*T+q) / 10000=T by omega];have hl:(padL k 0).length=k:=Qaq _ _;rw [List.set_append_right _ _ (by omega),hl,Nat.sub_self,List.set_cons_zero]
theorem QpD (x d k T V q:Nat) (hd:0<d) (hV:x=10000^(k+1)*(d*T)+V) (hq:q=V / 10000^k / d):10000^k*(d*q)≤V∧x=10000^k*(d*(10000*T+q))+(V-10000^k*(d*q))∧V-10000^k*(d*q)<10000^k*d:=by
 rw [Nat.div_div_eq_div_mul] at hq;have h1:=Nat.div_add_mod V (10000^k*d);have h2:=Nat.mod_lt V (show 0<10000^k*d from Nat.mul_pos (Nat.pow_pos (by decide)) hd);rw [←hq] at h1;have h3:10000^k*(d*q)=10000^k*d*q:=by rw [Nat.mul_assoc]
 refine ⟨by omega, ?_,by omega⟩;rw [Nat.pow_succ] at hV;have h4:10000^k*(d*(10000*T+q))=10000^k*10000*(d*T)+10000^k*(d*q):=by grind
 rw [h4,hV,h3];omega
theorem UR.setOther {w:World} {b g:Nat} {l:List Nat} (h:UR w b l) (hb:b≠g) (i:Nat) (v:Value):UR (w.setCell ⟨g,i,none⟩ v) b l:=by
 obtain ⟨X,h⟩:=h;exact ⟨X,RowAt.set_other h ⟨g,i,none⟩ hb v⟩
set_option maxRecDepth 100000 in
theorem Qgf (x d:Nat) (hd0:d≠0) (va vd:Value) (w:World) (hA:NA w va (natL x)) (hD:NA w vd (natL d)) (hl1:(natL x).length≤900) (hl3:(natL d).length≤900) :
  Calls Tryz.prog 154 #[va,vd] w fun e w'=>∃ v1 v2,e = .returned (.tuple #[v1,v2])∧NA w' v1 (natL (x / d))∧NA w' v2 (natL (x % d))∧Below w.heap.size w w':=by
 have hld:1≤(natL d).length:=by
  rcases Nat.eq_zero_or_pos (natL d).length with h | h
  ·exact absurd (QaF.1 h) hd0
  ·exact h
 have cS:=fun W (hW:Below w.heap.size w W)=>QcL (natL x) va 0 W (hA.below hW Lr) (by omega);obtain ⟨pa,ca,rfl,hA⟩:=hA.out;obtain ⟨pd,cd,rfl,hD⟩:=hD.out;obtain ⟨gd,od,hpd,hgd,_,_,_⟩:=hD.from hld;obtain ⟨n,hn⟩:∃ n,n=(natL x).length:=⟨_,rfl⟩;obtain ⟨nq,hnq⟩:∃ nq,nq=n+1-(natL d).length:=⟨_,rfl⟩;have hx:=QaI x;rw [←hn] at hx;have hge:=QdD d hd0
 have hxq:x<10000^nq*d:=by
  rcases Nat.lt_or_ge n (natL d).length with h | h
  ·have:x<d:=by
    have h5:10000^n≤10000^((natL d).length-1):=Nat.pow_le_pow_right (by decide) (by omega);omega
   have:1*d≤10000^nq*d:=Nat.mul_le_mul_right d (Nat.pow_pos (by decide));omega
  ·have h5:10000^nq*10000^((natL d).length-1)≤10000^nq*d:=Nat.mul_le_mul_left _ hge;rw [←Nat.pow_add,show nq+((natL d).length-1)=n by omega] at h5;omega
 have hdiv:x / d<10000^nq:=by rw [Nat.div_lt_iff_lt_mul (by omega)];exact hxq
 have hmod:x % d<10000^n:=Nat.lt_of_le_of_lt (Nat.mod_le _ _) hx;have hmax:max (((natL x).length:Int)-((natL d).length:Int)+1) 0=(nq:Int):=by omega
 have hmax2:(if ((natL x).length:Int)-((natL d).length:Int)+1<0 then (0:Int) else ((natL x).length:Int)-((natL d).length:Int)+1)=(nq:Int):=by split <;> omega
 have hnq2:nq≤901:=by omega
 have HN:Shut (n=(natL x).length∧nq+(natL d).length≤max (n+1) (natL d).length):=⟨by omega⟩;have HX:Shut (x<10000^n∧x<10000^nq*d∧x / d<10000^nq∧x % d<10000^n):=⟨hx,hxq,hdiv,hmod⟩;have HD:Shut _:=⟨And.intro hD (And.intro hpd hgd)⟩;have hn9:n≤900:=by omega
 clear hx hxq hdiv hmod hge hD hA hn hnq hpd hgd;go_enter Tryz.func154, Tryz.ntmps154;go_wp2_with (first | (at_make;refine QfD rfl _ _ rfl w.heap.size nq rfl rfl (by omega) Lr ?_;intro w1 hO1 hB1;obtain ⟨hg1,hu1, -,hc1,hm1⟩:=hO1.openS;rw [List.length_replicate] at hc1) | (go_at_call 195; refine (cS w1 hB1).mono ?_;rintro e w2 ⟨u2,rfl,hO2,hne2,hB2⟩;rw [List.replicate_zero,List.nil_append] at hO2;rcases hO2.open with ⟨h9,_⟩ | ⟨c2,g2,h9,hg2,hu2,hc2,hm2⟩;exact absurd h9 hne2;rw [←HN.o.1] at h9 hc2;subst h9));have hlt1:=hu1.lt
 have HS:Shut (UR w2 w.heap.size (padL nq (10000^nq*0))∧UR w2 g2 (padL n x)∧Below w.heap.size w w2∧x=10000^nq*(d*0)+x∧x<10000^nq*d):=⟨by
  refine ⟨?_, ?_,hB1.trans (hB2.mono hB1.size),by simp,HX.o.2.1⟩
  ·rw [Nat.mul_zero,QcM];exact hu1.below hB2 hlt1
  ·have h5:=Qdb (Qao x);rw [Qan,←HN.o.1] at h5;rw [h5];exact hu2⟩
 have hgne:g2≠w.heap.size:=by omega
 have hg2w:w.heap.size≤g2:=by omega
 clear hu1 hu2 hB1 hB2 hO1 hO2 hne2 cS
 go_loopw [8] (fun pv wr=>∃ k T V:Nat,k≤nq∧pv = .int .i64 ((k:Int)-1)∧Shut (UR wr w.heap.size (padL nq (10000^k*T))∧UR wr g2 (padL n V)∧Below w.heap.size w wr∧x=10000^k*(d*T)+V∧V<10000^k*d)) (fun pv _=>(intOf pv+1).toNat)
 case atStart=>exact ⟨nq,0,x,Nat.le_refl _,rfl,HS⟩
 case round =>
  obtain ⟨k,T,V,hk,rfl,hS⟩:=hrel;by_cases hk0:k=0
  ·subst hk0
   have hT:T=x / d∧V=x % d:=by
    have h1:=hS.o.2.2.2.1;have h2:=hS.o.2.2.2.2;rw [Nat.pow_zero,Nat.one_mul] at h1 h2;refine ⟨?_, ?_⟩
    ·rw [h1,Nat.mul_add_div (by omega),Nat.div_eq_of_lt h2,Nat.add_zero]
    ·rw [h1,Nat.mul_add_mod,Nat.mod_eq_of_lt h2]
   have hua:=hS.o.1;rw [Nat.pow_zero,Nat.one_mul,hT.1] at hua;have hub:=hS.o.2.1;rw [hT.2] at hub;have c1:=Qdr wr w.heap.size nq nq (x / d) _ hua (List.take_of_length_le (by rw [Qaq];exact Nat.le_refl _)) HX.o.2.2.1 Lr hm1 (by omega);have c2':=Qdr wr g2 c2 n (x % d) _ hub (List.take_of_length_le (by rw [Qaq];exact Nat.le_refl _)) HX.o.2.2.2 hc2 hm2 (by omega);clear hua hub hT;go_wp2_with (first | (go_at_call_of 191 (Value.slice (some ⟨w.heap.size,0,none⟩) nq nq);refine c1.mono ?_;rintro e w5 ⟨⟨v5,rfl,hv5⟩,rfl⟩) | (go_at_call_of 191 (Value.slice (some ⟨g2,0,none⟩) n c2);refine c2'.mono ?_;rintro e w6 ⟨⟨v6,rfl,hv6⟩,rfl⟩))
   go_ret2
   exact ⟨_,_,rfl,hv5,hv6,hS.o.2.2.1⟩
  ·obtain ⟨k,rfl⟩:∃ k',k=k'+1:=⟨k-1,by omega⟩;have hki:(((k+1:Nat):Int)-1)=(k:Int):=by omega
   rw [hki];have hst:=QpD x d k T V (V / 10000^k / d) (by omega) hS.o.2.2.2.1 rfl;have hVx:V<10000^n:=by have:=HX.o.1;have:=hS.o.2.2.2.1;omega
   have hq:V / 10000^k / d<10000:=by
    have h2:=hS.o.2.2.2.2;rw [Nat.div_lt_iff_lt_mul (by omega),Nat.div_lt_iff_lt_mul (Nat.pow_pos (by decide))];rw [Nat.pow_succ] at h2
    calc V<10000^k*10000*d:=h2
     _=10000*d*10000^k:=by rw [Nat.mul_assoc,Nat.mul_comm]
   have cr:=Qfc d hd0 pd cd g2 n c2 k V wr (HD.o.1.below hS.o.2.2.1 Lr) (fun a b hab=>by have h1:=HD.o.2.1;rw [hab] at h1;injection h1 with h1;injection h1 with h1;have:=HD.o.2.2;omega) hS.o.2.1 hVx hS.o.2.2.2.2 (by have:=HN.o.2;omega) (by omega) hl3 hc2 hm2;have HU:Shut (∀ W,OB g2 wr W→UR W w.heap.size (padL nq (10000^(k+1)*T))):=⟨fun W hW=>hS.o.1.ob hW (Ne.symm hgne)⟩;have HQ:Shut ((padL nq (10000^(k+1)*T)).set k (V / 10000^k / d)=padL nq (10000^k*(10000*T+V / 10000^k / d))):=⟨Qsd nq k T _ (by omega) hq⟩;have HST:Shut _:=⟨hst⟩;have HB:Shut _:=⟨hS.o.2.2.1⟩;generalize V / 10000^k / d=q at *
   generalize hV2:V-10000^k*(d*q)=V2 at *
   have hkn:k<(padL nq (10000^(k+1)*T)).length:=by rw [Qaq];omega
   have HKN:Shut _:=⟨hkn⟩;clear hS hst hVx hki hV2 hkn;go_wp2_with (go_at_call 196; refine cr.mono ?_;rintro e w5 ⟨rfl,hOB,hu5⟩;have hq5:=HU.o w5 hOB;have hc5:=hq5.u32 k HKN.o;have hf5:=hq5.frozen k);have hs5:=hq5.set32 k q HKN.o;rw [HQ.o] at hs5;exact ⟨⟨k,10000*T+q,V2,by omega,rfl,⟨hs5,hu5.setOther hgne k _,(HB.o.trans (hOB.below hg2w HB.o.size)).setCell (p:=⟨w.heap.size,k,none⟩) Lr _,HST.o.2.1,HST.o.2.2⟩⟩,by simp [intOf]⟩
theorem QpE (x y:Nat) (hx:x<18446744073709551616) (hy:y<18446744073709551616) (w:World) :
  Calls Tryz.prog 222 #[.int .u64 x,.int .u64 y] w fun e w'=>e = .returned (.int .u64 (Nat.gcd x y:Nat))∧∃ m,w'=w.drewN m:=by
 go_enter Tryz.func222, Tryz.ntmps222;go_wp2
 go_loopw [0,1] (fun av bv wr=>∃ a b:Nat,av = .int .u64 a∧bv = .int .u64 b∧a<18446744073709551616∧b<18446744073709551616∧Shut (Nat.gcd a b=Nat.gcd x y)∧∃ m,wr=w.drewN m) (fun _ bv _=>(intOf bv).toNat)
 case atStart=>exact ⟨x,y,rfl,rfl,hx,hy,⟨rfl⟩,0,rfl⟩
 case round =>
  obtain ⟨a,b,rfl,rfl,ha,hb,hg,m,hw⟩:=hrel;have HW:Shut _:=⟨hw⟩;clear hw;by_cases hb0:b=0
  ·subst hb0;have HG:Shut (Nat.gcd x y=a):=⟨by rw [←hg.o,Nat.gcd_zero_right]⟩;clear hg;go_wp2;go_ret;exact ⟨by rw [HG.o];rfl,m,HW.o⟩
  ·have hlt:a % b<b:=Nat.mod_lt a (by omega);have HG:Shut (Nat.gcd b (a % b)=Nat.gcd x y):=⟨by rw [←hg.o,Nat.gcd_comm a b,Nat.gcd_rec b a,Nat.gcd_comm]⟩;have hbi:(b:Int)≠0:=by omega
   have hmi:((a:Int) % (b:Int))=((a % b:Nat):Int):=rfl;clear hg;generalize hr:a % b=r at *
   go_wp2
   go_quiet (fail)
   go_wp2;exact ⟨⟨b,r,rfl,by rw [←hr];rfl,hb,by omega,HG,_,by rw [HW.o,World.drewN_drewN]⟩,by simp [intOf];omega⟩
theorem len4 {n:Nat} (h:n<10000000000000000):(natL n).length≤4:=Qat h
def GcdC (x y:Nat):Prop:=∀ (va vb:Value) (w:World),NA w va (natL x)→NA w vb (natL y)→Calls Tryz.prog 186 #[va,vb] w fun e w'=>∃ v,e = .returned v∧NA w' v (natL (Nat.gcd x y))∧Below w.heap.size w w'
theorem NA.one_num {W:World} {v:Value} {a b:Nat} (h1:NA W v (natL a)) (h2:NA W v (natL b)):a=b:=by
 obtain ⟨p,c,g,o,e,_,_,hp,hu⟩:=h1.open;obtain ⟨p',c',g',o',e',_,_,hp',hu'⟩:=h2.open;rw [e] at e';injection e' with e1 e2 e3;subst e1
 have hl:natL a=natL b:=by
  apply List.ext_getElem e2;intro i hi hi';have k1:=hu i hi;have k2:=hu' i hi';have q:=(hp (by omega)).1;have q':=(hp' (by omega)).1;rw [q] at q';injection q' with q';injection q' with g1 g2 _;subst g1;subst g2;rw [k1] at k2;injection k2 with k2;injection k2 with _ k3;have k4:(natL a).getD i 0=(natL b).getD i 0:=by omega
  simpa [List.getD,hi,hi'] using k4
 have:=congrArg nv hl
 rwa [Qan,Qan] at this
open Classical in
noncomputable def QeF (W:World) (v:Value):Nat:=if h:∃ n,NA W v (natL n) then Classical.choose h else 0
theorem QeG {W:World} {v:Value} {n:Nat} (h:NA W v (natL n)):QeF W v=n:=by
 have hex:∃ n,NA W v (natL n):=⟨n,h⟩;rw [QeF,dif_pos hex];exact NA.one_num (Classical.choose_spec hex) h
theorem UR.pre {W:World} {g:Nat} {l m:List Nat} (h:UR W g (l++m)):UR W g l:=by
 obtain ⟨X,h⟩:=h;refine ⟨u32s m++X, ?_⟩
 have e:u32s (l++m)++X=u32s l++(u32s m++X):=by
  rw [←Array.append_assoc];congr 1;simp [u32s]
 rw [←e];exact h
theorem UR.na {W:World} {g c:Nat} {l:List Nat} (h:UR W g l) (h1:l.length≤c) (h2:c≤maxLen):NA W (.slice (some ⟨g,0,none⟩) l.length c) l :=
 ⟨_,c,rfl,h1,h2,.inr ⟨g,0,rfl,h.lt,h.ua⟩⟩
theorem Qkz (n V:Nat) (h:V<10000^n):padL n V=natL V++padL (n-(natL V).length) 0:=by
 have h1:=Qat h;have h2:=QfF n (natL V).length V h1 (QaI V);have h3:=Qdb (Qao V);rw [Qan] at h3;rw [h2,h3]
theorem Qgg (W:World) (g c n z:Nat) (hr:UR W g (padL n z)) (hz:z<10000^n) (hc:n≤c) (hcm:c≤maxLen) (hn:n≤1000000) :
  Calls Tryz.prog 191 #[.slice (some ⟨g,0,none⟩) n c] W fun e w'=>e = .returned (.slice (some ⟨g,0,none⟩) (natL z).length c)∧w'=W:=by
 have hl:=Qaq n z;have:=QcK (padL n z) (some ⟨g,0,none⟩) c g 0 W (fun _=>rfl) hr.ua (Qbl _ _) (by omega) (by omega) hcm
 rwa [hl,QbZ n z hz] at this
def GS (w wr:World) (ga gb ca cb a b G:Nat):Prop :=
 UR wr ga (natL a)∧UR wr gb (natL b)∧ga≠gb∧w.heap.size≤ga∧w.heap.size≤gb∧((natL a).length≤ca∧ca≤maxLen)∧((natL b).length≤cb∧cb≤maxLen)∧((natL a).length≤900∧(natL b).length≤900)∧Nat.gcd a b=G∧Below w.heap.size w wr
def GI (w wr:World) (ga gb nx a b k V:Nat):Prop :=
 UR wr ga (padL nx V)∧UR wr gb (natL b)∧Below w.heap.size w wr∧V % b=a % b∧V<10000^k*b∧V<10000^nx
theorem QkA (a b k V:Nat) (hb:0<b) (h:V<10000^(k+1)*b):V-10000^k*(b*(V / 10000^k / b))<10000^k*b∧(V % b=a % b→(V-10000^k*(b*(V / 10000^k / b))) % b=a % b):=by
 have _:=h;rw [Nat.div_div_eq_div_mul];have h1:=Nat.div_add_mod V (10000^k*b);have h2:=Nat.mod_lt V (show 0<10000^k*b from Nat.mul_pos (Nat.pow_pos (by decide)) hb);have h3:10000^k*(b*(V / (10000^k*b)))=10000^k*b*(V / (10000^k*b)):=by rw [Nat.mul_assoc]
 rw [h3];have e:V-10000^k*b*(V / (10000^k*b))=V % (10000^k*b):=by omega
 rw [e];refine ⟨h2,fun h => ?_⟩;rw [←h,Nat.mod_mod_of_dvd V (Nat.dvd_mul_left b (10000^k))]
set_option maxRecDepth 100000 in
theorem Qse (x y:Nat) (hla:(natL x).length≤900) (hlb:(natL y).length≤900):GcdC x y:=by
 intro va vb w hA hB;have cSa:=fun W (hW:Below w.heap.size w W)=>QcL (natL x) va 0 W (hA.below hW Lr) (by omega);have cSb:=fun W (hW:Below w.heap.size w W)=>QcL (natL y) vb 0 W (hB.below hW Lr) (by omega)
 have CW:Shut (∀ (z:Nat) (W:World) (g c:Nat),(natL z).length≤4→UR W g (natL z)→Calls Tryz.prog 223 #[.slice (some ⟨g,0,none⟩) (natL z).length c] W fun e w'=>e = .returned (.int .u64 z)∧w'=W):=⟨fun z W g c hz hu=>by
  have hz2:z<10000^4:=Nat.lt_of_lt_of_le (QaI z) (Nat.pow_le_pow_right (by decide) hz);have:=Qex (natL z) (some ⟨g,0,none⟩) c g 0 W (fun _=>rfl) hu.ua (Qao z) (by omega) (by rw [Qan];omega)
  rwa [Qan] at this⟩
 obtain ⟨pa,ca,rfl,hA'⟩:=hA.out;obtain ⟨pb,cb,rfl,hB'⟩:=hB.out;obtain ⟨G,hG⟩:∃ G,G=Nat.gcd x y:=⟨_,rfl⟩;rw [←hG];go_enter Tryz.func186, Tryz.ntmps186;clear hA hB hA' hB';go_upto_region 2 with (first | (go_at_call_of 195 (Value.slice pa (natL x).length ca);refine (cSa w (Below.refl _ _)).mono ?_;rintro e w1 ⟨u1,rfl,hO1,hn1,hB1⟩) | (go_at_call_of 195 (Value.slice pb (natL y).length cb);refine (cSb _ hB1).mono ?_;rintro e w2 ⟨u2,rfl,hO2,hn2,hB2⟩))
 rw [List.replicate_zero,List.nil_append] at hO1 hO2;rcases hO1.open with ⟨h9,_⟩ | ⟨c1,g1,rfl,hg1,hu1,hc1,hm1⟩
 ·exact absurd h9 hn1
 rcases hO2.open with ⟨h9,_⟩ | ⟨c2,g2,rfl,hg2,hu2,hc2,hm2⟩
 ·exact absurd h9 hn2
 have hl1:=hu1.lt;have hs1:=hB1.size;have HS:Shut (GS w w2 g1 g2 c1 c2 x y G):=⟨⟨hu1.below hB2 hl1,hu2,by omega,hg1,by omega,⟨hc1,hm1⟩,⟨hc2,hm2⟩,⟨hla,hlb⟩,hG.symm,hB1.trans (hB2.mono hB1.size)⟩⟩;clear hO1 hO2 hn1 hn2 hB1 hB2 hu1 hu2 hl1 hs1 hg1 hg2 hc1 hc2 hm1 hm2 cSa cSb hla hlb;clear hG
 go_loopw [5,6] (fun av bv wr=>∃ a b ga gb ca cb:Nat,av = .slice (some ⟨ga,0,none⟩) (natL a).length ca∧bv = .slice (some ⟨gb,0,none⟩) (natL b).length cb∧Shut (GS w wr ga gb ca cb a b G)) (fun _ bv wr=>QeF wr bv)
 case atStart=>exact ⟨x,y,g1,g2,c1,c2,rfl,rfl,HS⟩
 case round =>
  rename World=>wo
  clear HS;obtain ⟨a,b,ga,gb,ca',cb',rfl,rfl,hS⟩:=hrel;obtain ⟨nx,hnx⟩:∃ nx,nx=(natL a).length:=⟨_,rfl⟩;obtain ⟨ny,hny⟩:∃ ny,ny=(natL b).length:=⟨_,rfl⟩;have HNX:Shut _:=⟨hnx⟩;have HNY:Shut _:=⟨hny⟩;rw [←hnx,←hny];have hn1:nx≤900:=by have:=hS.o.2.2.2.2.2.2.2.1.1;omega
  have hn2:ny≤900:=by have:=hS.o.2.2.2.2.2.2.2.1.2;omega
  clear hnx hny;by_cases hy0:ny=0
  ·have hb0:b=0:=QaF.1 (by rw [←HNY.o];exact hy0)
   have hR:NA wo (.slice (some ⟨ga,0,none⟩) nx ca') (natL G):=by
    have h1:=hS.o.2.2.2.2.2.2.2.2.1;rw [hb0,Nat.gcd_zero_right] at h1;rw [HNX.o,←h1];exact hS.o.1.na hS.o.2.2.2.2.2.1.1 hS.o.2.2.2.2.2.1.2
   have HR:Shut _:=⟨hR⟩;have hyi:¬(0:Int)<(ny:Int):=by omega
   clear hy0 hb0 hR;go_wp2;go_ret;exact ⟨_,rfl,HR.o,hS.o.2.2.2.2.2.2.2.2.2⟩
  ·have hyi:(0:Int)<(ny:Int):=by omega
   have hb0:b≠0:=fun h=>hy0 (by rw [HNY.o,h,Qau];rfl);by_cases hsm:nx≤4∧ny≤4
   ·have d1:decide ((nx:Int)≤4)=true:=decide_eq_true (by omega);have d2:decide ((ny:Int)≤4)=true:=decide_eq_true (by omega);have c1w:=CW.o a wo ga ca' (by rw [←HNX.o];exact hsm.1) hS.o.1;have c2w:=CW.o b wo gb cb' (by rw [←HNY.o];exact hsm.2) hS.o.2.1;rw [←HNX.o] at c1w;rw [←HNY.o] at c2w;have ha16:a<10000^4:=Nat.lt_of_lt_of_le (QaI a) (Nat.pow_le_pow_right (by decide) (by rw [←HNX.o];exact hsm.1));have hb16:b<10000^4:=Nat.lt_of_lt_of_le (QaI b) (Nat.pow_le_pow_right (by decide) (by rw [←HNY.o];exact hsm.2));have cG:=fun W=>QpE a b (by omega) (by omega) W
    have hgl:Nat.gcd a b<18446744073709551616:=by
     have:=Nat.gcd_le_right a (show 0<b by omega);omega
    have cO:=fun W=>QdU (Nat.gcd a b) hgl W;rw [hS.o.2.2.2.2.2.2.2.2.1] at cO cG;have hne:=hS.o.2.2.1;have HB12:Shut _:=⟨hS.o.2.2.2.2.2.2.2.2.2⟩;clear hy0 hb0 hsm hgl ha16 hb16 hS;go_wp2_with (first | (go_at_call_of 223 (Value.slice (some ⟨ga,0,none⟩) nx ca');refine c1w.mono ?_;rintro e w5 ⟨rfl,rfl⟩) | (go_at_call_of 223 (Value.slice (some ⟨gb,0,none⟩) ny cb');refine c2w.mono ?_;rintro e w6 ⟨rfl,rfl⟩) | (go_at_call 222; refine (cG _).mono ?_;rintro e w7 ⟨rfl,m7,rfl⟩) | (go_at_call 146; refine (cO _).mono ?_;rintro e w8 ⟨v8,rfl,hO8,hB8⟩));go_ret;exact ⟨_,rfl,hO8.na,(Qag HB12.o m7).trans (hB8.mono (Qag HB12.o m7).size)⟩
   ·have hax:=QaI a;rw [←HNX.o] at hax;have hbge:=QdD b hb0;rw [←HNY.o] at hbge
    have hI0:GI w wo ga gb nx a b (((nx:Int)-(ny:Int)+1).toNat) a:=by
     refine ⟨?_,hS.o.2.1,hS.o.2.2.2.2.2.2.2.2.2,rfl, ?_,hax⟩
     ·have h5:=Qdb (Qao a);rw [Qan,←HNX.o] at h5;rw [h5];exact hS.o.1
     ·rcases Nat.lt_or_ge nx ny with h | h
      ·have h5:10000^nx≤10000^(ny-1):=Nat.pow_le_pow_right (by decide) (by omega);rw [show ((nx:Int)-(ny:Int)+1).toNat=0 by omega,Nat.pow_zero,Nat.one_mul];omega
      ·rw [show ((nx:Int)-(ny:Int)+1).toNat=nx+1-ny by omega];have h5:10000^(nx+1-ny)*10000^(ny-1)≤10000^(nx+1-ny)*b:=Nat.mul_le_mul_left _ hbge;rw [←Nat.pow_add,show nx+1-ny+(ny-1)=nx by omega] at h5;omega
    have HI0:Shut _:=⟨hI0⟩;have HB0:Shut _:=⟨hb0⟩;have HNB:Shut (QeF wo (.slice (some ⟨gb,0,none⟩) ny cb')=b):=⟨by rw [HNY.o];exact QeG (hS.o.2.1.na hS.o.2.2.2.2.2.2.1.1 hS.o.2.2.2.2.2.2.1.2)⟩;have d0:decide ((0:Int)<(ny:Int))=true:=decide_eq_true hyi;have d9:decide (0<ny)=true:=decide_eq_true (by omega);clear hI0 hax hbge hb0 hyi;obtain ⟨pl0,hpl0⟩:∃ pl0,pl0=(nx:Int)-(ny:Int):=⟨_,rfl⟩;have hpl1:pl0≤900:=by omega
    have hpl2 : -900≤pl0:=by omega
    have hpl3:pl0+ny≤nx:=by omega
    rw [←hpl0] at HI0;rcases Nat.lt_or_ge 4 nx with h4 | h4
    ·have d1:decide ((nx:Int)≤4)=false:=decide_eq_false (by omega);clear hsm;go_upto_region 6 with fail
     rw [←hpl0];clear hpl0 d1
     go_loopw [7] (fun pv wr=>∃ (pl:Int) (k V:Nat),pv = .int .i64 pl∧k=(pl+1).toNat∧pl+ny≤nx ∧ -1000≤pl∧pl≤900∧Shut (GI w wr ga gb nx a b k V)) (fun pv _=>(intOf pv+1).toNat)
     case atStart=>exact ⟨pl0,_,a,rfl,rfl,hpl3,by omega,hpl1,HI0⟩
     case round =>
      clear HI0;obtain ⟨pl,k,V,rfl,hk,hp1,hp2,hp3,hG⟩:=hrel;by_cases hpl:0≤pl
      ·obtain ⟨m,rfl⟩:=Int.eq_ofNat_of_zero_le hpl;obtain rfl:k=m+1:=by omega
       have cr:=Qfc b HB0.o (some ⟨gb,0,none⟩) cb' ga nx ca' m V wr (by have:=hG.o.2.1.na (c:=cb') hS.o.2.2.2.2.2.2.1.1 hS.o.2.2.2.2.2.2.1.2;exact this) (fun gd od h=>by injection h with h;injection h with h;have:=hS.o.2.2.1;omega) hG.o.1 hG.o.2.2.2.2.2 hG.o.2.2.2.2.1 (by have:=HNY.o;omega) (by omega) (by rw [←HNY.o];exact hn2) (by have:=HNX.o;have:=hS.o.2.2.2.2.2.1.1;omega) hS.o.2.2.2.2.2.1.2;have hst:=QkA a b m V (Nat.pos_of_ne_zero HB0.o) hG.o.2.2.2.2.1;have hle:V-10000^m*(b*(V / 10000^m / b))<10000^nx:=Nat.lt_of_le_of_lt (Nat.sub_le _ _) hG.o.2.2.2.2.2;have HST:Shut _:=⟨And.intro hst hle⟩;have HGB:Shut (∀ W,OB ga wr W→UR W gb (natL b)∧Below w.heap.size w W):=⟨fun W hW=>⟨hG.o.2.1.ob hW (Ne.symm hS.o.2.2.1),hG.o.2.2.1.trans (hW.below hS.o.2.2.2.1 hG.o.2.2.1.size)⟩⟩;have HVB:Shut _:=⟨hG.o.2.2.2.1⟩;rw [←HNY.o] at cr;clear hst hle hG;generalize V-10000^m*(b*(V / 10000^m / b))=V2 at *
       generalize V / 10000^m / b=q at *
       go_wp2_with (go_at_call 196; refine cr.mono ?_;rintro e w5 ⟨rfl,hOB,hu5⟩)
       exact ⟨⟨(m:Int)-1,m,V2,by first | rfl | trivial,by omega,by omega,by omega,by omega,⟨⟨hu5,(HGB.o w5 hOB).1,(HGB.o w5 hOB).2,HST.o.1.2 HVB.o,HST.o.1.1,HST.o.2⟩⟩⟩,by simp [intOf]⟩
      ·obtain rfl:k=0:=by omega
       have hV:V=a % b:=by
        have h1:=hG.o.2.2.2.1;have h2:=hG.o.2.2.2.2.1;rw [Nat.pow_zero,Nat.one_mul] at h2;rw [←h1,Nat.mod_eq_of_lt h2]
       have ct:=Qgg wr ga ca' nx V hG.o.1 hG.o.2.2.2.2.2 (by have:=HNX.o;have:=hS.o.2.2.2.2.2.1.1;omega) hS.o.2.2.2.2.2.1.2 (by omega);have hlV:(natL V).length≤nx:=Qat hG.o.2.2.2.2.2
       have huV:UR wr ga (natL V):=by
        have:=hG.o.1;rw [Qkz nx V hG.o.2.2.2.2.2] at this;exact this.pre
       have hcV:(natL V).length≤ca':=by have:=HNX.o;have:=hS.o.2.2.2.2.2.1.1;omega
       have hS2:GS w wr gb ga cb' ca' b V G:=by
        refine ⟨hG.o.2.1,huV,Ne.symm hS.o.2.2.1,hS.o.2.2.2.2.1,hS.o.2.2.2.1,hS.o.2.2.2.2.2.2.1,⟨hcV,hS.o.2.2.2.2.2.1.2⟩,⟨hS.o.2.2.2.2.2.2.2.1.2,by omega⟩, ?_,hG.o.2.2.1⟩;rw [hV,Nat.gcd_comm b (a % b),←hS.o.2.2.2.2.2.2.2.2.1,Nat.gcd_comm a b,Nat.gcd_rec b a]
       have hnum:QeF wr (.slice (some ⟨ga,0,none⟩) (natL V).length ca')=V:=QeG (huV.na hcV hS.o.2.2.2.2.2.1.2);have hVb:V<b:=by rw [hV];exact Nat.mod_lt _ (Nat.pos_of_ne_zero HB0.o)
       have HFIN:Shut (GS w wr gb ga cb' ca' b V G∧QeF wr (.slice (some ⟨ga,0,none⟩) (natL V).length ca')<QeF wo (.slice (some ⟨gb,0,none⟩) ny cb')):=⟨⟨hS2,by rw [hnum,HNB.o];exact hVb⟩⟩;clear hV hlV huV hcV hS2 hnum hVb hG hk;generalize hlv:(natL V).length=lv at *
       go_wp2_with (go_at_call 191; refine ct.mono ?_;rintro e w5 ⟨rfl,rfl⟩);exact ⟨⟨b,V,gb,ga,cb',ca',by rw [←HNY.o],by rw [hlv],⟨HFIN.o.1⟩⟩,HFIN.o.2⟩
    ·have d1:(decide ((nx:Int)≤4)=true)∧(decide ((ny:Int)≤4)=false):=⟨decide_eq_true (by omega),decide_eq_false (by omega)⟩;clear hsm;obtain ⟨d1,d2⟩:=d1;go_upto_region 6 with fail
     rw [←hpl0];clear hpl0 d1 d2
     go_loopw [7] (fun pv wr=>∃ (pl:Int) (k V:Nat),pv = .int .i64 pl∧k=(pl+1).toNat∧pl+ny≤nx ∧ -1000≤pl∧pl≤900∧Shut (GI w wr ga gb nx a b k V)) (fun pv _=>(intOf pv+1).toNat)
     case atStart=>exact ⟨pl0,_,a,rfl,rfl,hpl3,by omega,hpl1,HI0⟩
     case round =>
      clear HI0;obtain ⟨pl,k,V,rfl,hk,hp1,hp2,hp3,hG⟩:=hrel;by_cases hpl:0≤pl
      ·obtain ⟨m,rfl⟩:=Int.eq_ofNat_of_zero_le hpl;obtain rfl:k=m+1:=by omega
       have cr:=Qfc b HB0.o (some ⟨gb,0,none⟩) cb' ga nx ca' m V wr (by have:=hG.o.2.1.na (c:=cb') hS.o.2.2.2.2.2.2.1.1 hS.o.2.2.2.2.2.2.1.2;exact this) (fun gd od h=>by injection h with h;injection h with h;have:=hS.o.2.2.1;omega) hG.o.1 hG.o.2.2.2.2.2 hG.o.2.2.2.2.1 (by have:=HNY.o;omega) (by omega) (by rw [←HNY.o];exact hn2) (by have:=HNX.o;have:=hS.o.2.2.2.2.2.1.1;omega) hS.o.2.2.2.2.2.1.2;have hst:=QkA a b m V (Nat.pos_of_ne_zero HB0.o) hG.o.2.2.2.2.1;have hle:V-10000^m*(b*(V / 10000^m / b))<10000^nx:=Nat.lt_of_le_of_lt (Nat.sub_le _ _) hG.o.2.2.2.2.2;have HST:Shut _:=⟨And.intro hst hle⟩;have HGB:Shut (∀ W,OB ga wr W→UR W gb (natL b)∧Below w.heap.size w W):=⟨fun W hW=>⟨hG.o.2.1.ob hW (Ne.symm hS.o.2.2.1),hG.o.2.2.1.trans (hW.below hS.o.2.2.2.1 hG.o.2.2.1.size)⟩⟩;have HVB:Shut _:=⟨hG.o.2.2.2.1⟩;rw [←HNY.o] at cr;clear hst hle hG;generalize V-10000^m*(b*(V / 10000^m / b))=V2 at *
       generalize V / 10000^m / b=q at *
       go_wp2_with (go_at_call 196; refine cr.mono ?_;rintro e w5 ⟨rfl,hOB,hu5⟩)
       exact ⟨⟨(m:Int)-1,m,V2,by first | rfl | trivial,by omega,by omega,by omega,by omega,⟨⟨hu5,(HGB.o w5 hOB).1,(HGB.o w5 hOB).2,HST.o.1.2 HVB.o,HST.o.1.1,HST.o.2⟩⟩⟩,by simp [intOf]⟩
      ·obtain rfl:k=0:=by omega
       have hV:V=a % b:=by
        have h1:=hG.o.2.2.2.1;have h2:=hG.o.2.2.2.2.1;rw [Nat.pow_zero,Nat.one_mul] at h2;rw [←h1,Nat.mod_eq_of_lt h2]
       have ct:=Qgg wr ga ca' nx V hG.o.1 hG.o.2.2.2.2.2 (by have:=HNX.o;have:=hS.o.2.2.2.2.2.1.1;omega) hS.o.2.2.2.2.2.1.2 (by omega);have hlV:(natL V).length≤nx:=Qat hG.o.2.2.2.2.2
       have huV:UR wr ga (natL V):=by
        have:=hG.o.1;rw [Qkz nx V hG.o.2.2.2.2.2] at this;exact this.pre
       have hcV:(natL V).length≤ca':=by have:=HNX.o;have:=hS.o.2.2.2.2.2.1.1;omega
       have hS2:GS w wr gb ga cb' ca' b V G:=by
        refine ⟨hG.o.2.1,huV,Ne.symm hS.o.2.2.1,hS.o.2.2.2.2.1,hS.o.2.2.2.1,hS.o.2.2.2.2.2.2.1,⟨hcV,hS.o.2.2.2.2.2.1.2⟩,⟨hS.o.2.2.2.2.2.2.2.1.2,by omega⟩, ?_,hG.o.2.2.1⟩;rw [hV,Nat.gcd_comm b (a % b),←hS.o.2.2.2.2.2.2.2.2.1,Nat.gcd_comm a b,Nat.gcd_rec b a]
       have hnum:QeF wr (.slice (some ⟨ga,0,none⟩) (natL V).length ca')=V:=QeG (huV.na hcV hS.o.2.2.2.2.2.1.2);have hVb:V<b:=by rw [hV];exact Nat.mod_lt _ (Nat.pos_of_ne_zero HB0.o)
       have HFIN:Shut (GS w wr gb ga cb' ca' b V G∧QeF wr (.slice (some ⟨ga,0,none⟩) (natL V).length ca')<QeF wo (.slice (some ⟨gb,0,none⟩) ny cb')):=⟨⟨hS2,by rw [hnum,HNB.o];exact hVb⟩⟩;clear hV hlV huV hcV hS2 hnum hVb hG hk;generalize hlv:(natL V).length=lv at *
       go_wp2_with (go_at_call 191; refine ct.mono ?_;rintro e w5 ⟨rfl,rfl⟩);exact ⟨⟨b,V,gb,ga,cb',ca',by rw [←HNY.o],by rw [hlv],⟨HFIN.o.1⟩⟩,HFIN.o.2⟩
def QcC (z:Int):Value:=if Fits z then .tuple #[Z (txt z),.int .i64 0] else .tuple #[Z ⟨#[]⟩,.int .i64 30]
theorem Qav {z:Int} (h:Fits z):QcC z = .tuple #[Z (txt z),.int .i64 0]:=if_pos h
theorem QaJ {z:Int} (h:¬ Fits z):QcC z = .tuple #[Z ⟨#[]⟩,.int .i64 30]:=if_neg h
theorem QeH {z:Int} (h:(natL z.natAbs).length≤1000):(txt z).size≤1000000:=by
 have h1:=Qce (n:=z.natAbs) (t:=4*(natL z.natAbs).length) (by have:=QaI z.natAbs;rw [Nat.pow_mul];exact this);rw [←QcA,Qhh];split
 ·simp
 ·split
  ·simp;omega
  ·omega
theorem QbU {z:Int} (h:Fits z):z.natAbs<10^200:=Nat.lt_of_lt_of_le (QjF z.natAbs) (Nat.pow_le_pow_right (by decide) h)
theorem Qgh {n:Nat} (h:n<10^200*10^200):(natL n).length≤1000:=by
 have e:(10000:Nat)^50=10^200:=by rw [show (10000:Nat)=10^4 from rfl,←Nat.pow_mul]
 have:(natL n).length≤50+50:=Qat (by rw [Nat.pow_add,e];exact h);omega
theorem p200:(10:Nat)^200+10^200≤10^200*10^200:=by
 have h:2≤(10:Nat)^200:=by
  have:(10:Nat)^1≤10^200:=Nat.pow_le_pow_right (by decide) (by decide);omega
 generalize (10:Nat)^200=P at *
 have:=Nat.mul_le_mul_left P h;omega
theorem QpF {x y:Int} (hx:Fits x) (hy:Fits y):(natL (x+y).natAbs).length≤1000:=by
 have h1:=QbU hx;have h2:=QbU hy;refine Qgh (Nat.lt_of_lt_of_le ?_ p200);generalize (10:Nat)^200=P at *
 omega
theorem QpG {x y:Int} (hx:Fits x) (hy:Fits y):(natL (x-y).natAbs).length≤1000:=by
 have h1:=QbU hx;have h2:=QbU hy;refine Qgh (Nat.lt_of_lt_of_le ?_ p200);generalize (10:Nat)^200=P at *
 omega
theorem QpH {x y:Int} (hx:Fits x) (hy:Fits y):(natL (x*y).natAbs).length≤1000:=by
 have h1:=QbU hx;have h2:=QbU hy;refine Qgh ?_;rw [Int.natAbs_mul];have hp:0<(10:Nat)^200:=Nat.pow_pos (by decide);generalize (10:Nat)^200=P at *
 calc x.natAbs*y.natAbs≤x.natAbs*P:=Nat.mul_le_mul_left _ (by omega)
  _<P*P:=Nat.mul_lt_mul_of_pos_right h1 hp
theorem QlS (x y:Int) (hx:Fits x) (hy:Fits y) (w:World) :
  Calls Tryz.prog 112 #[Z (txt x),Z (txt y),.func (Fn.func 168) #[] #[]] w fun e w'=>e = .returned (QcC (x+y))∧Below w.heap.size w w':=by
 have hlx:=Qbx hx;have hly:=Qbx hy;have hsx:=Qbm hx;have hsy:=Qbm hy;have cp:=fun W=>QaW (txt x) (txt y) (by omega) (by omega) W;rw [Qax x hx,Qax y hy,Bool.true_and] at cp;have hle:(natL (x+y).natAbs).length≤1000:=QpF hx hy;have ct:=fun (r:Value) (W:World) (h:IsN W r (x+y))=>QcT (x+y) r W h hle;have cv:=fun W=>Qdf (txt (x+y)) (QeH hle) W;rw [QeE] at cv;have HX:Shut _:=⟨And.intro hx hy⟩;have co:=fun (u v:Value) (W:World) (h1:IsN W u x) (h2:IsN W v y)=>Qgc x y u v W h1 h2 (by omega) (by omega);generalize hex:txt x=sx at *
 generalize hey:txt y=sy at *
 have HEX:Shut _:=⟨And.intro hex hey⟩;clear hex hey hx hy;go_enter Tryz.func112, Tryz.ntmps112;go_upto_region 2 with (go_at_call 114; refine (cp _).mono ?_;rintro e w1 ⟨b,p,n,c,b',p',n',c',rfl,hz1,hz2,hB1⟩)
 have hi1:=hz1 x HEX.o.1.symm HX.o.1;have hi2:=hz2 y HEX.o.2.symm HX.o.2;have hB2:Below w1.heap.size w1 ((w1.alloc (O #[.bool b,.slice p n c] 130)).alloc (O #[.bool b',.slice p' n' c'] 130)):=((Below.refl _ w1).alloc Lr _).alloc (by rw [World.size_alloc];omega) _;have hj1:=hi1.below hB2 Lr;have hj2:=hi2.below hB2 Lr;clear hz1 hz2 hi1 hi2;have HJ:Shut _:=⟨And.intro hj1 hj2⟩;clear hj1 hj2;by_cases hf:Fits (x+y)
 ·have HF:Shut _:=⟨hf⟩;rw [decide_eq_true hf] at cv;clear hf;go_wp2_with (first | (go_at_call 168; refine (co _ _ _ HJ.o.1 HJ.o.2).mono ?_;rintro e w2 ⟨r2,rfl,hr2,hB3⟩) | (go_at_call 118; refine (ct _ _ hr2).mono ?_;rintro e w3 ⟨rfl,hB4⟩) | (go_at_call 149; refine (cv _).mono ?_;rintro e w4 ⟨rfl,m4,rfl⟩))
  go_ret2
  have h5:=hB2.trans ((hB3.trans (hB4.mono hB3.size)).mono hB2.size);exact ⟨by rw [Qav HF.o];rfl,Qag (hB1.trans (h5.mono hB1.size)) m4⟩
 ·have HF:Shut _:=⟨hf⟩;rw [decide_eq_false hf] at cv;clear hf;go_wp2_with (first | (go_at_call 168; refine (co _ _ _ HJ.o.1 HJ.o.2).mono ?_;rintro e w2 ⟨r2,rfl,hr2,hB3⟩) | (go_at_call 118; refine (ct _ _ hr2).mono ?_;rintro e w3 ⟨rfl,hB4⟩) | (go_at_call 149; refine (cv _).mono ?_;rintro e w4 ⟨rfl,m4,rfl⟩))
  go_ret2
  have h5:=hB2.trans ((hB3.trans (hB4.mono hB3.size)).mono hB2.size);exact ⟨by rw [QaJ HF.o];rfl,Qag (hB1.trans (h5.mono hB1.size)) m4⟩
theorem QlT (x y:Int) (hx:Fits x) (hy:Fits y) (w:World) :
  Calls Tryz.prog 112 #[Z (txt x),Z (txt y),.func (Fn.func 185) #[] #[]] w fun e w'=>e = .returned (QcC (x-y))∧Below w.heap.size w w':=by
 have hlx:=Qbx hx;have hly:=Qbx hy;have hsx:=Qbm hx;have hsy:=Qbm hy;have cp:=fun W=>QaW (txt x) (txt y) (by omega) (by omega) W;rw [Qax x hx,Qax y hy,Bool.true_and] at cp;have hle:(natL (x-y).natAbs).length≤1000:=QpG hx hy;have ct:=fun (r:Value) (W:World) (h:IsN W r (x-y))=>QcT (x-y) r W h hle;have cv:=fun W=>Qdf (txt (x-y)) (QeH hle) W;rw [QeE] at cv;have HX:Shut _:=⟨And.intro hx hy⟩;have co:=fun (u v:Value) (W:World) (h1:IsN W u x) (h2:IsN W v y)=>QiG x y u v W h1 h2 (by omega) (by omega);generalize hex:txt x=sx at *
 generalize hey:txt y=sy at *
 have HEX:Shut _:=⟨And.intro hex hey⟩;clear hex hey hx hy;go_enter Tryz.func112, Tryz.ntmps112;go_upto_region 2 with (go_at_call 114; refine (cp _).mono ?_;rintro e w1 ⟨b,p,n,c,b',p',n',c',rfl,hz1,hz2,hB1⟩)
 have hi1:=hz1 x HEX.o.1.symm HX.o.1;have hi2:=hz2 y HEX.o.2.symm HX.o.2;have hB2:Below w1.heap.size w1 ((w1.alloc (O #[.bool b,.slice p n c] 130)).alloc (O #[.bool b',.slice p' n' c'] 130)):=((Below.refl _ w1).alloc Lr _).alloc (by rw [World.size_alloc];omega) _;have hj1:=hi1.below hB2 Lr;have hj2:=hi2.below hB2 Lr;clear hz1 hz2 hi1 hi2;have HJ:Shut _:=⟨And.intro hj1 hj2⟩;clear hj1 hj2;by_cases hf:Fits (x-y)
 ·have HF:Shut _:=⟨hf⟩;rw [decide_eq_true hf] at cv;clear hf;go_wp2_with (first | (go_at_call 185; refine (co _ _ _ HJ.o.1 HJ.o.2).mono ?_;rintro e w2 ⟨r2,rfl,hr2,hB3⟩) | (go_at_call 118; refine (ct _ _ hr2).mono ?_;rintro e w3 ⟨rfl,hB4⟩) | (go_at_call 149; refine (cv _).mono ?_;rintro e w4 ⟨rfl,m4,rfl⟩))
  go_ret2
  have h5:=hB2.trans ((hB3.trans (hB4.mono hB3.size)).mono hB2.size);exact ⟨by rw [Qav HF.o];rfl,Qag (hB1.trans (h5.mono hB1.size)) m4⟩
 ·have HF:Shut _:=⟨hf⟩;rw [decide_eq_false hf] at cv;clear hf;go_wp2_with (first | (go_at_call 185; refine (co _ _ _ HJ.o.1 HJ.o.2).mono ?_;rintro e w2 ⟨r2,rfl,hr2,hB3⟩) | (go_at_call 118; refine (ct _ _ hr2).mono ?_;rintro e w3 ⟨rfl,hB4⟩) | (go_at_call 149; refine (cv _).mono ?_;rintro e w4 ⟨rfl,m4,rfl⟩))
  go_ret2
  have h5:=hB2.trans ((hB3.trans (hB4.mono hB3.size)).mono hB2.size);exact ⟨by rw [QaJ HF.o];rfl,Qag (hB1.trans (h5.mono hB1.size)) m4⟩
theorem QlU (x y:Int) (hx:Fits x) (hy:Fits y) (w:World) :
  Calls Tryz.prog 112 #[Z (txt x),Z (txt y),.func (Fn.func 113) #[] #[]] w fun e w'=>e = .returned (QcC (x*y))∧Below w.heap.size w w':=by
 have hlx:=Qbx hx;have hly:=Qbx hy;have hsx:=Qbm hx;have hsy:=Qbm hy;have cp:=fun W=>QaW (txt x) (txt y) (by omega) (by omega) W;rw [Qax x hx,Qax y hy,Bool.true_and] at cp;have hle:(natL (x*y).natAbs).length≤1000:=QpH hx hy;have ct:=fun (r:Value) (W:World) (h:IsN W r (x*y))=>QcT (x*y) r W h hle;have cv:=fun W=>Qdf (txt (x*y)) (QeH hle) W;rw [QeE] at cv;have HX:Shut _:=⟨And.intro hx hy⟩;have co:=fun (u v:Value) (W:World) (h1:IsN W u x) (h2:IsN W v y)=>QiF x y u v W h1 h2 (by omega) (by omega);generalize hex:txt x=sx at *
 generalize hey:txt y=sy at *
 have HEX:Shut _:=⟨And.intro hex hey⟩;clear hex hey hx hy;go_enter Tryz.func112, Tryz.ntmps112;go_upto_region 2 with (go_at_call 114; refine (cp _).mono ?_;rintro e w1 ⟨b,p,n,c,b',p',n',c',rfl,hz1,hz2,hB1⟩)
 have hi1:=hz1 x HEX.o.1.symm HX.o.1;have hi2:=hz2 y HEX.o.2.symm HX.o.2;have hB2:Below w1.heap.size w1 ((w1.alloc (O #[.bool b,.slice p n c] 130)).alloc (O #[.bool b',.slice p' n' c'] 130)):=((Below.refl _ w1).alloc Lr _).alloc (by rw [World.size_alloc];omega) _;have hj1:=hi1.below hB2 Lr;have hj2:=hi2.below hB2 Lr;clear hz1 hz2 hi1 hi2;have HJ:Shut _:=⟨And.intro hj1 hj2⟩;clear hj1 hj2;by_cases hf:Fits (x*y)
 ·have HF:Shut _:=⟨hf⟩;rw [decide_eq_true hf] at cv;clear hf;go_wp2_with (first | (go_at_call 113; refine (co _ _ _ HJ.o.1 HJ.o.2).mono ?_;rintro e w2 ⟨r2,rfl,hr2,hB3⟩) | (go_at_call 118; refine (ct _ _ hr2).mono ?_;rintro e w3 ⟨rfl,hB4⟩) | (go_at_call 149; refine (cv _).mono ?_;rintro e w4 ⟨rfl,m4,rfl⟩))
  go_ret2
  have h5:=hB2.trans ((hB3.trans (hB4.mono hB3.size)).mono hB2.size);exact ⟨by rw [Qav HF.o];rfl,Qag (hB1.trans (h5.mono hB1.size)) m4⟩
 ·have HF:Shut _:=⟨hf⟩;rw [decide_eq_false hf] at cv;clear hf;go_wp2_with (first | (go_at_call 113; refine (co _ _ _ HJ.o.1 HJ.o.2).mono ?_;rintro e w2 ⟨r2,rfl,hr2,hB3⟩) | (go_at_call 118; refine (ct _ _ hr2).mono ?_;rintro e w3 ⟨rfl,hB4⟩) | (go_at_call 149; refine (cv _).mono ?_;rintro e w4 ⟨rfl,m4,rfl⟩))
  go_ret2
  have h5:=hB2.trans ((hB3.trans (hB4.mono hB3.size)).mono hB2.size);exact ⟨by rw [QaJ HF.o];rfl,Qag (hB1.trans (h5.mono hB1.size)) m4⟩
theorem QfG (s t:ByteArray) (hs:s.size≤1000000) (ht:t.size≤1000000) (h:(Qap s && Qap t)=false) (f:Value) (w:World) :
  Calls Tryz.prog 112 #[Z s,Z t,f] w fun e w'=>e = .returned (.tuple #[Z ⟨#[]⟩,.int .i64 30])∧Below w.heap.size w w':=by
 have cp:=fun W=>QaW s t hs ht W;rw [h] at cp;go_enter Tryz.func112, Tryz.ntmps112;go_wp2_with (go_at_call 114; refine (cp _).mono ?_;rintro e w1 ⟨b,p,n,c,b',p',n',c',rfl,hz1,hz2,hB1⟩)
 go_ret2
 exact ⟨rfl,(hB1.alloc hB1.size _).alloc (by rw [World.size_alloc];have:=hB1.size;omega) _⟩
theorem Qre (x y:Int) (hx:Fits x) (hy:Fits y) (w:World) :
  Calls Tryz.prog 131 #[Z (txt x),Z (txt y)] w fun e w'=>e = .returned (QcC (x+y))∧Below w.heap.size w w':=by
 have cc:=QlS x y hx hy w;generalize txt x=sx at *
 generalize txt y=sy at *
 by_cases hf:Fits (x+y)
 ·have HF:Shut _:=⟨Qav hf⟩;rw [Qav hf] at cc;clear hf;go_enter Tryz.func131, Tryz.ntmps131;go_wp2_with (go_at_call 112; refine cc.mono ?_;rintro e w1 ⟨rfl,hB1⟩)
  go_ret2
  exact ⟨by rw [HF.o];rfl,hB1⟩
 ·have HF:Shut _:=⟨QaJ hf⟩;rw [QaJ hf] at cc;clear hf;go_enter Tryz.func131, Tryz.ntmps131;go_wp2_with (go_at_call 112; refine cc.mono ?_;rintro e w1 ⟨rfl,hB1⟩)
  go_ret2
  exact ⟨by rw [HF.o];rfl,hB1⟩
theorem Qny (s t:ByteArray) (hs:s.size≤1000000) (ht:t.size≤1000000) (h:(Qap s && Qap t)=false) (w:World) :
  Calls Tryz.prog 131 #[Z s,Z t] w fun e w'=>e = .returned (.tuple #[Z ⟨#[]⟩,.int .i64 30])∧Below w.heap.size w w':=by
 have cc:=fun f=>QfG s t hs ht h f w;go_enter Tryz.func131, Tryz.ntmps131;go_wp2_with (go_at_call 112; refine (cc _).mono ?_;rintro e w1 ⟨rfl,hB1⟩)
 go_ret2
 exact ⟨rfl,hB1⟩
theorem QtY (x y:Int) (hx:Fits x) (hy:Fits y) (w:World) :
  Calls Tryz.prog 145 #[Z (txt x),Z (txt y)] w fun e w'=>e = .returned (QcC (x-y))∧Below w.heap.size w w':=by
 have cc:=QlT x y hx hy w;generalize txt x=sx at *
 generalize txt y=sy at *
 by_cases hf:Fits (x-y)
 ·have HF:Shut _:=⟨Qav hf⟩;rw [Qav hf] at cc;clear hf;go_enter Tryz.func145, Tryz.ntmps145;go_wp2_with (go_at_call 112; refine cc.mono ?_;rintro e w1 ⟨rfl,hB1⟩)
  go_ret2
  exact ⟨by rw [HF.o];rfl,hB1⟩
 ·have HF:Shut _:=⟨QaJ hf⟩;rw [QaJ hf] at cc;clear hf;go_enter Tryz.func145, Tryz.ntmps145;go_wp2_with (go_at_call 112; refine cc.mono ?_;rintro e w1 ⟨rfl,hB1⟩)
  go_ret2
  exact ⟨by rw [HF.o];rfl,hB1⟩
theorem Qnz (s t:ByteArray) (hs:s.size≤1000000) (ht:t.size≤1000000) (h:(Qap s && Qap t)=false) (w:World) :
  Calls Tryz.prog 145 #[Z s,Z t] w fun e w'=>e = .returned (.tuple #[Z ⟨#[]⟩,.int .i64 30])∧Below w.heap.size w w':=by
 have cc:=fun f=>QfG s t hs ht h f w;go_enter Tryz.func145, Tryz.ntmps145;go_wp2_with (go_at_call 112; refine (cc _).mono ?_;rintro e w1 ⟨rfl,hB1⟩)
 go_ret2
 exact ⟨rfl,hB1⟩
theorem QdF (x y:Int) (hx:Fits x) (hy:Fits y) (w:World) :
  Calls Tryz.prog 66 #[Z (txt x),Z (txt y)] w fun e w'=>e = .returned (QcC (x*y))∧Below w.heap.size w w':=by
 have cc:=QlU x y hx hy w;generalize txt x=sx at *
 generalize txt y=sy at *
 by_cases hf:Fits (x*y)
 ·have HF:Shut _:=⟨Qav hf⟩;rw [Qav hf] at cc;clear hf;go_enter Tryz.func66, Tryz.ntmps66;go_wp2_with (go_at_call 112; refine cc.mono ?_;rintro e w1 ⟨rfl,hB1⟩)
  go_ret2
  exact ⟨by rw [HF.o];rfl,hB1⟩
 ·have HF:Shut _:=⟨QaJ hf⟩;rw [QaJ hf] at cc;clear hf;go_enter Tryz.func66, Tryz.ntmps66;go_wp2_with (go_at_call 112; refine cc.mono ?_;rintro e w1 ⟨rfl,hB1⟩)
  go_ret2
  exact ⟨by rw [HF.o];rfl,hB1⟩
theorem QnA (s t:ByteArray) (hs:s.size≤1000000) (ht:t.size≤1000000) (h:(Qap s && Qap t)=false) (w:World) :
  Calls Tryz.prog 66 #[Z s,Z t] w fun e w'=>e = .returned (.tuple #[Z ⟨#[]⟩,.int .i64 30])∧Below w.heap.size w w':=by
 have cc:=fun f=>QfG s t hs ht h f w;go_enter Tryz.func66, Tryz.ntmps66;go_wp2_with (go_at_call 112; refine (cc _).mono ?_;rintro e w1 ⟨rfl,hB1⟩)
 go_ret2
 exact ⟨rfl,hB1⟩
theorem QdZ (x y:Int) (hx:Fits x) (hy:Fits y) (w:World) :
  Calls Tryz.prog 67 #[Z (txt x),Z (txt y)] w fun e w'=>e = .returned (.int .i64 (cmpZ x y))∧Below w.heap.size w w':=by
 have hlx:=Qbx hx;have hly:=Qbx hy;have hsx:=Qbm hx;have hsy:=Qbm hy;have cp:=fun W=>QaW (txt x) (txt y) (by omega) (by omega) W;rw [Qax x hx,Qax y hy,Bool.true_and] at cp;have HX:Shut _:=⟨And.intro hx hy⟩;have co:=fun (u v:Value) (W:World) (h1:IsN W u x) (h2:IsN W v y)=>QgY x y u v W h1 h2 (by omega) (by omega);generalize hex:txt x=sx at *
 generalize hey:txt y=sy at *
 have HEX:Shut _:=⟨And.intro hex hey⟩;clear hex hey hx hy;go_enter Tryz.func67, Tryz.ntmps67;go_upto_region 2 with (go_at_call 114; refine (cp _).mono ?_;rintro e w1 ⟨b,p,n,c,b',p',n',c',rfl,hz1,hz2,hB1⟩)
 have hi1:=hz1 x HEX.o.1.symm HX.o.1;have hi2:=hz2 y HEX.o.2.symm HX.o.2;have hB2:Below w1.heap.size w1 ((w1.alloc (O #[.bool b,.slice p n c] 130)).alloc (O #[.bool b',.slice p' n' c'] 130)):=((Below.refl _ w1).alloc Lr _).alloc (by rw [World.size_alloc];omega) _;have hj1:=hi1.below hB2 Lr;have hj2:=hi2.below hB2 Lr;clear hz1 hz2 hi1 hi2;have HJ:Shut _:=⟨And.intro hj1 hj2⟩;clear hj1 hj2;go_wp2_with (go_at_call 115; refine (co _ _ _ HJ.o.1 HJ.o.2).mono ?_;rintro e w2 ⟨rfl,hB3⟩);go_ret;have h5:=hB2.trans (hB3.mono hB2.size);exact ⟨rfl,hB1.trans (h5.mono hB1.size)⟩
theorem Qgi (s t:ByteArray) (hs:s.size≤1000000) (ht:t.size≤1000000) (h:(Qap s && Qap t)=false) (w:World) :
  Calls Tryz.prog 67 #[Z s,Z t] w fun e w'=>e = .returned (.int .i64 0)∧Below w.heap.size w w':=by
 have cp:=fun W=>QaW s t hs ht W;rw [h] at cp;go_enter Tryz.func67, Tryz.ntmps67;go_wp2_with (go_at_call 114; refine (cp _).mono ?_;rintro e w1 ⟨b,p,n,c,b',p',n',c',rfl,hz1,hz2,hB1⟩);go_ret;exact ⟨rfl,(hB1.alloc hB1.size _).alloc (by rw [World.size_alloc];have:=hB1.size;omega) _⟩
theorem IsN.of {W:World} {B:Nat} {v:Value} {z:Int} (h:OwnU W B v (natL z.natAbs)):∃ (p:Option Addr) (cap:Nat),v = .slice p (natL z.natAbs).length cap∧IsN W (.agg #[.bool (decide (z<0)),v]) z:=by
 obtain ⟨p,cap,rfl,hn⟩:=h.na.out;exact ⟨p,cap,rfl,p,cap,rfl,hn⟩
theorem QnB (x:Int):IntKind.u64.wrap x=x % 18446744073709551616:=by simp [IntKind.wrap,IntKind.signed,IntKind.bits]
theorem QpI {n:Nat} (h:n<18446744073709551616):(natL n).length≤5:=Qat (by omega)
theorem Qgj (n:Int) (h1 : -9223372036854775808≤n) (h2:n≤9223372036854775807) (w:World) :
  Calls Tryz.prog 106 #[.int .i64 n] w fun e w'=>e = .returned (Z (txt n))∧Below w.heap.size w w':=by
 have hn:n.natAbs<18446744073709551616:=by omega
 have hl:=QpI hn;have co:=fun W=>QdU n.natAbs hn W;have ct:=fun (u:Value) (W:World) (h:IsN W u n)=>QcT n u W h (by omega);obtain ⟨s,hs⟩:∃ s,s=txt n:=⟨_,rfl⟩;rw [←hs] at ct ⊢;clear hs;by_cases h0:n<0
 ·have hd:decide (n<0)=true:=decide_eq_true h0;have ha:((n.natAbs:Nat):Int)=IntKind.u64.wrap (-IntKind.u64.wrap n):=by rw [QnB,QnB];omega
  have HI:Shut (∀ (W:World) (B:Nat) (v:Value),OwnU W B v (natL n.natAbs)→∃ (p:Option Addr) (cap:Nat),v = .slice p (natL n.natAbs).length cap∧IsN W (.agg #[.bool true,v]) n):=⟨fun W B v h=>by have:=IsN.of h;rwa [hd] at this⟩;rw [ha] at co;go_enter Tryz.func106, Tryz.ntmps106;clear hd ha hl;go_wp2_with (first | (go_at_call 146; refine (co _).mono ?_;rintro e w1 ⟨v1,rfl,hO1,hB1⟩;obtain ⟨p,cap,rfl,hI⟩:=HI.o _ _ _ hO1) | (go_at_call 118; refine (ct _ _ hI).mono ?_;rintro e w2 ⟨rfl,hB2⟩));go_ret;exact ⟨rfl,hB1.trans (hB2.mono hB1.size)⟩
 ·have hd:decide (n<0)=false:=decide_eq_false h0;obtain ⟨k,rfl⟩:=Int.eq_ofNat_of_zero_le (show 0≤n by omega);rw [Int.natAbs_natCast] at co;have HI:Shut (∀ (W:World) (B:Nat) (v:Value),OwnU W B v (natL k)→∃ (p:Option Addr) (cap:Nat),v = .slice p (natL k).length cap∧IsN W (.agg #[.bool false,v]) (k:Int)):=⟨fun W B v h=>by have:=IsN.of (z:=(k:Int)) (by rw [Int.natAbs_natCast];exact h);rwa [hd,Int.natAbs_natCast] at this⟩;have hk:k<18446744073709551616:=by omega
  go_enter Tryz.func106, Tryz.ntmps106;clear hd hl hn;go_wp2_with (first | (go_at_call 146; refine (co _).mono ?_;rintro e w1 ⟨v1,rfl,hO1,hB1⟩;obtain ⟨p,cap,rfl,hI⟩:=HI.o _ _ _ hO1) | (go_at_call 118; refine (ct _ _ hI).mono ?_;rintro e w2 ⟨rfl,hB2⟩));go_ret;exact ⟨rfl,hB1.trans (hB2.mono hB1.size)⟩
theorem divP (a b:Nat):(a:Int) / (b:Int)=((a / b:Nat):Int)∧(a:Int) % (b:Int)=((a % b:Nat):Int):=⟨(Int.natCast_ediv a b).symm,(Int.natCast_emod a b).symm⟩
theorem QvI (a b:Nat) (hb:0<b) (h:a % b=0):(-(a:Int)) / (b:Int) = -((a / b:Nat):Int)∧(-(a:Int)) % (b:Int)=0:=by
 rw [Int.ediv_emod_unique (show (0:Int)<b by omega)];have h1:=Nat.div_add_mod a b;have h2:((b*(a / b)+a % b:Nat):Int)=(a:Int):=by rw [h1]
 rw [h,Nat.add_zero,Int.natCast_mul] at h2;refine ⟨by rw [Int.mul_neg,h2];omega,by omega,by omega⟩
theorem QvJ (a b:Nat) (hb:0<b) (h:0<a % b):(-(a:Int)) / (b:Int) = -((a / b+1:Nat):Int)∧(-(a:Int)) % (b:Int)=((b-a % b:Nat):Int):=by
 rw [Int.ediv_emod_unique (show (0:Int)<b by omega)];have h1:=Nat.div_add_mod a b;have h3:=Nat.mod_lt a hb;have h2:((b*(a / b)+a % b:Nat):Int)=(a:Int):=by rw [h1]
 rw [Int.natCast_add,Int.natCast_mul] at h2;refine ⟨?_,by omega,by omega⟩;rw [Int.natCast_add,Int.mul_neg,Int.mul_add,←h2];omega
theorem Qrf (s:Bool) (Q:Nat):(s && decide (0<(natL Q).length))=decide ((if s=true then -(Q:Int) else (Q:Int))<0)∧(if s=true then -(Q:Int) else (Q:Int)).natAbs=Q:=by
 have hz:(natL Q).length=0↔Q=0:=QaF;cases s with
 | false=>exact ⟨by rw [Bool.false_and,if_neg (by decide),decide_eq_false (by omega)],by rw [if_neg (by decide)];omega⟩
 | true =>
  refine ⟨?_,by rw [if_pos rfl];omega⟩;rw [Bool.true_and,if_pos rfl,decide_eq_decide];constructor
  ·intro h;have:Q≠0:=fun h0=>by have:=hz.2 h0;omega
   omega
  ·intro h;have:=mt hz.1 (show Q≠0 by omega);omega
theorem QkB (x y:Int) (hy:y≠0) (Q R:Nat) (h:(¬(x<0∧0<x.natAbs % y.natAbs)∧Q=x.natAbs / y.natAbs∧R=x.natAbs % y.natAbs)∨(x<0∧0<x.natAbs % y.natAbs∧Q=x.natAbs / y.natAbs+1∧R=y.natAbs-x.natAbs % y.natAbs)) :
  x / y=(if (!(decide (x<0) == decide (y<0)))=true then -(Q:Int) else (Q:Int))∧x % y=(R:Int):=by
 have hb:0<y.natAbs:=by omega
 have key:∀ (z:Int),(z=x)→(if x<0 then (-(x.natAbs:Int)) else (x.natAbs:Int)) / (y.natAbs:Int)=(if x<0 then -(Q:Int) else (Q:Int))∧(if x<0 then (-(x.natAbs:Int)) else (x.natAbs:Int)) % (y.natAbs:Int)=(R:Int):=by
  intro z _;by_cases hx:x<0
  ·rw [if_pos hx,if_pos hx];rcases h with ⟨h1,rfl,rfl⟩ | ⟨_,h1,rfl,rfl⟩
   ·have h2:x.natAbs % y.natAbs=0:=by
     rcases Nat.eq_zero_or_pos (x.natAbs % y.natAbs) with h3 | h3
     ·exact h3
     ·exact absurd ⟨hx,h3⟩ h1
    rw [h2];exact QvI _ _ hb h2
   ·exact QvJ _ _ hb h1
  ·rw [if_neg hx,if_neg hx];rcases h with ⟨_,rfl,rfl⟩ | ⟨h1,_⟩
   ·exact divP _ _
   ·exact absurd h1 hx
 obtain ⟨k1,k2⟩:=key x rfl;have hxe:(if x<0 then (-(x.natAbs:Int)) else (x.natAbs:Int))=x:=by split <;> omega
 rw [hxe] at k1 k2;by_cases hy0:y<0
 ·have hye:y = -(y.natAbs:Int):=by omega
  have e1:x / y = -(x / (y.natAbs:Int)):=by
   calc x / y=x / (-(y.natAbs:Int)):=by rw [←hye]
    _=_:=Int.ediv_neg _ _
  have e2:x % y=x % (y.natAbs:Int):=by
   calc x % y=x % (-(y.natAbs:Int)):=by rw [←hye]
    _=_:=Int.emod_neg _ _
  rw [e1,e2,k1,k2,decide_eq_true hy0];refine ⟨?_,rfl⟩;by_cases hx:x<0
  ·rw [if_pos hx,decide_eq_true hx];simp
  ·rw [if_neg hx,decide_eq_false hx];simp
 ·have hye:(y.natAbs:Int)=y:=by omega
  rw [hye] at k1 k2;rw [k1,k2,decide_eq_false hy0];refine ⟨?_,rfl⟩;by_cases hx:x<0
  ·rw [if_pos hx,decide_eq_true hx];simp
  ·rw [if_neg hx,decide_eq_false hx];simp
theorem Qdg (x y:Int) (hy:y≠0) (Q R:Nat) (h:(¬(x<0∧0<x.natAbs % y.natAbs)∧Q=x.natAbs / y.natAbs∧R=x.natAbs % y.natAbs)∨(x<0∧0<x.natAbs % y.natAbs∧Q=x.natAbs / y.natAbs+1∧R=y.natAbs-x.natAbs % y.natAbs)) :
  (!(decide (x<0) == decide (y<0)) && decide (0<(natL Q).length))=decide (x / y<0)∧(x / y).natAbs=Q∧decide (x % y<0)=false∧(x % y).natAbs=R:=by
 obtain ⟨h1,h2⟩:=QkB x y hy Q R h;have h3:=Qrf (!(decide (x<0) == decide (y<0))) Q;rw [←h1] at h3;rw [h2];exact ⟨h3.1,h3.2,decide_eq_false (by omega),by omega⟩
def box4 (w:World) (a b c d:Array Value):World:=(box3 w a b c).alloc (.cells d 130)
theorem QlV (w:World) (a b c d:Array Value):Below w.heap.size w (box4 w a b c d):=(QcF w a b c).alloc (QcF w a b c).size _
theorem QpJ (w:World) (a b c d:Array Value):RowAt (box4 w a b c d) w.heap.size a 130 ∧ RowAt (box4 w a b c d) (w.heap.size+1) b 130 ∧ RowAt (box4 w a b c d) (w.heap.size+1+1) c 130 ∧ RowAt (box4 w a b c d) (w.heap.size+1+1+1) d 130 := by
 obtain ⟨h1,h2,h3⟩:=QeD w a b c;have h4:=RowAt.new (box3 w a b c) d 130;rw [QiE] at h4;exact ⟨RowAt.alloc h1 _,RowAt.alloc h2 _,RowAt.alloc h3 _,h4⟩
theorem Qgk (x y:Int) (Q R:Nat) (S:Bool) (w W:World) (b:Nat) (hb:w.heap.size≤b) (c d:Value) (c' d':Value) (hc:∀ k n,c ≠ .int k n) (hd:∀ k n,d ≠ .int k n) (hc':∀ k n,c' ≠ .int k n) (hd':∀ k n,d' ≠ .int k n) (h3:RowAt W b #[c,d] 130) (h4:RowAt W (b+1) #[c',d'] 130) (hB:Below w.heap.size w W) (p3 p4:Option Addr) (cp3 cp4:Nat) (hv3:NA W (.slice p3 (natL Q).length cp3) (natL Q)) (hv4:NA W (.slice p4 (natL R).length cp4) (natL R))
  (HD:(S && decide (0<(natL Q).length))=decide (x / y<0)∧(x / y).natAbs=Q∧decide (x % y<0)=false∧(x % y).natAbs=R) :
  IsN ((((W.setCell ⟨b,0,none⟩ (.bool (S && decide (0<(natL Q).length)))).setCell ⟨b,1,none⟩ (.slice p3 (natL Q).length cp3)).setCell ⟨b+1,0,none⟩ (.bool false)).setCell ⟨b+1,1,none⟩ (.slice p4 (natL R).length cp4)) (.agg #[.bool (S && decide (0<(natL Q).length)),.slice p3 (natL Q).length cp3]) (x / y) ∧
  IsN ((((W.setCell ⟨b,0,none⟩ (.bool (S && decide (0<(natL Q).length)))).setCell ⟨b,1,none⟩ (.slice p3 (natL Q).length cp3)).setCell ⟨b+1,0,none⟩ (.bool false)).setCell ⟨b+1,1,none⟩ (.slice p4 (natL R).length cp4)) (.agg #[.bool false,.slice p4 (natL R).length cp4]) (x % y) ∧
  Below w.heap.size w ((((W.setCell ⟨b,0,none⟩ (.bool (S && decide (0<(natL Q).length)))).setCell ⟨b,1,none⟩ (.slice p3 (natL Q).length cp3)).setCell ⟨b+1,0,none⟩ (.bool false)).setCell ⟨b+1,1,none⟩ (.slice p4 (natL R).length cp4)):=by
 obtain ⟨e1,e2,e3,e4⟩:=HD;have e:b+1≠b:=by omega
 have key:∀ {v:Value} {l:List Nat},NA W v l→NA ((((W.setCell ⟨b,0,none⟩ (.bool (S && decide (0<(natL Q).length)))).setCell ⟨b,1,none⟩ (.slice p3 (natL Q).length cp3)).setCell ⟨b+1,0,none⟩ (.bool false)).setCell ⟨b+1,1,none⟩ (.slice p4 (natL R).length cp4)) v l:=fun h =>
  (h.setNum2 h3 hc hd (S && decide (0<(natL Q).length)) (.slice p3 (natL Q).length cp3)).setNum2 ((RowAt.set_other h4 ⟨b,0,none⟩ e _).set_other ⟨b,1,none⟩ e _) hc' hd' false (.slice p4 (natL R).length cp4)
 refine ⟨⟨p3,cp3,by rw [e1,e2],by rw [e2];exact key hv3⟩,⟨p4,cp4,by rw [e3,e4],by rw [e4];exact key hv4⟩, ?_⟩;exact (((hB.setCell (p:=⟨b,0,none⟩) hb _).setCell (p:=⟨b,1,none⟩) hb _).setCell (p:=⟨b+1,0,none⟩) (Nat.le_succ_of_le hb) _).setCell (p:=⟨b+1,1,none⟩) (Nat.le_succ_of_le hb) _
theorem QlW (x y:Int) (u v:Value) (w:World) (hx:IsN w u x) (hy:IsN w v y) (hl:(natL x.natAbs).length≤900) (hl2:(natL y.natAbs).length≤900) (hy0:y≠0) :
  Calls Tryz.prog 117 #[u,v] w fun e w'=>∃ r1 r2,e = .returned (.tuple #[r1,r2])∧IsN w' r1 (x / y)∧IsN w' r2 (x % y)∧Below w.heap.size w w':=by
 obtain ⟨p,cap,rfl,hN⟩:=hx;obtain ⟨q,cap',rfl,hN'⟩:=hy;have HB0:Shut _:=⟨QlV w #[.bool (decide (x<0)),.slice p (natL x.natAbs).length cap] #[.bool (decide (y<0)),.slice q (natL y.natAbs).length cap'] #[.bool false,.slice none 0 0] #[.bool false,.slice none 0 0]⟩;obtain ⟨r1,r2,r3,r4⟩:=QpJ w #[.bool (decide (x<0)),.slice p (natL x.natAbs).length cap] #[.bool (decide (y<0)),.slice q (natL y.natAbs).length cap'] #[.bool false,.slice none 0 0] #[.bool false,.slice none 0 0];go_enter Tryz.func117, Tryz.ntmps117;go_upto_region 1 with fail
 rw [show (((w.alloc (O #[.bool (decide (x<0)),.slice p (natL x.natAbs).length cap] 130)).alloc (O #[.bool (decide (y<0)),.slice q (natL y.natAbs).length cap'] 130)).alloc (O #[.bool false,.slice none 0 0] 130)).alloc (O #[.bool false,.slice none 0 0] 130)=box4 w #[.bool (decide (x<0)),.slice p (natL x.natAbs).length cap] #[.bool (decide (y<0)),.slice q (natL y.natAbs).length cap'] #[.bool false,.slice none 0 0] #[.bool false,.slice none 0 0] from rfl];generalize box4 w #[.bool (decide (x<0)),.slice p (natL x.natAbs).length cap] #[.bool (decide (y<0)),.slice q (natL y.natAbs).length cap'] #[.bool false,.slice none 0 0] #[.bool false,.slice none 0 0]=W0 at *
 have cd:=Qgf x.natAbs y.natAbs (by omega) (.slice p (natL x.natAbs).length cap) (.slice q (natL y.natAbs).length cap') W0 (hN.below HB0.o Lr) (hN'.below HB0.o Lr) hl hl2;obtain ⟨a1,a2,a3,a4⟩:=Qaf r1 (Below.refl _ W0);obtain ⟨b1,b2,b3,b4⟩:=Qaf r2 (Below.refl _ W0);have HR1:Shut _:=⟨r1⟩;have HR2:Shut _:=⟨r2⟩;have HR3:Shut _:=⟨r3⟩;have HR4:Shut _:=⟨r4⟩;have HN:Shut _:=⟨hN⟩;have HN':Shut _:=⟨hN'⟩;clear r1 r2 r3 r4 hN hN';by_cases hc:x<0∧0<x.natAbs % y.natAbs
 ·have hx0:=hc.1
  have hpos:0<(natL (x.natAbs % y.natAbs)).length:=by
   rcases Nat.eq_zero_or_pos (natL (x.natAbs % y.natAbs)).length with h | h
   ·have:=QaF.1 h;omega
   ·exact h
  have HD:Shut _:=⟨Qdg x y hy0 _ _ (.inr ⟨hc.1,hc.2,rfl,rfl⟩)⟩;have hle:x.natAbs % y.natAbs≤y.natAbs:=Nat.le_of_lt (Nat.mod_lt _ (by omega));have hlq:(natL (x.natAbs / y.natAbs)).length≤1000:=Nat.le_trans (Qal (Nat.div_le_self _ _)) (by omega);generalize x.natAbs % y.natAbs=R at *
  generalize x.natAbs / y.natAbs=Q at *
  clear hc;go_upto_region 3 with (go_at_call 154; refine cd.mono ?_;rintro e w1 ⟨v1,v2,rfl,hv1,hv2,hB1⟩;obtain ⟨p1,cp1,rfl,hv1'⟩:=hv1.out;obtain ⟨p2,cp2,rfl,hv2'⟩:=hv2.out;obtain ⟨e1,e2,_,_⟩:=Qaf HR1.o hB1;obtain ⟨f1,f2,_,_⟩:=Qaf HR2.o hB1;obtain ⟨g1,g2,g3,g4⟩:=Qaf HR3.o hB1;obtain ⟨h1,h2,h3,h4⟩:=Qaf HR4.o hB1)
  have h1N:natL 1 = [1]:=by rw [Qbi (by decide)];simp [Qau]
  have hWb:Below w1.heap.size w1 ((w1.alloc (O #[.int .u32 1] 171)).drew):=((Below.refl _ w1).alloc Lr _).drew;have cp:=Qey Q 1 (.slice p1 (natL Q).length cp1) (.slice (some ⟨w1.heap.size,0,none⟩) 1 1) ((w1.alloc (O #[.int .u32 1] 171)).drew) (hv1'.below hWb Lr) (by rw [h1N];exact (NA.one w1 1).below ((Below.refl _ _).drew) Lr) hlq (by rw [h1N];decide);have cm:=fun W (hW:Below w1.heap.size w1 W)=>QdE y.natAbs R hle (.slice q (natL y.natAbs).length cap') (.slice p2 (natL R).length cp2) W (HN'.o.below ((HB0.o.trans (hB1.mono HB0.o.size)).trans (hW.mono (HB0.o.trans (hB1.mono HB0.o.size)).size)) Lr) (hv2'.below hW Lr) (by omega);have HB1:Shut _:=⟨hB1⟩;have HWb:Shut _:=⟨hWb⟩;have HX0:Shut _:=⟨hx0⟩;clear hv1 hv2 hv1' hv2' hB1 hWb h1N hle hlq
  go_region_held3 (fun w'=>w'.cell? ⟨w.heap.size+1,1,none⟩=some (.slice q (natL y.natAbs).length cap')) (go_keep) (first | (go_at_call 155; refine cp.mono ?_;rintro e w3 ⟨v3,rfl,hv3,hB3⟩;obtain ⟨p3,cp3,rfl,hv3'⟩:=hv3.out;have hB3':=HWb.o.trans (hB3.mono HWb.o.size);have hB3w:=HB1.o.trans (hB3'.mono HB1.o.size);obtain ⟨s1,s2,_,_⟩:=Qaf HR2.o hB3w) | (go_at_call 156; refine (cm w3 hB3').mono ?_;rintro e w4 ⟨v4,rfl,hv4,hB4⟩;obtain ⟨p4,cp4,rfl,hv4'⟩:=hv4.out;have hB4w:=hB3w.trans (hB4.mono hB3w.size);obtain ⟨t1,t2,t3,t4⟩:=Qaf HR1.o hB4w;obtain ⟨m1,m2,m3,m4⟩:=Qaf HR2.o hB4w;obtain ⟨n1,n2,n3,n4⟩:=Qaf HR3.o hB4w;obtain ⟨o1,o2,o3,o4⟩:=Qaf HR4.o hB4w))
  have HV3:Shut _:=⟨hv3.below hB4 Lr⟩;have HV4:Shut _:=⟨hv4⟩;have HB4:Shut _:=⟨hB4w⟩;clear cp cm hv3 hv4 hv3' hv4' hB3 hB3' hB3w hB4 hB4w;go_wp2_with (go_at_call 150; refine (Qcf _ p3 _ cp3 _).mono ?_;rintro e w5 ⟨rfl,hB5⟩;have hB5w:=HB4.o.trans (hB5.mono HB4.o.size);obtain ⟨x1,x2,x3,x4⟩:=Qaf HR3.o hB5w;obtain ⟨y1,y2,y3,y4⟩:=Qaf HR4.o hB5w);have HO:=Qgk x y (Q+1) (y.natAbs-R) (!decide (y<0)) w w5 (w.heap.size+1+1) (by omega) _ _ _ _ (fun _ _=>by simp) (fun _ _=>by simp) (fun _ _=>by simp) (fun _ _=>by simp) (RowAt.below HR3.o hB5w (RowAt.lt HR3.o)) (RowAt.below HR4.o hB5w (RowAt.lt HR4.o)) (HB0.o.trans (hB5w.mono HB0.o.size)) p3 p4 cp3 cp4 (HV3.o.below hB5 Lr) (HV4.o.below hB5 Lr) (by have:=HD.o;rw [decide_eq_true HX0.o,show (true == decide (y<0))=decide (y<0) by simp] at this;exact this);exact bodyPost_ret (v:=.tuple #[.agg #[.bool (!decide (y<0) && decide (0<(natL (Q+1)).length)),.slice p3 (natL (Q+1)).length cp3],.agg #[.bool false,.slice p4 (natL (y.natAbs-R)).length cp4]]) (by simp [results,Tryz.results117, go_sem,x1,x2,y1,y2]) rfl ⟨_,_,rfl,HO⟩
 ·have HD:Shut _:=⟨Qdg x y hy0 _ _ (.inl ⟨hc,rfl,rfl⟩)⟩
  have hcc:decide (x<0)=true→¬ 0<(natL (x.natAbs % y.natAbs)).length:=fun h1 h2=>hc ⟨of_decide_eq_true h1,by
   rcases Nat.eq_zero_or_pos (x.natAbs % y.natAbs) with h | h
   ·rw [h,Qau] at h2;exact absurd h2 (by decide)
   ·exact h⟩
  generalize x.natAbs % y.natAbs=R at *
  generalize x.natAbs / y.natAbs=Q at *
  clear hc;have HCC:Shut _:=⟨hcc⟩;clear hcc;cases hxd:decide (x<0) with
  | true =>
   have hr0:¬ 0<(natL R).length:=HCC.o hxd;have HXD:Shut _:=⟨hxd⟩;rw [hxd] at a1;clear hxd;go_wp2_with (first | (go_at_call 154; refine cd.mono ?_;rintro e w1 ⟨v1,v2,rfl,hv1,hv2,hB1⟩;obtain ⟨p1,cp1,rfl,hv1'⟩:=hv1.out;obtain ⟨p2,cp2,rfl,hv2'⟩:=hv2.out;obtain ⟨e1,e2,_,_⟩:=Qaf HR1.o hB1;obtain ⟨f1,f2,_,_⟩:=Qaf HR2.o hB1;obtain ⟨g1,g2,g3,g4⟩:=Qaf HR3.o hB1;obtain ⟨h1,h2,h3,h4⟩:=Qaf HR4.o hB1;rw [HXD.o] at e1) | (go_at_call 150; refine (Qcf _ p1 _ cp1 _).mono ?_;rintro e w5 ⟨rfl,hB5⟩;have hB5w:=hB1.trans (hB5.mono hB1.size);obtain ⟨x1,x2,x3,x4⟩:=Qaf HR3.o hB5w;obtain ⟨y1,y2,y3,y4⟩:=Qaf HR4.o hB5w));have HO:=Qgk x y Q R (!decide (y<0)) w w5 (w.heap.size+1+1) (by omega) _ _ _ _ (fun _ _=>by simp) (fun _ _=>by simp) (fun _ _=>by simp) (fun _ _=>by simp) (RowAt.below HR3.o hB5w (RowAt.lt HR3.o)) (RowAt.below HR4.o hB5w (RowAt.lt HR4.o)) (HB0.o.trans (hB5w.mono HB0.o.size)) p1 p2 cp1 cp2 (hv1.below hB5 Lr) (hv2.below hB5 Lr) (by have:=HD.o;rw [HXD.o,show (true == decide (y<0))=decide (y<0) by simp] at this;exact this);exact bodyPost_ret (v:=.tuple #[.agg #[.bool (!decide (y<0) && decide (0<(natL Q).length)),.slice p1 (natL Q).length cp1],.agg #[.bool false,.slice p2 (natL R).length cp2]]) (by simp [results,Tryz.results117, go_sem,x1,x2,y1,y2]) rfl ⟨_,_,rfl,HO⟩
  | false =>
   have HXD:Shut _:=⟨hxd⟩;rw [hxd] at a1;clear hxd;go_wp2_with (first | (go_at_call 154; refine cd.mono ?_;rintro e w1 ⟨v1,v2,rfl,hv1,hv2,hB1⟩;obtain ⟨p1,cp1,rfl,hv1'⟩:=hv1.out;obtain ⟨p2,cp2,rfl,hv2'⟩:=hv2.out;obtain ⟨e1,e2,_,_⟩:=Qaf HR1.o hB1;obtain ⟨f1,f2,_,_⟩:=Qaf HR2.o hB1;obtain ⟨g1,g2,g3,g4⟩:=Qaf HR3.o hB1;obtain ⟨h1,h2,h3,h4⟩:=Qaf HR4.o hB1;rw [HXD.o] at e1) | (go_at_call 150; refine (Qcf _ p1 _ cp1 _).mono ?_;rintro e w5 ⟨rfl,hB5⟩;have hB5w:=hB1.trans (hB5.mono hB1.size);obtain ⟨x1,x2,x3,x4⟩:=Qaf HR3.o hB5w;obtain ⟨y1,y2,y3,y4⟩:=Qaf HR4.o hB5w));have HO:=Qgk x y Q R (!(false == decide (y<0))) w w5 (w.heap.size+1+1) (by omega) _ _ _ _ (fun _ _=>by simp) (fun _ _=>by simp) (fun _ _=>by simp) (fun _ _=>by simp) (RowAt.below HR3.o hB5w (RowAt.lt HR3.o)) (RowAt.below HR4.o hB5w (RowAt.lt HR4.o)) (HB0.o.trans (hB5w.mono HB0.o.size)) p1 p2 cp1 cp2 (hv1.below hB5 Lr) (hv2.below hB5 Lr) (by have:=HD.o;rw [HXD.o] at this;exact this);rw [show (!(false == decide (y<0)))=decide (y<0) by simp] at HO;exact bodyPost_ret (v:=.tuple #[.agg #[.bool (decide (y<0) && decide (0<(natL Q).length)),.slice p1 (natL Q).length cp1],.agg #[.bool false,.slice p2 (natL R).length cp2]]) (by simp [results,Tryz.results117, go_sem,x1,x2,y1,y2]) rfl ⟨_,_,rfl,HO⟩
theorem QlX (x y:Int) (u v:Value) (w:World) (hx:IsN w u x) (hy:IsN w v y) (hg:GcdC x.natAbs y.natAbs) :
  Calls Tryz.prog 148 #[u,v] w fun e w'=>∃ r,e = .returned r∧IsN w' r ((Nat.gcd x.natAbs y.natAbs:Nat):Int)∧Below w.heap.size w w':=by
 obtain ⟨p,cap,rfl,hN⟩:=hx;obtain ⟨q,cap',rfl,hN'⟩:=hy;have HB0:Shut _:=⟨QcF w #[.bool (decide (x<0)),.slice p (natL x.natAbs).length cap] #[.bool (decide (y<0)),.slice q (natL y.natAbs).length cap'] #[.bool false,.slice none 0 0]⟩;obtain ⟨r1,r2,r3⟩:=QeD w #[.bool (decide (x<0)),.slice p (natL x.natAbs).length cap] #[.bool (decide (y<0)),.slice q (natL y.natAbs).length cap'] #[.bool false,.slice none 0 0];go_enter Tryz.func148, Tryz.ntmps148;go_upto_region 1 with fail
 rw [show ((w.alloc (O #[.bool (decide (x<0)),.slice p (natL x.natAbs).length cap] 130)).alloc (O #[.bool (decide (y<0)),.slice q (natL y.natAbs).length cap'] 130)).alloc (O #[.bool false,.slice none 0 0] 130)=box3 w #[.bool (decide (x<0)),.slice p (natL x.natAbs).length cap] #[.bool (decide (y<0)),.slice q (natL y.natAbs).length cap'] #[.bool false,.slice none 0 0] from rfl];generalize box3 w #[.bool (decide (x<0)),.slice p (natL x.natAbs).length cap] #[.bool (decide (y<0)),.slice q (natL y.natAbs).length cap'] #[.bool false,.slice none 0 0]=W0 at *
 obtain ⟨a1,a2,_,_⟩:=Qaf r1 (Below.refl _ W0);obtain ⟨b1,b2,_,_⟩:=Qaf r2 (Below.refl _ W0);have ct:=hg _ _ W0 (hN.below HB0.o Lr) (hN'.below HB0.o Lr);have HR3:Shut _:=⟨r3⟩;have n1:¬(w.heap.size=w.heap.size+1+1):=by omega
 have n2:¬(w.heap.size+1+1=w.heap.size):=by omega
 clear r1 r2 r3 hN hN' hg;go_wp2_with (go_at_call 186; refine ct.mono ?_;rintro e w1 ⟨v1,rfl,hv1,hB1⟩;obtain ⟨p1,cp1,rfl,hv1'⟩:=hv1.out;obtain ⟨g1,g2,g3,g4⟩:=Qaf HR3.o hB1);have hF:=((HB0.o.trans (hB1.mono HB0.o.size)).setCell (p:=⟨w.heap.size+1+1,0,none⟩) (by show w.heap.size≤w.heap.size+1+1;omega) (.bool false)).setCell (p:=⟨w.heap.size+1+1,1,none⟩) (by show w.heap.size≤w.heap.size+1+1;omega) (.slice p1 (natL (Nat.gcd x.natAbs y.natAbs)).length cp1);have hv2:=hv1.setNum2 (RowAt.below HR3.o hB1 (RowAt.lt HR3.o)) (fun _ _=>by simp) (fun _ _=>by simp) false (.slice p1 (natL (Nat.gcd x.natAbs y.natAbs)).length cp1);refine bodyPost_ret (v:=.agg #[.bool false,.slice p1 (natL (Nat.gcd x.natAbs y.natAbs)).length cp1]) (by simp [results,Tryz.results148, go_sem,g1,g2]) rfl ⟨_,rfl,⟨p1,cp1,by rw [Int.natAbs_natCast,decide_eq_false (by omega)],by rw [Int.natAbs_natCast];exact hv2⟩,hF⟩
theorem QkC {x y:Int} (hx:Fits x) (hy:Fits y):(natL ((Nat.gcd x.natAbs y.natAbs:Nat):Int).natAbs).length≤1000:=by
 have h1:=QbU hx;have h2:=QbU hy;rw [Int.natAbs_natCast];refine Qgh (Nat.lt_of_lt_of_le ?_ p200);generalize (10:Nat)^200=P at *
 rcases Nat.eq_zero_or_pos x.natAbs with h | h
 ·rw [h,Nat.gcd_zero_left];omega
 ·have:=Nat.gcd_le_left y.natAbs h;omega
theorem QlY (x y:Int) (hx:Fits x) (hy:Fits y) (hg:GcdC x.natAbs y.natAbs) (w:World) :
  Calls Tryz.prog 112 #[Z (txt x),Z (txt y),.func (Fn.func 148) #[] #[]] w fun e w'=>e = .returned (QcC (((Nat.gcd x.natAbs y.natAbs:Nat):Int)))∧Below w.heap.size w w':=by
 have hlx:=Qbx hx;have hly:=Qbx hy;have hsx:=Qbm hx;have hsy:=Qbm hy;have cp:=fun W=>QaW (txt x) (txt y) (by omega) (by omega) W;rw [Qax x hx,Qax y hy,Bool.true_and] at cp;have hle:(natL (((Nat.gcd x.natAbs y.natAbs:Nat):Int)).natAbs).length≤1000:=QkC hx hy;have ct:=fun (r:Value) (W:World) (h:IsN W r (((Nat.gcd x.natAbs y.natAbs:Nat):Int)))=>QcT (((Nat.gcd x.natAbs y.natAbs:Nat):Int)) r W h hle;have cv:=fun W=>Qdf (txt (((Nat.gcd x.natAbs y.natAbs:Nat):Int))) (QeH hle) W;rw [QeE] at cv;have HX:Shut _:=⟨And.intro hx hy⟩;have co:=fun (u v:Value) (W:World) (h1:IsN W u x) (h2:IsN W v y)=>QlX x y u v W h1 h2 hg;generalize hex:txt x=sx at *
 generalize hey:txt y=sy at *
 have HEX:Shut _:=⟨And.intro hex hey⟩;clear hex hey hx hy;go_enter Tryz.func112, Tryz.ntmps112;go_upto_region 2 with (go_at_call 114; refine (cp _).mono ?_;rintro e w1 ⟨b,p,n,c,b',p',n',c',rfl,hz1,hz2,hB1⟩)
 have hi1:=hz1 x HEX.o.1.symm HX.o.1;have hi2:=hz2 y HEX.o.2.symm HX.o.2;have hB2:Below w1.heap.size w1 ((w1.alloc (O #[.bool b,.slice p n c] 130)).alloc (O #[.bool b',.slice p' n' c'] 130)):=((Below.refl _ w1).alloc Lr _).alloc (by rw [World.size_alloc];omega) _;have hj1:=hi1.below hB2 Lr;have hj2:=hi2.below hB2 Lr;clear hz1 hz2 hi1 hi2;have HJ:Shut _:=⟨And.intro hj1 hj2⟩;clear hj1 hj2;by_cases hf:Fits (((Nat.gcd x.natAbs y.natAbs:Nat):Int))
 ·have HF:Shut _:=⟨hf⟩;rw [decide_eq_true hf] at cv;clear hf;go_wp2_with (first | (go_at_call 148; refine (co _ _ _ HJ.o.1 HJ.o.2).mono ?_;rintro e w2 ⟨r2,rfl,hr2,hB3⟩) | (go_at_call 118; refine (ct _ _ hr2).mono ?_;rintro e w3 ⟨rfl,hB4⟩) | (go_at_call 149; refine (cv _).mono ?_;rintro e w4 ⟨rfl,m4,rfl⟩))
  go_ret2
  have h5:=hB2.trans ((hB3.trans (hB4.mono hB3.size)).mono hB2.size);exact ⟨by rw [Qav HF.o];rfl,Qag (hB1.trans (h5.mono hB1.size)) m4⟩
 ·have HF:Shut _:=⟨hf⟩;rw [decide_eq_false hf] at cv;clear hf;go_wp2_with (first | (go_at_call 148; refine (co _ _ _ HJ.o.1 HJ.o.2).mono ?_;rintro e w2 ⟨r2,rfl,hr2,hB3⟩) | (go_at_call 118; refine (ct _ _ hr2).mono ?_;rintro e w3 ⟨rfl,hB4⟩) | (go_at_call 149; refine (cv _).mono ?_;rintro e w4 ⟨rfl,m4,rfl⟩))
  go_ret2
  have h5:=hB2.trans ((hB3.trans (hB4.mono hB3.size)).mono hB2.size);exact ⟨by rw [QaJ HF.o];rfl,Qag (hB1.trans (h5.mono hB1.size)) m4⟩
theorem Qrg (x y:Int) (hx:Fits x) (hy:Fits y) (hg:GcdC x.natAbs y.natAbs) (w:World) :
  Calls Tryz.prog 111 #[Z (txt x),Z (txt y)] w fun e w'=>e = .returned (QcC (((Nat.gcd x.natAbs y.natAbs:Nat):Int)))∧Below w.heap.size w w':=by
 have cc:=QlY x y hx hy hg w;generalize txt x=sx at *
 generalize txt y=sy at *
 by_cases hf:Fits (((Nat.gcd x.natAbs y.natAbs:Nat):Int))
 ·have HF:Shut _:=⟨Qav hf⟩;rw [Qav hf] at cc;clear hf;go_enter Tryz.func111, Tryz.ntmps111;go_wp2_with (go_at_call 112; refine cc.mono ?_;rintro e w1 ⟨rfl,hB1⟩)
  go_ret2
  exact ⟨by rw [HF.o];rfl,hB1⟩
 ·have HF:Shut _:=⟨QaJ hf⟩;rw [QaJ hf] at cc;clear hf;go_enter Tryz.func111, Tryz.ntmps111;go_wp2_with (go_at_call 112; refine cc.mono ?_;rintro e w1 ⟨rfl,hB1⟩)
  go_ret2
  exact ⟨by rw [HF.o];rfl,hB1⟩
theorem QnC (s t:ByteArray) (hs:s.size≤1000000) (ht:t.size≤1000000) (h:(Qap s && Qap t)=false) (w:World) :
  Calls Tryz.prog 111 #[Z s,Z t] w fun e w'=>e = .returned (.tuple #[Z ⟨#[]⟩,.int .i64 30])∧Below w.heap.size w w':=by
 have cc:=fun f=>QfG s t hs ht h f w;go_enter Tryz.func111, Tryz.ntmps111;go_wp2_with (go_at_call 112; refine (cc _).mono ?_;rintro e w1 ⟨rfl,hB1⟩)
 go_ret2
 exact ⟨rfl,hB1⟩
theorem QtZ (x y:Int) (hy:y≠0):(x / y).natAbs≤x.natAbs+1∧(x % y).natAbs≤y.natAbs:=by
 by_cases hc:x<0∧0<x.natAbs % y.natAbs
 ·obtain ⟨_,h2,_,h4⟩:=Qdg x y hy _ _ (.inr ⟨hc.1,hc.2,rfl,rfl⟩);have:=Nat.div_le_self x.natAbs y.natAbs;omega
 ·obtain ⟨_,h2,_,h4⟩:=Qdg x y hy _ _ (.inl ⟨hc,rfl,rfl⟩);have:=Nat.div_le_self x.natAbs y.natAbs;have:=Nat.mod_lt x.natAbs (show 0<y.natAbs by omega);omega
theorem QpK {x y:Int} (hx:Fits x) (hy:Fits y) (h0:y≠0):(natL (x / y).natAbs).length≤1000∧(natL (x % y).natAbs).length≤1000:=by
 have h1:=QbU hx;have h2:=QbU hy;have h3:=QtZ x y h0;have hp:1≤(10:Nat)^200:=Nat.pow_pos (by decide);refine ⟨Qgh (Nat.lt_of_lt_of_le ?_ p200),Qgh (Nat.lt_of_lt_of_le ?_ p200)⟩
 all_goals generalize (10:Nat)^200=P at *
 all_goals omega
theorem QiI (x y:Int) (hx:Fits x) (hy:Fits y) (h0:y≠0) (w:World) :
  Calls Tryz.prog 68 #[Z (txt x),Z (txt y)] w fun e w'=>e = .returned (.tuple #[Z (txt (x / y)),Z (txt (x % y)),.int .i64 0])∧Below w.heap.size w w':=by
 have hlx:=Qbx hx;have hly:=Qbx hy;have hsx:=Qbm hx;have hsy:=Qbm hy;have cp:=fun W=>QaW (txt x) (txt y) (by omega) (by omega) W;rw [Qax x hx,Qax y hy,Bool.true_and] at cp;have hle:=QpK hx hy h0;have ct1:=fun (r:Value) (W:World) (h:IsN W r (x / y))=>QcT (x / y) r W h hle.1;have ct2:=fun (r:Value) (W:World) (h:IsN W r (x % y))=>QcT (x % y) r W h hle.2;have cz:=fun (r:Value) (W:World) (h:IsN W r y)=>Qcg y r W h;rw [decide_eq_false h0] at cz;have HX:Shut _:=⟨And.intro hx hy⟩;have co:=fun (u v:Value) (W:World) (h1:IsN W u x) (h2:IsN W v y)=>QlW x y u v W h1 h2 (by omega) (by omega) h0;generalize hex:txt x=sx at *
 generalize hey:txt y=sy at *
 generalize txt (x / y)=sq at *
 generalize txt (x % y)=sr at *
 generalize x / y=Q at *
 generalize x % y=R at *
 have HEX:Shut _:=⟨And.intro hex hey⟩;clear hex hey hx hy hle h0;go_enter Tryz.func68, Tryz.ntmps68;go_upto_region 2 with (go_at_call 114; refine (cp _).mono ?_;rintro e w1 ⟨b,p,n,c,b',p',n',c',rfl,hz1,hz2,hB1⟩)
 have hi1:=hz1 x HEX.o.1.symm HX.o.1;have hi2:=hz2 y HEX.o.2.symm HX.o.2;have hB2:Below w1.heap.size w1 ((w1.alloc (O #[.bool b,.slice p n c] 130)).alloc (O #[.bool b',.slice p' n' c'] 130)):=((Below.refl _ w1).alloc Lr _).alloc (by rw [World.size_alloc];omega) _;have hj1:=hi1.below hB2 Lr;have hj2:=hi2.below hB2 Lr;have HJ:Shut _:=⟨And.intro hj1 hj2⟩;have r1:=(RowAt.new w1 #[.bool b,.slice p n c] 130).alloc (O #[.bool b',.slice p' n' c'] 130);have r2:=box2 w1 (O #[.bool b,.slice p n c] 130) (.bool b') (.slice p' n' c');clear hz1 hz2 hi1 hi2 hj1 hj2;generalize (w1.alloc (O #[.bool b,.slice p n c] 130)).alloc (O #[.bool b',.slice p' n' c'] 130)=W1 at *
 obtain ⟨a1,a2,a3,a4⟩:=Qaf r1 (Below.refl _ W1);obtain ⟨b1,b2,b3,b4⟩:=Qaf r2 (Below.refl _ W1);have HR1:Shut _:=⟨r1⟩;have HR2:Shut _:=⟨r2⟩;clear r1 r2;go_wp2_with (first | (go_at_call 116; refine (cz _ _ HJ.o.2).mono ?_;rintro e w2 ⟨rfl,hB3⟩;obtain ⟨c1,c2,_,_⟩:=Qaf HR1.o hB3;obtain ⟨d1,d2,_,_⟩:=Qaf HR2.o hB3) | (go_at_call 117; refine (co _ _ _ (HJ.o.1.below hB3 Lr) (HJ.o.2.below hB3 Lr)).mono ?_;rintro e w3 ⟨u3,v3,rfl,hu3,hv3,hB4⟩;obtain ⟨p3,c3,rfl,hu3'⟩:=hu3;obtain ⟨p4,c4,rfl,hv3'⟩:=hv3));have hB5:Below w3.heap.size w3 ((w3.alloc (O #[.bool (decide (Q<0)),.slice p3 (natL Q.natAbs).length c3] 130)).alloc (O #[.bool (decide (R<0)),.slice p4 (natL R.natAbs).length c4] 130)):=((Below.refl _ w3).alloc Lr _).alloc (by rw [World.size_alloc];omega) _;have r3:=(RowAt.new w3 #[.bool (decide (Q<0)),.slice p3 (natL Q.natAbs).length c3] 130).alloc (O #[.bool (decide (R<0)),.slice p4 (natL R.natAbs).length c4] 130);have r4:=box2 w3 (O #[.bool (decide (Q<0)),.slice p3 (natL Q.natAbs).length c3] 130) (.bool (decide (R<0))) (.slice p4 (natL R.natAbs).length c4);have hq:IsN w3 (.agg #[.bool (decide (Q<0)),.slice p3 (natL Q.natAbs).length c3]) Q:=⟨p3,c3,rfl,hu3'⟩;have hr:IsN w3 (.agg #[.bool (decide (R<0)),.slice p4 (natL R.natAbs).length c4]) R:=⟨p4,c4,rfl,hv3'⟩;have HQ:Shut _:=⟨And.intro hq hr⟩;have HB5:Shut _:=⟨hB5⟩;clear hq hr hu3' hv3' a1 a2 a3 a4 b1 b2 b3 b4 c1 c2 d1 d2 co cz cp hB5;generalize (w3.alloc (O #[.bool (decide (Q<0)),.slice p3 (natL Q.natAbs).length c3] 130)).alloc (O #[.bool (decide (R<0)),.slice p4 (natL R.natAbs).length c4] 130)=W3 at *
 obtain ⟨a1,a2,a3,a4⟩:=Qaf r3 (Below.refl _ W3);obtain ⟨b1,b2,b3,b4⟩:=Qaf r4 (Below.refl _ W3);have HR3:Shut _:=⟨r3⟩;have HR4:Shut _:=⟨r4⟩;have hdr:Below W3.heap.size W3 W3.drew:=(Below.refl _ _).drew;have HD:Shut _:=⟨hdr⟩;clear r3 r4 hdr
 go_region_held3 (fun w'=>w'.cell? ⟨w3.heap.size,0,none⟩=some (.bool (decide (Q<0)))∧w'.cell? ⟨w3.heap.size,1,none⟩=some (.slice p3 (natL Q.natAbs).length c3)∧w'.cell? ⟨w3.heap.size+1,0,none⟩=some (.bool (decide (R<0)))∧w'.cell? ⟨w3.heap.size+1,1,none⟩=some (.slice p4 (natL R.natAbs).length c4)) (go_keep) (first | (go_at_call_of 118 (Value.agg #[.bool (decide (Q<0)),.slice p3 (natL Q.natAbs).length c3]);refine (ct1 _ W3.drew (HQ.o.1.below (HB5.o.trans (HD.o.mono HB5.o.size)) Lr)).mono ?_;rintro e w4 ⟨rfl,hB6⟩;have hB6':=HD.o.trans (hB6.mono HD.o.size);obtain ⟨e1,e2,_,_⟩:=Qaf HR3.o hB6';obtain ⟨f1,f2,_,_⟩:=Qaf HR4.o hB6') | (go_at_call_of 118 (Value.agg #[.bool (decide (R<0)),.slice p4 (natL R.natAbs).length c4]);refine (ct2 _ w4 (HQ.o.2.below (HB5.o.trans (hB6'.mono HB5.o.size)) Lr)).mono ?_;rintro e w5 ⟨rfl,hB7⟩;have hB7':=hB6'.trans (hB7.mono hB6'.size);obtain ⟨m1,m2,_,_⟩:=Qaf HR3.o hB7';obtain ⟨o1,o2,_,_⟩:=Qaf HR4.o hB7'))
 all_goals go_wp2
 all_goals exact bodyPost_ret (v:=.tuple #[Z sq,Z sr,.int .i64 0]) (by simp [results,Tryz.results68, go_sem]) rfl ⟨rfl,hB1.trans ((hB2.trans ((hB3.trans (hB4.mono hB3.size) |>.trans ((HB5.o.trans (hB7'.mono HB5.o.size)).mono (hB3.trans (hB4.mono hB3.size)).size)).mono hB2.size)).mono hB1.size)⟩
theorem QpL (x:Int) (hx:Fits x) (w:World) :
  Calls Tryz.prog 68 #[Z (txt x),Z (txt 0)] w fun e w'=>e = .returned (.tuple #[Z ⟨#[]⟩,Z ⟨#[]⟩,.int .i64 30])∧Below w.heap.size w w':=by
 have hy:Fits 0:=by unfold Fits;simp [decN]
 have hsx:=Qbm hx;have hsy:=Qbm hy;have cp:=fun W=>QaW (txt x) (txt 0) (by omega) (by omega) W;rw [Qax x hx,Qax 0 hy,Bool.true_and] at cp;have cz:=fun (r:Value) (W:World) (h:IsN W r 0)=>Qcg 0 r W h;rw [decide_eq_true rfl] at cz;have HX:Shut _:=⟨And.intro hx hy⟩;generalize hex:txt x=sx at *
 generalize hey:txt 0=sy at *
 have HEX:Shut _:=⟨And.intro hex hey⟩;clear hex hey hx hy;go_enter Tryz.func68, Tryz.ntmps68;go_upto_region 2 with (go_at_call 114; refine (cp _).mono ?_;rintro e w1 ⟨b,p,n,c,b',p',n',c',rfl,hz1,hz2,hB1⟩)
 have hi2:=hz2 0 HEX.o.2.symm HX.o.2;have hB2:Below w1.heap.size w1 ((w1.alloc (O #[.bool b,.slice p n c] 130)).alloc (O #[.bool b',.slice p' n' c'] 130)):=((Below.refl _ w1).alloc Lr _).alloc (by rw [World.size_alloc];omega) _;have HJ:Shut _:=⟨hi2.below hB2 Lr⟩;clear hz1 hz2 hi2;go_wp2_with (go_at_call 116; refine (cz _ _ HJ.o).mono ?_;rintro e w2 ⟨rfl,hB3⟩);exact bodyPost_ret (v:=.tuple #[Z ⟨#[]⟩,Z ⟨#[]⟩,.int .i64 30]) (by simp [results,Tryz.results68, go_sem]) rfl ⟨rfl,hB1.trans ((hB2.trans (hB3.mono hB2.size)).mono hB1.size)⟩
theorem Qsf (s t:ByteArray) (hs:s.size≤1000000) (ht:t.size≤1000000) (h:(Qap s && Qap t)=false) (w:World) :
  Calls Tryz.prog 68 #[Z s,Z t] w fun e w'=>e = .returned (.tuple #[Z ⟨#[]⟩,Z ⟨#[]⟩,.int .i64 30])∧Below w.heap.size w w':=by
 have cp:=fun W=>QaW s t hs ht W;rw [h] at cp;go_enter Tryz.func68, Tryz.ntmps68;go_wp2_with (go_at_call 114; refine (cp _).mono ?_;rintro e w1 ⟨b,p,n,c,b',p',n',c',rfl,hz1,hz2,hB1⟩);exact bodyPost_ret (v:=.tuple #[Z ⟨#[]⟩,Z ⟨#[]⟩,.int .i64 30]) (by simp [results,Tryz.results68, go_sem]) rfl ⟨rfl,(hB1.alloc hB1.size _).alloc (by rw [World.size_alloc];have:=hB1.size;omega) _⟩
end
end Go.Proofs.YtadcmepaniiciaaGreatDoor
