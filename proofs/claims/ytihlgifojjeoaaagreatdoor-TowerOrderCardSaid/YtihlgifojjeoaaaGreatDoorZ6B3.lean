import Derived.Test.YtihlgifojjeoaaaGreatDoorZ6B2
import Derived.Deep.Cut
set_option maxRecDepth 1000000
set_option maxHeartbeats 40000000
open Go.Value renaming string→Z
open Go.Obj renaming cells→O
namespace Go.Proofs.YtihlgifojjeoaaaGreatDoor
section
open Go.RowKit Nm

theorem QpE (x y:Nat) (hx:x<18446744073709551616) (hy:y<18446744073709551616) (w:World) :
  Calls Tryz.prog 222 #[.int .u64 x,.int .u64 y] w fun e w'=>e = .returned (.int .u64 (Nat.gcd x y:Nat))∧∃ m,w'=w.drewN m:=by
 go_enter Tryz.func222, Tryz.ntmps222;go_wp2
 go_loopw [0,1] (fun av bv wr=>∃ a b:Nat,av = .int .u64 a∧bv = .int .u64 b∧a<18446744073709551616∧b<18446744073709551616∧Shut (Nat.gcd a b=Nat.gcd x y)∧∃ m,wr=w.drewN m) (fun _ bv _=>(intOf bv).toNat)
 case atStart=>exact ⟨x,y,rfl,rfl,hx,hy,⟨rfl⟩,0,rfl⟩
 case round =>
  obtain ⟨a,b,rfl,rfl,ha,hb,hg,m,hw⟩:=hrel;have HW:Shut _:=⟨hw⟩;clear hw;by_cases hb0:b=0
  ·subst hb0;have HG:Shut (Nat.gcd x y=a):=⟨by rw [←hg.o,Nat.gcd_zero_right]⟩;clear hg;go_wp2;go_ret;exact ⟨by rw [HG.o];rfl,m,HW.o⟩
  ·have hlt:a % b<b:=Nat.mod_lt a (by omega);have HG:Shut (Nat.gcd b (a % b)=Nat.gcd x y):=⟨by rw [←hg.o,Nat.gcd_comm a b,Nat.gcd_rec b a,Nat.gcd_comm]⟩;have hbi:(b:Int)≠0:=by omega
   have hmi:((a:Int) % (b:Int))=((a % b:Nat):Int):=rfl;clear hg;generalize hr:a % b=r at *
   go_wp2
   go_quiet (fail)
   go_wp2;exact ⟨⟨b,r,rfl,by rw [←hr];rfl,hb,by omega,HG,_,by rw [HW.o,World.drewN_drewN]⟩,by simp [intOf];omega⟩

theorem len4 {n:Nat} (h:n<10000000000000000):(natL n).length≤4:=Qat h
def GcdC (x y:Nat):Prop:=∀ (va vb:Value) (w:World),NA w va (natL x)→NA w vb (natL y)→Calls Tryz.prog 186 #[va,vb] w fun e w'=>∃ v,e = .returned v∧NA w' v (natL (Nat.gcd x y))∧Below w.heap.size w w'
theorem NA.one_num {W:World} {v:Value} {a b:Nat} (h1:NA W v (natL a)) (h2:NA W v (natL b)):a=b:=by
 obtain ⟨p,c,g,o,e,_,_,hp,hu⟩:=h1.open;obtain ⟨p',c',g',o',e',_,_,hp',hu'⟩:=h2.open;rw [e] at e';injection e' with e1 e2 e3;subst e1
 have hl:natL a=natL b:=by
  apply List.ext_getElem e2;intro i hi hi';have k1:=hu i hi;have k2:=hu' i hi';have q:=(hp (by omega)).1;have q':=(hp' (by omega)).1;rw [q] at q';injection q' with q';injection q' with g1 g2 _;subst g1;subst g2;rw [k1] at k2;injection k2 with k2;injection k2 with _ k3;have k4:(natL a).getD i 0=(natL b).getD i 0:=by omega
  simpa [List.getD,hi,hi'] using k4
 have:=congrArg nv hl
 rwa [Qan,Qan] at this
open Classical in
noncomputable def QeF (W:World) (v:Value):Nat:=if h:∃ n,NA W v (natL n) then Classical.choose h else 0
theorem QeG {W:World} {v:Value} {n:Nat} (h:NA W v (natL n)):QeF W v=n:=by
 have hex:∃ n,NA W v (natL n):=⟨n,h⟩;rw [QeF,dif_pos hex];exact NA.one_num (Classical.choose_spec hex) h
theorem UR.pre {W:World} {g:Nat} {l m:List Nat} (h:UR W g (l++m)):UR W g l:=by
 obtain ⟨X,h⟩:=h;refine ⟨u32s m++X, ?_⟩
 have e:u32s (l++m)++X=u32s l++(u32s m++X):=by
  rw [←Array.append_assoc];congr 1;simp [u32s]
 rw [←e];exact h
theorem UR.na {W:World} {g c:Nat} {l:List Nat} (h:UR W g l) (h1:l.length≤c) (h2:c≤maxLen):NA W (.slice (some ⟨g,0,none⟩) l.length c) l :=
 ⟨_,c,rfl,h1,h2,.inr ⟨g,0,rfl,h.lt,h.ua⟩⟩
theorem Qkz (n V:Nat) (h:V<10000^n):padL n V=natL V++padL (n-(natL V).length) 0:=by
 have h1:=Qat h;have h2:=QfF n (natL V).length V h1 (QaI V);have h3:=Qdb (Qao V);rw [Qan] at h3;rw [h2,h3]
theorem Qgg (W:World) (g c n z:Nat) (hr:UR W g (padL n z)) (hz:z<10000^n) (hc:n≤c) (hcm:c≤maxLen) (hn:n≤1000000) :
  Calls Tryz.prog 191 #[.slice (some ⟨g,0,none⟩) n c] W fun e w'=>e = .returned (.slice (some ⟨g,0,none⟩) (natL z).length c)∧w'=W:=by
 have hl:=Qaq n z;have:=QcK (padL n z) (some ⟨g,0,none⟩) c g 0 W (fun _=>rfl) hr.ua (Qbl _ _) (by omega) (by omega) hcm
 rwa [hl,QbZ n z hz] at this
def GS (w wr:World) (ga gb ca cb a b G:Nat):Prop :=
 UR wr ga (natL a)∧UR wr gb (natL b)∧ga≠gb∧w.heap.size≤ga∧w.heap.size≤gb∧((natL a).length≤ca∧ca≤maxLen)∧((natL b).length≤cb∧cb≤maxLen)∧((natL a).length≤900∧(natL b).length≤900)∧Nat.gcd a b=G∧Below w.heap.size w wr
def GI (w wr:World) (ga gb nx a b k V:Nat):Prop :=
 UR wr ga (padL nx V)∧UR wr gb (natL b)∧Below w.heap.size w wr∧V % b=a % b∧V<10000^k*b∧V<10000^nx
theorem QkA (a b k V:Nat) (hb:0<b) (h:V<10000^(k+1)*b):V-10000^k*(b*(V / 10000^k / b))<10000^k*b∧(V % b=a % b→(V-10000^k*(b*(V / 10000^k / b))) % b=a % b):=by
 have _:=h;rw [Nat.div_div_eq_div_mul];have h1:=Nat.div_add_mod V (10000^k*b);have h2:=Nat.mod_lt V (show 0<10000^k*b from Nat.mul_pos (Nat.pow_pos (by decide)) hb);have h3:10000^k*(b*(V / (10000^k*b)))=10000^k*b*(V / (10000^k*b)):=by rw [Nat.mul_assoc]
 rw [h3];have e:V-10000^k*b*(V / (10000^k*b))=V % (10000^k*b):=by omega
 rw [e];refine ⟨h2,fun h => ?_⟩;rw [←h,Nat.mod_mod_of_dvd V (Nat.dvd_mul_left b (10000^k))]

set_option maxRecDepth 100000 in
theorem Qse (x y:Nat) (hla:(natL x).length≤900) (hlb:(natL y).length≤900):GcdC x y:=by
 intro va vb w hA hB;have cSa:=fun W (hW:Below w.heap.size w W)=>QcL (natL x) va 0 W (hA.below hW Lr) (by omega);have cSb:=fun W (hW:Below w.heap.size w W)=>QcL (natL y) vb 0 W (hB.below hW Lr) (by omega)
 have CW:Shut (∀ (z:Nat) (W:World) (g c:Nat),(natL z).length≤4→UR W g (natL z)→Calls Tryz.prog 223 #[.slice (some ⟨g,0,none⟩) (natL z).length c] W fun e w'=>e = .returned (.int .u64 z)∧w'=W):=⟨fun z W g c hz hu=>by
  have hz2:z<10000^4:=Nat.lt_of_lt_of_le (QaI z) (Nat.pow_le_pow_right (by decide) hz);have:=Qex (natL z) (some ⟨g,0,none⟩) c g 0 W (fun _=>rfl) hu.ua (Qao z) (by omega) (by rw [Qan];omega)
  rwa [Qan] at this⟩
 obtain ⟨pa,ca,rfl,hA'⟩:=hA.out;obtain ⟨pb,cb,rfl,hB'⟩:=hB.out;obtain ⟨G,hG⟩:∃ G,G=Nat.gcd x y:=⟨_,rfl⟩;rw [←hG];go_enter Tryz.func186, Tryz.ntmps186;clear hA hB hA' hB';go_upto_region 2 with (first | (go_at_call_of 195 (Value.slice pa (natL x).length ca);refine (cSa w (Below.refl _ _)).mono ?_;rintro e w1 ⟨u1,rfl,hO1,hn1,hB1⟩) | (go_at_call_of 195 (Value.slice pb (natL y).length cb);refine (cSb _ hB1).mono ?_;rintro e w2 ⟨u2,rfl,hO2,hn2,hB2⟩))
 rw [List.replicate_zero,List.nil_append] at hO1 hO2;rcases hO1.open with ⟨h9,_⟩ | ⟨c1,g1,rfl,hg1,hu1,hc1,hm1⟩
 ·exact absurd h9 hn1
 rcases hO2.open with ⟨h9,_⟩ | ⟨c2,g2,rfl,hg2,hu2,hc2,hm2⟩
 ·exact absurd h9 hn2
 have hl1:=hu1.lt;have hs1:=hB1.size;have HS:Shut (GS w w2 g1 g2 c1 c2 x y G):=⟨⟨hu1.below hB2 hl1,hu2,by omega,hg1,by omega,⟨hc1,hm1⟩,⟨hc2,hm2⟩,⟨hla,hlb⟩,hG.symm,hB1.trans (hB2.mono hB1.size)⟩⟩;clear hO1 hO2 hn1 hn2 hB1 hB2 hu1 hu2 hl1 hs1 hg1 hg2 hc1 hc2 hm1 hm2 cSa cSb hla hlb;clear hG
 go_loopw [5,6] (fun av bv wr=>∃ a b ga gb ca cb:Nat,av = .slice (some ⟨ga,0,none⟩) (natL a).length ca∧bv = .slice (some ⟨gb,0,none⟩) (natL b).length cb∧Shut (GS w wr ga gb ca cb a b G)) (fun _ bv wr=>QeF wr bv)
 case atStart=>exact ⟨x,y,g1,g2,c1,c2,rfl,rfl,HS⟩
 case round =>
  rename World=>wo
  clear HS;obtain ⟨a,b,ga,gb,ca',cb',rfl,rfl,hS⟩:=hrel;obtain ⟨nx,hnx⟩:∃ nx,nx=(natL a).length:=⟨_,rfl⟩;obtain ⟨ny,hny⟩:∃ ny,ny=(natL b).length:=⟨_,rfl⟩;have HNX:Shut _:=⟨hnx⟩;have HNY:Shut _:=⟨hny⟩;rw [←hnx,←hny];have hn1:nx≤900:=by have:=hS.o.2.2.2.2.2.2.2.1.1;omega
  have hn2:ny≤900:=by have:=hS.o.2.2.2.2.2.2.2.1.2;omega
  clear hnx hny;by_cases hy0:ny=0
  ·have hb0:b=0:=QaF.1 (by rw [←HNY.o];exact hy0)
   have hR:NA wo (.slice (some ⟨ga,0,none⟩) nx ca') (natL G):=by
    have h1:=hS.o.2.2.2.2.2.2.2.2.1;rw [hb0,Nat.gcd_zero_right] at h1;rw [HNX.o,←h1];exact hS.o.1.na hS.o.2.2.2.2.2.1.1 hS.o.2.2.2.2.2.1.2
   have HR:Shut _:=⟨hR⟩;have hyi:¬(0:Int)<(ny:Int):=by omega
   clear hy0 hb0 hR;go_wp2;go_ret;exact ⟨_,rfl,HR.o,hS.o.2.2.2.2.2.2.2.2.2⟩
  ·have hyi:(0:Int)<(ny:Int):=by omega
   have hb0:b≠0:=fun h=>hy0 (by rw [HNY.o,h,Qau];rfl);by_cases hsm:nx≤4∧ny≤4
   ·have d1:decide ((nx:Int)≤4)=true:=decide_eq_true (by omega);have d2:decide ((ny:Int)≤4)=true:=decide_eq_true (by omega);have c1w:=CW.o a wo ga ca' (by rw [←HNX.o];exact hsm.1) hS.o.1;have c2w:=CW.o b wo gb cb' (by rw [←HNY.o];exact hsm.2) hS.o.2.1;rw [←HNX.o] at c1w;rw [←HNY.o] at c2w;have ha16:a<10000^4:=Nat.lt_of_lt_of_le (QaI a) (Nat.pow_le_pow_right (by decide) (by rw [←HNX.o];exact hsm.1));have hb16:b<10000^4:=Nat.lt_of_lt_of_le (QaI b) (Nat.pow_le_pow_right (by decide) (by rw [←HNY.o];exact hsm.2));have cG:=fun W=>QpE a b (by omega) (by omega) W
    have hgl:Nat.gcd a b<18446744073709551616:=by
     have:=Nat.gcd_le_right a (show 0<b by omega);omega
    have cO:=fun W=>QdU (Nat.gcd a b) hgl W;rw [hS.o.2.2.2.2.2.2.2.2.1] at cO cG;have hne:=hS.o.2.2.1;have HB12:Shut _:=⟨hS.o.2.2.2.2.2.2.2.2.2⟩;clear hy0 hb0 hsm hgl ha16 hb16 hS;go_wp2_with (first | (go_at_call_of 223 (Value.slice (some ⟨ga,0,none⟩) nx ca');refine c1w.mono ?_;rintro e w5 ⟨rfl,rfl⟩) | (go_at_call_of 223 (Value.slice (some ⟨gb,0,none⟩) ny cb');refine c2w.mono ?_;rintro e w6 ⟨rfl,rfl⟩) | (go_at_call 222; refine (cG _).mono ?_;rintro e w7 ⟨rfl,m7,rfl⟩) | (go_at_call 146; refine (cO _).mono ?_;rintro e w8 ⟨v8,rfl,hO8,hB8⟩));go_ret;exact ⟨_,rfl,hO8.na,(Qag HB12.o m7).trans (hB8.mono (Qag HB12.o m7).size)⟩
   ·have hax:=QaI a;rw [←HNX.o] at hax;have hbge:=QdD b hb0;rw [←HNY.o] at hbge
    have hI0:GI w wo ga gb nx a b (((nx:Int)-(ny:Int)+1).toNat) a:=by
     refine ⟨?_,hS.o.2.1,hS.o.2.2.2.2.2.2.2.2.2,rfl, ?_,hax⟩
     ·have h5:=Qdb (Qao a);rw [Qan,←HNX.o] at h5;rw [h5];exact hS.o.1
     ·rcases Nat.lt_or_ge nx ny with h | h
      ·have h5:10000^nx≤10000^(ny-1):=Nat.pow_le_pow_right (by decide) (by omega);rw [show ((nx:Int)-(ny:Int)+1).toNat=0 by omega,Nat.pow_zero,Nat.one_mul];omega
      ·rw [show ((nx:Int)-(ny:Int)+1).toNat=nx+1-ny by omega];have h5:10000^(nx+1-ny)*10000^(ny-1)≤10000^(nx+1-ny)*b:=Nat.mul_le_mul_left _ hbge;rw [←Nat.pow_add,show nx+1-ny+(ny-1)=nx by omega] at h5;omega
    have HI0:Shut _:=⟨hI0⟩;have HB0:Shut _:=⟨hb0⟩;have HNB:Shut (QeF wo (.slice (some ⟨gb,0,none⟩) ny cb')=b):=⟨by rw [HNY.o];exact QeG (hS.o.2.1.na hS.o.2.2.2.2.2.2.1.1 hS.o.2.2.2.2.2.2.1.2)⟩;have d0:decide ((0:Int)<(ny:Int))=true:=decide_eq_true hyi;have d9:decide (0<ny)=true:=decide_eq_true (by omega);clear hI0 hax hbge hb0 hyi;obtain ⟨pl0,hpl0⟩:∃ pl0,pl0=(nx:Int)-(ny:Int):=⟨_,rfl⟩;have hpl1:pl0≤900:=by omega
    have hpl2 : -900≤pl0:=by omega
    have hpl3:pl0+ny≤nx:=by omega
    rw [←hpl0] at HI0;rcases Nat.lt_or_ge 4 nx with h4 | h4
    ·have d1:decide ((nx:Int)≤4)=false:=decide_eq_false (by omega);clear hsm;go_upto_region 6 with fail
     rw [←hpl0];clear hpl0 d1
     go_loopw [7] (fun pv wr=>∃ (pl:Int) (k V:Nat),pv = .int .i64 pl∧k=(pl+1).toNat∧pl+ny≤nx ∧ -1000≤pl∧pl≤900∧Shut (GI w wr ga gb nx a b k V)) (fun pv _=>(intOf pv+1).toNat)
     case atStart=>exact ⟨pl0,_,a,rfl,rfl,hpl3,by omega,hpl1,HI0⟩
     case round =>
      clear HI0;obtain ⟨pl,k,V,rfl,hk,hp1,hp2,hp3,hG⟩:=hrel;by_cases hpl:0≤pl
      ·obtain ⟨m,rfl⟩:=Int.eq_ofNat_of_zero_le hpl;obtain rfl:k=m+1:=by omega
       have cr:=Qfc b HB0.o (some ⟨gb,0,none⟩) cb' ga nx ca' m V wr (by have:=hG.o.2.1.na (c:=cb') hS.o.2.2.2.2.2.2.1.1 hS.o.2.2.2.2.2.2.1.2;exact this) (fun gd od h=>by injection h with h;injection h with h;have:=hS.o.2.2.1;omega) hG.o.1 hG.o.2.2.2.2.2 hG.o.2.2.2.2.1 (by have:=HNY.o;omega) (by omega) (by rw [←HNY.o];exact hn2) (by have:=HNX.o;have:=hS.o.2.2.2.2.2.1.1;omega) hS.o.2.2.2.2.2.1.2;have hst:=QkA a b m V (Nat.pos_of_ne_zero HB0.o) hG.o.2.2.2.2.1;have hle:V-10000^m*(b*(V / 10000^m / b))<10000^nx:=Nat.lt_of_le_of_lt (Nat.sub_le _ _) hG.o.2.2.2.2.2;have HST:Shut _:=⟨And.intro hst hle⟩;have HGB:Shut (∀ W,OB ga wr W→UR W gb (natL b)∧Below w.heap.size w W):=⟨fun W hW=>⟨hG.o.2.1.ob hW (Ne.symm hS.o.2.2.1),hG.o.2.2.1.trans (hW.below hS.o.2.2.2.1 hG.o.2.2.1.size)⟩⟩;have HVB:Shut _:=⟨hG.o.2.2.2.1⟩;rw [←HNY.o] at cr;clear hst hle hG;generalize V-10000^m*(b*(V / 10000^m / b))=V2 at *
       generalize V / 10000^m / b=q at *
       go_wp2_with (go_at_call 196; refine cr.mono ?_;rintro e w5 ⟨rfl,hOB,hu5⟩)

       exact ⟨⟨(m:Int)-1,m,V2,by first | rfl | trivial,by omega,by omega,by omega,by omega,⟨⟨hu5,(HGB.o w5 hOB).1,(HGB.o w5 hOB).2,HST.o.1.2 HVB.o,HST.o.1.1,HST.o.2⟩⟩⟩,by simp [intOf]⟩
      ·obtain rfl:k=0:=by omega
       have hV:V=a % b:=by
        have h1:=hG.o.2.2.2.1;have h2:=hG.o.2.2.2.2.1;rw [Nat.pow_zero,Nat.one_mul] at h2;rw [←h1,Nat.mod_eq_of_lt h2]
       have ct:=Qgg wr ga ca' nx V hG.o.1 hG.o.2.2.2.2.2 (by have:=HNX.o;have:=hS.o.2.2.2.2.2.1.1;omega) hS.o.2.2.2.2.2.1.2 (by omega);have hlV:(natL V).length≤nx:=Qat hG.o.2.2.2.2.2
       have huV:UR wr ga (natL V):=by
        have:=hG.o.1;rw [Qkz nx V hG.o.2.2.2.2.2] at this;exact this.pre
       have hcV:(natL V).length≤ca':=by have:=HNX.o;have:=hS.o.2.2.2.2.2.1.1;omega
       have hS2:GS w wr gb ga cb' ca' b V G:=by
        refine ⟨hG.o.2.1,huV,Ne.symm hS.o.2.2.1,hS.o.2.2.2.2.1,hS.o.2.2.2.1,hS.o.2.2.2.2.2.2.1,⟨hcV,hS.o.2.2.2.2.2.1.2⟩,⟨hS.o.2.2.2.2.2.2.2.1.2,by omega⟩, ?_,hG.o.2.2.1⟩;rw [hV,Nat.gcd_comm b (a % b),←hS.o.2.2.2.2.2.2.2.2.1,Nat.gcd_comm a b,Nat.gcd_rec b a]
       have hnum:QeF wr (.slice (some ⟨ga,0,none⟩) (natL V).length ca')=V:=QeG (huV.na hcV hS.o.2.2.2.2.2.1.2);have hVb:V<b:=by rw [hV];exact Nat.mod_lt _ (Nat.pos_of_ne_zero HB0.o)
       have HFIN:Shut (GS w wr gb ga cb' ca' b V G∧QeF wr (.slice (some ⟨ga,0,none⟩) (natL V).length ca')<QeF wo (.slice (some ⟨gb,0,none⟩) ny cb')):=⟨⟨hS2,by rw [hnum,HNB.o];exact hVb⟩⟩;clear hV hlV huV hcV hS2 hnum hVb hG hk;generalize hlv:(natL V).length=lv at *
       go_wp2_with (go_at_call 191; refine ct.mono ?_;rintro e w5 ⟨rfl,rfl⟩);exact ⟨⟨b,V,gb,ga,cb',ca',by rw [←HNY.o],by rw [hlv],⟨HFIN.o.1⟩⟩,HFIN.o.2⟩
    ·have d1:(decide ((nx:Int)≤4)=true)∧(decide ((ny:Int)≤4)=false):=⟨decide_eq_true (by omega),decide_eq_false (by omega)⟩;clear hsm;obtain ⟨d1,d2⟩:=d1;go_upto_region 6 with fail
     rw [←hpl0];clear hpl0 d1 d2
     go_loopw [7] (fun pv wr=>∃ (pl:Int) (k V:Nat),pv = .int .i64 pl∧k=(pl+1).toNat∧pl+ny≤nx ∧ -1000≤pl∧pl≤900∧Shut (GI w wr ga gb nx a b k V)) (fun pv _=>(intOf pv+1).toNat)
     case atStart=>exact ⟨pl0,_,a,rfl,rfl,hpl3,by omega,hpl1,HI0⟩
     case round =>
      clear HI0;obtain ⟨pl,k,V,rfl,hk,hp1,hp2,hp3,hG⟩:=hrel;by_cases hpl:0≤pl
      ·obtain ⟨m,rfl⟩:=Int.eq_ofNat_of_zero_le hpl;obtain rfl:k=m+1:=by omega
       have cr:=Qfc b HB0.o (some ⟨gb,0,none⟩) cb' ga nx ca' m V wr (by have:=hG.o.2.1.na (c:=cb') hS.o.2.2.2.2.2.2.1.1 hS.o.2.2.2.2.2.2.1.2;exact this) (fun gd od h=>by injection h with h;injection h with h;have:=hS.o.2.2.1;omega) hG.o.1 hG.o.2.2.2.2.2 hG.o.2.2.2.2.1 (by have:=HNY.o;omega) (by omega) (by rw [←HNY.o];exact hn2) (by have:=HNX.o;have:=hS.o.2.2.2.2.2.1.1;omega) hS.o.2.2.2.2.2.1.2;have hst:=QkA a b m V (Nat.pos_of_ne_zero HB0.o) hG.o.2.2.2.2.1;have hle:V-10000^m*(b*(V / 10000^m / b))<10000^nx:=Nat.lt_of_le_of_lt (Nat.sub_le _ _) hG.o.2.2.2.2.2;have HST:Shut _:=⟨And.intro hst hle⟩;have HGB:Shut (∀ W,OB ga wr W→UR W gb (natL b)∧Below w.heap.size w W):=⟨fun W hW=>⟨hG.o.2.1.ob hW (Ne.symm hS.o.2.2.1),hG.o.2.2.1.trans (hW.below hS.o.2.2.2.1 hG.o.2.2.1.size)⟩⟩;have HVB:Shut _:=⟨hG.o.2.2.2.1⟩;rw [←HNY.o] at cr;clear hst hle hG;generalize V-10000^m*(b*(V / 10000^m / b))=V2 at *
       generalize V / 10000^m / b=q at *
       go_wp2_with (go_at_call 196; refine cr.mono ?_;rintro e w5 ⟨rfl,hOB,hu5⟩)

       exact ⟨⟨(m:Int)-1,m,V2,by first | rfl | trivial,by omega,by omega,by omega,by omega,⟨⟨hu5,(HGB.o w5 hOB).1,(HGB.o w5 hOB).2,HST.o.1.2 HVB.o,HST.o.1.1,HST.o.2⟩⟩⟩,by simp [intOf]⟩
      ·obtain rfl:k=0:=by omega
       have hV:V=a % b:=by
        have h1:=hG.o.2.2.2.1;have h2:=hG.o.2.2.2.2.1;rw [Nat.pow_zero,Nat.one_mul] at h2;rw [←h1,Nat.mod_eq_of_lt h2]
       have ct:=Qgg wr ga ca' nx V hG.o.1 hG.o.2.2.2.2.2 (by have:=HNX.o;have:=hS.o.2.2.2.2.2.1.1;omega) hS.o.2.2.2.2.2.1.2 (by omega);have hlV:(natL V).length≤nx:=Qat hG.o.2.2.2.2.2
       have huV:UR wr ga (natL V):=by
        have:=hG.o.1;rw [Qkz nx V hG.o.2.2.2.2.2] at this;exact this.pre
       have hcV:(natL V).length≤ca':=by have:=HNX.o;have:=hS.o.2.2.2.2.2.1.1;omega
       have hS2:GS w wr gb ga cb' ca' b V G:=by
        refine ⟨hG.o.2.1,huV,Ne.symm hS.o.2.2.1,hS.o.2.2.2.2.1,hS.o.2.2.2.1,hS.o.2.2.2.2.2.2.1,⟨hcV,hS.o.2.2.2.2.2.1.2⟩,⟨hS.o.2.2.2.2.2.2.2.1.2,by omega⟩, ?_,hG.o.2.2.1⟩;rw [hV,Nat.gcd_comm b (a % b),←hS.o.2.2.2.2.2.2.2.2.1,Nat.gcd_comm a b,Nat.gcd_rec b a]
       have hnum:QeF wr (.slice (some ⟨ga,0,none⟩) (natL V).length ca')=V:=QeG (huV.na hcV hS.o.2.2.2.2.2.1.2);have hVb:V<b:=by rw [hV];exact Nat.mod_lt _ (Nat.pos_of_ne_zero HB0.o)
       have HFIN:Shut (GS w wr gb ga cb' ca' b V G∧QeF wr (.slice (some ⟨ga,0,none⟩) (natL V).length ca')<QeF wo (.slice (some ⟨gb,0,none⟩) ny cb')):=⟨⟨hS2,by rw [hnum,HNB.o];exact hVb⟩⟩;clear hV hlV huV hcV hS2 hnum hVb hG hk;generalize hlv:(natL V).length=lv at *
       go_wp2_with (go_at_call 191; refine ct.mono ?_;rintro e w5 ⟨rfl,rfl⟩);exact ⟨⟨b,V,gb,ga,cb',ca',by rw [←HNY.o],by rw [hlv],⟨HFIN.o.1⟩⟩,HFIN.o.2⟩
end
end Go.Proofs.YtihlgifojjeoaaaGreatDoor
