import Derived.Test.YtihlgifojjeoaaaGreatDoorZ6A9
import Derived.Deep.Cut
set_option maxRecDepth 1000000
set_option maxHeartbeats 40000000
open Go.Value renaming string→Z
open Go.Obj renaming cells→O
namespace Go.Proofs.YtihlgifojjeoaaaGreatDoor
section
open Go.RowKit Nm

theorem Qnw (a b:Nat):(decide (cmpN a b≤0))=decide (a≤b):=by
 rw [decide_eq_decide];unfold cmpN;(repeat' split) <;> omega
theorem NA.one (w:World) (f:Nat):NA (w.alloc (O #[.int .u32 (f:Int)] 171)) (.slice (some ⟨w.heap.size,0,none⟩) 1 1) [f]:=by
 refine ⟨_,1,rfl,Nat.le_refl _,by unfold maxLen;omega,.inr ⟨w.heap.size,0,rfl,by rw [World.size_alloc];omega,fun i hi => ?_⟩⟩;have hi0:i=0:=by simp at hi;omega
 subst hi0;exact RowAt.cell (RowAt.new w #[.int .u32 (f:Int)] 171) 0

theorem Qnx (x:Int):IntKind.u32.wrap x=x % 4294967296:=by simp [IntKind.wrap,IntKind.signed,IntKind.bits]
theorem NA.trim {W:World} {p:Option Addr} {c:Nat} {l:List Nat} (h:NA W (.slice p l.length c) l) (hd:Dig l):NA W (.slice p (natL (nv l)).length c) (natL (nv l)):=by
 obtain ⟨p',c',e,h1,h2,⟨rfl,rfl,rfl⟩ | ⟨g,o,rfl,hg,hu⟩⟩:=h
 ·injection e with e1 e2 e3;subst e1;subst e3;rw [nv,Qau];exact ⟨none,0,rfl,Nat.le_refl _,by omega,.inl ⟨rfl,rfl,rfl⟩⟩
 ·injection e with e1 e2 e3;subst e1;subst e3;exact QhM hd hu hg h1 h2
theorem QtX (l:List Nat) (p:Option Addr) (c:Nat) (W:World) (h:NA W (.slice p l.length c) l) (hd:Dig l) (hl:l.length≤1000000) :
  Calls Tryz.prog 191 #[.slice p l.length c] W fun e w'=>e = .returned (.slice p (natL (nv l)).length c)∧w'=W:=by
 obtain ⟨p',c',g,o,e,h1,h2,h3,hu⟩:=h.open;injection e with e1 e2 e3;subst e1;subst e3;exact QcK l p c g o W (fun h=>(h3 h).1) hu hd hl h1 h2
theorem QpB (d f:Nat) (hf:f≤10000) (pd:Option Addr) (cd:Nat) (la:List Nat) (hla:Dig la) (pa:Option Addr) (ca b1 b2:Nat) (w:World)
  (h1:w.cell? ⟨b1,0,none⟩=some (.func (Fn.func 151) #[.slice pd (natL d).length cd] #[])) (h2:w.cell? ⟨b2,0,none⟩=some (.slice pa la.length ca)) (hd:NA w (.slice pd (natL d).length cd) (natL d))
  (hA:NA w (.slice pa la.length ca) la) (hl1:(natL d).length≤900) (hl2:la.length≤1000) :
  Calls Tryz.prog 237 #[.int .u64 f,.pointer (some ⟨b1,0,none⟩),.pointer (some ⟨b2,0,none⟩)] w fun e w'=>e = .returned (.bool (decide (d*f≤nv la)))∧Below w.heap.size w w':=by
 have hroom:d*nv [f]<10000^((natL d).length + [f].length):=by
  have:=QaI d;rw [List.length_singleton,Nat.pow_succ,nv,nv];have hp:d*(f+10000*0)≤d*10000:=Nat.mul_le_mul_left d (by omega);omega
 have hb1:b1<w.heap.size:=World.block_lt_of_cell? w _ h1;have hb2:b2<w.heap.size:=World.block_lt_of_cell? w _ h2;have hB0:Below w.heap.size w (w.alloc (O #[.int .u32 (f:Int)] 171)).drew:=((Below.refl _ w).alloc Lr _).drew;have ct:=QiC d [f] (fun z hz=>by simp at hz;omega) (.slice pd (natL d).length cd) (.slice (some ⟨w.heap.size,0,none⟩) 1 1) _ (hd.below hB0 Lr) (NA.one w f) (by omega) (by simp) hroom;have e1:nv [f]=f:=by rw [nv,nv];omega
 rw [e1] at ct;have ctr:∀ W,Below w.heap.size w W→Calls Tryz.prog 191 #[.slice pa la.length ca] W fun e w'=>e = .returned (.slice pa (natL (nv la)).length ca)∧w'=W:=fun W hW=>QtX la pa ca W (hA.below hW Lr) hla (by omega);have hna:=hA.trim hla;have hlt:(natL (nv la)).length≤1000:=Nat.le_trans (QdT hla) hl2
 have hlm:(natL (d*f)).length≤1000:=by
  have:=Qat (n:=d*f) (k:=(natL d).length+1) (by rw [e1] at hroom;exact hroom);omega
 have cc:∀ (W:World) (v:Value),Below w.heap.size w W→NA W v (natL (d*f))→Calls Tryz.prog 153 #[v,.slice pa (natL (nv la)).length ca] W fun e w'=>e = .returned (.int .i64 (cmpN (d*f) (nv la)))∧∃ m,w'=W.drewN m:=fun W v hW hv=>by
  obtain ⟨p,cap,rfl,hv2⟩:=hv.out;exact QrY (d*f) (nv la) p pa cap ca W hv2 (hna.below hW Lr) hlm hlt
 have HC:=Qnw (d*f) (nv la);have HCS:Shut _:=⟨HC⟩;have hwf:IntKind.u32.wrap (f:Int)=(f:Int):=by rw [Qnx];omega
 clear hroom hA hd hna hlt hlm HC hla e1;generalize cmpN (d*f) (nv la)=cv at *
 generalize (natL (nv la)).length=tl at *
 go_enter Tryz.func237, Tryz.ntmps237;go_wp2
 go_region_held3 (fun w'=>w'.cell? ⟨b1,0,none⟩=some (.func (Fn.func 151) #[.slice pd (natL d).length cd] #[])∧w'.cell? ⟨b2,0,none⟩=some (.slice pa la.length ca)) (go_keep) (first | (go_at_call 151; refine ct.mono ?_;rintro e w1 ⟨v1,rfl,hv1,hB1⟩;have hB1':=hB0.trans (hB1.mono hB0.size);have k1:=(hB1'.cell (p:=⟨b1,0,none⟩) hb1).trans h1;have k2:=(hB1'.cell (p:=⟨b2,0,none⟩) hb2).trans h2) | (go_at_call 191; refine (ctr _ hB1').mono ?_;rintro e w2 ⟨rfl,rfl⟩) | (go_at_call 153; refine (cc _ _ hB1' hv1).mono ?_;rintro e w3 ⟨rfl,m3,rfl⟩))
 all_goals go_wp2
 all_goals go_ret
 all_goals exact ⟨by rw [←HCS.o];rfl,Qag hB1' m3⟩
theorem QlP (low high q:Nat) (b1 b2:Nat) (hlq:low≤q) (hqh:q≤high) (hh:high<18446744073709551616) (w:World)
  (cF:∀ (W:World) (f:Nat),Below w.heap.size w W→f≤high→Calls Tryz.prog 237 #[.int .u64 f,.pointer (some ⟨b1,0,none⟩),.pointer (some ⟨b2,0,none⟩)] W fun e w'=>e = .returned (.bool (decide (f≤q)))∧Below W.heap.size W w') :
  Calls Tryz.prog 236 #[.int .u64 low,.int .u64 high,.func (Fn.func 237) #[] #[.pointer (some ⟨b1,0,none⟩),.pointer (some ⟨b2,0,none⟩)]] w fun e w'=>e = .returned (.int .u64 q)∧Below w.heap.size w w':=by
 have HC:Shut _:=⟨cF⟩;clear cF;go_enter Tryz.func236, Tryz.ntmps236;go_wp2
 go_loopw [0,1] (fun lv hv wr=>∃ a b:Nat,a≤q∧q≤b∧b≤high∧lv = .int .u64 a∧hv = .int .u64 b∧Below w.heap.size w wr) (fun lv hv _=>(intOf hv).toNat-(intOf lv).toNat)
 case atStart=>exact ⟨low,high,hlq,hqh,Nat.le_refl _,rfl,rfl,Below.refl _ _⟩
 case round =>
  obtain ⟨a,b,ha,hb,hbh,rfl,rfl,hB⟩:=hrel;by_cases hlt:a<b
  ·obtain ⟨m,hm⟩:∃ m,m=b-(b-a) / 2:=⟨_,rfl⟩;have hmi:((b:Int)-((b:Int)-(a:Int)) / 2)=(m:Int):=by omega
   have hm1:a<m:=by omega
   have hm2:m≤b:=by omega
   have c1:=HC.o wr m hB (by omega);clear hm;by_cases hf:m≤q
   ·rw [decide_eq_true hf] at c1;go_wp2_with (go_at_call 237; refine c1.mono ?_;rintro e w1 ⟨rfl,hB1⟩);exact ⟨⟨m,b,hf,hb,hbh,rfl,rfl,hB.trans (hB1.mono hB.size)⟩,by simp [intOf];omega⟩
   ·rw [decide_eq_false hf] at c1;go_wp2_with (go_at_call 237; refine c1.mono ?_;rintro e w1 ⟨rfl,hB1⟩);exact ⟨⟨a,m-1,ha,by omega,by omega,rfl,by congr 1;omega,hB.trans (hB1.mono hB.size)⟩,by simp [intOf];omega⟩
  ·obtain rfl:a=q:=by omega
   go_wp2;go_ret;exact ⟨rfl,hB⟩

theorem Qeq (l:List Nat) (hd:Dig l) (k:Nat) (hk:k≤l.length):nv (l.drop k)=nv l / 10000^k:=by
 have h1:=QaH l k hk;have h2:=QdC (hd.take k);rw [List.length_take,Nat.min_eq_left hk] at h2;rw [h1,Nat.add_mul_div_left _ _ (Nat.pow_pos (by decide)),Nat.div_eq_of_lt h2,Nat.zero_add]
theorem QpC (A d P:Nat) (hP:0<P) (hb:0<d / P):A / d≤(A / P) / (d / P):=by
 rw [Nat.le_div_iff_mul_le hb,Nat.le_div_iff_mul_le hP,Nat.mul_assoc];have h1:d / P*P≤d:=Nat.div_mul_le_self d P
 calc A / d*(d / P*P)≤A / d*d:=Nat.mul_le_mul_left _ h1
  _≤A:=Nat.div_mul_le_self A d
theorem QrZ (A d P:Nat) (hP:0<P) (hd:0<d):(A / P) / (d / P+1)≤A / d:=by
 rw [Nat.le_div_iff_mul_le hd]
 have h1:d≤(d / P+1)*P:=by
  have:=Nat.div_add_mod d P;have:=Nat.mod_lt d hP;rw [Nat.add_mul,Nat.one_mul,Nat.mul_comm (d / P) P];omega
 calc A / P / (d / P+1)*d≤A / P / (d / P+1)*((d / P+1)*P):=Nat.mul_le_mul_left _ h1
  _=(A / P / (d / P+1)*(d / P+1))*P:=by rw [Nat.mul_assoc]
  _≤A / P*P:=Nat.mul_le_mul_right _ (Nat.div_mul_le_self _ _)
  _≤A:=Nat.div_mul_le_self A P
theorem Qsa (A d P:Nat) (hP:0<P) (hb:0<d / P) (h:A<10000*d) (hbig:10000≤d / P∨P=1):(A / P) / (d / P)≤10000:=by
 rw [←Nat.lt_succ_iff,Nat.div_lt_iff_lt_mul hb,Nat.div_lt_iff_lt_mul hP]
 have h1:d<(d / P+1)*P:=by
  have:=Nat.div_add_mod d P;have:=Nat.mod_lt d hP;rw [Nat.add_mul,Nat.one_mul,Nat.mul_comm (d / P) P];omega
 rcases hbig with hb1 | rfl
 ·have h2:10000*(d / P+1)≤(10000+1)*(d / P):=by omega
  calc A<10000*d:=h
   _≤10000*((d / P+1)*P):=Nat.mul_le_mul_left _ (by omega)
   _=10000*(d / P+1)*P:=by rw [Nat.mul_assoc]
   _≤(10000+1)*(d / P)*P:=Nat.mul_le_mul_right _ h2
 ·rw [Nat.div_one,Nat.mul_one];omega
theorem NA.from {W:World} {p:Option Addr} {c:Nat} {l:List Nat} (h:NA W (.slice p l.length c) l) (hl:1≤l.length):∃ g o,p=some ⟨g,o,none⟩∧g<W.heap.size∧UA W g o l∧l.length≤c∧c≤maxLen:=by
 obtain ⟨p',c',e,h1,h2,⟨rfl,rfl,rfl⟩ | ⟨g,o,rfl,hg,hu⟩⟩:=h
 ·simp at hl
 ·injection e with e1 e2 e3;subst e1;subst e3;exact ⟨g,o,rfl,hg,hu,h1,h2⟩

theorem QlQ (W:World) (F:Value) (hF:F.oneCell'=true):∃ Wg,Sem.run Tryz.prog (store ⟨W.heap.size,0,none⟩ F) (W.alloc (O #[.nilFunc] 165)) = .ok () Wg∧Below W.heap.size W Wg∧Wg.cell? ⟨W.heap.size,0,none⟩=some F:=by
 have hr:=RowAt.new W #[.nilFunc] 165;have hc:(W.alloc (O #[.nilFunc] 165)).cell? ⟨W.heap.size,0,none⟩=some .nilFunc:=by rw [RowAt.cell hr 0];rfl
 have hf:=RowAt.frozen hr 0;have h2:=RowAt.set_same hr 0 F;refine ⟨(W.alloc (O #[.nilFunc] 165)).setCell ⟨W.heap.size,0,none⟩ F, ?_,((Below.refl _ W).alloc Lr _).setCell (p:=⟨W.heap.size,0,none⟩) Lr F,by rw [RowAt.cell h2 0];rfl⟩;rw [run_store Tryz.prog _ _ _ _ hF,hc];simp [hf]
set_option maxRecDepth 100000 in
theorem QlR (d:Nat) (hd0:d≠0) (la:List Nat) (hla:Dig la) (pa pd:Option Addr) (ca cd:Nat) (w:World) (hA:NA w (.slice pa la.length ca) la) (hD:NA w (.slice pd (natL d).length cd) (natL d))
  (hl1:(natL d).length≤la.length) (hl2:la.length≤(natL d).length+1) (hl3:(natL d).length≤900) (hq:nv la<10000*d) :
  Calls Tryz.prog 226 #[.slice pa la.length ca,.slice pd (natL d).length cd] w fun e w'=>e = .returned (.int .u32 (nv la / d:Nat))∧Below w.heap.size w w':=by
 have hld:1≤(natL d).length:=by
  rcases Nat.eq_zero_or_pos (natL d).length with h | h
  ·exact absurd (QaF.1 h) hd0
  ·exact h
 have hAS:=hA;have hDS:=hD;obtain ⟨ga,oa,rfl,hga,hua,hca,hcam⟩:=hA.from (by omega);obtain ⟨gd,od,rfl,hgd,hud,hcd,hcdm⟩:=hD.from hld;obtain ⟨cut,hcut⟩:∃ cut,cut=(natL d).length-3:=⟨_,rfl⟩;have hP:0<10000^cut:=Nat.pow_pos (by decide);have ha1:=Qeq la hla cut (by omega);have hd1:=Qeq (natL d) (Qao d) cut (by omega);rw [Qan] at hd1;have hlow:=QrZ (nv la) d (10000^cut) hP (by omega);have hge:=QdD d hd0
 have hbelow:0<d / 10000^cut:=by
  refine Nat.div_pos ?_ hP;exact Nat.le_trans (Nat.pow_le_pow_right (by decide) (by omega)) hge
 have hhigh:=QpC (nv la) d (10000^cut) hP hbelow
 have hbig:10000≤d / 10000^cut∨10000^cut=1:=by
  rcases Nat.eq_zero_or_pos cut with h0 | h0
  ·right;rw [h0]
  ·left;rw [Nat.le_div_iff_mul_le hP,←Nat.pow_succ'];exact Nat.le_trans (Nat.pow_le_pow_right (by decide) (by omega)) hge
 have htop:=Qsa (nv la) d (10000^cut) hP hbelow hq hbig
 have hab:nv (la.drop cut)<18446744073709551616:=by
  have:=QdC (hla.drop cut);have h4:10000^(la.drop cut).length≤10000^4:=Nat.pow_le_pow_right (by decide) (by rw [List.length_drop];omega);omega
 have hbb:nv ((natL d).drop cut)<1000000000000:=by
  have:=QdC ((Qao d).drop cut);have h4:10000^((natL d).drop cut).length≤10000^3:=Nat.pow_le_pow_right (by decide) (by rw [List.length_drop];omega);omega
 have cw1:=fun W (hW:Below w.heap.size w W)=>Qex (la.drop cut) (some ⟨ga,oa+cut,none⟩) (ca-cut) ga (oa+cut) W (fun _=>rfl) ((hua.drop cut).below hW hga) (hla.drop cut) (by rw [List.length_drop];omega) hab;have cw2:=fun W (hW:Below w.heap.size w W)=>Qex ((natL d).drop cut) (some ⟨gd,od+cut,none⟩) (cd-cut) gd (od+cut) W (fun _=>rfl) ((hud.drop cut).below hW hgd) ((Qao d).drop cut) (by rw [List.length_drop];omega) (by omega);rw [List.length_drop,ha1] at cw1;rw [List.length_drop,hd1] at cw2;rw [ha1] at hab;rw [hd1] at hbb;have hq2:nv la / d<10000:=by rw [Nat.div_lt_iff_lt_mul (by omega)];exact hq
 have hcz:cut=0→nv la / 10000^cut / (d / 10000^cut)=nv la / d:=fun h=>by rw [h];simp
 generalize nv la / 10000^cut=above at *
 generalize d / 10000^cut=below at *
 obtain ⟨q,hqe⟩:∃ q,q=nv la / d:=⟨_,rfl⟩;rw [←hqe] at hlow hhigh hq2 hcz ⊢;have HFD:Shut (∀ f,decide (d*f≤nv la)=decide (f≤q)):=⟨fun f=>by rw [decide_eq_decide,hqe,Nat.le_div_iff_mul_le (by omega),Nat.mul_comm]⟩;have hqe0:cut=0→above / below=q:=hcz;have c1:(0:Int)≤(cut:Int):=by omega
 have c2:(cut:Int)≤(la.length:Int):=by omega
 have c3:(la.length:Int)≤(ca:Int):=by omega
 have c4:(cut:Int)≤((natL d).length:Int):=by omega
 have c5:((natL d).length:Int)≤(cd:Int):=by omega
 have c6:¬ ca=cut:=by omega
 have c7:¬ cd=cut:=by omega
 have hmax:max (((natL d).length:Int)-3) 0=(cut:Int):=by omega
 have hmax2:(if ((natL d).length:Int)-3<0 then (0:Int) else ((natL d).length:Int)-3)=(cut:Int):=by split <;> omega
 have hB0:Below w.heap.size w (w.alloc (O #[.slice (some ⟨ga,oa,none⟩) la.length ca] 128)):=(Below.refl _ w).alloc Lr _
 have hbox:(w.alloc (O #[.slice (some ⟨ga,oa,none⟩) la.length ca] 128)).cell? ⟨w.heap.size,0,none⟩=some (.slice (some ⟨ga,oa,none⟩) la.length ca):=by
  rw [(RowAt.new w #[.slice (some ⟨ga,oa,none⟩) la.length ca] 128).cell 0];rfl
 have hz0:(w.alloc (O #[.slice (some ⟨ga,oa,none⟩) la.length ca] 128)).heap.size=w.heap.size+1:=World.size_alloc _ _;have HAS:Shut _:=⟨And.intro hAS hDS⟩;have HLA:Shut _:=⟨hla⟩
 have HGF:Shut (∀ (Wg:World) (lo hi:Nat),Below w.heap.size w Wg→Wg.cell? ⟨w.heap.size+1,0,none⟩=some (.func (Fn.func 151) #[.slice (some ⟨gd,od,none⟩) (natL d).length cd] #[])→Wg.cell? ⟨w.heap.size,0,none⟩=some (.slice (some ⟨ga,oa,none⟩) la.length ca)→lo≤q→q≤hi→hi≤10000→Calls Tryz.prog 236 #[.int .u64 lo,.int .u64 hi,.func (Fn.func 237) #[] #[.pointer (some ⟨w.heap.size+1,0,none⟩),.pointer (some ⟨w.heap.size,0,none⟩)]] Wg fun e w'=>e = .returned (.int .u64 q)∧Below Wg.heap.size Wg w'):=⟨fun Wg lo hi hW k1 k2 h1 h2 h3=>by
  refine QlP lo hi q (w.heap.size+1) w.heap.size h1 h2 (by omega) Wg (fun W f hf hle => ?_);have hB:=hW.trans (hf.mono hW.size);have:=QpB d f (by omega) (some ⟨gd,od,none⟩) cd la hla (some ⟨ga,oa,none⟩) ca (w.heap.size+1) w.heap.size W ((hf.cell (p:=⟨w.heap.size+1,0,none⟩) (World.block_lt_of_cell? Wg _ k1)).trans k1) ((hf.cell (p:=⟨w.heap.size,0,none⟩) (World.block_lt_of_cell? Wg _ k2)).trans k2) (hDS.below hB Lr) (hAS.below hB Lr) hl3 (by omega);rw [HFD.o f] at this;exact this⟩
 obtain ⟨lo,hlo⟩:∃ lo,lo=above / (below+1):=⟨_,rfl⟩;obtain ⟨hi,hhi⟩:∃ hi,hi=above / below:=⟨_,rfl⟩;rw [←hlo] at hlow;rw [←hhi] at hhigh htop hqe0;have hloi:((above:Int) / ((below:Int)+1))=(lo:Int):=by rw [hlo];rfl
 have hhii:((above:Int) / (below:Int))=(hi:Int):=by rw [hhi];rfl
 have hb0:((below:Int) == 0)=false:=by rw [beq_eq_false_iff_ne];omega
 have hb1:((below:Int)+1 == 0)=false:=by rw [beq_eq_false_iff_ne];omega
 have hb2:(below:Int)≠0:=by omega
 have hb3:(below:Int)+1≠0:=by omega
 have HCZ2:Shut _:=⟨hqe0⟩;clear hlo hhi;clear hcz hqe0 hqe ha1 hd1 hA hD hAS hDS hua hud hP hge hbig hcut hq hla;go_enter Tryz.func226, Tryz.ntmps226;go_upto_region 2 with fail
 generalize w.alloc (O #[.slice (some ⟨ga,oa,none⟩) la.length ca] 128)=W0 at *
 have d1:=cw1 W0.drew hB0.drew;have d2:=cw2 W0.drew hB0.drew
 go_region_held3 (fun w'=>w'.cell? ⟨w.heap.size,0,none⟩=some (.slice (some ⟨ga,oa,none⟩) la.length ca)) (go_keep) (first | (go_at_call_of 223 (Value.slice (some ⟨ga,oa+cut,none⟩) (la.length-cut) (ca-cut));refine d1.mono ?_;rintro e w1 ⟨rfl,rfl⟩) | (go_at_call_of 223 (Value.slice (some ⟨gd,od+cut,none⟩) ((natL d).length-cut) (cd-cut));refine d2.mono ?_;rintro e w2 ⟨rfl,rfl⟩))
 clear d1 d2 cw1 cw2;have hB1:=hB0.drew;have hbox1:W0.drew.cell? ⟨w.heap.size,0,none⟩=some (.slice (some ⟨ga,oa,none⟩) la.length ca):=hbox;have hz1:W0.drew.heap.size=w.heap.size+1:=hz0;generalize W0.drew=W1 at *
 go_upto_region 3 with fail
 go_quiet (fail)
 generalize hW2:W1.drewN nq=W2 at *
 have hB2:Below w.heap.size w W2:=by rw [←hW2];exact Qag hB1 nq
 have hbox2:W2.cell? ⟨w.heap.size,0,none⟩=some (.slice (some ⟨ga,oa,none⟩) la.length ca):=by rw [←hW2];exact hbox1
 have hz2:W2.heap.size=w.heap.size+1:=by rw [←hW2];exact hz1
 obtain ⟨Wg,hst,hBn,k1⟩:=QlQ W2 (.func (Fn.func 151) #[.slice (some ⟨gd,od,none⟩) (natL d).length cd] #[]) rfl;have hBg:=hB2.trans (hBn.mono hB2.size);rw [hz2] at k1;have k2:=(hBn.cell (p:=⟨w.heap.size,0,none⟩) (by rw [hz2];exact Nat.lt_succ_self _)).trans hbox2;have hwq:IntKind.u32.wrap (q:Int)=(q:Int):=by rw [Qnx];omega
 have HZ2:Shut _:=⟨hz2⟩;clear hW2 hB1 hbox1 hz1 hbox hB0 hz0 hBn hz2;by_cases hc0:cut=0
 ·have hcz:((cut:Int) == 0)=true:=by rw [beq_iff_eq];omega
  have HQH:Shut _:=⟨HCZ2.o hc0⟩;clear hc0;go_upto_region 7 with fail
  have cG:=HGF.o Wg hi hi hBg k1 k2 (Nat.le_of_eq HQH.o) (by omega) (by omega);rw [←HZ2.o] at cG;go_wp2_with (go_at_call 236; refine cG.mono ?_;rintro e w9 ⟨rfl,hB9⟩);go_ret;exact ⟨rfl,hBg.trans (hB9.mono hBg.size)⟩
 ·have hcz:((cut:Int) == 0)=false:=by rw [beq_eq_false_iff_ne];omega
  clear hc0;go_upto_region 7 with fail
  have cG:=HGF.o Wg lo hi hBg k1 k2 hlow hhigh htop;rw [←HZ2.o] at cG;go_wp2_with (go_at_call 236; refine cG.mono ?_;rintro e w9 ⟨rfl,hB9⟩);go_ret;exact ⟨rfl,hBg.trans (hB9.mono hBg.size)⟩
structure OB (g:Nat) (w w':World):Prop where
 os:w'.os=w.os
 tape:w'.tape=w.tape
 output:w'.output=w.output
 size:w.heap.size≤w'.heap.size
 block:∀ k,k<w.heap.size→k≠g→w'.heap[k]? = w.heap[k]?
theorem OB.trans {g:Nat} {a b c:World} (h:OB g a b) (k:OB g b c):OB g a c :=
 ⟨k.os.trans h.os,k.tape.trans h.tape,k.output.trans h.output,Nat.le_trans h.size k.size,fun i hi hg=>(k.block i (Nat.lt_of_lt_of_le hi h.size) hg).trans (h.block i hi hg)⟩
theorem OB.ofBelow {g:Nat} {w w':World} (h:Below w.heap.size w w'):OB g w w':=⟨h.os,h.tape,h.output,h.size,fun k hk _=>h.block k hk⟩
theorem OB.ofOnly {g:Nat} {w w':World} (h:Only g w w'):OB g w w':=⟨h.os,h.tape,h.output,Nat.le_of_eq h.size.symm,fun k _ hg=>h.block k hg⟩
theorem OB.below {g B:Nat} {w w':World} (h:OB g w w') (h1:B≤g) (h2:B≤w.heap.size):Below B w w':=⟨h.os,h.tape,h.output,h.size,fun k hk=>h.block k (by omega) (by omega)⟩
theorem UR.ob {w w':World} {b g:Nat} {l:List Nat} (h:UR w b l) (k:OB g w w') (hb:b≠g):UR w' b l:=by
 obtain ⟨X,h⟩:=h;exact ⟨X,(k.block b (RowAt.lt h) hb).trans h⟩
theorem QfF (n m y:Nat) (hm:m≤n) (hy:y<10000^m):padL n y=padL m y++padL (n-m) 0:=by
 have:=QbR m (n-m) y 0 hy
 rwa [Nat.mul_zero,Nat.add_zero,show m+(n-m)=n by omega] at this
theorem Qsb (n k m V:Nat) (hkm:k+m≤n) (hV:V / 10000^k<10000^m):((padL n V).drop k).take m=padL m (V / 10000^k):=by
 have hl:(padL k (V % 10000^k)).length=k:=Qaq _ _;rw [Qdq n k V (by omega),List.drop_append_of_le_length (by omega),List.drop_eq_nil_iff.2 (by omega),List.nil_append,QfF (n-k) m _ (by omega) hV,List.take_append_of_le_length (by rw [Qaq];exact Nat.le_refl _),List.take_of_length_le (by rw [Qaq];exact Nat.le_refl _)]
theorem Qsc (n k m V x:Nat) (hkm:k+m≤n) (hV:V / 10000^k<10000^m) (hx:x<10000^m):rowR (padL n V) k m x=padL n (V % 10000^k+10000^k*x):=by
 have hP:V % 10000^k<10000^k:=Nat.mod_lt _ (Nat.pow_pos (by decide));have hl:(padL k (V % 10000^k)).length=k:=Qaq _ _;have h1:(padL n V).take k=padL k (V % 10000^k):=by rw [Qdq n k V (by omega),List.take_append_of_le_length (by omega),List.take_of_length_le (by omega)]
 have h2:(padL n V).drop (k+m)=padL (n-k-m) 0:=by
  have hl2:(padL k (V % 10000^k)++padL m (V / 10000^k)).length=k+m:=by rw [List.length_append,Qaq,Qaq]
  rw [Qdq n k V (by omega),QfF (n-k) m _ (by omega) hV,←List.append_assoc,List.drop_append_of_le_length (by omega),List.drop_eq_nil_iff.2 (by omega),List.nil_append]
 have h3:=QbR k (n-k) (V % 10000^k) x hP;rw [show k+(n-k)=n by omega] at h3;rw [rowR,h1,h2,h3,QfF (n-k) m x (by omega) hx,List.append_assoc]
theorem QjH (V P x:Nat) (hx:x≤V / P):V % P+P*(V / P-x)=V-P*x:=by
 have h1:=Nat.mod_add_div V P;have h2:P*(V / P-x)=P*(V / P)-P*x:=by rw [Nat.mul_sub]
 have h3:P*x≤P*(V / P):=Nat.mul_le_mul_left P hx;omega

set_option maxRecDepth 100000 in
theorem Qfc (d:Nat) (hd0:d≠0) (pd:Option Addr) (cd g n c k V:Nat) (w:World) (hD:NA w (.slice pd (natL d).length cd) (natL d)) (hDg:∀ gd od,pd=some ⟨gd,od,none⟩→gd≠g)
  (hr:UR w g (padL n V)) (hV:V<10000^n) (hVk:V<10000^(k+1)*d) (hk:k+(natL d).length≤n) (hn:n≤2000) (hl3:(natL d).length≤900) (hc:n≤c) (hcm:c≤maxLen) :
  Calls Tryz.prog 196 #[.slice (some ⟨g,0,none⟩) n c,.slice pd (natL d).length cd,.int .i64 k] w fun e w'=>e = .returned (.int .u32 (V / 10000^k / d:Nat))∧OB g w w'∧UR w' g (padL n (V-10000^k*(d*(V / 10000^k / d)))):=by
 have hld:1≤(natL d).length:=by
  rcases Nat.eq_zero_or_pos (natL d).length with h | h
  ·exact absurd (QaF.1 h) hd0
  ·exact h
 obtain ⟨m,hm⟩:∃ m,m=min (k+(natL d).length+1) n-k:=⟨_,rfl⟩;have hP:0<10000^k:=Nat.pow_pos (by decide);have hm1:k+m≤n:=by omega
 have hm2:(natL d).length≤m:=by omega
 have hm3:m≤(natL d).length+1:=by omega
 have hq:V / 10000^k<10000*d:=by
  rw [Nat.div_lt_iff_lt_mul hP];rw [Nat.pow_succ] at hVk
  calc V<10000^k*10000*d:=hVk
   _=10000*d*10000^k:=by rw [Nat.mul_assoc,Nat.mul_comm]
 have hVm:V / 10000^k<10000^m:=by
  rcases Nat.lt_or_ge m ((natL d).length+1) with h1 | h1
  ·have:m=n-k:=by omega
   rw [this,Nat.div_lt_iff_lt_mul hP,←Nat.pow_add,show n-k+k=n by omega];exact hV
  ·have:m=(natL d).length+1:=by omega
   rw [this,Nat.pow_succ];have:=QaI d;omega
 have hw:=Qsb n k m V hm1 hVm;have hwl:(((padL n V).drop k).take m).length=m:=by rw [hw,Qaq]
 have hnv:nv (((padL n V).drop k).take m)=V / 10000^k:=by rw [hw,QbZ m _ hVm]
 have hdig:Dig (((padL n V).drop k).take m):=by rw [hw];exact Qbl _ _
 have hDS:=hD;obtain ⟨gd,od,rfl,hgd,hud,hcd,hcdm⟩:=hD.from hld;have hgg:=hDg gd od rfl;have hua:=hr.uaSeg k m;have hna:NA w (.slice (some ⟨g,k,none⟩) (((padL n V).drop k).take m).length (c-k)) (((padL n V).drop k).take m):=⟨_,c-k,rfl,by rw [hwl];omega,by omega,.inr ⟨g,k,rfl,hr.lt,hua⟩⟩;have cF:=QlR d hd0 (((padL n V).drop k).take m) hdig (some ⟨g,k,none⟩) (some ⟨gd,od,none⟩) (c-k) cd w hna hDS (by rw [hwl];exact hm2) (by rw [hwl];exact hm3) hl3 (by rw [hnv];exact hq);rw [hnv,hwl] at cF;have hq2:V / 10000^k / d<10000:=by rw [Nat.div_lt_iff_lt_mul (by omega)];exact hq
 have hdq:d*(V / 10000^k / d)≤V / 10000^k:=Nat.mul_div_le _ _
 have cT:∀ W,Below w.heap.size w W→Calls Tryz.prog 197 #[.slice (some ⟨g,k,none⟩) m (c-k),.slice (some ⟨gd,od,none⟩) (natL d).length cd,.int .u32 (V / 10000^k / d:Nat)] W fun e w'=>e = .returned (.tuple #[])∧Only g W w'∧UR w' g (padL n (V-10000^k*(d*(V / 10000^k / d)))):=fun W hW=>by
  have:=Qkw g k m (c-k) (padL n V) (some ⟨gd,od,none⟩) gd od cd (natL d) (V / 10000^k / d) W (hr.below hW hr.lt) (by rw [Qaq];exact hm1) (fun _=>hgg) (hud.below hW hgd) (fun _=>rfl) (by omega) (by omega) (Qbl _ _) (Qao _) hq2 (by rw [hnv,Qan];exact hdq);rw [hnv,Qan,Qsc n k m V _ hm1 hVm (by omega),QjH V (10000^k) _ hdq] at this;exact this
 have HT:Shut _:=⟨cT⟩;have HR:Shut _:=⟨And.intro hr.lt hgg⟩;have i1:(0:Int)≤(k:Int):=by omega
 obtain ⟨e,he⟩:∃ e,e=k+m:=⟨_,rfl⟩;have i2:(k:Int)≤(e:Int):=by omega
 have i3:(e:Int)≤(n:Int):=by omega
 have i4:(n:Int)≤(c:Int):=by omega
 have i5:¬ c=k:=by omega
 have i6:(e:Int)≤(c:Int):=by omega
 have hem:e-k=m:=by omega
 have hmin:min ((k:Int)+((natL d).length:Int)+1) (n:Int)=(e:Int):=by omega
 have hmin2:(if (n:Int)<(k:Int)+((natL d).length:Int)+1 then (n:Int) else (k:Int)+((natL d).length:Int)+1)=(e:Int):=by split <;> omega
 clear he;generalize V-10000^k*(d*(V / 10000^k / d))=V2 at *
 generalize V / 10000^k / d=q at *
 clear hm hw hwl hnv hdig hDS hud hua hna hVm hq hdq cT hP hV hVk hr hD hDg;go_enter Tryz.func196, Tryz.ntmps196;go_wp2_with (first | (go_at_call 226; refine cF.mono ?_;rintro e9 w1 ⟨rfl,hB1⟩) | (go_at_call 197; refine (HT.o w1 hB1).mono ?_;rintro e9 w2 ⟨rfl,hO2,hu2⟩));go_ret;exact ⟨rfl,(OB.ofBelow hB1).trans (OB.ofOnly hO2),hu2⟩
theorem Qsd (n k T q:Nat) (hk:k<n) (hq:q<10000):(padL n (10000^(k+1)*T)).set k q=padL n (10000^k*(10000*T+q)):=by
 obtain ⟨r,rfl⟩:∃ r,n=k+(r+1):=⟨n-k-1,by omega⟩;have hp:0<10000^k:=Nat.pow_pos (by decide);have h1:=QbR k (r+1) 0 (10000*T) hp;have h2:=QbR k (r+1) 0 (10000*T+q) hp;rw [Nat.zero_add] at h1 h2;rw [show 10000^(k+1)*T=10000^k*(10000*T) by rw [Nat.pow_succ,Nat.mul_assoc],h1,h2];rw [padL,padL,show 10000*T % 10000=0 by omega,show 10000*T / 10000=T by omega,show (10000*T+q) % 10000=q by omega,show (10000*T+q) / 10000=T by omega];have hl:(padL k 0).length=k:=Qaq _ _;rw [List.set_append_right _ _ (by omega),hl,Nat.sub_self,List.set_cons_zero]
theorem QpD (x d k T V q:Nat) (hd:0<d) (hV:x=10000^(k+1)*(d*T)+V) (hq:q=V / 10000^k / d):10000^k*(d*q)≤V∧x=10000^k*(d*(10000*T+q))+(V-10000^k*(d*q))∧V-10000^k*(d*q)<10000^k*d:=by
 rw [Nat.div_div_eq_div_mul] at hq;have h1:=Nat.div_add_mod V (10000^k*d);have h2:=Nat.mod_lt V (show 0<10000^k*d from Nat.mul_pos (Nat.pow_pos (by decide)) hd);rw [←hq] at h1;have h3:10000^k*(d*q)=10000^k*d*q:=by rw [Nat.mul_assoc]
 refine ⟨by omega, ?_,by omega⟩;rw [Nat.pow_succ] at hV;have h4:10000^k*(d*(10000*T+q))=10000^k*10000*(d*T)+10000^k*(d*q):=by grind
 rw [h4,hV,h3];omega
theorem UR.setOther {w:World} {b g:Nat} {l:List Nat} (h:UR w b l) (hb:b≠g) (i:Nat) (v:Value):UR (w.setCell ⟨g,i,none⟩ v) b l:=by
 obtain ⟨X,h⟩:=h;exact ⟨X,RowAt.set_other h ⟨g,i,none⟩ hb v⟩

set_option maxRecDepth 100000 in
theorem Qgf (x d:Nat) (hd0:d≠0) (va vd:Value) (w:World) (hA:NA w va (natL x)) (hD:NA w vd (natL d)) (hl1:(natL x).length≤900) (hl3:(natL d).length≤900) :
  Calls Tryz.prog 154 #[va,vd] w fun e w'=>∃ v1 v2,e = .returned (.tuple #[v1,v2])∧NA w' v1 (natL (x / d))∧NA w' v2 (natL (x % d))∧Below w.heap.size w w':=by
 have hld:1≤(natL d).length:=by
  rcases Nat.eq_zero_or_pos (natL d).length with h | h
  ·exact absurd (QaF.1 h) hd0
  ·exact h
 have cS:=fun W (hW:Below w.heap.size w W)=>QcL (natL x) va 0 W (hA.below hW Lr) (by omega);obtain ⟨pa,ca,rfl,hA⟩:=hA.out;obtain ⟨pd,cd,rfl,hD⟩:=hD.out;obtain ⟨gd,od,hpd,hgd,_,_,_⟩:=hD.from hld;obtain ⟨n,hn⟩:∃ n,n=(natL x).length:=⟨_,rfl⟩;obtain ⟨nq,hnq⟩:∃ nq,nq=n+1-(natL d).length:=⟨_,rfl⟩;have hx:=QaI x;rw [←hn] at hx;have hge:=QdD d hd0
 have hxq:x<10000^nq*d:=by
  rcases Nat.lt_or_ge n (natL d).length with h | h
  ·have:x<d:=by
    have h5:10000^n≤10000^((natL d).length-1):=Nat.pow_le_pow_right (by decide) (by omega);omega
   have:1*d≤10000^nq*d:=Nat.mul_le_mul_right d (Nat.pow_pos (by decide));omega
  ·have h5:10000^nq*10000^((natL d).length-1)≤10000^nq*d:=Nat.mul_le_mul_left _ hge;rw [←Nat.pow_add,show nq+((natL d).length-1)=n by omega] at h5;omega
 have hdiv:x / d<10000^nq:=by rw [Nat.div_lt_iff_lt_mul (by omega)];exact hxq
 have hmod:x % d<10000^n:=Nat.lt_of_le_of_lt (Nat.mod_le _ _) hx;have hmax:max (((natL x).length:Int)-((natL d).length:Int)+1) 0=(nq:Int):=by omega
 have hmax2:(if ((natL x).length:Int)-((natL d).length:Int)+1<0 then (0:Int) else ((natL x).length:Int)-((natL d).length:Int)+1)=(nq:Int):=by split <;> omega
 have hnq2:nq≤901:=by omega
 have HN:Shut (n=(natL x).length∧nq+(natL d).length≤max (n+1) (natL d).length):=⟨by omega⟩;have HX:Shut (x<10000^n∧x<10000^nq*d∧x / d<10000^nq∧x % d<10000^n):=⟨hx,hxq,hdiv,hmod⟩;have HD:Shut _:=⟨And.intro hD (And.intro hpd hgd)⟩;have hn9:n≤900:=by omega
 clear hx hxq hdiv hmod hge hD hA hn hnq hpd hgd;go_enter Tryz.func154, Tryz.ntmps154;go_wp2_with (first | (at_make;refine QfD rfl _ _ rfl w.heap.size nq rfl rfl (by omega) Lr ?_;intro w1 hO1 hB1;obtain ⟨hg1,hu1, -,hc1,hm1⟩:=hO1.openS;rw [List.length_replicate] at hc1) | (go_at_call 195; refine (cS w1 hB1).mono ?_;rintro e w2 ⟨u2,rfl,hO2,hne2,hB2⟩;rw [List.replicate_zero,List.nil_append] at hO2;rcases hO2.open with ⟨h9,_⟩ | ⟨c2,g2,h9,hg2,hu2,hc2,hm2⟩;exact absurd h9 hne2;rw [←HN.o.1] at h9 hc2;subst h9));have hlt1:=hu1.lt
 have HS:Shut (UR w2 w.heap.size (padL nq (10000^nq*0))∧UR w2 g2 (padL n x)∧Below w.heap.size w w2∧x=10000^nq*(d*0)+x∧x<10000^nq*d):=⟨by
  refine ⟨?_, ?_,hB1.trans (hB2.mono hB1.size),by simp,HX.o.2.1⟩
  ·rw [Nat.mul_zero,QcM];exact hu1.below hB2 hlt1
  ·have h5:=Qdb (Qao x);rw [Qan,←HN.o.1] at h5;rw [h5];exact hu2⟩
 have hgne:g2≠w.heap.size:=by omega
 have hg2w:w.heap.size≤g2:=by omega
 clear hu1 hu2 hB1 hB2 hO1 hO2 hne2 cS
 go_loopw [8] (fun pv wr=>∃ k T V:Nat,k≤nq∧pv = .int .i64 ((k:Int)-1)∧Shut (UR wr w.heap.size (padL nq (10000^k*T))∧UR wr g2 (padL n V)∧Below w.heap.size w wr∧x=10000^k*(d*T)+V∧V<10000^k*d)) (fun pv _=>(intOf pv+1).toNat)
 case atStart=>exact ⟨nq,0,x,Nat.le_refl _,rfl,HS⟩
 case round =>
  obtain ⟨k,T,V,hk,rfl,hS⟩:=hrel;by_cases hk0:k=0
  ·subst hk0
   have hT:T=x / d∧V=x % d:=by
    have h1:=hS.o.2.2.2.1;have h2:=hS.o.2.2.2.2;rw [Nat.pow_zero,Nat.one_mul] at h1 h2;refine ⟨?_, ?_⟩
    ·rw [h1,Nat.mul_add_div (by omega),Nat.div_eq_of_lt h2,Nat.add_zero]
    ·rw [h1,Nat.mul_add_mod,Nat.mod_eq_of_lt h2]
   have hua:=hS.o.1;rw [Nat.pow_zero,Nat.one_mul,hT.1] at hua;have hub:=hS.o.2.1;rw [hT.2] at hub;have c1:=Qdr wr w.heap.size nq nq (x / d) _ hua (List.take_of_length_le (by rw [Qaq];exact Nat.le_refl _)) HX.o.2.2.1 Lr hm1 (by omega);have c2':=Qdr wr g2 c2 n (x % d) _ hub (List.take_of_length_le (by rw [Qaq];exact Nat.le_refl _)) HX.o.2.2.2 hc2 hm2 (by omega);clear hua hub hT;go_wp2_with (first | (go_at_call_of 191 (Value.slice (some ⟨w.heap.size,0,none⟩) nq nq);refine c1.mono ?_;rintro e w5 ⟨⟨v5,rfl,hv5⟩,rfl⟩) | (go_at_call_of 191 (Value.slice (some ⟨g2,0,none⟩) n c2);refine c2'.mono ?_;rintro e w6 ⟨⟨v6,rfl,hv6⟩,rfl⟩))
   go_ret2
   exact ⟨_,_,rfl,hv5,hv6,hS.o.2.2.1⟩
  ·obtain ⟨k,rfl⟩:∃ k',k=k'+1:=⟨k-1,by omega⟩;have hki:(((k+1:Nat):Int)-1)=(k:Int):=by omega
   rw [hki];have hst:=QpD x d k T V (V / 10000^k / d) (by omega) hS.o.2.2.2.1 rfl;have hVx:V<10000^n:=by have:=HX.o.1;have:=hS.o.2.2.2.1;omega
   have hq:V / 10000^k / d<10000:=by
    have h2:=hS.o.2.2.2.2;rw [Nat.div_lt_iff_lt_mul (by omega),Nat.div_lt_iff_lt_mul (Nat.pow_pos (by decide))];rw [Nat.pow_succ] at h2
    calc V<10000^k*10000*d:=h2
     _=10000*d*10000^k:=by rw [Nat.mul_assoc,Nat.mul_comm]
   have cr:=Qfc d hd0 pd cd g2 n c2 k V wr (HD.o.1.below hS.o.2.2.1 Lr) (fun a b hab=>by have h1:=HD.o.2.1;rw [hab] at h1;injection h1 with h1;injection h1 with h1;have:=HD.o.2.2;omega) hS.o.2.1 hVx hS.o.2.2.2.2 (by have:=HN.o.2;omega) (by omega) hl3 hc2 hm2;have HU:Shut (∀ W,OB g2 wr W→UR W w.heap.size (padL nq (10000^(k+1)*T))):=⟨fun W hW=>hS.o.1.ob hW (Ne.symm hgne)⟩;have HQ:Shut ((padL nq (10000^(k+1)*T)).set k (V / 10000^k / d)=padL nq (10000^k*(10000*T+V / 10000^k / d))):=⟨Qsd nq k T _ (by omega) hq⟩;have HST:Shut _:=⟨hst⟩;have HB:Shut _:=⟨hS.o.2.2.1⟩;generalize V / 10000^k / d=q at *
   generalize hV2:V-10000^k*(d*q)=V2 at *
   have hkn:k<(padL nq (10000^(k+1)*T)).length:=by rw [Qaq];omega
   have HKN:Shut _:=⟨hkn⟩;clear hS hst hVx hki hV2 hkn;go_wp2_with (go_at_call 196; refine cr.mono ?_;rintro e w5 ⟨rfl,hOB,hu5⟩;have hq5:=HU.o w5 hOB;have hc5:=hq5.u32 k HKN.o;have hf5:=hq5.frozen k);have hs5:=hq5.set32 k q HKN.o;rw [HQ.o] at hs5;exact ⟨⟨k,10000*T+q,V2,by omega,rfl,⟨hs5,hu5.setOther hgne k _,(HB.o.trans (hOB.below hg2w HB.o.size)).setCell (p:=⟨w.heap.size,k,none⟩) Lr _,HST.o.2.1,HST.o.2.2⟩⟩,by simp [intOf]⟩
end
end Go.Proofs.YtihlgifojjeoaaaGreatDoor
