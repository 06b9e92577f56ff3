import Derived.Test.YtadcmepaniiciaaGreatDoorZq
import Derived.Deep.DeepCutAuto
import Derived.Deep.RegionHeld3
import Derived.Deep.RegionHeld
set_option maxRecDepth 1000000
set_option maxHeartbeats 40000000
open Go.Value renaming string→J
open Go.Obj renaming cells→Jc
namespace Go.Proofs.YtadcmepaniiciaaGreatDoor
section
namespace En
open Go.RowKit Go.Extern.Stop Go.Stop Go.Extern
open Go.Proofs.YtadcmepaniiciaaGreatDoor.Nm Go.Proofs.YtadcmepaniiciaaGreatDoor.Rt
theorem BQ.mono {n d n' d':Nat} {q:Rat} (h:BQ n d q) (hn:n≤n') (hd:d≤d'):BQ n' d' q:=⟨Nat.le_trans h.num hn,Nat.le_trans h.den hd⟩
theorem BQ.mul {n1 d1 n2 d2:Nat} {p q:Rat} (hp:BQ n1 d1 p) (hq:BQ n2 d2 q):BQ (n1*n2) (d1*d2) (p*q):=by
 have e1:=p.den_pos;have e2:=q.den_pos;rw [Qrr p,Qrr q,Rat.divInt_mul_divInt];exact .of_div (Int.mul_ne_zero (by omega) (by omega)) (Qbu hp.num hq.num) (Qbu (Qcb hp) (Qcb hq))
theorem Ret.run {f:Nat} {args:Array Value} {v:Value} (h:Ret f args v) (W:World):Calls Tryz.prog f args W fun e W'=>e = .returned v∧Below W.heap.size W W':=h W
theorem Hu.alloc {w W:World} {Bx By:Nat} {X Y:Array Value} (h:Hu w W Bx By X Y) (o:Obj):Hu w (W.alloc o) Bx By X Y:=h.below ((Below.refl W.heap.size W).alloc Lr o)
theorem Qa0 {W:World} {b zb:Nat} {o:Obj} (h:W.heap[b]? = some o) (hn:b≠zb) (p q r s:Value):((((W.setCell ⟨zb,0,none⟩ p).setCell ⟨zb,1,none⟩ q).setCell ⟨zb,2,none⟩ r).setCell ⟨zb,3,none⟩ s).heap[b]? = some o:=(Below.heap_setCell _ _ _ _ hn).trans ((Below.heap_setCell _ _ _ _ hn).trans ((Below.heap_setCell _ _ _ _ hn).trans ((Below.heap_setCell _ _ _ _ hn).trans h)))
theorem Hu.set4 {w W:World} {Bx By:Nat} {X Y:Array Value} (h:Hu w W Bx By X Y) (zb:Nat) (h1:Bx<zb) (h2:By<zb) (h3:w.heap.size<zb) (p q r s:Value):Hu w ((((W.setCell ⟨zb,0,none⟩ p).setCell ⟨zb,1,none⟩ q).setCell ⟨zb,2,none⟩ r).setCell ⟨zb,3,none⟩ s) Bx By X Y :=
 have hb:∀ i,w.heap.size≤(⟨zb,i,none⟩:Addr).block:=fun _=>Nat.le_of_lt h3
 ⟨Qa0 h.x (Nat.ne_of_lt h1) p q r s,Qa0 h.y (Nat.ne_of_lt h2) p q r s,Qa0 h.r (Nat.ne_of_lt h3) p q r s,(((h.u.setCell (hb 0) _).setCell (hb 1) _).setCell (hb 2) _).setCell (hb 3) _⟩
end En
end
section
namespace Tw
open Go.Proofs.YtadcmepaniiciaaGreatDoor.Rt Go.Proofs.YtadcmepaniiciaaGreatDoor.En
theorem Qpk {K D:Nat} (hK:0<K) {rs:List (List Rat)} {d:List Rat} (h:RadT K D (d :: rs)) {L B:Nat} {x:List Rat} (hx:x.length=2^(rs.length+1)) (hL:0<L) (ax:AllL L B x)
  (h1:2*(gr K D (rs.length+1)*(B*B))*(L*L*K^ee (rs.length+1))<10^200) (h2:(L*L*K^ee (rs.length+1))*(L*L*K^ee (rs.length+1))<10^200) :
  ∃ z,nrmO rs d x=some z∧z.length=2^rs.length∧AllL (L*L*K^ee (rs.length+1)) (gr K D (rs.length+1)*(B*B)) z:=by
 obtain ⟨hd,ad,hrs⟩:=h;obtain ⟨xa,xb⟩:=Qdv hx;have ih:=fun {L M B C:Nat} {x y:List Rat}=>Qkd hK hrs (L:=L) (M:=M) (B:=B) (C:=C) (x:=x) (y:=y);rw [nrmO];simp only [ee,gr] at *
 generalize hk:rs.length=k at *
 generalize hE:K^ee k=E at *
 have e0:0<E:=by rw [←hE];exact Nat.pow_pos hK
 have eP:K^(ee k+(1+ee k))=E*(K*E):=by rw [Nat.pow_add,Nat.pow_add,Nat.pow_one,hE]
 rw [eP] at h1 h2 ⊢;generalize hG:gr K D k=G at *
 have hLM:=Nat.mul_pos hL hL;have hP:L*L*E*(K*E)=L*L*(E*(K*E)):=Nat.mul_assoc _ _ _;have p1:L*L*E≤L*L*(E*(K*E)):=by rw [←hP];exact Nat.le_mul_of_pos_right _ (Nat.mul_pos hK e0)
 have s1:G*(B*B)≤(2*(G*(K*E))+G*G*D)*(B*B):=by
  refine Nat.mul_le_mul_right _ ?_;have:G≤G*(K*E):=Nat.le_mul_of_pos_right _ (Nat.mul_pos hK e0);omega
 have s2:G*(G*(B*B)*D)=G*G*D*(B*B):=by
  simp only [Nat.mul_comm,Nat.mul_left_comm]
 have s3:G*(G*(B*B)*D)≤(2*(G*(K*E))+G*G*D)*(B*B):=by rw [s2];exact Nat.mul_le_mul_right _ (by omega)
 have t1:2*(G*(B*B))*(L*L*E)<10^200:=Nat.lt_of_le_of_lt (Nat.mul_le_mul (Nat.mul_le_mul_left _ s1) p1) h1;have t2:(L*L*E)*(L*L*E)<10^200:=Nat.lt_of_le_of_lt (Nat.mul_le_mul p1 p1) h2;obtain ⟨aa,e1,l1,a1⟩:=ih xa xa hL hL ax.hl ax.hl t1 t2;obtain ⟨bb,e2,l2,a2⟩:=ih xb xb hL hL ax.hr ax.hr t1 t2;have hP3:L*L*E*K*E=L*L*(E*(K*E)):=by simp only [Nat.mul_comm,Nat.mul_left_comm]
 obtain ⟨bbd,e3,l3,a3⟩:=ih l2 hd (Nat.mul_pos hLM e0) hK a2 ad
  (by rw [hP3];exact Nat.lt_of_le_of_lt (Nat.mul_le_mul_right _ (Nat.mul_le_mul_left _ s3)) h1) (by rw [hP3];exact h2)
 rw [hP3] at a3
 have a1':AllL (L*L*(E*(K*E))) (G*(B*B)*(K*E)) aa:=by
  have:=a1.lift (M:=K*E) (Nat.mul_pos hK e0)
  rwa [hP] at this
 have v1:G*(B*B)*(K*E)+G*(G*(B*B)*D)≤(2*(G*(K*E))+G*G*D)*(B*B):=by
  rw [s2,Nat.add_mul,show G*(B*B)*(K*E)=G*(K*E)*(B*B) by simp only [Nat.mul_comm,Nat.mul_left_comm],Nat.mul_assoc 2];omega
 obtain ⟨p,e4,l4,a4⟩:=Qig (by rw [l1,l3]) a1' a3 (Nat.lt_of_le_of_lt (Nat.mul_le_mul_right _ (Nat.le_trans v1 (by omega))) h1) h2;refine ⟨p, ?_,by rw [l4,l1],a4.mono v1⟩;rw [e1,Option.bind_some,e2,Option.bind_some,e3,Option.bind_some,e4]
theorem Qcq {K D:Nat} (hK:0<K):∀ {rs:List (List Rat)},RadT K D rs→∀ {L B:Nat} {x:List Rat},x.length=2^rs.length→0<L→AllL L B x→sfit K D rs.length L B=true→∃ s,Qaw rs x=some s
 | [],_,L,B,x,hx,hL,ax,hs=>⟨_,rfl⟩
 | d :: rs,h,L,B,x,hx,hL,ax,hs=>by
  rw [List.length_cons,sfit,Bool.and_eq_true,Bool.and_eq_true,Bool.and_eq_true] at hs;obtain ⟨h1,h2,h3,h4⟩:=hs;obtain ⟨xa,xb⟩:=Qdv hx;obtain ⟨s,e1⟩:=Qcq hK h.2.2 xa hL ax.hl h4;obtain ⟨t,e2⟩:=Qcq hK h.2.2 xb hL ax.hr h4;obtain ⟨n,e3,l3,a3⟩:=Qpk hK h hx hL ax (of_decide_eq_true h1) (of_decide_eq_true h2);obtain ⟨u,e4⟩:=Qcq hK h.2.2 l3 (Nat.mul_pos (Nat.mul_pos hL hL) (Nat.pow_pos hK)) a3 h3;rw [Qaw,e1,Option.bind_some,e2,Option.bind_some];split
  ·exact ⟨_,rfl⟩
  ·split
   ·exact ⟨_,rfl⟩
   ·rw [e3,Option.bind_some,e4];exact ⟨_,rfl⟩
end Tw
end
section
namespace Tw
open SR Go.Proofs.YtadcmepaniiciaaGreatDoor.Rt
structure Iota (rs:List (List Rat)) (S:SR) (R:List Rat→S.T→Prop) (i:Rat→S.T):Prop where
 emb:∀ q,∃ l,embO rs [q]=some l∧R l (i q)
 sgn:∀ q,S.sgn (i q)=sgR q
 add:∀ p q,i (p+q)=i p+i q
 mul:∀ p q,i (p*q)=i p*i q
 one:i 1=S.one
 zer:i 0=S.zer
theorem QqX {rs:List (List Rat)} {d x l:List Rat} (h:x.length≠2^(rs.length+1)) (e:embO rs x=some l):embO (d :: rs) x=some (l++zeros d.length):=by
 rw [embO,if_neg h,e];rfl
theorem IsT.iota {rs:List (List Rat)} {S:SR} {R:List Rat→S.T→Prop} (h:IsT rs S R):∃ i,Iota rs S R i:=by
 induction h with
 | nil=>exact ⟨fun q=>q,⟨fun q=>⟨[q],rfl,rfl⟩,fun q=>rfl,fun _ _=>rfl,fun _ _=>rfl,rfl,rfl⟩⟩
 | @cons rs S R d h δ hR hd ih =>
  obtain ⟨i,hi⟩:=ih;refine ⟨fun q=>(i q,S.zer),⟨fun q => ?_,fun q => ?_,fun p q => ?_,fun p q => ?_, ?_, ?_⟩⟩
  ·obtain ⟨l,hl,hr⟩:=hi.emb q;refine ⟨l++zeros d.length,QqX ?_ hl,_,_,rfl,hr,by rw [h.len hR];exact h.zero⟩;have:=Nat.two_pow_pos rs.length;rw [Nat.pow_succ];simp;omega
  ·show sg2 δ (i q,S.zer)=_;rw [sg2,if_pos SR.QdN];exact hi.sgn q
  ·refine Prod.ext (hi.add p q) ?_;exact (SR.Qbh S.zer).symm
  ·refine Prod.ext ?_ ?_
   ·show i (p*q)=i p*i q+S.zer*S.zer * δ;rw [SR.QcR,SR.QcR,SR.Qbh,hi.mul]
   ·show S.zer=i p*S.zer+S.zer*i q;rw [SR.Qdt,SR.QcR,SR.Qbh]
  ·exact Prod.ext hi.one rfl
  ·exact Prod.ext hi.zer rfl
theorem Iota.neg {rs:List (List Rat)} {S:SR} {R:List Rat→S.T→Prop} {i:Rat→S.T} (h:Iota rs S R i) (q:Rat):i (-q) = -(i q):=by
 refine (SR.Qdk ?_).symm;rw [←h.add,Rat.add_neg_cancel,h.zer]
theorem Iota.sub {rs:List (List Rat)} {S:SR} {R:List Rat→S.T→Prop} {i:Rat→S.T} (h:Iota rs S R i) (p q:Rat):i p + -(i q)=i (p-q):=by
 rw [←h.neg,←h.add,Rat.sub_eq_add_neg]
def Le {S:SR} (x y:S.T):Prop:=0≤S.sgn (y + -x)
theorem Le.refl {S:SR} (x:S.T):Le x x:=by rw [Le,SR.Qby,SR.QdN];decide
theorem Le.trans {S:SR} {x y z:S.T} (h:Le x y) (h':Le y z):Le x z:=by
 have:=SR.QfM (S:=S) h' h;rw [SR.grp1] at this;exact this
theorem Le.add {S:SR} {x y u v:S.T} (h:Le x y) (h':Le u v):Le (x+u) (y+v):=by
 have:=SR.QfM (S:=S) h h';rw [Le,SR.Qbz,show y+v+(-x + -u)=y + -x+(v + -u) by rw [SR.add_assoc,SR.add_assoc,SR.Qaz v]];exact this
theorem Le.mul {S:SR} {c x y:S.T} (hc:0≤S.sgn c) (h:Le x y):Le (c*x) (c*y):=by
 rw [Le,←SR.mul_neg,←SR.mul_add,SR.Qak];exact Int.mul_nonneg hc h
theorem Le.mul_neg {S:SR} {c x y:S.T} (hc:S.sgn c≤0) (h:Le x y):Le (c*y) (c*x):=by
 have h1:0≤S.sgn (-c):=by rw [SR.QaE];omega
 have:=Le.mul h1 h;rw [Le,SR.neg_mul,SR.neg_mul,SR.neg_neg] at this;rw [Le,SR.add_comm];exact this
structure InI {S:SR} (i:Rat→S.T) (x:S.T) (P:Rat×Rat):Prop where
 lo:Le (i P.1) x
 hi:Le x (i P.2)
section
variable {rs:List (List Rat)} {S:SR} {R:List Rat→S.T→Prop} {i:Rat→S.T}
theorem Qiv {q:Rat} (h:0≤q):0≤sgR q:=by
 rcases Qcn q with ⟨h1,_⟩ | ⟨_,h2⟩ | ⟨_,h2⟩
 ·exact absurd h1 (Rat.not_lt.2 h)
 ·rw [h2];decide
 ·rw [h2];decide
theorem QqZ {q:Rat} (h:0≤sgR q):0≤q:=by
 rcases Qcn q with ⟨_,h2⟩ | ⟨h1,_⟩ | ⟨h1,_⟩
 ·rw [h2] at h;exact absurd h (by decide)
 ·rw [h1];exact Rat.le_refl
 ·exact Rat.le_of_lt h1
theorem Iota.le (h:Iota rs S R i) {p q:Rat}:Le (i p) (i q)↔p≤q:=by
 rw [Le,h.sub,h.sgn];constructor
 ·intro k;have:=QqZ k
  grind
 ·intro k;exact Qiv (by grind)
theorem InI.mono (h:Iota rs S R i) {x:S.T} {P:Rat×Rat} (hx:InI i x P) {r s:Rat} (h1:r≤P.1) (h2:P.2≤s):InI i x (r,s):=⟨(h.le.2 h1).trans hx.lo,hx.hi.trans (h.le.2 h2)⟩
theorem InI.add (h:Iota rs S R i) {x y:S.T} {P Q:Rat×Rat} (hx:InI i x P) (hy:InI i y Q):InI i (x+y) (P.1+Q.1,P.2+Q.2):=⟨by rw [h.add];exact hx.lo.add hy.lo,by rw [h.add];exact hx.hi.add hy.hi⟩
theorem QrK (h:Iota rs S R i) {y:S.T} {Q:Rat×Rat} (hy:InI i y Q) {u lo:Rat} (h1:lo≤u*Q.1) (h2:lo≤u*Q.2):Le (i lo) (i u*y):=by
 rcases (by omega:0≤S.sgn (i u)∨S.sgn (i u)≤0) with k | k
 ·refine (h.le.2 h1).trans ?_;rw [h.mul];exact hy.lo.mul k
 ·refine (h.le.2 h2).trans ?_;rw [h.mul];exact hy.hi.mul_neg k
theorem QrL (h:Iota rs S R i) {y:S.T} {Q:Rat×Rat} (hy:InI i y Q) {u hi:Rat} (h1:u*Q.1≤hi) (h2:u*Q.2≤hi):Le (i u*y) (i hi):=by
 rcases (by omega:0≤S.sgn (i u)∨S.sgn (i u)≤0) with k | k
 ·refine Le.trans ?_ (h.le.2 h2);rw [h.mul];exact hy.hi.mul k
 ·refine Le.trans ?_ (h.le.2 h1);rw [h.mul];exact hy.lo.mul_neg k
theorem InI.mul (h:Iota rs S R i) {x y:S.T} {P Q:Rat×Rat} (hx:InI i x P) (hy:InI i y Q) {lo hi:Rat} (hall:∀ u v,(u=P.1∨u=P.2)→(v=Q.1∨v=Q.2)→lo≤u*v∧u*v≤hi):InI i (x*y) (lo,hi):=by
 have l1:=QrK h hy (hall P.1 Q.1 (.inl rfl) (.inl rfl)).1 (hall P.1 Q.2 (.inl rfl) (.inr rfl)).1;have l2:=QrK h hy (hall P.2 Q.1 (.inr rfl) (.inl rfl)).1 (hall P.2 Q.2 (.inr rfl) (.inr rfl)).1;have g1:=QrL h hy (hall P.1 Q.1 (.inl rfl) (.inl rfl)).2 (hall P.1 Q.2 (.inl rfl) (.inr rfl)).2;have g2:=QrL h hy (hall P.2 Q.1 (.inr rfl) (.inl rfl)).2 (hall P.2 Q.2 (.inr rfl) (.inr rfl)).2;rw [SR.mul_comm] at l1 l2 g1 g2;rcases (by omega:0≤S.sgn y∨S.sgn y≤0) with k | k
 ·exact ⟨by rw [SR.mul_comm];exact l1.trans (hx.lo.mul k),by rw [SR.mul_comm];exact (hx.hi.mul k).trans g2⟩
 ·exact ⟨by rw [SR.mul_comm];exact l2.trans (hx.hi.mul_neg k),by rw [SR.mul_comm];exact (hx.lo.mul_neg k).trans g1⟩
theorem InI.root (h:Iota rs S R i) {r δ:S.T} (e:r*r=δ) (hr:S.sgn r=1) {P:Rat×Rat} (hd:InI i δ P) {lo hi:Rat} (h0:0≤lo) (h1:lo*lo≤P.1) (k0:0≤hi) (k1:P.2≤hi*hi):InI i r (lo,hi):=by
 constructor
 ·have a:0≤S.sgn ((r+i lo)*(r + -(i lo))):=by
   rw [SR.Qif,e,←h.mul];exact (h.le.2 h1).trans hd.lo
  rw [SR.Qak,SR.Qbp hr (by rw [h.sgn];exact Qiv h0),Int.one_mul] at a;exact a
 ·have a:0≤S.sgn ((i hi+r)*(i hi + -r)):=by
   rw [SR.Qif,e,←h.mul];exact hd.hi.trans (h.le.2 k1)
  rw [SR.Qak,SR.add_comm (i hi),SR.Qbp hr (by rw [h.sgn];exact Qiv k0),Int.one_mul] at a;exact a
theorem InI.meet (h:Iota rs S R i) {x:S.T} {P Q:Rat×Rat} (hx:InI i x P) (hy:InI i x Q):P.1≤Q.2:=h.le.1 (hx.lo.trans hy.hi)
theorem InI.zero_lo (h:Iota rs S R i) {x:S.T} {P:Rat×Rat} (hx:InI i x P):P.1≤0∨S.sgn x=1:=by
 by_cases k:P.1≤0
 ·exact .inl k
 ·right;have k':0<P.1:=Rat.not_le.1 k;have:=SR.Qbp (S:=S) (x:=i P.1) (y:=x + -(i P.1)) (by rw [h.sgn];exact Qdu k') hx.lo;rw [SR.Qaz,SR.Qby,SR.Qbh] at this;exact this
theorem InI.zero_hi (h:Iota rs S R i) {x:S.T} {P:Rat×Rat} (hx:InI i x P):0≤P.2∨S.sgn x = -1:=by
 by_cases k:0≤P.2
 ·exact .inl k
 ·right;have k':P.2<0:=Rat.not_le.1 k;have:=SR.Qbp (S:=S) (x := -(i P.2)) (y:=i P.2 + -x) (by rw [SR.QaE,h.sgn,Qfm k'];rfl) hx.hi;rw [←SR.add_assoc,SR.Qct,SR.Qcy,SR.QaE] at this;omega
end
end Tw
end
section
namespace Tw
open SR Go.Proofs.YtadcmepaniiciaaGreatDoor.Nm Go.Proofs.YtadcmepaniiciaaGreatDoor.Rt En
theorem Iota.up {rs:List (List Rat)} {S:SR} {R:List Rat→S.T→Prop} (h:IsT rs S R) {d:List Rat} {δ:S.T} (hR:R d δ) (hd:S.sgn δ=1) {i:Rat→S.T} (hi:Iota rs S R i) :
  Iota (d :: rs) (ext S δ hd) (fun l x=>∃ a b,l=a++b∧R a x.1∧R b x.2) (fun q=>(i q,S.zer)):=by
 refine ⟨fun q => ?_,fun q => ?_,fun p q => ?_,fun p q => ?_, ?_, ?_⟩
 ·obtain ⟨l,hl,hr⟩:=hi.emb q;refine ⟨l++zeros d.length,QqX ?_ hl,_,_,rfl,hr,by rw [h.len hR];exact h.zero⟩;have:=Nat.two_pow_pos rs.length;rw [Nat.pow_succ];simp;omega
 ·show sg2 δ (i q,S.zer)=_;rw [sg2,if_pos SR.QdN];exact hi.sgn q
 ·refine Prod.ext (hi.add p q) ?_;exact (SR.Qbh S.zer).symm
 ·refine Prod.ext ?_ ?_
  ·show i (p*q)=i p*i q+S.zer*S.zer * δ;rw [SR.QcR,SR.QcR,SR.Qbh,hi.mul]
  ·show S.zer=i p*S.zer+S.zer*i q;rw [SR.Qdt,SR.QcR,SR.Qbh]
 ·exact Prod.ext hi.one rfl
 ·exact Prod.ext hi.zer rfl
theorem Le.up {S:SR} {δ:S.T} {hd:S.sgn δ=1} {x y:S.T} (h:Le x y):Le (S:=ext S δ hd) (x,S.zer) (y,S.zer):=by
 show 0≤sg2 δ (y + -x,S.zer + -S.zer);rw [SR.Qby,sg2,if_pos SR.QdN];exact h
theorem InI.up {S:SR} {δ:S.T} (hd:S.sgn δ=1) {i:Rat→S.T} {x:S.T} {P:Rat×Rat} (h:InI i x P):InI (S:=ext S δ hd) (fun q=>(i q,S.zer)) (x,S.zer) P:=⟨h.lo.up,h.hi.up⟩
def Qa1:Prop:=∀ (c:Nat) (P Q:Rat×Rat),OkI P→sqO c P=some Q→0≤Q.1∧Q.1*Q.1≤P.1∧0≤Q.2∧P.2≤Q.2*Q.2
theorem Qa2 {S:SR} {δ:S.T} (hd:S.sgn δ=1):(ext S δ hd).mul (S.zer,S.one) (S.zer,S.one)=(δ,S.zer)∧(ext S δ hd).sgn (S.zer,S.one)=1:=by
 constructor
 ·refine Prod.ext ?_ ?_
  ·show S.zer*S.zer+S.one*S.one * δ=δ;rw [SR.QcR,SR.Qcy,SR.one_mul,SR.one_mul]
  ·show S.zer*S.one+S.one*S.zer=S.zer;rw [SR.QcR,SR.Qdt,SR.Qbh]
 ·show sg2 δ (S.zer,S.one)=1;rw [sg2,if_neg (by rw [S.sgn_one];decide),if_pos (.inl SR.QdN),S.sgn_one]
theorem Qa3 (hsq:Qa1) {p:Nat} (hp:p≤30) {rs:List (List Rat)} {S:SR} {R:List Rat→S.T→Prop} (h:IsT rs S R):(∀ d∈rs,FitL d)→∃ i,Iota rs S R i∧∀ (x:List Rat) (ξ:S.T) (P:Rat×Rat),R x ξ→FitL x→encO rs p x=some P→InI i ξ P:=by
 induction h with
 | nil =>
  intro _;refine ⟨fun q=>q,⟨fun q=>⟨[q],rfl,rfl⟩,fun q=>rfl,fun _ _=>rfl,fun _ _=>rfl,rfl,rfl⟩, ?_⟩;rintro x ξ P hx _ h;replace hx:x = [ξ]:=hx;subst hx;replace h:some (([ξ]:List Rat).headD 0,([ξ]:List Rat).headD 0)=some P:=h;injection h with h;subst h;exact ⟨Le.refl (S:=ratS) ξ,Le.refl (S:=ratS) ξ⟩
 | @cons rs S R d h δ hR hd ih =>
  intro hr_;have h1:∀ d∈rs,FitL d:=fun y hy=>hr_ y (List.mem_cons_of_mem _ hy);obtain ⟨i,hi,ih⟩:=ih h1;have hi2:=Iota.up h hR hd hi;refine ⟨_,hi2, ?_⟩;rintro x ⟨α,β⟩ P ⟨a,b,rfl,ha,hb⟩ fx he;replace ha:R a α:=ha;replace hb:R b β:=hb;have hl_:=QaB (a:=a) (b:=b) (by rw [h.len ha,h.len hb]);rw [encO,hl_.1,hl_.2] at he;obtain ⟨D,eD,he⟩:=Option.bind_eq_some_iff.1 he;obtain ⟨s,es,he⟩:=Option.bind_eq_some_iff.1 he;obtain ⟨B,eb,he⟩:=Option.bind_eq_some_iff.1 he;obtain ⟨m,em,he⟩:=Option.bind_eq_some_iff.1 he;obtain ⟨A,ea,he⟩:=Option.bind_eq_some_iff.1 he;obtain ⟨t,et,he⟩:=Option.bind_eq_some_iff.1 he;have fa:FitL a:=fun q hq=>fx q (List.mem_append_left _ hq);have fb:FitL b:=fun q hq=>fx q (List.mem_append_right _ hq);have fd:=hr_ d List.mem_cons_self;have oD:=Qeu hp h1 fd eD;have os:=(QuO hp oD es).1;have ob:=Qeu hp h1 fb eb;have oa:=Qeu hp h1 fa ea;have om:=(QsY ⟨0,0,none⟩ ob.1 ob.2.1 os.1 os.2.1 ob.2.2 os.2.2).1;rw [em] at om;have mo:=QuQ om;have ao:=QuP oa mo.1 et;have ro:=QvR hp ao.1 he;have kD:=(ih d δ D hR fd eD).up hd;have kB:=(ih b β B hb fb eb).up hd;have kA:=(ih a α A ha fa ea).up hd;obtain ⟨q1,q2,q3,q4⟩:=hsq _ _ _ oD es;have rf:=Qa2 (S:=S) hd;have kr:=InI.root hi2 (r:=(S.zer,S.one)) (δ:=(δ,S.zer)) rf.1 rf.2 kD q1 q2 q3 q4;have km:=InI.mul hi2 kB kr mo.2;have ks:=InI.add hi2 kA km;have kf:=InI.mono hi2 ks (r:=P.1) (s:=P.2) (by rw [←show t.1=A.1+m.1 by rw [ao.2]];exact ro.2.1) (by rw [←show t.2=A.2+m.2 by rw [ao.2]];exact ro.2.2)
  have e:(ext S δ hd).add (α,S.zer) ((ext S δ hd).mul (β,S.zer) (S.zer,S.one))=(α,β):=by
   refine Prod.ext ?_ ?_
   ·show α+(β*S.zer+S.zer*S.one * δ)=α;rw [SR.Qdt,SR.QcR,SR.QcR,SR.Qbh,SR.Qbh]
   ·show S.zer+(β*S.one+S.zer*S.zer)=β;rw [SR.QcR,SR.Qbh,SR.Qcy,SR.mul_one]
  have kf2:InI (S:=ext S δ hd) (fun q=>(i q,S.zer)) ((ext S δ hd).add (α,S.zer) ((ext S δ hd).mul (β,S.zer) (S.zer,S.one))) (P.1,P.2):=kf;rw [e] at kf2;exact kf2
theorem Qa4 {n d m c:Int} (hd:0<d) (hc:0<c) (h:n*c≤m*d):Rat.divInt n d≤Rat.divInt m c:=by
 rcases Int.lt_or_eq_of_le h with h | h
 ·exact Rat.le_of_lt (En.QhE hd hc h)
 ·have e:=QkQ (n:=n) (m:=m) hd hc;rw [h,cmpZ,if_neg (Int.lt_irrefl _),if_pos rfl] at e;rcases Qcs (Rat.divInt n d) (Rat.divInt m c) with ⟨k,_⟩ | ⟨_,k⟩ | ⟨k,_⟩
  ·rw [e] at k;cases k
  ·rw [k];exact Rat.le_refl
  ·rw [e] at k;cases k
theorem Qa5 (r g:Int):Rat.divInt r g*Rat.divInt r g=Rat.divInt (r*r) (g*g):=Rat.divInt_mul_divInt r r
theorem Qa6 {r g:Int} (hr:0≤r) (hg:0<g):(0:Rat)≤Rat.divInt r g:=by
 have:=Qa4 (n:=0) (d:=1) (m:=r) (c:=g) (by decide) hg (by rw [Int.zero_mul,Int.mul_one];exact hr)
 rwa [Rat.zero_divInt] at this
theorem Qa7:Qa1:=by
 intro c P Q hP h;rw [sqO] at h;split at h
 ·cases h
 ·rename_i k;injection h with h;subst h;have np:0≤P.1.num:=Int.not_lt.1 fun q=>k (.inl (.inl q));have nq:0≤P.2.num:=Int.not_lt.1 fun q=>k (.inr (.inl q));have g0:(0:Int)<10^c:=Int.pow_pos (by decide);have gg:(0:Int)<10^c*10^c:=Int.mul_pos g0 g0;have d1:(0:Int)<P.1.den:=by have:=P.1.den_pos;omega
  have d2:(0:Int)<P.2.den:=by have:=P.2.den_pos;omega
  obtain ⟨a1,_⟩:=QoP np c;obtain ⟨b0,b1,_⟩:=Qtk nq c;refine ⟨Qa6 (by omega) g0, ?_,Qa6 b0 g0, ?_⟩
  ·rw [Qa5];have:=Qa4 (n:=(rtN P.1 c:Int)*(rtN P.1 c:Int)) (d:=10^c*10^c) (m:=P.1.num) (c:=(P.1.den:Int)) gg d1 (by rw [show P.1.num*(10^c*10^c)=xN P.1 c by rw [xN,Int.mul_assoc]];exact a1)
   rwa [Rat.num_divInt_den] at this
  ·rw [Qa5];have:=Qa4 (n:=P.2.num) (d:=(P.2.den:Int)) (m:=upN P.2 c*upN P.2 c) (c:=10^c*10^c) d2 gg (by rw [show P.2.num*(10^c*10^c)=xN P.2 c by rw [xN,Int.mul_assoc]];exact b1)
   rwa [Rat.num_divInt_den] at this
def Abs (M q:Rat):Prop := -M≤q∧q≤M
theorem Abs.add {M K p q:Rat} (h:Abs M p) (h':Abs K q):Abs (M+K) (p+q):=by
 obtain ⟨a,b⟩:=h;obtain ⟨c,d⟩:=h';exact ⟨by grind,by grind⟩
theorem Abs.mul {M K p q:Rat} (hM:0≤M) (hp:Abs M p) (h0:0≤q) (hq:q≤K):Abs (M*K) (p*q):=by
 have e1:=Rat.mul_le_mul_of_nonneg_right hp.2 h0;have e2:=Rat.mul_le_mul_of_nonneg_right hp.1 h0;have e3:=Rat.mul_le_mul_of_nonneg_left hq hM;rw [Rat.neg_mul] at e2;exact ⟨by grind,Rat.le_trans e1 e3⟩
theorem Qa8 (D:Rat) (k:Int):D+Rat.divInt k 1=Rat.divInt (D.num+k*D.den) D.den:=by
 conv=>lhs;lhs;rw [←Rat.num_divInt_den D]
 rw [Rat.divInt_add_divInt _ _ (QdJ D) (by decide),Int.mul_one,Int.mul_one]
theorem Qa9 {n d g u:Int} (h0:0≤n) (dd:0<d) (g0:0<g) (u0:0≤u) (hu:u=0∨(u-1)*(u-1)*d<n*g*g):u*d≤(n+2*d)*g:=by
 rcases hu with rfl | hu
 ·rw [Int.zero_mul];exact Int.mul_nonneg (by omega) (by omega)
 ·refine Decidable.byContradiction fun hc => ?_;have hc:=Int.not_le.1 hc;have ng:=Int.mul_nonneg h0 (Int.le_of_lt g0)
  have h1:2*g<u:=Decidable.byContradiction fun k=>by
   have:=Int.mul_le_mul_of_nonneg_right (Int.not_lt.1 k) (Int.le_of_lt dd)
   grind
  have h2:0≤(u-1-g)*((u-1)*d):=Int.mul_nonneg (by omega) (Int.mul_nonneg (by omega) (by omega));have h3:0<g*(u*d-(n+2*d)*g):=Int.mul_pos g0 (by omega);have h4:0≤d*g*(2*g-1):=Int.mul_nonneg (Int.mul_nonneg (by omega) (by omega)) (by omega)
  grind
theorem Qb0 {D:Rat} (h0:0≤D.num) (c:Nat):Rat.divInt (upN D c) (10^c)≤D+2:=by
 obtain ⟨u0,_,hu⟩:=Qtk h0 c;rw [show (2:Rat)=Rat.divInt 2 1 by decide +kernel,Qa8];exact Qfn (Int.pow_pos (by decide)) (Qdw D) (Qa9 h0 (Qdw D) (Int.pow_pos (by decide)) u0 hu)
theorem Qb1 {p r:Rat} {c:Nat} (h:QjP p c=some r):p≤r+1:=by
 rw [QjP] at h;split at h
 ·injection h with h;subst h;have g0:(0:Int)<10^c:=Int.pow_pos (by decide);rw [show (1:Rat)=Rat.divInt 1 1 by decide +kernel,Rat.divInt_add_divInt _ _ (Qrk c) (by decide)]
  conv=>lhs;rw [←Rat.num_divInt_den p]
  refine Qfn (Qdw p) (by omega) ?_;have h1:=Int.mul_ediv_add_emod (p.num*10^c) (p.den:Int);have h2:=Int.emod_lt_of_pos (p.num*10^c) (Qdw p);have dd:=Qdw p;generalize p.num*10^c / (p.den:Int)=k at *
  generalize p.num*10^c % (p.den:Int)=e at *
  generalize (10:Int)^c=g at *
  have h3:0≤(p.den:Int)*(g-1):=Int.mul_nonneg (by omega) (by omega)
  grind
 ·cases h
theorem Qb2 {p r:Rat} {c:Nat} (h:upQ p c=some r):r≤p+1:=by
 rw [upQ] at h;split at h
 ·injection h with h;subst h;have g0:(0:Int)<10^c:=Int.pow_pos (by decide);rw [show (1:Rat)=Rat.divInt 1 1 by decide +kernel,Qa8];refine Qfn g0 (Qdw p) ?_;have h1:=Int.mul_ediv_add_emod (p.num*10^c) (p.den:Int);have h2:=Int.emod_nonneg (p.num*10^c) (QdJ p);have dd:=Qdw p;have hu:upI (p.num*10^c) p.den≤p.num*10^c / (p.den:Int)+1:=by rw [upI];split <;> omega
  have hu2:=Int.mul_le_mul_of_nonneg_right hu (Int.le_of_lt dd);generalize upI (p.num*10^c) p.den=v at *
  generalize p.num*10^c / (p.den:Int)=k at *
  generalize p.num*10^c % (p.den:Int)=e at *
  generalize (10:Int)^c=g at *
  have h3:0≤(p.den:Int)*(g-1):=Int.mul_nonneg (by omega) (by omega)
  grind
 ·cases h
def bd:Nat→Rat→Rat
 | 0,C=>C
 | k+1,C=>bd k C+bd k C*(bd k 7+2)+1
theorem Qb3:∀ (k:Nat) {C:Rat},0≤C→0≤bd k C
 | 0,_,h=>h
 | k+1,C,h=>by
  have a:=Qb3 k h;have b:=Qb3 k (C:=7) (by decide +kernel);have c:=Rat.mul_nonneg a (show (0:Rat)≤bd k 7+2 by grind);show 0≤bd k C+bd k C*(bd k 7+2)+1
  grind
theorem Qb4 {c:Nat} (hc:c≤30) {M:Rat} {P Q:Rat×Rat} (hP:OkI P) (h:rdO c P=some Q) (h1:Abs M P.1) (h2:Abs M P.2):Abs (M+1) Q.1∧Abs (M+1) Q.2:=by
 have k:=QvR hc hP h;rw [rdO,Qjc] at h;obtain ⟨r,e1,h⟩:=Option.bind_eq_some_iff.1 h;obtain ⟨s,e2,h⟩:=Option.bind_eq_some_iff.1 h;injection h with h;subst h;have a:=Qb1 e1;have b:=Qb2 e2;have c1:=k.2.1;have c2:=k.2.2;have o:=hP.2.2;obtain ⟨m1,m2⟩:=h1;obtain ⟨m3,m4⟩:=h2;exact ⟨⟨by grind,by grind⟩,by grind,by grind⟩
theorem Qb5 {p:Nat} (hp:p≤30):∀ {rs:List (List Rat)},(∀ d∈rs,FitL d)→(∀ d∈rs,∀ q∈d,Abs 7 q)→∀ {x:List Rat} {P:Rat×Rat} {C:Rat},0≤C→FitL x→(∀ q∈x,Abs C q)→encO rs p x=some P→Abs (bd rs.length C) P.1∧Abs (bd rs.length C) P.2
 | [],_,_,x,P,C,hC,fx,hx,h=>by
  rw [encO] at h;injection h with h;subst h
  have:Abs C (x.headD 0):=by
   cases x with
   | nil=>exact ⟨by show -C≤0;grind,hC⟩
   | cons a l=>exact hx a List.mem_cons_self
  exact ⟨this,this⟩
 | d :: rs,hr_,hD,x,P,C,hC,fx,hx,h=>by
  rw [encO] at h;have h1:∀ d∈rs,FitL d:=fun y hy=>hr_ y (List.mem_cons_of_mem _ hy);have h2:∀ d∈rs,∀ q∈d,Abs 7 q:=fun y hy=>hD y (List.mem_cons_of_mem _ hy);obtain ⟨D,eD,h⟩:=Option.bind_eq_some_iff.1 h;obtain ⟨s,es,h⟩:=Option.bind_eq_some_iff.1 h;obtain ⟨b,eb,h⟩:=Option.bind_eq_some_iff.1 h;obtain ⟨m,em,h⟩:=Option.bind_eq_some_iff.1 h;obtain ⟨a,ea,h⟩:=Option.bind_eq_some_iff.1 h;obtain ⟨t,et,h⟩:=Option.bind_eq_some_iff.1 h;have fb:FitL (hr x):=fun q hq=>fx q (List.mem_of_mem_drop hq);have fa:FitL (hl x):=fun q hq=>fx q (List.mem_of_mem_take hq);have oD:=Qeu hp h1 (hr_ d List.mem_cons_self) eD;have os:=QuO hp oD es;have ob:=Qeu hp h1 fb eb;have oa:=Qeu hp h1 fa ea;have om:=(QsY ⟨0,0,none⟩ ob.1 ob.2.1 os.1.1 os.1.2.1 ob.2.2 os.1.2.2).1;rw [em] at om;have ot:=QuP oa (QuQ om).1 et;have nn:=Qb3 rs.length hC;have n7:=Qb3 rs.length (C:=7) (by decide +kernel);have iD:=Qb5 hp h1 h2 (C:=7) (by decide +kernel) (hr_ d List.mem_cons_self) (hD d List.mem_cons_self) eD;have ib:=Qb5 hp h1 h2 hC fb (fun q hq=>hx q (List.mem_of_mem_drop hq)) eb;have ia:=Qb5 hp h1 h2 hC fa (fun q hq=>hx q (List.mem_of_mem_take hq)) ea;obtain ⟨q1,_,q3,_⟩:=Qa7 _ _ _ oD es
  have s2:s.2≤bd rs.length 7+2:=by
   have e:s.2=Rat.divInt (upN D.2 p) (10^p):=by
    rw [sqO] at es;split at es
    ·cases es
    ·injection es with es;rw [←es]
   rw [e];have:=Qb0 os.2.2 p;have:=iD.2.2
   grind
  have s1:s.1≤bd rs.length 7+2:=Rat.le_trans os.1.2.2 s2
  have prod:∀ {u v r:Rat},(u=b.1∨u=b.2)→(v=s.1∨v=s.2)→mulQ u v=some r→Abs (bd rs.length C*(bd rs.length 7+2)) r:=fun hu hv e=>by
   rw [QjX e];rcases hu with rfl | rfl <;> rcases hv with rfl | rfl
   ·exact Abs.mul nn ib.1 q1 s1
   ·exact Abs.mul nn ib.1 q3 s2
   ·exact Abs.mul nn ib.2 q1 s1
   ·exact Abs.mul nn ib.2 q3 s2
  have im:Abs (bd rs.length C*(bd rs.length 7+2)) m.1∧Abs (bd rs.length C*(bd rs.length 7+2)) m.2:=by
   rcases om with ⟨_,k⟩ | ⟨x,y,x',y',lo,hi,hx,hy,hx',hy',e1,e2,_,k⟩
   ·cases k
   ·injection k with k;subst k;exact ⟨prod hx hy e1,prod hx' hy' e2⟩
  have it:Abs (bd rs.length C+bd rs.length C*(bd rs.length 7+2)) t.1∧Abs (bd rs.length C+bd rs.length C*(bd rs.length 7+2)) t.2:=by
   rw [ot.2];exact ⟨ia.1.add im.1,ia.2.add im.2⟩
  exact Qb4 hp ot.1 h it.1 it.2
theorem Qb6 {n d:Nat} {q:Rat} (h:BQ n d q) {c:Nat} (hc:c≤30) (hn:n*10^30<10^200):∃ r,QjP q c=some r∧BQ (n*10^30) (10^30) r:=by
 have hx:=Qbu h.num (QgC c hc).1;exact ⟨_,by rw [QjP,if_pos (QbP hx hn)],.of_div (Qrk c) (Nat.le_trans (Int.natAbs_ediv_le_natAbs _ _) hx) (QgC c hc).1⟩
theorem Qb7 (x y:Int) (hy:0<y):upI x y = -((-x) / y):=by
 have e:=Int.mul_ediv_add_emod x y;have l1:=Int.emod_nonneg x (show y≠0 by omega);have l2:=Int.emod_lt_of_pos x hy;rw [upI];generalize x / y=m at *
 generalize x % y=s at *
 by_cases h:s=0
 ·rw [if_pos h];have : -x=y*(-m):=by rw [Int.mul_neg];omega
  rw [this,Int.mul_ediv_cancel_left _ (by omega)];omega
 ·rw [if_neg h];have hu:(-x) / y = -m-1∧(-x) % y=y-s:=(Int.ediv_emod_unique hy).2 ⟨by rw [Int.mul_sub,Int.mul_neg];omega,by omega,by omega⟩;rw [hu.1];omega
theorem Qb8 (x y:Int) (hy:0<y):(upI x y).natAbs≤x.natAbs:=by
 rw [Qb7 x y hy,Int.natAbs_neg];exact Nat.le_trans (Int.natAbs_ediv_le_natAbs _ _) (by rw [Int.natAbs_neg];exact Nat.le_refl _)
theorem Qb9 {n d:Nat} {q:Rat} (h:BQ n d q) {c:Nat} (hc:c≤30) (hn:n*10^30<10^200):∃ r,upQ q c=some r∧BQ (n*10^30) (10^30) r:=by
 have hx:=Qbu h.num (QgC c hc).1;have hu:=Nat.le_trans (Qb8 _ _ (Qdw q)) hx;exact ⟨_,by rw [upQ,if_pos ⟨QbP hx hn,QbP hu hn⟩],.of_div (Qrk c) hu (QgC c hc).1⟩
theorem Qc0 {n d:Nat} {P:Rat×Rat} (h1:BQ n d P.1) (h2:BQ n d P.2) {c:Nat} (hc:c≤30) (hn:n*10^30<10^200):∃ Q,rdO c P=some Q∧BQ (n*10^30) (10^30) Q.1∧BQ (n*10^30) (10^30) Q.2:=by
 obtain ⟨r,e1,b1⟩:=Qb6 h1 hc hn;obtain ⟨s,e2,b2⟩:=Qb9 h2 hc hn;exact ⟨(r,s),by rw [rdO,Qjc,e1,e2];rfl,b1,b2⟩
theorem Qc1 {k x d:Int} (h0:0≤k) (hd:0<d) (h:k*k*d≤x):k≤x:=by
 rcases (by omega:k=0∨1≤k) with rfl | h1
 ·rw [Int.zero_mul,Int.zero_mul] at h;exact h
 ·have a:=Int.mul_le_mul_of_nonneg_left h1 h0;have b:=Int.mul_le_mul_of_nonneg_left (show 1≤d by omega) (Int.mul_nonneg h0 h0);omega
theorem Qc3 {q:Rat} (hq:BQ 7 1 q) (h0:0≤q.num) {c:Nat} (hc:c≤30):∃ Q,sqO c (q,q)=some Q∧BQ (10^62) (10^30) Q.1∧BQ (10^62) (10^30) Q.2:=by
 have hg:=QgC c hc
 have hx:(xN q c).natAbs≤7*10^30*10^30:=by
  rw [xN];exact Qbu (Qbu hq.num hg.1) hg.1
 have f:Fits (xN q c):=QbP hx (by decide +kernel);have no:¬ NoRt q c:=fun h=>h.elim (fun k=>by omega) (fun k=>k f);have hx0:=QoO h0 c;have h62:7*10^30*10^30+1≤10^62:=by decide +kernel
 have b1:(rtN q c:Int)≤xN q c:=Qc1 (by omega) (Qdw q) (QoP h0 c).1;obtain ⟨u0,_,hu⟩:=Qtk h0 c
 have b2:upN q c≤xN q c+1:=by
  rcases hu with hu | hu
  ·omega
  ·by_cases k:1≤upN q c
   ·have:=Qc1 (by omega) (Qdw q) (Int.le_of_lt hu);omega
   ·omega
 refine ⟨_,by rw [sqO,if_neg (fun h=>h.elim no no)],.of_div (Qrk c) ?_ hg.1,.of_div (Qrk c) ?_ hg.1⟩
 ·show (((rtN q c:Nat):Int)).natAbs≤10^62;omega
 ·show (upN q c).natAbs≤10^62;omega
theorem Qc5 {n d m e:Nat} {P Q:Rat×Rat} (oP:OkI P) (oQ:OkI Q) (p1:BQ n d P.1) (p2:BQ n d P.2) (q1:BQ m e Q.1) (q2:BQ m e Q.2) (h1:n*m<10^200) (h2:d*e<10^200):∃ T,muO P Q=some T∧OkI T∧BQ (n*m) (d*e) T.1∧BQ (n*m) (d*e) T.2:=by
 have om:=(QsY ⟨0,0,none⟩ oP.1 oP.2.1 oQ.1 oQ.2.1 oP.2.2 oQ.2.2).1
 have hb:∀ {u v:Rat},(u=P.1∨u=P.2)→(v=Q.1∨v=Q.2)→mulQ u v=some (u*v)∧BQ (n*m) (d*e) (u*v):=fun hu hv=>by
  rcases hu with rfl | rfl <;> rcases hv with rfl | rfl
  ·exact ⟨QuA p1 q1 h1 h2,p1.mul q1⟩
  ·exact ⟨QuA p1 q2 h1 h2,p1.mul q2⟩
  ·exact ⟨QuA p2 q1 h1 h2,p2.mul q1⟩
  ·exact ⟨QuA p2 q2 h1 h2,p2.mul q2⟩
 rcases om with ⟨⟨u,v,hu,hv,e⟩,_⟩ | ⟨x,y,x',y',lo,hi,hx,hy,hx',hy',e1,e2,hall,k⟩
 ·rw [(hb hu hv).1] at e;cases e
 ·have e3:=QjX e1;have e4:=QjX e2;have ok:=(QuQ (P:=P) (Q:=Q) (T:=(lo,hi)) (.inr ⟨x,y,x',y',lo,hi,hx,hy,hx',hy',e1,e2,hall,rfl⟩)).1;refine ⟨(lo,hi),k,ok, ?_, ?_⟩
  ·rw [show (lo,hi).1=lo from rfl,e3];exact (hb hx hy).2
  ·rw [show (lo,hi).2=hi from rfl,e4];exact (hb hx' hy').2
theorem Qc6 {q:Rat} {S:SR} {R:List Rat→S.T→Prop} (h:IsT [[q]] S R):0≤q.num:=by
 generalize e : [[q]]=rs at h;cases h with
 | nil=>cases e
 | cons h δ hR hd =>
  injection e with e1 e2;subst e1 e2;cases h with
  | nil =>
   replace hR : [q] = [δ]:=hR;injection hR with hR;subst hR;exact Rat.num_nonneg.2 (QqZ (by rw [show sgR q=1 from hd];decide))
theorem Qc7 {rs:List (List Rat)} {S:SR} {R:List Rat→S.T→Prop} (hT:IsT rs S R) (hR:RadT 1 7 rs) (h1:rs.length≤1) {x:List Rat} (hx:∀ q∈x,BQ 60 6 q) {p:Nat} (hp:p≤30) :
  ∃ P,encO rs p x=some P∧BQ (10^100) (10^30) P.1∧BQ (10^100) (10^30) P.2:=by
 have z0:BQ 60 6 0:=⟨by decide,by decide⟩
 have hd0:∀ {l:List Rat},(∀ q∈l,BQ 60 6 q)→BQ 60 6 (l.headD 0):=fun {l} hl=>by
  cases l with
  | nil=>exact z0
  | cons a l=>exact hl a List.mem_cons_self
 match rs,hR,h1,hT with
 | [],_,_,_=>exact ⟨_,rfl,(hd0 hx).mono (by decide +kernel) (by decide +kernel),(hd0 hx).mono (by decide +kernel) (by decide +kernel)⟩
 | [d],hR,_,hT =>
  obtain ⟨q,rfl⟩:∃ q,d = [q]:=by
   match d,hR.1 with
   | [q],_=>exact ⟨q,rfl⟩
  have hq:BQ 7 1 q:=(hR.2.1 q List.mem_cons_self).bq;have fq:FitQ q:=hq.fit (by decide +kernel) (by decide +kernel);obtain ⟨s,es,s1,s2⟩:=Qc3 hq (Qc6 hT) hp;have oD:OkI (q,q):=⟨fq,fq,Rat.le_refl⟩;have os:=(QuO hp oD es).1;have xb:=hd0 (l:=hr x) (fun q hq=>hx q (List.mem_of_mem_drop hq));have xa:=hd0 (l:=hl x) (fun q hq=>hx q (List.mem_of_mem_take hq));have fb:=xb.fit (by decide +kernel) (by decide +kernel);have fa:=xa.fit (by decide +kernel) (by decide +kernel);obtain ⟨m,em,om,m1,m2⟩:=Qc5 (P:=((hr x).headD 0,(hr x).headD 0)) ⟨fb,fb,Rat.le_refl⟩ os xb xb s1 s2 (by decide +kernel) (by decide +kernel);have t1:=Quy xa m1 (by decide +kernel) (by decide +kernel);have t2:=Quy xa m2 (by decide +kernel) (by decide +kernel);obtain ⟨P,eP,b1,b2⟩:=Qc0 (P:=((hl x).headD 0+m.1,(hl x).headD 0+m.2)) (xa.add m1) (xa.add m2) hp (by decide +kernel);refine ⟨P, ?_,b1.mono (by decide +kernel) (by decide +kernel),b2.mono (by decide +kernel) (by decide +kernel)⟩;show (sqO p (q,q)).bind _=_;rw [es,Option.bind_some];show (muO ((hr x).headD 0,(hr x).headD 0) s).bind _=_;rw [em,Option.bind_some];show (adO ((hl x).headD 0,(hl x).headD 0) m).bind _=_;rw [adO,Qjc,t1,t2];exact eP
theorem Qc8 {rs:List (List Rat)} {S:SR} {R:List Rat→S.T→Prop} (hT:IsT rs S R) (hR:RadT 1 7 rs) (h1:rs.length≤1) {x:List Rat} (lx:x.length=2^rs.length) (hx:∀ q∈x,BQ 60 6 q) {k:Nat} (hk:k≤20):QdO rs x k≠none:=by
 obtain ⟨P,e,b1,b2⟩:=Qc7 hT hR h1 hx (p:=k+10) (by omega);obtain ⟨Q,eQ,_⟩:=Qc0 b1 b2 (c:=k) (by omega) (by decide +kernel);rw [QdO,if_pos (by omega),Int.toNat_natCast,chk,if_pos lx,e,Option.bind_some,eQ];exact fun h=>by cases h
theorem Qc9 {N d:Nat} {q:Rat} (h:Abs (N:Rat) q) (hd:q.den≤d):BQ (N*d) d q:=by
 obtain ⟨h1,h2⟩:=h;rw [Rat.le_iff,Rat.neg_num,Rat.neg_den,Rat.num_natCast,Rat.den_natCast,Int.natCast_one,Int.mul_one] at h1;rw [Rat.le_iff,Rat.num_natCast,Rat.den_natCast,Int.natCast_one,Int.mul_one] at h2;have h3:N*q.den≤N*d:=Nat.mul_le_mul_left _ hd;have h4:(N:Int)*(q.den:Int)=((N*q.den:Nat):Int):=(Int.natCast_mul _ _).symm;rw [Int.neg_mul,h4] at h1;rw [h4] at h2;exact ⟨by omega,hd⟩
theorem Lat.abs {B:Nat} {q:Rat} {L:Nat} (h:Lat L B q):Abs (B:Rat) q:=by
 obtain ⟨hL,n,rfl,hn⟩:=h;have e:(B:Rat)=Rat.divInt B 1:=by rw [←Rat.num_divInt_den (B:Rat),Rat.num_natCast,Rat.den_natCast];rfl
 have f : -(B:Rat)=Rat.divInt (-(B:Int)) 1:=by rw [e,←Rat.neg_divInt]
 have k:(B:Int)≤(B:Int)*(L:Int):=by
  rw [←Int.natCast_mul];exact Int.ofNat_le.2 (Nat.le_mul_of_pos_right _ hL)
 constructor
 ·rw [f];refine Qfn (by decide) (by omega) ?_;rw [Int.neg_mul];omega
 ·rw [e];exact Qfn (by omega) (by decide) (by omega)
theorem Qd0 {c:Nat} (hc:c≤30) {P Q:Rat×Rat} (h:rdO c P=some Q):Q.1.den≤10^30∧Q.2.den≤10^30:=by
 rw [rdO,Qjc] at h;obtain ⟨r,e1,h⟩:=Option.bind_eq_some_iff.1 h;obtain ⟨s,e2,h⟩:=Option.bind_eq_some_iff.1 h;injection h with h;subst h;have hg:=(QgC c hc).1;rw [QjP] at e1;rw [upQ] at e2;split at e1
 ·split at e2
  ·injection e1 with e1;injection e2 with e2;subst e1 e2;exact ⟨Nat.le_trans (Qok (Qrk c)).2 hg,Nat.le_trans (Qok (Qrk c)).2 hg⟩
  ·cases e2
 ·cases e1
theorem Qd1 {rs:List (List Rat)} {S:SR} {R:List Rat→S.T→Prop} (h:IsT rs S R) (hf:∀ d∈rs,FitL d):∃ i,Iota rs S R i∧∀ (k:Nat),k≤20→∀ (x:List Rat) (ξ:S.T) (P:Rat×Rat),R x ξ→FitL x→QdO rs x (k:Int)=some P→OkI P∧InI i ξ P:=by
 obtain ⟨i,hi⟩:=h.iota;refine ⟨i,hi,fun k hk x ξ P hx fx e => ?_⟩;rw [QdO,if_pos (by omega),Int.toNat_natCast,chk,if_pos (h.len hx)] at e;obtain ⟨Q,e1,e2⟩:=Option.bind_eq_some_iff.1 e;have oQ:=Qeu (by omega) hf fx e1;have r:=QvR (by omega) oQ e2;obtain ⟨j,hj,hin⟩:=Qa3 Qa7 (p:=k+10) (by omega) h hf;have q:=hin x ξ Q hx fx e1
 have same:∀ u,j u=i u:=fun u=>by
  obtain ⟨l,hl,hr⟩:=hj.emb u;obtain ⟨m,hm,hs⟩:=hi.emb u;rw [hl] at hm;injection hm with hm;subst hm;exact h.uni hr hs
 have e:j=i:=funext same;subst e;exact ⟨r.1,InI.mono hj q r.2.1 r.2.2⟩
structure Qd2 (X Y Z V:Rat×Rat) (s:Int):Prop where
 x:OkI X
 y:OkI Y
 z:OkI Z
 v:OkI V
 b:adO X Y=some (X.1+Y.1,X.2+Y.2)
 ob:OkI (X.1+Y.1,X.2+Y.2)
 m1:X.1+Y.1≤V.2
 m2:V.1≤X.2+Y.2
 m3:X.1≤Z.2
 m4:Z.1≤X.2
 lo:X.1≤0∨s=1
 hi:0≤X.2∨s = -1
structure Qd3 (L:List (List Rat)) (a b sum:List Rat) (O1 O2 O3 O4:Option (Rat×Rat)) (s:Int) (j1 j2:Nat):Prop where
 t:FitT L
 n:L.length≤1000
 e1:ovr L (fun rs=>QdO rs a (j1:Int))=O1
 e2:ovr L (fun rs=>QdO rs b (j1:Int))=O2
 e3:ovr L (fun rs=>QdO rs a ((j1:Int)+(j2:Int)))=O3
 e4:ovr L (fun rs=>chk2 rs a b (Qaj addQ a b))=some sum
 e5:ovr L (fun rs=>QdO rs sum (j1:Int))=O4
 e6:ovr L (fun rs=>chk rs a (Qaw rs a))=some s
 ga:Fs a
 gb:Fs b
 gsum:Fs sum
 ws:s = -1∨s=0∨s=1
 lev:(O1=none∨O2=none∨O3=none∨O4=none)→1<L.length
 fin:∀ X Y Z V,O1=some X→O2=some Y→O3=some Z→O4=some V→Qd2 X Y Z V s
theorem bd3 {k:Nat} (h:k<4):bd k 30+1≤((10^20:Nat):Rat):=by
 rcases (by omega:k=0∨k=1∨k=2∨k=3) with rfl | rfl | rfl | rfl <;> decide +kernel
theorem Qd4 {L:List (List Rat)} {k:Nat} (hM:MadeT L k) (hk:k<4) {a b:List Rat} (la:a.length=2^L.length) (lb:b.length=2^L.length) (aa:AllL 6 30 a) (ab_:AllL 6 30 b) (n m:Nat) (hn:n≤8) (hm:m≤8) :
  ∃ sum O1 O2 O3 O4 s,Qd3 L a b sum O1 O2 O3 O4 s n m:=by
 obtain ⟨rs,S,R,hF,hT,hR,hrk,h0⟩:=Qjz hM;have hLk:=hM.len;rw [hM.len,←hrk] at la lb;have bs:=QoT rs.length (by omega);simp only [Bool.and_eq_true,decide_eq_true_iff] at bs;obtain ⟨b1,b2,b3,b4,b5,b6,c1,c2,c3,_⟩:=bs;have hp:=QbG (show rs.length≤4 by omega);have h4:rs.length≤4:=by omega
 have hrev:=Qcc hF;rw [List.append_nil] at hrev;have hfit:∀ d∈rs,FitL d:=fun d hd=>(hM.fit d (List.mem_reverse.1 (hrev▸hd))).1;have h7:∀ d∈rs,∀ q∈d,Abs 7 q:=fun d hd q hq=>(hM.lat d (List.mem_reverse.1 (hrev▸hd)) q hq).abs;obtain ⟨sum,e2,l2,a2⟩:=Qim la lb aa ab_ (by decide +kernel);obtain ⟨s,s1⟩:=Qcq (by decide) hR la (by decide) aa c1;have ga:=Fs.el aa la h4;have gb:=Fs.el ab_ lb h4;have gs:Fs sum:=.add e2 (by omega);have ex1:=fun (h1:rs.length≤1) (k:Nat) (hk:k≤20)=>Qc8 hT hR h1 la (fun q hq=>(aa q hq).bq.mono (by decide) (by decide)) hk;have ex2:=fun (h1:rs.length≤1) (k:Nat) (hk:k≤20)=>Qc8 hT hR h1 lb (fun q hq=>(ab_ q hq).bq.mono (by decide) (by decide)) hk;have ex3:=fun (h1:rs.length≤1) (k:Nat) (hk:k≤20)=>Qc8 hT hR h1 l2 (fun q hq=>(a2 q hq).bq.mono (by decide) (by decide)) hk;refine ⟨sum,_,_,_,_,s,⟨hM.fit,by rw [hM.len];omega,rfl,rfl,rfl, ?_,rfl, ?_,ga,gb,gs,Qcu s1, ?_, ?_⟩⟩
 ·rw [QaA hF,Qcd la lb,e2]
 ·rw [QaA hF,QhF la,s1]
 ·rw [QaA hF,QaA hF,QaA hF,QaA hF];intro h;refine Decidable.byContradiction fun hc => ?_;have h1:rs.length≤1:=by omega
  rcases h with h | h | h | h
  ·exact ex1 h1 n (by omega) h
  ·exact ex2 h1 n (by omega) h
  ·exact ex1 h1 (n+m) (by omega) (by rw [Int.natCast_add];exact h)
  ·exact ex3 h1 n (by omega) h
 ·rw [QaA hF,QaA hF,QaA hF,QaA hF];intro X Y Z V hX hY hZ hV;rw [←Int.natCast_add] at hZ;obtain ⟨i,hi,hin⟩:=Qd1 hT hfit;obtain ⟨α,hα⟩:=hT.ex la;obtain ⟨β,hβ⟩:=hT.ex lb;have hσ:R sum (α + β):=hT.add hα hβ e2;obtain ⟨oX,iX⟩:=hin n (by omega) a α X hα ga.f hX;obtain ⟨oY,iY⟩:=hin n (by omega) b β Y hβ gb.f hY;obtain ⟨oZ,iZ⟩:=hin (n+m) (by omega) a α Z hα ga.f hZ;obtain ⟨oV,iV⟩:=hin n (by omega) sum _ V hσ gs.f hV
  have big:∀ {x:List Rat} {P:Rat×Rat},x.length=2^rs.length→AllL 6 30 x→FitL x→QdO rs x (n:Int)=some P→BQ (10^20*10^30) (10^30) P.1∧BQ (10^20*10^30) (10^30) P.2:=fun {x P} lx ax fx e=>by
   rw [QdO,if_pos (by omega),Int.toNat_natCast,chk,if_pos lx] at e;obtain ⟨Q,e1,e2⟩:=Option.bind_eq_some_iff.1 e;have oQ:=Qeu (by omega) hfit fx e1;have bQ:=Qb5 (by omega) hfit h7 (C:=30) (by decide +kernel) fx (fun q hq=>(ax q hq).abs) e1;have bP:=Qb4 (by omega) oQ e2 bQ.1 bQ.2;have dP:=Qd0 (by omega) e2;have le:=bd3 (k:=rs.length) (by omega)
   have up:∀ {q:Rat},Abs (bd rs.length 30+1) q→Abs ((10^20:Nat):Rat) q:=fun {q} h=>by
    obtain ⟨u,v⟩:=h;generalize ((10^20:Nat):Rat)=M at *
    exact ⟨by grind,by grind⟩
   exact ⟨Qc9 (up bP.1) dP.1,Qc9 (up bP.2) dP.2⟩
  have bX:=big la aa ga.f hX;have bY:=big lb ab_ gb.f hY
  have eb:adO X Y=some (X.1+Y.1,X.2+Y.2):=by
   rw [adO,Qjc,Quy bX.1 bY.1 (by decide +kernel) (by decide +kernel),Quy bX.2 bY.2 (by decide +kernel) (by decide +kernel)];rfl
  have iB:=iX.add hi iY;have sg:=hT.sign hα s1;refine ⟨oX,oY,oZ,oV,eb,(QuP oX oY eb).1,InI.meet hi iB iV,InI.meet hi iV iB,InI.meet hi iX iZ,InI.meet hi iZ iX, ?_, ?_⟩
  ·rw [←sg];exact InI.zero_lo hi iX
  ·rw [←sg];exact InI.zero_hi hi iX
end Tw
end
namespace En
open Go.RowKit Go.Extern.Stop Go.Stop Go.Extern
open Go.Proofs.YtadcmepaniiciaaGreatDoor.Nm Go.Proofs.YtadcmepaniiciaaGreatDoor.Rt
theorem ne2 {a b:Nat} (h:a<b):¬(a=b)∧¬(b=a)∧¬(a=b+1)∧¬(b+1=a):=⟨by omega,by omega,by omega,by omega⟩
theorem ah {w:World} {o:Obj}:(w.alloc o).heap[w.heap.size]? = some o:=World.alloc_heap_new w o
theorem rt2 {w:World} {a b:Obj}:((w.alloc a).alloc b).heap[w.heap.size+1]? = some b:=QaP w a b
theorem n3c {w:World} {a b c:Obj}:(((w.alloc a).alloc b).alloc c).heap[w.heap.size+1+1]? = some c:=(new3 w a b c).2.2
theorem Qd5 (a:Addr) (x0 x1 x2 x3 y0 y1 y2 y3 r0 r1 r2 r3:ByteArray)
  (hC:∀ (Bx By:Nat) (W:World),Ref a W→W.heap[Bx]? = some (Jc #[J x0,J x1,J x2,J x3] 55 (0,0))→W.heap[By]? = some (Jc #[J y0,J y1,J y2,J y3] 55 (0,0))→Calls Tryz.prog 78 #[.pointer (some ⟨Bx,0,none⟩),.pointer (some ⟨By,0,none⟩)] W fun e W'=>e = .returned (ivl r0 r1 r2 r3)∧Below W.heap.size W W')
  (hX:Ret 129 #[ivl x0 x1 x2 x3] (.bool true)) (hY:Ret 129 #[ivl y0 y1 y2 y3] (.bool true)) (w:World) (hv:Ref a w) :
  Calls Tryz.prog 30 #[.agg #[J x0,J x1,J x2,J x3],.agg #[J y0,J y1,J y2,J y3]] w fun e w'=>e = .returned (.tuple #[ivl r0 r1 r2 r3,.int .i64 0])∧Below w.heap.size w w':=by
 have hmf:=mkf;have CC:Shut _:=⟨hC⟩;have CX:Shut _:=⟨hX⟩;have CY:Shut _:=⟨hY⟩;have HV:Shut _:=⟨hv⟩;clear hC hX hY hv;unfold ivl0 ivl at *
 go_enter Tryz.func30, Tryz.ntmps30;go_wp2_with fail;obtain ⟨n_x,n_y,n_r,n_s⟩:=Qpq w (Jc #[J x0,J x1,J x2,J x3] 55) (Jc #[J y0,J y1,J y2,J y3] 55) (Jc #[J ⟨#[]⟩,J ⟨#[]⟩,J ⟨#[]⟩,J ⟨#[]⟩] 55) (Jc #[J x0,J x1,J x2,J x3,J y0,J y1,J y2,J y3] 55);have u:=Qkr w (Jc #[J x0,J x1,J x2,J x3] 55) (Jc #[J y0,J y1,J y2,J y3] 55) (Jc #[J ⟨#[]⟩,J ⟨#[]⟩,J ⟨#[]⟩,J ⟨#[]⟩] 55) (Jc #[J x0,J x1,J x2,J x3,J y0,J y1,J y2,J y3] 55);generalize ((((w.alloc (Jc #[J x0,J x1,J x2,J x3] 55)).alloc (Jc #[J y0,J y1,J y2,J y3] 55)).alloc (Jc #[J ⟨#[]⟩,J ⟨#[]⟩,J ⟨#[]⟩,J ⟨#[]⟩] 55)).alloc (Jc #[J x0,J x1,J x2,J x3,J y0,J y1,J y2,J y3] 55))=W4 at *
 have cA:=QfB 78 #[.pointer (some ⟨w.heap.size,0,none⟩),.pointer (some ⟨w.heap.size+1,0,none⟩)] (enters_of Tryz.func78 (by kernel_rfl) rfl) a (fun W=>W.heap[w.heap.size]? = some (Jc #[J x0,J x1,J x2,J x3] 55 (0,0))∧W.heap[w.heap.size+1]? = some (Jc #[J y0,J y1,J y2,J y3] 55 (0,0))) (fun W W' h hB=>⟨Qac h.1 hB,Qac h.2 hB⟩) r0 r1 r2 r3 false
  2 (w.heap.size+1+1+1) 2 (g8 x0 x1 x2 x3 y0 y1 y2 y3) (fun _=>true) (by omega)
  (fun _ W hr hi=>CC.o _ _ W hr hi.1 hi.2)
  (fun j hj W=>by
   rcases (show j=0∨j=1 by omega) with rfl | rfl
   ·exact CX.o W
   ·exact CY.o W) W4 (HV.o.keep u) ⟨n_x,n_y⟩
  (fun W hB j hj=>by
   have q:=Qac n_s hB;rcases (show j=0∨j=1∨j=2∨j=3∨j=4∨j=5∨j=6∨j=7 by omega) with rfl | rfl | rfl | rfl | rfl | rfl | rfl | rfl
   ·exact Qaa q 0 rfl
   ·exact Qaa q 1 rfl
   ·exact Qaa q 2 rfl
   ·exact Qaa q 3 rfl
   ·exact Qaa q 4 rfl
   ·exact Qaa q 5 rfl
   ·exact Qaa q 6 rfl
   ·exact Qaa q 7 rfl)
 unfold ivl0 ivl at *
 refine cA.mono ?_;rintro e v1 ⟨rfl,g⟩;replace u:=u.trans (g.mono u.size);replace n_r:=Qac n_r g;clear g cA n_x n_y n_s hmf;obtain ⟨d0,d1,d2,d3⟩:=Qc4 n_r;obtain ⟨h0,h1,h2,h3⟩:=Qf4 n_r;have hb:∀ i,w.heap.size≤(⟨w.heap.size+1+1,i,none⟩:Addr).block:=fun _=>Nat.le_trans (Nat.le_succ _) (Nat.le_succ _);rw [if_pos (⟨fun _ _=>rfl,rfl⟩:(∀ j:Nat,j<2→(fun _:Nat=>true) j=true)∧false=false)];have s_r:=QaL (x:=J r0) (y:=J r1) (z:=J r2) (t:=J r3) n_r;obtain ⟨z0,z1,z2,z3⟩:=Qc4 s_r;dsimp only
 go_wp
 exact bodyPost_ret (v:=.tuple #[.agg #[J r0,J r1,J r2,J r3],.int .i64 0]) (by simp [results,Tryz.results30, go_sem,z0,z1,z2,z3]) rfl ⟨rfl,(((u.setCell (hb 0) _).setCell (hb 1) _).setCell (hb 2) _).setCell (hb 3) _⟩
theorem Hu.draw {w W:World} {Bx By:Nat} {X Y:Array Value} (h:Hu w W Bx By X Y):Hu w W.drew Bx By X Y:=⟨h.x,h.y,h.r,QaS h.u⟩
theorem huS {w W:World} {Bx By:Nat} {x0 x1 x2 x3 y0 y1 y2 y3:ByteArray} (h:Hu w W Bx By #[J x0,J x1,J x2,J x3] #[J y0,J y1,J y2,J y3]):W.cell? ⟨Bx,0,none⟩=some (J x0)∧W.cell? ⟨Bx,1,none⟩=some (J x1)∧W.cell? ⟨Bx,2,none⟩=some (J x2)∧W.cell? ⟨Bx,3,none⟩=some (J x3)∧W.cell? ⟨By,0,none⟩=some (J y0)∧W.cell? ⟨By,1,none⟩=some (J y1)∧W.cell? ⟨By,2,none⟩=some (J y2)∧W.cell? ⟨By,3,none⟩=some (J y3):=⟨Qaa h.x 0 rfl,Qaa h.x 1 rfl,Qaa h.x 2 rfl,Qaa h.x 3 rfl,Qaa h.y 0 rfl,Qaa h.y 1 rfl,Qaa h.y 2 rfl,Qaa h.y 3 rfl⟩
theorem Qd6 {W:World} {b:Nat} {o:Obj} (h:W.heap[b]? = some o):W.drew.heap[b]? = some o:=h
theorem Qd7 (a:Addr) (Bx By:Nat) (x0 x1 x2 x3 y0 y1 y2 y3:ByteArray) (lo hi:P2)
  (hA1:∀ (b:Nat) (W:World),W.heap[b]? = some (Jc #[J x0,J x1,J y0,J y1] 42 (0,0))→Calls Tryz.prog 79 #[.slice (some ⟨b,0,none⟩) 2 2] W fun e W'=>e = .returned (frc lo.1 lo.2)∧Below W.heap.size W W')
  (hA2:∀ (b:Nat) (W:World),W.heap[b]? = some (Jc #[J x2,J x3,J y2,J y3] 42 (0,0))→Calls Tryz.prog 80 #[.slice (some ⟨b,0,none⟩) 2 2] W fun e W'=>e = .returned (frc hi.1 hi.2)∧Below W.heap.size W W')
  (hA3:Ret 82 #[frc lo.1 lo.2,frc hi.1 hi.2] (.bool true))
  (w:World) (hv:Ref a w) (hx:w.heap[Bx]? = some (Jc #[J x0,J x1,J x2,J x3] 55 (0,0))) (hy:w.heap[By]? = some (Jc #[J y0,J y1,J y2,J y3] 55 (0,0))) :
  Calls Tryz.prog 78 #[.pointer (some ⟨Bx,0,none⟩),.pointer (some ⟨By,0,none⟩)] w fun e w'=>e = .returned (ivl lo.1 lo.2 hi.1 hi.2)∧Below w.heap.size w w':=by
 have h_W0:Hu w (w.alloc (Jc #[J ⟨#[]⟩,J ⟨#[]⟩,J ⟨#[]⟩,J ⟨#[]⟩] 55)) Bx By #[J x0,J x1,J x2,J x3] #[J y0,J y1,J y2,J y3]:=⟨lold hx,lold hy,World.alloc_heap_new w _,(Below.refl w.heap.size w).alloc Lr _⟩;have nx:=Nat.ne_of_lt (Array.getElem?_eq_some_iff.1 hx).1;have ny:=Nat.ne_of_lt (Array.getElem?_eq_some_iff.1 hy).1;have nx2:=nx.symm;have ny2:=ny.symm;have HV:Shut _:=⟨hv⟩;have CA1:Shut _:=⟨hA1⟩;have CA2:Shut _:=⟨hA2⟩;have CA3:Shut _:=⟨hA3⟩;clear hA3;clear hx hy hv hA1 hA2;unfold ivl frc at *
 go_enter Tryz.func78, Tryz.ntmps78;go_wp2_with fail;generalize w.alloc (Jc #[J ⟨#[]⟩,J ⟨#[]⟩,J ⟨#[]⟩,J ⟨#[]⟩] 55)=W0 at *
 obtain ⟨cx0,cx1,cx2,cx3⟩:=Qc4 h_W0.x;obtain ⟨cy0,cy1,cy2,cy3⟩:=Qc4 h_W0.y;have h_D:=h_W0.draw;have bx:Bx<W0.heap.size:=(Array.getElem?_eq_some_iff.1 h_W0.x).1;have by_:By<W0.heap.size:=(Array.getElem?_eq_some_iff.1 h_W0.y).1;have br:w.heap.size<W0.heap.size:=(Array.getElem?_eq_some_iff.1 h_W0.r).1;obtain ⟨nqx00,nqx01,nqx10,nqx11⟩:=ne2 bx;obtain ⟨_,_,nqx20,nqx21⟩:=ne2 (Nat.lt_succ_of_lt bx);obtain ⟨nqy00,nqy01,nqy10,nqy11⟩:=ne2 by_;obtain ⟨_,_,nqy20,nqy21⟩:=ne2 (Nat.lt_succ_of_lt by_)
 go_cut [3] from 3 to 16 (fun s wx=>∃ zb:Nat,s = .pointer (some ⟨zb,0,none⟩)∧wx.heap[zb]? = some (Jc #[J lo.1,J lo.2,J hi.1,J hi.2] 55 (0,0))∧Hu w wx Bx By #[J x0,J x1,J x2,J x3] #[J y0,J y1,J y2,J y3])
 case first =>
  go_region_held3 (fun X=>X.cell? ⟨Bx,0,none⟩=some (J x0)∧X.cell? ⟨Bx,1,none⟩=some (J x1)∧X.cell? ⟨Bx,2,none⟩=some (J x2)∧X.cell? ⟨Bx,3,none⟩=some (J x3)∧X.cell? ⟨By,0,none⟩=some (J y0)∧X.cell? ⟨By,1,none⟩=some (J y1)∧X.cell? ⟨By,2,none⟩=some (J y2)∧X.cell? ⟨By,3,none⟩=some (J y3)) (first | exact huS (w:=w) (by (with_reducible (iterate 7 (first | done | assumption | refine Hu.draw ?_ | refine Hu.alloc ?_ _)));done) | go_keep) (first | (go_at_call 79; (with_reducible refine (CA1.o _ _ (by repeat (first | with_reducible refine Qd6 ?_ | exact World.alloc_heap_new _ _ | exact QaP _ _ _ | exact (new3 _ _ _ _).2.2 | assumption | with_reducible refine lold ?_ | refine Qac ?_ g1))).mono ?_);rintro e v1 ⟨rfl,g1⟩;have h_v1:Hu w v1 Bx By #[J x0,J x1,J x2,J x3] #[J y0,J y1,J y2,J y3]:=Hu.below (by repeat (first | assumption | refine Hu.draw ?_ | refine Hu.alloc ?_ _)) g1;obtain ⟨cx0,cx1,cx2,cx3⟩:=Qc4 h_v1.x;obtain ⟨cy0,cy1,cy2,cy3⟩:=Qc4 h_v1.y;have hs1:W0.heap.size≤v1.heap.size:=(by have:=g1.size;first | omega | (simp at this;omega));obtain ⟨npx00,npx01,npx10,npx11⟩:=ne2 (Nat.lt_of_lt_of_le bx hs1);obtain ⟨npy00,npy01,npy10,npy11⟩:=ne2 (Nat.lt_of_lt_of_le by_ hs1)) | (go_at_call 80; (with_reducible refine (CA2.o _ _ (by repeat (first | with_reducible refine Qd6 ?_ | exact World.alloc_heap_new _ _ | exact QaP _ _ _ | exact (new3 _ _ _ _).2.2 | assumption | with_reducible refine lold ?_ | refine Qac ?_ g1))).mono ?_);rintro e v2 ⟨rfl,g2⟩;have h_v2:Hu w v2 Bx By #[J x0,J x1,J x2,J x3] #[J y0,J y1,J y2,J y3]:=Hu.below (by repeat (first | assumption | refine Hu.draw ?_ | refine Hu.alloc ?_ _)) g2;obtain ⟨cx0,cx1,cx2,cx3⟩:=Qc4 h_v2.x;obtain ⟨cy0,cy1,cy2,cy3⟩:=Qc4 h_v2.y;(try ((first | (have zr:v2.heap[W0.heap.size]? = some (Jc #[J ⟨#[]⟩,J ⟨#[]⟩,J ⟨#[]⟩,J ⟨#[]⟩] 55 (0,0)):=(by (with_reducible (iterate 9 (first | done | exact ah | exact rt2 | exact n3c | assumption | refine Qd6 ?_ | refine lold ?_ | refine Qac ?_ g2 | refine Qac ?_ g1)));done)) | (have zr:v2.heap[W0.heap.size+1]? = some (Jc #[J ⟨#[]⟩,J ⟨#[]⟩,J ⟨#[]⟩,J ⟨#[]⟩] 55 (0,0)):=(by (with_reducible (iterate 9 (first | done | exact ah | exact rt2 | exact n3c | assumption | refine Qd6 ?_ | refine lold ?_ | refine Qac ?_ g2 | refine Qac ?_ g1)));done)) | (have zr:v2.heap[W0.heap.size+1+1]? = some (Jc #[J ⟨#[]⟩,J ⟨#[]⟩,J ⟨#[]⟩,J ⟨#[]⟩] 55 (0,0)):=(by (with_reducible (iterate 9 (first | done | exact ah | exact rt2 | exact n3c | assumption | refine Qd6 ?_ | refine lold ?_ | refine Qac ?_ g2 | refine Qac ?_ g1)));done)) | (have zr:v2.heap[v1.heap.size]? = some (Jc #[J ⟨#[]⟩,J ⟨#[]⟩,J ⟨#[]⟩,J ⟨#[]⟩] 55 (0,0)):=(by (with_reducible (iterate 9 (first | done | exact ah | exact rt2 | exact n3c | assumption | refine Qd6 ?_ | refine lold ?_ | refine Qac ?_ g2 | refine Qac ?_ g1)));done)) | (have zr:v2.heap[v1.heap.size+1]? = some (Jc #[J ⟨#[]⟩,J ⟨#[]⟩,J ⟨#[]⟩,J ⟨#[]⟩] 55 (0,0)):=(by (with_reducible (iterate 9 (first | done | exact ah | exact rt2 | exact n3c | assumption | refine Qd6 ?_ | refine lold ?_ | refine Qac ?_ g2 | refine Qac ?_ g1)));done)));obtain ⟨z0,z1,z2,z3⟩:=Qc4 zr;obtain ⟨e0,e1,e2,e3⟩:=Qf4 zr));have za:=World.alloc_heap_new v2 (Jc #[J ⟨#[]⟩,J ⟨#[]⟩,J ⟨#[]⟩,J ⟨#[]⟩] 55);have hv2a:=h_v2.alloc (Jc #[J ⟨#[]⟩,J ⟨#[]⟩,J ⟨#[]⟩,J ⟨#[]⟩] 55);obtain ⟨za0,za1,za2,za3⟩:=Qc4 za;obtain ⟨ze0,ze1,ze2,ze3⟩:=Qf4 za;obtain ⟨zcx0,zcx1,zcx2,zcx3⟩:=Qc4 hv2a.x;obtain ⟨zcy0,zcy1,zcy2,zcy3⟩:=Qc4 hv2a.y;have hs2:v1.heap.size≤v2.heap.size:=(by have:=g2.size;first | omega | (simp at this;omega));obtain ⟨nrx0,nrx1,_,_⟩:=ne2 (Nat.lt_of_lt_of_le bx (Nat.le_trans hs1 hs2));obtain ⟨nry0,nry1,_,_⟩:=ne2 (Nat.lt_of_lt_of_le by_ (Nat.le_trans hs1 hs2))))
  all_goals (go_wp2_with fail)
  all_goals go_meet
  all_goals first | with_reducible exact ⟨_,rfl,World.alloc_heap_new _ _,h_v2.alloc _⟩ | with_reducible exact ⟨_,rfl,QaL zr,Hu.set4 h_v2 _ (by omega) (by omega) (by omega) _ _ _ _⟩ | with_reducible exact ⟨_,rfl,QaL za,Hu.set4 hv2a _ (by omega) (by omega) (by omega) _ _ _ _⟩ | exact ⟨_,rfl,QaL zr,Hu.set4 h_v2 _ (by omega) (by omega) (by omega) _ _ _ _⟩ | exact ⟨_,rfl,QaL za,Hu.set4 hv2a _ (by omega) (by omega) (by omega) _ _ _ _⟩ | exact ⟨_,rfl,World.alloc_heap_new _ _,h_v2.alloc _⟩
 case rest =>
  obtain ⟨zb,rfl,zr,hW⟩:=hcut;obtain ⟨c0,c1,c2,c3⟩:=Qc4 zr;go_wp2_with fail;refine (CA3.o _).mono ?_;rintro e v3 ⟨rfl,g⟩;have h3:=hW.below g;have zr3:=Qac zr g;clear c0 c1 c2 c3 g zr hW;have hr:=Qbb v3;go_wp2_with fail;refine hr.mono ?_;rintro e w' ⟨rfl,rfl⟩;clear hr;obtain ⟨c0,c1,c2,c3⟩:=Qc4 zr3;have s_r:=QaL (x:=J lo.1) (y:=J lo.2) (z:=J hi.1) (t:=J hi.2) h3.r;obtain ⟨z0,z1,z2,z3⟩:=Qc4 s_r;have k0:=Qaa h3.r 0 (v:=J ⟨#[]⟩) rfl;have f0:=Qad h3.r 0;have k1:=Qaa h3.r 1 (v:=J ⟨#[]⟩) rfl;have f1:=Qad h3.r 1;have k2:=Qaa h3.r 2 (v:=J ⟨#[]⟩) rfl;have f2:=Qad h3.r 2;have k3:=Qaa h3.r 3 (v:=J ⟨#[]⟩) rfl;have f3:=Qad h3.r 3;have hb:∀ i,w.heap.size≤(⟨w.heap.size,i,none⟩:Addr).block:=fun _=>Nat.le_refl _;go_wp2_with fail;exact bodyPost_ret (v:=.agg #[J lo.1,J lo.2,J hi.1,J hi.2]) (by simp [results,Tryz.results78, go_sem,z0,z1,z2,z3]) rfl ⟨rfl,(((h3.u.setCell (hb 0) _).setCell (hb 1) _).setCell (hb 2) _).setCell (hb 3) _⟩
theorem Qd8 {x0 x1 x2 x3 y0 y1 y2 y3:ByteArray} (hV:Ret 129 #[.agg #[J x0,J x1,J x2,J x3]] (.bool true)) (hL:Ret 82 #[.agg #[J y0,J y1],.agg #[J x0,J x1]] (.bool true)) (hR:Ret 82 #[.agg #[J x2,J x3],.agg #[J y2,J y3]] (.bool true)) :
  Ret 83 #[.agg #[J x0,J x1,J x2,J x3],.agg #[J y0,J y1,J y2,J y3]] (.bool true):=by
 intro w;obtain ⟨n_x,n_y⟩:=Qiw w (Jc #[J x0,J x1,J x2,J x3] 55) (Jc #[J y0,J y1,J y2,J y3] 55);have u:=QfU w (Jc #[J x0,J x1,J x2,J x3] 55) (Jc #[J y0,J y1,J y2,J y3] 55);have CV:Shut _:=⟨hV⟩;have CL:Shut _:=⟨hL⟩;have CR:Shut _:=⟨hR⟩;clear hV hL hR;go_enter Tryz.func83, Tryz.ntmps83;obtain ⟨cx0,cx1,cx2,cx3⟩:=Qc4 n_x;obtain ⟨cy0,cy1,cy2,cy3⟩:=Qc4 n_y;go_wp2_with fail;refine (CV.o _).mono ?_;rintro e v0 ⟨rfl,g⟩;replace u:=u.trans (g.mono u.size);replace n_x:=Qac n_x g;replace n_y:=Qac n_y g;clear g cx0 cx1 cx2 cx3 cy0 cy1 cy2 cy3;obtain ⟨cx0,cx1,cx2,cx3⟩:=Qc4 n_x;obtain ⟨cy0,cy1,cy2,cy3⟩:=Qc4 n_y;go_wp2_with fail;refine (CL.o _).mono ?_;rintro e v1 ⟨rfl,g⟩;replace u:=u.trans (g.mono u.size);replace n_x:=Qac n_x g;replace n_y:=Qac n_y g;clear g cx0 cx1 cx2 cx3 cy0 cy1 cy2 cy3;obtain ⟨cx0,cx1,cx2,cx3⟩:=Qc4 n_x;obtain ⟨cy0,cy1,cy2,cy3⟩:=Qc4 n_y;go_wp2_with fail;refine (CR.o _).mono ?_;rintro e v2 ⟨rfl,g⟩;replace u:=u.trans (g.mono u.size);go_wp2_with fail;go_ret;exact ⟨rfl,u⟩
theorem Qd9 (x0 x1 x2 x3 y0 y1 p0 p1 p2 p3:ByteArray) (b:Bool) (hP:Ret 84 #[.agg #[J y0,J y1]] (.agg #[J p0,J p1,J p2,J p3])) (hW:Ret 83 #[.agg #[J p0,J p1,J p2,J p3],.agg #[J x0,J x1,J x2,J x3]] (.bool b)) :
  Ret 31 #[.agg #[J x0,J x1,J x2,J x3],.agg #[J y0,J y1]] (.bool b):=by
 intro w;obtain ⟨n_x,n_y⟩:=Qiw w (Jc #[J x0,J x1,J x2,J x3] 55) (Jc #[J y0,J y1] 42);have u:=QfU w (Jc #[J x0,J x1,J x2,J x3] 55) (Jc #[J y0,J y1] 42);have CP:Shut _:=⟨hP⟩;have CW:Shut _:=⟨hW⟩;clear hP hW;go_enter Tryz.func31, Tryz.ntmps31;go_wp2_with fail;generalize ((w.alloc (Jc #[J x0,J x1,J x2,J x3] 55)).alloc (Jc #[J y0,J y1] 42))=W0 at *
 obtain ⟨cx0,cx1,cx2,cx3⟩:=Qc4 n_x;have cy0:=Qaa n_y 0 (v:=J y0) rfl;have cy1:=Qaa n_y 1 (v:=J y1) rfl
 go_region_held (fun X=>X.cell? ⟨w.heap.size,0,none⟩=some (J x0)∧X.cell? ⟨w.heap.size,1,none⟩=some (J x1)∧X.cell? ⟨w.heap.size,2,none⟩=some (J x2)∧X.cell? ⟨w.heap.size,3,none⟩=some (J x3)∧X.cell? ⟨w.heap.size+1,0,none⟩=some (J y0)∧X.cell? ⟨w.heap.size+1,1,none⟩=some (J y1)) (go_keep) (first | (go_at_call 84; (with_reducible refine (CP.o.run _).mono ?_);rintro e v1 ⟨rfl,g⟩;have g:Below W0.heap.size W0 v1:=Qah g;replace u:=u.trans (g.mono u.size);replace n_x:=Qac n_x g;replace n_y:=Qac n_y g;clear g;obtain ⟨cx0,cx1,cx2,cx3⟩:=Qc4 n_x;have cy0:=Qaa n_y 0 (v:=J y0) rfl;have cy1:=Qaa n_y 1 (v:=J y1) rfl) | (go_at_call 83; (with_reducible refine (CW.o.run _).mono ?_);rintro e v2 ⟨rfl,g⟩;have g:Below v1.heap.size v1 v2:=g;replace u:=u.trans (g.mono u.size);replace n_x:=Qac n_x g;replace n_y:=Qac n_y g;clear g;obtain ⟨cx0,cx1,cx2,cx3⟩:=Qc4 n_x;have cy0:=Qaa n_y 0 (v:=J y0) rfl;have cy1:=Qaa n_y 1 (v:=J y1) rfl))
 all_goals (go_wp;go_ret;exact ⟨rfl,u⟩)
theorem Qe0 {p q r:Rat} (hp:FitQ p) (hq:FitQ q) (hr:FitQ r) (h1:p≤r) (h2:r≤q):Ret 31 #[iq p q,.agg #[J (txt r.num),J (txt (r.den:Int))]] (.bool true):=by
 have v:=QcE hr hr;have a:=QkS hp hr;have b:=QkS hr hq;rw [decide_eq_true Rat.le_refl] at v;rw [decide_eq_true h1] at a;rw [decide_eq_true h2] at b;exact Qd9 _ _ _ _ _ _ _ _ _ _ _ (QmY _ _ true (Qia hr)) (Qd8 v a b)
def minQ (p q:Rat):Rat:=if q≤p then q else p
def maxQ (p q:Rat):Rat:=if p≤q then q else p
theorem FitQ.minQ {p q:Rat} (hp:FitQ p) (hq:FitQ q):FitQ (minQ p q):=by rw [En.minQ];split <;> assumption
theorem FitQ.maxQ {p q:Rat} (hp:FitQ p) (hq:FitQ q):FitQ (maxQ p q):=by rw [En.maxQ];split <;> assumption
def duo (p q:Rat) (j:Nat):P2:=if j=0 then pq p else pq q
theorem Qe1 {p q:Rat} (hp:FitQ p) (hq:FitQ q) (i:Nat):PQ (duo p q i):=by
 rw [duo];split
 ·exact ⟨p,hp,rfl⟩
 ·exact ⟨q,hq,rfl⟩
theorem Qe2 {W:World} {b:Nat} {p q:Rat} (h:W.heap[b]? = some (Jc #[J (txt p.num),J (txt (p.den:Int)),J (txt q.num),J (txt (q.den:Int))] 42 (0,0))) (j:Nat) (hj:j<2):W.cell? ⟨b,j*2,none⟩=some (J (duo p q j).1)∧W.cell? ⟨b,j*2+1,none⟩=some (J (duo p q j).2):=by
 rcases (show j=0∨j=1 by omega) with rfl | rfl
 ·exact ⟨Qaa h 0 rfl,Qaa h 1 rfl⟩
 ·exact ⟨Qaa h 2 rfl,Qaa h 3 rfl⟩
theorem Qe3 {p q:Rat} (hp:FitQ p) (hq:FitQ q) (b:Nat) (W:World) (h:W.heap[b]? = some (Jc #[J (txt p.num),J (txt (p.den:Int)),J (txt q.num),J (txt (q.den:Int))] 42 (0,0))) :
  Calls Tryz.prog 80 #[.slice (some ⟨b,0,none⟩) 2 2] W fun e W'=>e = .returned (frc (pq (minQ p q)).1 (pq (minQ p q)).2)∧Below W.heap.size W W':=by
 have c:=QmT PQ AL Qro (duo p q) 2 b 2 (by omega) (by omega) (by omega) (fun i _=>Qe1 hp hq i) W (fun V hV j hj=>Qe2 (Qac h hV) j hj)
 rw [show QaG AL (duo p q 0) (fun i=>duo p q (i+1)) (2-1)=pq (minQ p q) by
  show (if AL (pq q) (pq p) then pq q else pq p)=_;rw [AL,Qfr hp,Qfr hq,minQ];by_cases hc:q≤p
  ·rw [if_pos (decide_eq_true hc),if_pos hc]
  ·rw [if_neg (by simpa using hc),if_neg hc]] at c
 exact c
theorem Qe4 {p q:Rat} (hp:FitQ p) (hq:FitQ q) (b:Nat) (W:World) (h:W.heap[b]? = some (Jc #[J (txt p.num),J (txt (p.den:Int)),J (txt q.num),J (txt (q.den:Int))] 42 (0,0))) :
  Calls Tryz.prog 79 #[.slice (some ⟨b,0,none⟩) 2 2] W fun e W'=>e = .returned (frc (pq (maxQ p q)).1 (pq (maxQ p q)).2)∧Below W.heap.size W W':=by
 have c:=Qiz PQ AG Qrp (duo p q) 2 b 2 (by omega) (by omega) (by omega) (fun i _=>Qe1 hp hq i) W (fun V hV j hj=>Qe2 (Qac h hV) j hj)
 rw [show QaG AG (duo p q 0) (fun i=>duo p q (i+1)) (2-1)=pq (maxQ p q) by
  show (if AG (pq q) (pq p) then pq q else pq p)=_;rw [AG,Qfr hp,Qfr hq,maxQ];by_cases hc:p≤q
  ·rw [if_pos (decide_eq_true hc),if_pos hc]
  ·rw [if_neg (by simpa using hc),if_neg hc]] at c
 exact c
theorem Qe5 (a:Addr) {p1 q1 p2 q2:Rat} (h1:FitQ p1) (h2:FitQ q1) (h3:FitQ p2) (h4:FitQ q2) (o1:p1≤q1) (o2:p2≤q2) (hc:maxQ p1 p2≤minQ q1 q2):IC a 30 #[iq p1 q1,iq p2 q2] (some (maxQ p1 p2,minQ q1 q2)):=by
 intro W hW;have v1:=QcE h1 h2;have v2:=QcE h3 h4;rw [decide_eq_true o1] at v1;rw [decide_eq_true o2] at v2;have hA:=QkS (FitQ.maxQ h1 h3) (FitQ.minQ h2 h4);rw [decide_eq_true hc] at hA;exact Qd5 a _ _ _ _ _ _ _ _ _ _ _ _ (fun Bx By V hv hx hy=>Qd7 a Bx By _ _ _ _ _ _ _ _ (pq (maxQ p1 p2)) (pq (minQ q1 q2)) (Qe4 h1 h3) (Qe3 h2 h4) hA V hv hx hy) v1 v2 W hW
end En
section
namespace Tw
open Go.RowKit Go.Extern.Stop Go.Stop Go.Extern
open En Go.Proofs.YtadcmepaniiciaaGreatDoor.Nm Go.Proofs.YtadcmepaniiciaaGreatDoor.Rt
theorem Qe6 (c n:Int) (h1 : -9223372036854775808≤c) (h2:c≤9223372036854775807) (n1:1≤n) (n2:n≤9223372036854775807):∃ k:Nat,(k:Int)<n∧∀ w:World,Say 22 #[.int .i64 c,.int .i64 n] (.int .i64 (k:Int)) w:=by
 have hw:∀ x:Int, -9223372036854775808≤x→x≤9223372036854775807→IntKind.i64.wrap x=x:=fun x a b=>by simp [IntKind.wrap,IntKind.signed,IntKind.bits];omega
 have hn0:¬ n=0:=by omega
 obtain ⟨m,rfl⟩:=Int.eq_ofNat_of_zero_le (show 0≤n by omega);by_cases hc:c<0
 ·have e1:=hw (c+1) (by omega) (by omega);have e2:=hw (-(c+1)) (by omega) (by omega);obtain ⟨k,hk⟩:∃ k:Nat, -(c+1)=(k:Int):=⟨(-(c+1)).toNat,by omega⟩;have hm:k % m<m:=Nat.mod_lt _ (by omega);refine ⟨k % m,by omega,fun w => ?_⟩;show Calls _ _ _ _ _;have hd:decide (c<0)=true:=decide_eq_true hc;go_enter Tryz.func22, Tryz.ntmps22;go_wp2;go_ret;exact ⟨by first | rfl | simp,Below.refl _ _⟩
 ·obtain ⟨k,rfl⟩:=Int.eq_ofNat_of_zero_le (show 0≤c by omega);have hm:k % m<m:=Nat.mod_lt _ (by omega);refine ⟨k % m,by omega,fun w => ?_⟩;show Calls _ _ _ _ _;have hd:decide ((k:Int)<0)=false:=decide_eq_false hc;go_enter Tryz.func22, Tryz.ntmps22;go_wp2;go_ret;exact ⟨by first | rfl | simp,Below.refl _ _⟩
theorem Qe7 {p q:Rat} (hp:FitQ p) (hq:FitQ q) {s t s' t':ByteArray} (e:pq p=(s,t)) (e':pq q=(s',t')) (W:World):Say 27 #[frc s t,frc s' t'] (.int .i64 (cmpQ p q)) W:=by
 obtain rfl:s=(pq p).1:=by rw [e]
 obtain rfl:t=(pq p).2:=by rw [e]
 obtain rfl:s'=(pq q).1:=by rw [e']
 obtain rfl:t'=(pq q).2:=by rw [e']
 exact QgB hp hq W
theorem st4 {B b i j k l:Nat} {w V:World} {x y z u:Value} (h:Below B w V) (hb:B≤b):Below B w ((((V.setCell ⟨b,i,none⟩ x).setCell ⟨b,j,none⟩ y).setCell ⟨b,k,none⟩ z).setCell ⟨b,l,none⟩ u):=(((h.setCell (p:=⟨b,i,none⟩) hb _).setCell (p:=⟨b,j,none⟩) hb _).setCell (p:=⟨b,k,none⟩) hb _).setCell (p:=⟨b,l,none⟩) hb _
theorem Sh.nk {l:List KP} {W:World} (h:Sh (Ks l W)) (cs:Array Value) (T:TypeId):Sh (Ks (kBx W.heap.size (.cells cs T (0,0)) :: l) (W.alloc (.cells cs T))):=⟨(h.o.keep ((Below.refl W.heap.size W).alloc Lr (.cells cs T))).add (kBx W.heap.size (.cells cs T (0,0))) (World.alloc_heap_new W (.cells cs T))⟩
theorem Sh.nb {w W:World} (h:Sh (Below w.heap.size w W)) (o:Obj):Sh (Below w.heap.size w (W.alloc o)):=⟨h.o.alloc h.o.size o⟩
structure IvL (O:Option (Rat×Rat)) (c:Int) (s1 s2 s3 s4:ByteArray):Prop where
 no:O=none→c=60
 yes:∀ P,O=some P→c=0∧pq P.1=(s1,s2)∧pq P.2=(s3,s4)
abbrev iv4 (s1 s2 s3 s4:ByteArray):Value:=.agg #[J s1,J s2,J s3,J s4]
theorem ivs (P:Rat×Rat):∃ s1 s2 s3 s4,pq P.1=(s1,s2)∧pq P.2=(s3,s4):=⟨_,_,_,_,rfl,rfl⟩
theorem Qe8 {p q:Rat} {s1 s2 s3 s4:ByteArray} (e:pq p=(s1,s2)) (f:pq q=(s3,s4)):iq p q=iv4 s1 s2 s3 s4:=by
 obtain rfl:s1=(pq p).1:=by rw [e]
 obtain rfl:s2=(pq p).2:=by rw [e]
 obtain rfl:s3=(pq q).1:=by rw [f]
 obtain rfl:s4=(pq q).2:=by rw [f]
 rfl
theorem Qe9 (O:Option (Rat×Rat)):∃ c s1 s2 s3 s4,IvL O c s1 s2 s3 s4∧(O=none→s1=⟨#[]⟩∧s2=⟨#[]⟩∧s3=⟨#[]⟩∧s4=⟨#[]⟩):=by
 cases O with
 | none=>exact ⟨60,_,_,_,_,⟨fun _=>rfl,fun _ h=>(by cases h)⟩,fun _=>⟨rfl,rfl,rfl,rfl⟩⟩
 | some P =>
  obtain ⟨s1,s2,s3,s4,h1,h2⟩:=ivs P;exact ⟨0,s1,s2,s3,s4,⟨fun h=>(by cases h),fun Q h=>(by cases h;exact ⟨rfl,h1,h2⟩)⟩,fun h=>(by cases h)⟩
theorem Qf0 (a:Addr) {L:List (List Rat)} (hL:FitT L) (hn:L.length≤1000) {x:List Rat} (hx:x.length≤1000) (fx:FitL x) {k:Int} {O:Option (Rat×Rat)} (hO:ovr L (fun rs=>QdO rs x k)=O) :
  ∃ c s1 s2 s3 s4,IvL O c s1 s2 s3 s4∧∀ (w:World) (t vx:Value),Gl w→Ref a w→TwAt w t L→El w vx x→Say 28 #[t,vx,.int .i64 k] (.tuple #[iv4 s1 s2 s3 s4,.int .i64 c]) w:=by
 obtain ⟨c,s1,s2,s3,s4,h,h0⟩:=Qe9 O;refine ⟨c,s1,s2,s3,s4,h,fun w t vx hg hv ht ex => ?_⟩;have cE:=QoU a hL hn hx fx k w hg hv ht ex;rw [hO] at cE;cases O with
 | none =>
  obtain ⟨rfl,rfl,rfl,rfl⟩:=h0 rfl;obtain rfl:=h.no rfl;exact AnsA.sayN cE rfl
 | some P =>
  obtain ⟨rfl,h1,h2⟩:=h.yes P rfl;have:=AnsA.sayQ cE rfl;rw [show ivS P=iq P.1 P.2 from rfl,Qe8 h1 h2] at this;exact this
theorem Qf1 (a:Addr) {X Y B:Rat×Rat} (oX:OkI X) (oY:OkI Y) (h:adO X Y=some B) {x1 x2 x3 x4 y1 y2 y3 y4 b1 b2 b3 b4:ByteArray} (ex:pq X.1=(x1,x2)) (ex':pq X.2=(x3,x4)) (ey:pq Y.1=(y1,y2)) (ey':pq Y.2=(y3,y4)) (eb:pq B.1=(b1,b2)) (eb':pq B.2=(b3,b4)) (w:World) (hv:Ref a w) :
  Say 29 #[iv4 x1 x2 x3 x4,iv4 y1 y2 y3 y4] (.tuple #[iv4 b1 b2 b3 b4,.int .i64 0]) w:=by
 have c:=QvM a oX.1 oX.2.1 oY.1 oY.2.1 oX.2.2 oY.2.2 w hv;rw [show Qjc (addQ X.1 Y.1) (addQ X.2 Y.2)=adO X Y from rfl,h,Qe8 ex ex',Qe8 ey ey',resI,Qe8 eb eb'] at c;exact c
theorem Qf2 {p q r:Rat} (h1:p≤r) (h2:q≤r):maxQ p q≤r:=by rw [maxQ];split <;> assumption
theorem Qf3 {p q r:Rat} (h1:r≤p) (h2:r≤q):r≤minQ p q:=by rw [minQ];split <;> assumption
theorem Qf5 (a:Addr) {X Y:Rat×Rat} (oX:OkI X) (oY:OkI Y) (h1:X.1≤Y.2) (h2:Y.1≤X.2) {x1 x2 x3 x4 y1 y2 y3 y4:ByteArray} (ex:pq X.1=(x1,x2)) (ex':pq X.2=(x3,x4)) (ey:pq Y.1=(y1,y2)) (ey':pq Y.2=(y3,y4)) :
  ∃ b1 b2 b3 b4,∀ w:World,Ref a w→Say 30 #[iv4 x1 x2 x3 x4,iv4 y1 y2 y3 y4] (.tuple #[iv4 b1 b2 b3 b4,.int .i64 0]) w:=by
 obtain ⟨b1,b2,b3,b4,eb,eb'⟩:=ivs (maxQ X.1 Y.1,minQ X.2 Y.2);refine ⟨b1,b2,b3,b4,fun w hv => ?_⟩;have c:=Qe5 a oX.1 oX.2.1 oY.1 oY.2.1 oX.2.2 oY.2.2 (Qf2 (Qf3 oX.2.2 h1) (Qf3 h2 oY.2.2)) w hv;rw [Qe8 ex ex',Qe8 ey ey',resI,Qe8 eb eb'] at c;exact c
theorem Qf6 {X:Rat×Rat} (oX:OkI X) {r:Rat} (hr:FitQ r) (h1:X.1≤r) (h2:r≤X.2) {x1 x2 x3 x4 s t:ByteArray} (ex:pq X.1=(x1,x2)) (ex':pq X.2=(x3,x4)) (er:pq r=(s,t)) (w:World) :
  Say 31 #[iv4 x1 x2 x3 x4,.agg #[J s,J t]] (.bool true) w:=by
 have c:=Qe0 oX.1 oX.2.1 hr h1 h2 w;obtain rfl:s=(pq r).1:=by rw [er]
 obtain rfl:t=(pq r).2:=by rw [er]
 rw [Qe8 ex ex'] at c;exact c
theorem Qf7 (p q:Rat):(cmpQ p q≤0↔p≤q)∧(0≤cmpQ p q↔q≤p):=by
 rcases Qcs p q with ⟨e,h⟩ | ⟨e,h⟩ | ⟨e,h⟩
 ·rw [e];exact ⟨⟨fun _=>Rat.le_of_lt h,fun _=>by decide⟩,fun k=>absurd k (by decide),fun k=>absurd h (Rat.not_lt.2 k)⟩
 ·rw [e,h];exact ⟨⟨fun _=>Rat.le_refl,fun _=>by decide⟩,fun _=>Rat.le_refl,fun _=>by decide⟩
 ·rw [e];exact ⟨⟨fun k=>absurd k (by decide),fun k=>absurd h (Rat.not_lt.2 k)⟩,fun _=>Rat.le_of_lt h,fun _=>by decide⟩
end Tw
end
namespace Tw
open Go.RowKit Go.Extern.Stop Go.Stop Go.Extern
open En Go.Proofs.YtadcmepaniiciaaGreatDoor.Nm Go.Proofs.YtadcmepaniiciaaGreatDoor.Rt
theorem encl_walk (a:Addr) {cs:Array Value} {c:Nat→Int} (n1 m1:Int) (hC:C65 cs c) (hn : -9223372036854775808≤n1∧n1≤9223372036854775807) (hm : -9223372036854775808≤m1∧m1≤9223372036854775807) (w:World) (hg:Gl w) (hv:Ref a w) (hs:∀ W,Gl W→Ref a W→Calls Tryz.prog 10 #[] W fun e W'=>e = .returned (.bool true)∧Below W.heap.size W W'):Calls Tryz.prog 8 #[.agg cs,.int .i64 n1,.int .i64 m1] w fun e w'=>e = .returned (.bool true)∧Below w.heap.size w w':=by
 obtain ⟨j1,hj1,cp1⟩:=Qe6 n1 9 hn.1 hn.2 (by decide) (by decide);obtain ⟨j2,hj2,cp2⟩:=Qe6 m1 9 hm.1 hm.2 (by decide) (by decide);have w1:IntKind.i64.wrap ((j1:Int)+(j2:Int))=(j1:Int)+(j2:Int):=by simp [IntKind.wrap,IntKind.signed,IntKind.bits];omega
 have W1:Sh _:=⟨w1⟩;have C1:Sh _:=⟨cp1⟩;have C2:Sh _:=⟨cp2⟩;have J1:Sh (j1≤8∧j2≤8):=⟨⟨by omega,by omega⟩⟩;clear cp1 cp2 hn hm hj1 hj2 w1;have u_:=(Below.refl w.heap.size w).alloc Lr (.cells cs 24);have n_bC:(w.alloc (.cells cs 24)).heap[w.heap.size]? = some (.cells cs 24 (0,0)):=World.alloc_heap_new w _;have hK:Sh (Ks [kBx w.heap.size (.cells cs 24 (0,0)),kGl,kRef a] (w.alloc (.cells cs 24))):=⟨((((Ks.nil w).add (kRef a) hv).add kGl hg).keep u_).add (kBx w.heap.size (.cells cs 24 (0,0))) n_bC⟩;have hB:Sh (Below w.heap.size w (w.alloc (.cells cs 24))):=⟨u_⟩;have hq:=hs _ (hK.o _ Mm1) (hK.o _ Mm2);have HC:Sh _:=⟨hC⟩;clear hv hg hs hC u_ n_bC;go_enter Tryz.func8, Tryz.ntmps8;go_wp2_with fail;generalize w.alloc (.cells cs 24)=W at *
 refine hq.mono ?_;rintro e V ⟨rfl,g⟩;have hK:=hK.kp g;have hB:=hB.tr g;clear hq g
 rename World=>W
 go_upto_region 2 with fail
 have hrg:W.rangeAt w.heap.size 0 cs.toList:=fun j v hv=>by
  have hb:=((hK.o _ Mm0):W.heap[w.heap.size]? = some (.cells cs 24 (0,0)));rw [Nat.zero_add];exact En.Qaa hb j (by rw [←Array.getElem?_toList];exact hv)
 refine wp_region_lit ?_;refine wpList_load_mid rfl _ _ rfl _ _ rfl cs.toList _ hrg Tryz.underlying24 rfl (HC.o.size24) ?_;rw [Array.toArray_toList];clear hrg;go_wp2_with fail;have hq:=QrJ HC.o W;refine hq.mono ?_;rintro e V ⟨⟨L,vt,va,vb,vd,rfl,hT,hM,ea,eb,ed⟩,g⟩;clear hq;obtain ⟨p,cap,rfl,_⟩:=hT.parts;have HM:Sh _:=⟨hM⟩;obtain ⟨n,hn⟩:∃ n,n=L.length:=⟨_,rfl⟩;rw [←hn] at hT ⊢;have HN:Sh (n=L.length):=⟨hn⟩;have hL4:L.length≤4:=by rw [hM.len];have:=QbM (c 0) (n:=4) (by decide);omega
 obtain ⟨la,hla⟩:∃ l,l=elL (fun i=>c (17+i)) (2^L.length):=⟨_,rfl⟩;obtain ⟨lb,hlb⟩:∃ l,l=elL (fun i=>c (33+i)) (2^L.length):=⟨_,rfl⟩;obtain ⟨ld,hld⟩:∃ l,l=elL (fun i=>c (49+i)) (2^L.length):=⟨_,rfl⟩;rw [←hla] at ea;rw [←hlb] at eb;rw [←hld] at ed;have hK:=((((hK.kp g).ad (kTw (.agg #[.slice p n cap]) L) hT.at_).ad (kEl vd ld) ed).ad (kEl vb lb) eb).ad (kEl va la) ea;have hB:=hB.tr g;have qa:la.length=2^L.length∧AllL 6 30 la:=⟨by rw [hla,Qdx],by rw [hla];exact Qfo _ _⟩;have qb:lb.length=2^L.length∧AllL 6 30 lb:=⟨by rw [hlb,Qdx],by rw [hlb];exact Qfo _ _⟩;have qd:ld.length=2^L.length∧AllL 6 30 ld:=⟨by rw [hld,Qdx],by rw [hld];exact Qfo _ _⟩;clear hT ea eb ed g hn hla hlb hld HC
 rename World=>W
 obtain ⟨sum,O1,O2,O3,O4,s,NF⟩:=Qd4 HM.o (QbM (c 0) (by decide)) qa.1 qb.1 qa.2 qb.2 j1 j2 J1.o.1 J1.o.2;obtain ⟨c1,x1,x2,x3,x4,i1,e1⟩:=Qf0 a NF.t NF.n NF.ga.n NF.ga.f NF.e1;obtain ⟨c2,y1,y2,y3,y4,i2,e2⟩:=Qf0 a NF.t NF.n NF.gb.n NF.gb.f NF.e2;obtain ⟨c3,z1,z2,z3,z4,i3,e3⟩:=Qf0 a NF.t NF.n NF.ga.n NF.ga.f NF.e3;obtain ⟨c4,v1,v2,v3,v4,i4,e4⟩:=Qf0 a NF.t NF.n NF.gsum.n NF.gsum.f NF.e5;replace NF:Sh _:=⟨NF⟩;have I1:Sh _:=⟨i1⟩;have I2:Sh _:=⟨i2⟩;have I3:Sh _:=⟨i3⟩;have I4:Sh _:=⟨i4⟩;have E1:Sh _:=⟨e1⟩;have E2:Sh _:=⟨e2⟩;have E3:Sh _:=⟨e3⟩;have E4:Sh _:=⟨e4⟩;clear qa qb qd hL4 i1 i2 i3 i4 e1 e2 e3 e4;go_wp2_with fail;have hK:=hK.nk #[.slice p n cap] 28;have hB:=hB.nb (Jc #[.slice p n cap] 28);generalize W.alloc (Jc #[.slice p n cap] 28)=Wn at *
 generalize W.heap.size=bT at *
 rename World=>W
 refine (C1.o W).run.mono ?_;rintro e V ⟨rfl,g⟩;have hK:=hK.kp g;have hB:=hB.tr g;clear g
 rename World=>W
 have cx0:=En.Qaa (hK.o _ Mm0) 0 rfl;go_wp2_with fail;refine (E1.o W _ _ (hK.o _ Mm6) (hK.o _ Mm7) (hK.o _ Mm4) (hK.o _ Mm1)).run.mono ?_;rintro e V ⟨rfl,g⟩;have hK:=hK.kp g;have hB:=hB.tr g;clear g
 rename World=>W
 clear cx0;go_upto_region 5 with fail
 have hK:=hK.nk #[J x1,J x2,J x3,J x4] 55;have hB:=hB.nb (Jc #[J x1,J x2,J x3,J x4] 55);generalize W.alloc (Jc #[J x1,J x2,J x3,J x4] 55)=Wn at *
 generalize W.heap.size=bX at *
 rename World=>W
 have cx0:=En.Qaa (hK.o _ Mm1) 0 rfl;go_wp2_with fail;refine (E2.o W _ _ (hK.o _ Mm7) (hK.o _ Mm8) (hK.o _ Mm5) (hK.o _ Mm3)).run.mono ?_;rintro e V ⟨rfl,g⟩;have hK:=hK.kp g;have hB:=hB.tr g;clear g
 rename World=>W
 clear cx0;go_upto_region 6 with fail
 have hK:=hK.nk #[J y1,J y2,J y3,J y4] 55;have hB:=hB.nb (Jc #[J y1,J y2,J y3,J y4] 55);generalize W.alloc (Jc #[J y1,J y2,J y3,J y4] 55)=Wn at *
 generalize W.heap.size=bY at *
 rename World=>W
 have SS:Sh (∀ X,Below W.heap.size W X→X.cell? ⟨bT,0,none⟩=some (.slice p n cap)):=⟨fun X hX=>En.Qaa ((hK.o.keep hX) _ Mm2) 0 rfl⟩;have cx0:=SS.o W (Below.refl _ _);have w1:=W1.o
 go_cut [17,18] from 56 to 65 (fun s q wx=>∃ b,s = .pointer (some ⟨b,0,none⟩)∧q = .int .i64 c3∧wx.heap[b]? = some (Jc #[J z1,J z2,J z3,J z4] 55 (0,0))∧Below W.heap.size W wx)
 case first =>
  have ne0:W.heap.size≠bT:=World.new_ne W ⟨bT,0,none⟩ cx0
  have hl:=(Below.refl W.heap.size W).alloc Lr (Jc #[J ⟨#[]⟩,J ⟨#[]⟩,J ⟨#[]⟩,J ⟨#[]⟩] 55);go_region_held (fun X=>X.cell? ⟨bT,0,none⟩=some (.slice p n cap)) (first | exact SS.o _ (QaS (Below.refl _ _)) | exact SS.o _ q2 | exact SS.o _ q1 | exact SS.o _ (q1.alloc q1.size _) | exact SS.o _ (QaS hl) | exact SS.o _ hl | go_keep) (first | (go_at_call 22; have hq:=C2.o W.drew;(with_reducible refine hq.run.mono ?_);rintro e u1 ⟨rfl,g⟩;have q1:Below W.heap.size W u1:=Qah g;have cx0:=SS.o _ q1;have ne1:u1.heap.size≠bT:=World.new_ne u1 ⟨bT,0,none⟩ cx0;clear hq g) | (go_at_call 22; have hq:=C2.o (W.alloc (Jc #[J ⟨#[]⟩,J ⟨#[]⟩,J ⟨#[]⟩,J ⟨#[]⟩] 55)).drew;(with_reducible refine hq.run.mono ?_);rintro e u1 ⟨rfl,g⟩;have q1:Below W.heap.size W u1:=hl.trans ((Qah g).mono (by simp));have n8:=En.Qac (World.alloc_heap_new W (Jc #[J ⟨#[]⟩,J ⟨#[]⟩,J ⟨#[]⟩,J ⟨#[]⟩] 55)) (Qah g);have cx0:=SS.o _ q1;have ne1:u1.heap.size≠bT:=World.new_ne u1 ⟨bT,0,none⟩ cx0;clear hq g) | (go_at_call 28; have hq:=E3.o u1 _ _ ((hK.o.keep q1) _ Mm8) ((hK.o.keep q1) _ Mm9) ((hK.o.keep q1) _ Mm6) ((hK.o.keep q1) _ Mm3);(with_reducible refine hq.run.mono ?_);rintro e u2 ⟨rfl,g⟩;have q2:=q1.trans (g.mono q1.size);(try (replace n8:=En.Qac n8 g));(try (have n9:=n8;obtain ⟨z0,z1',z2',z3'⟩:=Qc4 n9;obtain ⟨y0',y1',y2',y3'⟩:=Qf4 n9;clear n9));have cx0:=SS.o _ q2;have ne2:u2.heap.size≠bT:=World.new_ne u2 ⟨bT,0,none⟩ cx0;clear hq g) | (go_at_call 28; have ql:=q1.alloc q1.size (Jc #[J ⟨#[]⟩,J ⟨#[]⟩,J ⟨#[]⟩,J ⟨#[]⟩] 55);have hq:=E3.o (u1.alloc (Jc #[J ⟨#[]⟩,J ⟨#[]⟩,J ⟨#[]⟩,J ⟨#[]⟩] 55)) _ _ ((hK.o.keep ql) _ Mm8) ((hK.o.keep ql) _ Mm9) ((hK.o.keep ql) _ Mm6) ((hK.o.keep ql) _ Mm3);(with_reducible refine hq.run.mono ?_);rintro e u2 ⟨rfl,g⟩;have q2:=ql.trans (g.mono ql.size);have n8:=En.Qac (World.alloc_heap_new u1 (Jc #[J ⟨#[]⟩,J ⟨#[]⟩,J ⟨#[]⟩,J ⟨#[]⟩] 55)) g;(try (have n9:=n8;obtain ⟨z0,z1',z2',z3'⟩:=Qc4 n9;obtain ⟨y0',y1',y2',y3'⟩:=Qf4 n9;clear n9));have cx0:=SS.o _ q2;have ne2:u2.heap.size≠bT:=World.new_ne u2 ⟨bT,0,none⟩ cx0;clear hq g) | fail)
  all_goals
   go_wp2_with fail
   go_meet
   first
    | exact ⟨_,rfl,rfl,QaL n8,st4 q2 (by first | exact Nat.le_refl _ | exact q1.size | exact q2.size)⟩
    | exact ⟨_,rfl,rfl,World.alloc_heap_new u2 (Jc #[J z1,J z2,J z3,J z4] 55),q2.alloc q2.size (Jc #[J z1,J z2,J z3,J z4] 55)⟩
 case rest =>
  obtain ⟨bZ,rfl,rfl,nz,kx⟩:=hcut;have hK:=(hK.kp kx).ad (kBx bZ (Jc #[J z1,J z2,J z3,J z4] 55 (0,0))) nz;have hB:=hB.tr kx;clear nz kx SS cx0 w1
  rename World=>W
  have cx0:=En.Qaa (hK.o _ Mm3) 0 rfl;go_wp2_with fail;refine (AnsA.sayE (QqQ NF.o.t NF.o.n NF.o.ga.n NF.o.gb.n NF.o.ga.f NF.o.gb.f W (hK.o _ Mm9) (hK.o _ Mm7) (hK.o _ Mm4) (hK.o _ Mm5)) NF.o.e4).run.mono ?_;rintro e V ⟨⟨vs,rfl,ev⟩,g⟩;have hK:=(hK.kp g).ad (kEl vs sum) (ev);have hB:=hB.tr g;clear g
  rename World=>W
  clear ev;clear cx0;have cx0:=En.Qaa (hK.o _ Mm4) 0 rfl;go_wp2_with fail;refine (E4.o W _ _ (hK.o _ Mm10) (hK.o _ Mm11) (hK.o _ Mm8) (hK.o _ Mm0)).run.mono ?_;rintro e V ⟨rfl,g⟩;have hK:=hK.kp g;have hB:=hB.tr g;clear g
  rename World=>W
  clear cx0;go_upto_region 9 with fail
  have hK:=hK.nk #[J v1,J v2,J v3,J v4] 55;have hB:=hB.nb (Jc #[J v1,J v2,J v3,J v4] 55);generalize W.alloc (Jc #[J v1,J v2,J v3,J v4] 55)=Wn at *
  generalize W.heap.size=bV at *
  rename World=>W
  have cx0:=En.Qaa (hK.o _ Mm5) 0 rfl;go_wp2_with fail;refine (AnsA.sayI (QeV NF.o.t NF.o.n NF.o.ga.n NF.o.ga.f W (hK.o _ Mm11) (hK.o _ Mm9) (hK.o _ Mm6)) NF.o.e6).run.mono ?_;rintro e V ⟨rfl,g⟩;have hK:=hK.kp g;have hB:=hB.tr g;clear g
  rename World=>W
  clear cx0;rcases O1 with _ | X
  rotate_left 1
  obtain ⟨rfl,px,px'⟩:=I1.o.yes X rfl;have PX:Sh _:=⟨px⟩;have PX':Sh _:=⟨px'⟩;clear px px';rcases O2 with _ | Y
  rotate_left 1
  obtain ⟨rfl,py,py'⟩:=I2.o.yes Y rfl;have PY:Sh _:=⟨py⟩;have PY':Sh _:=⟨py'⟩;clear py py';rcases O3 with _ | Z
  rotate_left 1
  obtain ⟨rfl,pz,pz'⟩:=I3.o.yes Z rfl;have PZ:Sh _:=⟨pz⟩;have PZ':Sh _:=⟨pz'⟩;clear pz pz';rcases O4 with _ | V
  rotate_left 1
  obtain ⟨rfl,pv,pv'⟩:=I4.o.yes V rfl;have PV:Sh _:=⟨pv⟩;have PV':Sh _:=⟨pv'⟩;clear pv pv'
  focus
   obtain F:=NF.o.fin X Y Z V rfl rfl rfl rfl;obtain ⟨b1,b2,b3,b4,pb,pb'⟩:=ivs (X.1+Y.1,X.2+Y.2);have cA:=Qf1 a F.x F.y F.b PX.o PX'.o PY.o PY'.o pb pb';obtain ⟨m1',m2',m3',m4',cM⟩:=Qf5 a F.ob F.v F.m1 F.m2 pb pb' PV.o PV'.o;obtain ⟨r1,r2,r3,r4,cN⟩:=Qf5 a F.x F.z F.m3 F.m4 PX.o PX'.o PZ.o PZ'.o;have p0:pq 0=(⟨#[48]⟩,⟨#[49]⟩):=by decide +kernel
   have cQ:=Qe7 F.x.1 fit0 PX.o p0;have cR:=Qe7 F.x.2.1 fit0 PX'.o p0;have cH:=fun (h1:X.1≤0) (h2:0≤X.2)=>Qf6 F.x fit0 h1 h2 PX.o PX'.o p0;have CA:Sh _:=⟨cA⟩;have CM:Sh _:=⟨cM⟩;have CN:Sh _:=⟨cN⟩;have CQ:Sh _:=⟨cQ⟩;have CR:Sh _:=⟨cR⟩;have CH:Sh _:=⟨cH⟩;obtain ⟨k1,hk1⟩:∃ k,k=cmpQ X.1 0:=⟨_,rfl⟩;obtain ⟨k2,hk2⟩:∃ k,k=cmpQ X.2 0:=⟨_,rfl⟩;rw [←hk1] at CQ;rw [←hk2] at CR;have L1:Sh ((k1≤0↔X.1≤0)∧(0≤k2↔0≤X.2)):=⟨⟨by rw [hk1];exact (Qf7 _ _).1,by rw [hk2];exact (Qf7 _ _).2⟩⟩;have F:Sh _:=⟨F⟩;clear pb pb' p0 cA cM cN cQ cR cH hk1 hk2;go_upto_region 14 with fail
   go_wp2_with fail;refine (Qfw 0 1 ⟨#[48]⟩ ⟨#[49]⟩ (by decide +kernel) (by decide) (by decide) (by decide) W).run.mono ?_;rintro e V ⟨rfl,g⟩;have hK:=hK.kp g;have hB:=hB.tr g;clear g
   rename World=>W
   go_upto_region 15 with fail
   have hK:=hK.nk #[J ⟨#[48]⟩,J ⟨#[49]⟩] 42;have hB:=hB.nb (Jc #[J ⟨#[48]⟩,J ⟨#[49]⟩] 42);generalize W.alloc (Jc #[J ⟨#[48]⟩,J ⟨#[49]⟩] 42)=Wn at *
   generalize W.heap.size=bR at *
   rename World=>W
   obtain ⟨cx0,cx1,cx2,cx3⟩:=Qc4 (hK.o _ Mm5);obtain ⟨cy0,cy1,cy2,cy3⟩:=Qc4 (hK.o _ Mm4);go_wp2_with fail;refine (CA.o W (hK.o _ Mm13)).run.mono ?_;rintro e V ⟨rfl,g⟩;have hK:=hK.kp g;have hB:=hB.tr g;clear g
   rename World=>W
   clear cx0 cx1 cx2 cx3 cy0 cy1 cy2 cy3;go_upto_region 16 with fail
   have hK:=hK.nk #[J b1,J b2,J b3,J b4] 55;have hB:=hB.nb (Jc #[J b1,J b2,J b3,J b4] 55);generalize W.alloc (Jc #[J b1,J b2,J b3,J b4] 55)=Wn at *
   generalize W.heap.size=bB at *
   rename World=>W
   obtain ⟨cx0,cx1,cx2,cx3⟩:=Qc4 (hK.o _ Mm0);obtain ⟨cy0,cy1,cy2,cy3⟩:=Qc4 (hK.o _ Mm2);go_wp2_with fail;refine (CM.o W (hK.o _ (.tail _ Mm13))).run.mono ?_;rintro e V ⟨rfl,g⟩;have hK:=hK.kp g;have hB:=hB.tr g;clear g
   rename World=>W
   clear cx0 cx1 cx2 cx3 cy0 cy1 cy2 cy3;go_upto_region 17 with fail
   have hK:=hK.nk #[J m1',J m2',J m3',J m4'] 55;have hB:=hB.nb (Jc #[J m1',J m2',J m3',J m4'] 55);generalize W.alloc (Jc #[J m1',J m2',J m3',J m4'] 55)=Wn at *
   generalize W.heap.size=bM at *
   rename World=>W
   obtain ⟨cx0,cx1,cx2,cx3⟩:=Qc4 (hK.o _ Mm7);obtain ⟨cy0,cy1,cy2,cy3⟩:=Qc4 (hK.o _ Mm5);go_wp2_with fail;refine (CN.o W (hK.o _ (.tail _ (.tail _ Mm13)))).run.mono ?_;rintro e V ⟨rfl,g⟩;have hK:=hK.kp g;have hB:=hB.tr g;clear g
   rename World=>W
   clear cx0 cx1 cx2 cx3 cy0 cy1 cy2 cy3;go_upto_region 18 with fail
   have hK:=hK.nk #[J r1,J r2,J r3,J r4] 55;have hB:=hB.nb (Jc #[J r1,J r2,J r3,J r4] 55);generalize W.alloc (Jc #[J r1,J r2,J r3,J r4] 55)=Wn at *
   generalize W.heap.size=bN at *
   rename World=>W
   have f7:=NF.o.ws;have f1:k1≤0∨s=1:=F.o.lo.imp_left L1.o.1.2;have f2:0≤k2∨s = -1:=F.o.hi.imp_left L1.o.2.2;have CH:Sh (k1≤0→0≤k2→_):=⟨fun h1 h2=>CH.o (L1.o.1.1 h1) (L1.o.2.1 h2)⟩;by_cases g1:k1≤0 <;> by_cases g2:0≤k2 <;> rcases f7 with rfl | rfl | rfl <;> first | (exfalso;omega) | skip
   all_goals
    first | (have d1:decide (k1≤0)=true:=decide_eq_true g1) | (have d1:decide (k1≤0)=false:=decide_eq_false g1)
    first | (have d2:decide (0≤k2)=true:=decide_eq_true g2) | (have d2:decide (0≤k2)=false:=decide_eq_false g2)
    have G1:Sh _:=⟨g1⟩;have G2:Sh _:=⟨g2⟩;clear f1 f2 g1 g2;obtain ⟨cx0,cx1,cx2,cx3⟩:=Qc4 (hK.o _ Mm8);obtain ⟨cr0,cr1⟩:=Qc2 (hK.o _ Mm3);go_wp2_with fail;refine (CQ.o W).run.mono ?_;rintro e V ⟨rfl,g⟩;have hK:=hK.kp g;have hB:=hB.tr g;clear g
    rename World=>W
    clear cx0 cx1 cx2 cx3 cr0 cr1;obtain ⟨cx0,cx1,cx2,cx3⟩:=Qc4 (hK.o _ Mm8);obtain ⟨cr0,cr1⟩:=Qc2 (hK.o _ Mm3);go_wp2_with fail;refine (CR.o W).run.mono ?_;rintro e V ⟨rfl,g⟩;have hK:=hK.kp g;have hB:=hB.tr g;clear g
    rename World=>W
    clear cx0 cx1 cx2 cx3 cr0 cr1;obtain ⟨cx0,cx1,cx2,cx3⟩:=Qc4 (hK.o _ Mm8);obtain ⟨cr0,cr1⟩:=Qc2 (hK.o _ Mm3);go_wp2_with fail
    first
     | (go_ret;exact ⟨rfl,hB.o⟩)
     | (refine (CH.o G1.o G2.o W).run.mono ?_;rintro e V ⟨rfl,g⟩;have hB:Sh (Below w.heap.size w V):=⟨hB.o.trans (g.mono hB.o.size)⟩;clear g;go_wp2_with fail;go_ret;exact ⟨rfl,hB.o⟩)
  all_goals
   have hl:1<L.length:=NF.o.lev (by first | exact .inl rfl | exact .inr (.inl rfl) | exact .inr (.inr (.inl rfl)) | exact .inr (.inr (.inr rfl)));have hd:decide ((1:Int)<(n:Int))=true:=decide_eq_true (by have:=HN.o;omega);clear hl
   first | obtain rfl:=I1.o.no rfl | obtain rfl:=I2.o.no rfl | obtain rfl:=I3.o.no rfl | obtain rfl:=I4.o.no rfl
   have cx0:=En.Qaa (hK.o _ Mm5) 0 rfl;go_wp2_with fail;refine (QoY p n cap W).run.mono ?_;rintro e V ⟨rfl,g⟩;have hK:=hK.kp g;have hB:=hB.tr g;clear g
   rename World=>W
   go_wp2_with fail;go_ret;exact ⟨rfl,hB.o⟩
end Tw
end Go.Proofs.YtadcmepaniiciaaGreatDoor
