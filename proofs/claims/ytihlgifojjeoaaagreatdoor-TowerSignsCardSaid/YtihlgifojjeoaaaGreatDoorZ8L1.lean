import Derived.Test.YtihlgifojjeoaaaGreatDoorZ8L
import Derived.Test.YtihlgifojjeoaaaGreatDoorZ8F4
import Derived.Test.YtihlgifojjeoaaaGreatDoorZ8G5
set_option maxRecDepth 1000000
set_option maxHeartbeats 40000000
open Go.Value renaming string→J
open Go.Obj renaming cells→Jc
namespace Go.Proofs.YtihlgifojjeoaaaGreatDoor
section
namespace Tw
open Go.Proofs.YtihlgifojjeoaaaGreatDoor.Rt Go.Proofs.YtihlgifojjeoaaaGreatDoor.En
theorem Qpk {K D:Nat} (hK:0<K) {rs:List (List Rat)} {d:List Rat} (h:RadT K D (d :: rs)) {L B:Nat} {x:List Rat} (hx:x.length=2^(rs.length+1)) (hL:0<L) (ax:AllL L B x)
  (h1:2*(gr K D (rs.length+1)*(B*B))*(L*L*K^ee (rs.length+1))<10^200) (h2:(L*L*K^ee (rs.length+1))*(L*L*K^ee (rs.length+1))<10^200) :
  ∃ z,nrmO rs d x=some z∧z.length=2^rs.length∧AllL (L*L*K^ee (rs.length+1)) (gr K D (rs.length+1)*(B*B)) z:=by
 obtain ⟨hd,ad,hrs⟩:=h;obtain ⟨xa,xb⟩:=Qdv hx;have ih:=fun {L M B C:Nat} {x y:List Rat}=>Qkd hK hrs (L:=L) (M:=M) (B:=B) (C:=C) (x:=x) (y:=y);rw [nrmO];simp only [ee,gr] at *
 generalize hk:rs.length=k at *
 generalize hE:K^ee k=E at *
 have e0:0<E:=by rw [←hE];exact Nat.pow_pos hK
 have eP:K^(ee k+(1+ee k))=E*(K*E):=by rw [Nat.pow_add,Nat.pow_add,Nat.pow_one,hE]
 rw [eP] at h1 h2 ⊢;generalize hG:gr K D k=G at *
 have hLM:=Nat.mul_pos hL hL;have hP:L*L*E*(K*E)=L*L*(E*(K*E)):=Nat.mul_assoc _ _ _;have p1:L*L*E≤L*L*(E*(K*E)):=by rw [←hP];exact Nat.le_mul_of_pos_right _ (Nat.mul_pos hK e0)
 have s1:G*(B*B)≤(2*(G*(K*E))+G*G*D)*(B*B):=by
  refine Nat.mul_le_mul_right _ ?_;have:G≤G*(K*E):=Nat.le_mul_of_pos_right _ (Nat.mul_pos hK e0);omega
 have s2:G*(G*(B*B)*D)=G*G*D*(B*B):=by
  simp only [Nat.mul_comm,Nat.mul_left_comm]
 have s3:G*(G*(B*B)*D)≤(2*(G*(K*E))+G*G*D)*(B*B):=by rw [s2];exact Nat.mul_le_mul_right _ (by omega)
 have t1:2*(G*(B*B))*(L*L*E)<10^200:=Nat.lt_of_le_of_lt (Nat.mul_le_mul (Nat.mul_le_mul_left _ s1) p1) h1;have t2:(L*L*E)*(L*L*E)<10^200:=Nat.lt_of_le_of_lt (Nat.mul_le_mul p1 p1) h2;obtain ⟨aa,e1,l1,a1⟩:=ih xa xa hL hL ax.hl ax.hl t1 t2;obtain ⟨bb,e2,l2,a2⟩:=ih xb xb hL hL ax.hr ax.hr t1 t2;have hP3:L*L*E*K*E=L*L*(E*(K*E)):=by simp only [Nat.mul_comm,Nat.mul_left_comm]
 obtain ⟨bbd,e3,l3,a3⟩:=ih l2 hd (Nat.mul_pos hLM e0) hK a2 ad
  (by rw [hP3];exact Nat.lt_of_le_of_lt (Nat.mul_le_mul_right _ (Nat.mul_le_mul_left _ s3)) h1) (by rw [hP3];exact h2)
 rw [hP3] at a3
 have a1':AllL (L*L*(E*(K*E))) (G*(B*B)*(K*E)) aa:=by
  have:=a1.lift (M:=K*E) (Nat.mul_pos hK e0)
  rwa [hP] at this
 have v1:G*(B*B)*(K*E)+G*(G*(B*B)*D)≤(2*(G*(K*E))+G*G*D)*(B*B):=by
  rw [s2,Nat.add_mul,show G*(B*B)*(K*E)=G*(K*E)*(B*B) by simp only [Nat.mul_comm,Nat.mul_left_comm],Nat.mul_assoc 2];omega
 obtain ⟨p,e4,l4,a4⟩:=Qig (by rw [l1,l3]) a1' a3 (Nat.lt_of_le_of_lt (Nat.mul_le_mul_right _ (Nat.le_trans v1 (by omega))) h1) h2;refine ⟨p, ?_,by rw [l4,l1],a4.mono v1⟩;rw [e1,Option.bind_some,e2,Option.bind_some,e3,Option.bind_some,e4]
theorem Qcq {K D:Nat} (hK:0<K):∀ {rs:List (List Rat)},RadT K D rs→∀ {L B:Nat} {x:List Rat},x.length=2^rs.length→0<L→AllL L B x→sfit K D rs.length L B=true→∃ s,Qaw rs x=some s
 | [],_,L,B,x,hx,hL,ax,hs=>⟨_,rfl⟩
 | d :: rs,h,L,B,x,hx,hL,ax,hs=>by
  rw [List.length_cons,sfit,Bool.and_eq_true,Bool.and_eq_true,Bool.and_eq_true] at hs;obtain ⟨h1,h2,h3,h4⟩:=hs;obtain ⟨xa,xb⟩:=Qdv hx;obtain ⟨s,e1⟩:=Qcq hK h.2.2 xa hL ax.hl h4;obtain ⟨t,e2⟩:=Qcq hK h.2.2 xb hL ax.hr h4;obtain ⟨n,e3,l3,a3⟩:=Qpk hK h hx hL ax (of_decide_eq_true h1) (of_decide_eq_true h2);obtain ⟨u,e4⟩:=Qcq hK h.2.2 l3 (Nat.mul_pos (Nat.mul_pos hL hL) (Nat.pow_pos hK)) a3 h3;rw [Qaw,e1,Option.bind_some,e2,Option.bind_some];split
  ·exact ⟨_,rfl⟩
  ·split
   ·exact ⟨_,rfl⟩
   ·rw [e3,Option.bind_some,e4];exact ⟨_,rfl⟩
end Tw
end
section
namespace Tw
open SR Go.Proofs.YtihlgifojjeoaaaGreatDoor.Rt
theorem Qrf {S:SR} {x y:S.T} (h:x=y):S.sgn x=S.sgn y:=by rw [h]
theorem Qpl {rs:List (List Rat)} {S:SR} {R:List Rat→S.T→Prop} (h:IsT rs S R) {a b product sum negative:List Rat} {s r p q n z:Int} (la:a.length=2^rs.length) (lb:b.length=2^rs.length)
  (e1:mulO rs a b=some product) (e2:Qaj addQ a b=some sum) (e3:Qaj subQ (zeros (2^rs.length)) a=some negative)
  (s1:Qaw rs a=some s) (s2:Qaw rs b=some r) (s3:Qaw rs product=some p) (s4:Qaw rs sum=some q) (s5:Qaw rs negative=some n) (s6:Qaw rs (zeros (2^rs.length))=some z) :
  z=0∧p=s*r∧n = -s∧(s≠r∨q=s)∧(s≠0∨q=r)∧(r≠0∨q=s):=by
 obtain ⟨x,hx⟩:=h.ex la;obtain ⟨y,hy⟩:=h.ex lb;have f1:R product (x*y):=h.mul hx hy e1;have f2:R sum (x+y):=h.add hx hy e2;have f3:R negative (S.zer + -x):=h.sub h.zero hx e3;rw [SR.Qcy] at f3;have g1:=h.sign hx s1;have g2:=h.sign hy s2;have g3:=h.sign f1 s3;have g4:=h.sign f2 s4;have g5:=h.sign f3 s5;have g6:=h.sign h.zero s6;rw [SR.QdN] at g6;rw [SR.Qak,g1,g2] at g3;rw [SR.QaE,g1] at g5;refine ⟨g6.symm,g3.symm,g5.symm, ?_, ?_, ?_⟩
 ·by_cases e:s=r
  ·right;rw [←g4,SR.QbS (by rw [g1,g2,e]),g1]
  ·exact .inl e
 ·by_cases e:s=0
  ·right;rw [←g4,SR.QbW (by rw [g1,e]),g2]
  ·exact .inl e
 ·by_cases e:r=0
  ·right;rw [←g4,SR.QcS (by rw [g2,e]),g1]
  ·exact .inl e
theorem QvA {rs:List (List Rat)} {S:SR} {R:List Rat→S.T→Prop} (h:IsT rs S R) {a b d x y p q u1 u2 u3 u4 u5 u6:List Rat} {ab ba bd ad s v w:Int} (la:a.length=2^rs.length) (lb:b.length=2^rs.length) (ld:d.length=2^rs.length)
  (e1:Qaj subQ a b=some u1) (s1:Qaw rs u1=some ab) (e2:Qaj subQ b a=some u2) (s2:Qaw rs u2=some ba) (e3:Qaj subQ b d=some u3) (s3:Qaw rs u3=some bd) (e4:Qaj subQ a d=some u4) (s4:Qaw rs u4=some ad) (s5:Qaw rs d=some s)
  (e6:Qaj addQ a d=some x) (e7:Qaj addQ b d=some y) (e8:mulO rs a d=some p) (e9:mulO rs b d=some q) (e10:Qaj subQ x y=some u5) (s10:Qaw rs u5=some v) (e11:Qaj subQ p q=some u6) (s11:Qaw rs u6=some w) :
  ab = -ba∧v=ab∧w=ab*s∧(ab<0∨bd<0∨0≤ad)∧(0<ab∨0<bd∨ad≤0):=by
 obtain ⟨A,ha⟩:=h.ex la;obtain ⟨B,hb⟩:=h.ex lb;obtain ⟨D,hd⟩:=h.ex ld;have g1:S.sgn (A + -B)=ab:=h.sign (h.sub ha hb e1) s1;have g2:S.sgn (B + -A)=ba:=h.sign (h.sub hb ha e2) s2;have g3:S.sgn (B + -D)=bd:=h.sign (h.sub hb hd e3) s3;have g4:S.sgn (A + -D)=ad:=h.sign (h.sub ha hd e4) s4;have g5:S.sgn D=s:=h.sign hd s5;have g10:S.sgn (A+D + -(B+D))=v:=h.sign (h.sub (h.add ha hd e6) (h.add hb hd e7) e10) s10;have g11:S.sgn (A*D + -(B*D))=w:=h.sign (h.sub (h.mul ha hd e8) (h.mul hb hd e9) e11) s11;rw [SR.Qbz,show A+D+(-B + -D)=A + -B by rw [SR.add_assoc,SR.Qaz D,SR.Qby,SR.Qbh],g1] at g10;rw [←SR.neg_mul,←SR.add_mul,SR.Qak,g1,g5] at g11;have k1:S.sgn (B + -A) = - S.sgn (A + -B):=by rw [←SR.QaE,SR.Qbz,SR.neg_neg,SR.add_comm]
 rw [g1,g2] at k1
 have k2:0≤ab→0≤bd→0≤ad:=fun h1 h2=>by
  rw [←g4,←SR.grp1 A B D];exact SR.QfM (by rw [g1];exact h1) (by rw [g3];exact h2)
 have k3:ab≤0→bd≤0→ad≤0:=fun h1 h2=>by
  have:=SR.QfM (S:=S) (x := -(A + -B)) (y := -(B + -D)) (by rw [SR.QaE,g1];omega) (by rw [SR.QaE,g3];omega);rw [←SR.Qbz,SR.grp1,SR.QaE,g4] at this;omega
 refine ⟨by omega,g10.symm,g11.symm, ?_, ?_⟩
 ·by_cases h1:ab<0
  ·exact .inl h1
  ·by_cases h2:bd<0
   ·exact .inr (.inl h2)
   ·exact .inr (.inr (k2 (by omega) (by omega)))
 ·by_cases h1:0<ab
  ·exact .inl h1
  ·by_cases h2:0<bd
   ·exact .inr (.inl h2)
   ·exact .inr (.inr (k3 (by omega) (by omega)))
end Tw
end
section
namespace Tw
open Go.RowKit Go.Extern.Stop Go.Stop Go.Extern
open En Go.Proofs.YtihlgifojjeoaaaGreatDoor.Nm Go.Proofs.YtihlgifojjeoaaaGreatDoor.Rt
theorem QvB {W:World} {b:Nat} {n d:ByteArray} {T:TypeId} {r:Rat} (hr:pq r=(n,d)) (h:W.heap[b]? = some (Jc #[J n,J d] T (0,0))):El W (.slice (some ⟨b,0,none⟩) 1 1) [r] :=
 ⟨b,0,1,rfl,Nat.le_refl _,⟨fun i hi=>by
  obtain rfl:i=0:=by simp at hi;exact hi
  have e:pqs [r] 0=(n,d):=hr;rw [e];exact ⟨En.Qaa h 0 rfl,En.Qaa h 1 rfl⟩⟩⟩
theorem QtN {rs:List (List Rat)} (hk:rs.length≤4) {r:Rat} (fr:FitQ r) {n d:ByteArray} (hr:pq r=(n,d)) {f:Value} (pa:Nat) (w:World) (hg:Gl w) (hf:Fd w f rs) (ha:w.heap[pa]? = some (Jc #[J n,J d] 42 (0,0))) :
  Calls Tryz.prog 51 #[f,.pointer (some ⟨pa,0,none⟩)] w (AnsC (embO rs [r]≠none) (IsE (embO rs [r])) w):=by
 have ua:=(Below.refl w.heap.size w).alloc Lr (Jc #[J n,J d] 42);have cC:=Qij (x := [r]) hk (by simp) (fun q hq=>by rw [List.mem_singleton.1 hq];exact fr) (w.alloc (Jc #[J n,J d] 42)) (hg.keep ua) (Fd.keep ua hf) (QvB hr (World.alloc_heap_new w _));have a0:=En.Qaa ha 0 (v:=J n) rfl;have a1:=En.Qaa ha 1 (v:=J d) rfl;clear hg hf hr fr;obtain ⟨O,hO⟩:∃ O,O=embO rs [r]:=⟨_,rfl⟩;rw [←hO] at cC ⊢;clear hO;go_enter Tryz.func51, Tryz.ntmps51;go_wp2_with fail;refine cC.mono ?_;intro e v1 h1;have u:=ua.trans (h1.below.mono ua.size);cases O with
 | none =>
  obtain rfl:=h1.bad rfl;exact ⟨rfl,u,fun h=>absurd rfl h,fun _=>rfl⟩
 | some s =>
  obtain ⟨v,rfl,ev⟩:=h1.good s rfl;clear h1 cC;go_wp2_with fail;go_ret;exact ⟨u,fun _=>⟨_,rfl,s,rfl,ev⟩,fun h=>absurd (fun q=>by cases q) h⟩
theorem Qkq {L:List (List Rat)} (hL:FitT L) (hn:L.length≤1000) {r:Rat} (fr:FitQ r) {n d:ByteArray} (hr:pq r=(n,d)) {t:Value} (w:World) (hg:Gl w) (ht:TwAt w t L) :
  Calls Tryz.prog 18 #[t,.agg #[J n,J d]] w (AnsA (ovr L (fun rs=>embO rs [r])≠none) (IsE (ovr L fun rs=>embO rs [r])) (.slice none 0 0) w):=by
 have hmf:=mkf;have HT:Sh _:=⟨ht⟩;obtain ⟨p,cap,rfl,h⟩:=ht.ex;clear h ht;have u:=((Below.refl w.heap.size w).alloc Lr (Jc #[.slice p L.length cap] 28)).alloc (by simp) (Jc #[J n,J d] 42);have n_t:((w.alloc (Jc #[.slice p L.length cap] 28)).alloc (Jc #[J n,J d] 42)).heap[w.heap.size]? = _:=(Below.heap_alloc (w.alloc (Jc #[.slice p L.length cap] 28)) _ w.heap.size (by simp)).trans (World.alloc_heap_new w _);have n_x:=En.QaP w (Jc #[.slice p L.length cap] 28) (Jc #[J n,J d] 42);have t0:=En.Qaa n_t 0 (v:=.slice p L.length cap) rfl;obtain ⟨O,hO⟩:∃ O,O=ovr L (fun rs=>embO rs [r]):=⟨_,rfl⟩;rw [←hO];have HO:Sh _:=⟨hO⟩;clear hO;go_enter Tryz.func18, Tryz.ntmps18;go_wp2_with fail;generalize ((w.alloc (Jc #[.slice p L.length cap] 28)).alloc (Jc #[J n,J d] 42))=W0 at *
 have cA:=Qcj 51 #[.pointer (some ⟨w.heap.size+1,0,none⟩)] (enters_of Tryz.func51 (by kernel_rfl) rfl) hL hn (O≠none) (IsE O) W0 (hg.keep u) (HT.o.keep u) (by rw [HO.o];exact Qco)
  (fun rs hrs W f hB hf=>by
   rw [HO.o,QaA hrs];exact QtN (QbB hrs) fr hr (w.heap.size+1) W ((hg.keep u).keep hB) hf (En.Qac n_x hB))
 refine cA.mono ?_;intro e v1 h1;replace u:=u.trans (h1.below.mono u.size);clear HT HO n_t n_x t0 cA;cases O with
 | none =>
  obtain rfl:=h1.bad (fun h=>h rfl);clear h1;go_wp2_with fail;exact bodyPost_ret (v:=.tuple #[.slice none 0 0,.int .i64 60]) (by simp [results,Tryz.results18, go_sem]) rfl ⟨u,fun h=>absurd rfl h,fun _=>rfl⟩
 | some s =>
  obtain ⟨v,rfl,hv⟩:=h1.good (fun q=>by cases q);clear h1;go_wp2_with fail;exact bodyPost_ret (v:=.tuple #[v,.int .i64 0]) (by simp [results,Tryz.results18, go_sem]) rfl ⟨u,fun _=>⟨v,rfl,hv⟩,fun h=>absurd (fun q=>by cases q) h⟩
end Tw
end
end Go.Proofs.YtihlgifojjeoaaaGreatDoor
