import Derived.Test.YtihlgifojjeoaaaGreatDoorZ8L
import Derived.Test.YtihlgifojjeoaaaGreatDoorZ8F4
import Derived.Test.YtihlgifojjeoaaaGreatDoorZ8G5
import Derived.Test.YtihlgifojjeoaaaGreatDoorZ8G4
import Derived.Test.YtihlgifojjeoaaaGreatDoorZ8H1
import Derived.Test.YtihlgifojjeoaaaGreatDoorZ8G7
set_option maxRecDepth 1000000
set_option maxHeartbeats 40000000
open Go.Value renaming string→J
open Go.Obj renaming cells→Jc
namespace Go.Proofs.YtihlgifojjeoaaaGreatDoor
section
namespace Tw
open Go.Proofs.YtihlgifojjeoaaaGreatDoor.Rt Go.Proofs.YtihlgifojjeoaaaGreatDoor.En
theorem Qpk {K D:Nat} (hK:0<K) {rs:List (List Rat)} {d:List Rat} (h:RadT K D (d :: rs)) {L B:Nat} {x:List Rat} (hx:x.length=2^(rs.length+1)) (hL:0<L) (ax:AllL L B x)
  (h1:2*(gr K D (rs.length+1)*(B*B))*(L*L*K^ee (rs.length+1))<10^200) (h2:(L*L*K^ee (rs.length+1))*(L*L*K^ee (rs.length+1))<10^200) :
  ∃ z,nrmO rs d x=some z∧z.length=2^rs.length∧AllL (L*L*K^ee (rs.length+1)) (gr K D (rs.length+1)*(B*B)) z:=by
 obtain ⟨hd,ad,hrs⟩:=h;obtain ⟨xa,xb⟩:=Qdv hx;have ih:=fun {L M B C:Nat} {x y:List Rat}=>Qkd hK hrs (L:=L) (M:=M) (B:=B) (C:=C) (x:=x) (y:=y);rw [nrmO];simp only [ee,gr] at *
 generalize hk:rs.length=k at *
 generalize hE:K^ee k=E at *
 have e0:0<E:=by rw [←hE];exact Nat.pow_pos hK
 have eP:K^(ee k+(1+ee k))=E*(K*E):=by rw [Nat.pow_add,Nat.pow_add,Nat.pow_one,hE]
 rw [eP] at h1 h2 ⊢;generalize hG:gr K D k=G at *
 have hLM:=Nat.mul_pos hL hL;have hP:L*L*E*(K*E)=L*L*(E*(K*E)):=Nat.mul_assoc _ _ _;have p1:L*L*E≤L*L*(E*(K*E)):=by rw [←hP];exact Nat.le_mul_of_pos_right _ (Nat.mul_pos hK e0)
 have s1:G*(B*B)≤(2*(G*(K*E))+G*G*D)*(B*B):=by
  refine Nat.mul_le_mul_right _ ?_;have:G≤G*(K*E):=Nat.le_mul_of_pos_right _ (Nat.mul_pos hK e0);omega
 have s2:G*(G*(B*B)*D)=G*G*D*(B*B):=by
  simp only [Nat.mul_comm,Nat.mul_left_comm]
 have s3:G*(G*(B*B)*D)≤(2*(G*(K*E))+G*G*D)*(B*B):=by rw [s2];exact Nat.mul_le_mul_right _ (by omega)
 have t1:2*(G*(B*B))*(L*L*E)<10^200:=Nat.lt_of_le_of_lt (Nat.mul_le_mul (Nat.mul_le_mul_left _ s1) p1) h1;have t2:(L*L*E)*(L*L*E)<10^200:=Nat.lt_of_le_of_lt (Nat.mul_le_mul p1 p1) h2;obtain ⟨aa,e1,l1,a1⟩:=ih xa xa hL hL ax.hl ax.hl t1 t2;obtain ⟨bb,e2,l2,a2⟩:=ih xb xb hL hL ax.hr ax.hr t1 t2;have hP3:L*L*E*K*E=L*L*(E*(K*E)):=by simp only [Nat.mul_comm,Nat.mul_left_comm]
 obtain ⟨bbd,e3,l3,a3⟩:=ih l2 hd (Nat.mul_pos hLM e0) hK a2 ad
  (by rw [hP3];exact Nat.lt_of_le_of_lt (Nat.mul_le_mul_right _ (Nat.mul_le_mul_left _ s3)) h1) (by rw [hP3];exact h2)
 rw [hP3] at a3
 have a1':AllL (L*L*(E*(K*E))) (G*(B*B)*(K*E)) aa:=by
  have:=a1.lift (M:=K*E) (Nat.mul_pos hK e0)
  rwa [hP] at this
 have v1:G*(B*B)*(K*E)+G*(G*(B*B)*D)≤(2*(G*(K*E))+G*G*D)*(B*B):=by
  rw [s2,Nat.add_mul,show G*(B*B)*(K*E)=G*(K*E)*(B*B) by simp only [Nat.mul_comm,Nat.mul_left_comm],Nat.mul_assoc 2];omega
 obtain ⟨p,e4,l4,a4⟩:=Qig (by rw [l1,l3]) a1' a3 (Nat.lt_of_le_of_lt (Nat.mul_le_mul_right _ (Nat.le_trans v1 (by omega))) h1) h2;refine ⟨p, ?_,by rw [l4,l1],a4.mono v1⟩;rw [e1,Option.bind_some,e2,Option.bind_some,e3,Option.bind_some,e4]
theorem Qcq {K D:Nat} (hK:0<K):∀ {rs:List (List Rat)},RadT K D rs→∀ {L B:Nat} {x:List Rat},x.length=2^rs.length→0<L→AllL L B x→sfit K D rs.length L B=true→∃ s,Qaw rs x=some s
 | [],_,L,B,x,hx,hL,ax,hs=>⟨_,rfl⟩
 | d :: rs,h,L,B,x,hx,hL,ax,hs=>by
  rw [List.length_cons,sfit,Bool.and_eq_true,Bool.and_eq_true,Bool.and_eq_true] at hs;obtain ⟨h1,h2,h3,h4⟩:=hs;obtain ⟨xa,xb⟩:=Qdv hx;obtain ⟨s,e1⟩:=Qcq hK h.2.2 xa hL ax.hl h4;obtain ⟨t,e2⟩:=Qcq hK h.2.2 xb hL ax.hr h4;obtain ⟨n,e3,l3,a3⟩:=Qpk hK h hx hL ax (of_decide_eq_true h1) (of_decide_eq_true h2);obtain ⟨u,e4⟩:=Qcq hK h.2.2 l3 (Nat.mul_pos (Nat.mul_pos hL hL) (Nat.pow_pos hK)) a3 h3;rw [Qaw,e1,Option.bind_some,e2,Option.bind_some];split
  ·exact ⟨_,rfl⟩
  ·split
   ·exact ⟨_,rfl⟩
   ·rw [e3,Option.bind_some,e4];exact ⟨_,rfl⟩
end Tw
end
section
namespace Tw
open SR Go.Proofs.YtihlgifojjeoaaaGreatDoor.Rt
theorem Qrf {S:SR} {x y:S.T} (h:x=y):S.sgn x=S.sgn y:=by rw [h]
theorem QvA {rs:List (List Rat)} {S:SR} {R:List Rat→S.T→Prop} (h:IsT rs S R) {a b d x y p q u1 u2 u3 u4 u5 u6:List Rat} {ab ba bd ad s v w:Int} (la:a.length=2^rs.length) (lb:b.length=2^rs.length) (ld:d.length=2^rs.length)
  (e1:Qaj subQ a b=some u1) (s1:Qaw rs u1=some ab) (e2:Qaj subQ b a=some u2) (s2:Qaw rs u2=some ba) (e3:Qaj subQ b d=some u3) (s3:Qaw rs u3=some bd) (e4:Qaj subQ a d=some u4) (s4:Qaw rs u4=some ad) (s5:Qaw rs d=some s)
  (e6:Qaj addQ a d=some x) (e7:Qaj addQ b d=some y) (e8:mulO rs a d=some p) (e9:mulO rs b d=some q) (e10:Qaj subQ x y=some u5) (s10:Qaw rs u5=some v) (e11:Qaj subQ p q=some u6) (s11:Qaw rs u6=some w) :
  ab = -ba∧v=ab∧w=ab*s∧(ab<0∨bd<0∨0≤ad)∧(0<ab∨0<bd∨ad≤0):=by
 obtain ⟨A,ha⟩:=h.ex la;obtain ⟨B,hb⟩:=h.ex lb;obtain ⟨D,hd⟩:=h.ex ld;have g1:S.sgn (A + -B)=ab:=h.sign (h.sub ha hb e1) s1;have g2:S.sgn (B + -A)=ba:=h.sign (h.sub hb ha e2) s2;have g3:S.sgn (B + -D)=bd:=h.sign (h.sub hb hd e3) s3;have g4:S.sgn (A + -D)=ad:=h.sign (h.sub ha hd e4) s4;have g5:S.sgn D=s:=h.sign hd s5;have g10:S.sgn (A+D + -(B+D))=v:=h.sign (h.sub (h.add ha hd e6) (h.add hb hd e7) e10) s10;have g11:S.sgn (A*D + -(B*D))=w:=h.sign (h.sub (h.mul ha hd e8) (h.mul hb hd e9) e11) s11;rw [SR.Qbz,show A+D+(-B + -D)=A + -B by rw [SR.add_assoc,SR.Qaz D,SR.Qby,SR.Qbh],g1] at g10;rw [←SR.neg_mul,←SR.add_mul,SR.Qak,g1,g5] at g11;have k1:S.sgn (B + -A) = - S.sgn (A + -B):=by rw [←SR.QaE,SR.Qbz,SR.neg_neg,SR.add_comm]
 rw [g1,g2] at k1
 have k2:0≤ab→0≤bd→0≤ad:=fun h1 h2=>by
  rw [←g4,←SR.grp1 A B D];exact SR.QfM (by rw [g1];exact h1) (by rw [g3];exact h2)
 have k3:ab≤0→bd≤0→ad≤0:=fun h1 h2=>by
  have:=SR.QfM (S:=S) (x := -(A + -B)) (y := -(B + -D)) (by rw [SR.QaE,g1];omega) (by rw [SR.QaE,g3];omega);rw [←SR.Qbz,SR.grp1,SR.QaE,g4] at this;omega
 refine ⟨by omega,g10.symm,g11.symm, ?_, ?_⟩
 ·by_cases h1:ab<0
  ·exact .inl h1
  ·by_cases h2:bd<0
   ·exact .inr (.inl h2)
   ·exact .inr (.inr (k2 (by omega) (by omega)))
 ·by_cases h1:0<ab
  ·exact .inl h1
  ·by_cases h2:0<bd
   ·exact .inr (.inl h2)
   ·exact .inr (.inr (k3 (by omega) (by omega)))
structure Iota (rs:List (List Rat)) (S:SR) (R:List Rat→S.T→Prop) (i:Rat→S.T):Prop where
 emb:∀ q,∃ l,embO rs [q]=some l∧R l (i q)
 sgn:∀ q,S.sgn (i q)=sgR q
 add:∀ p q,i (p+q)=i p+i q
 mul:∀ p q,i (p*q)=i p*i q
 one:i 1=S.one
 zer:i 0=S.zer
theorem QqX {rs:List (List Rat)} {d x l:List Rat} (h:x.length≠2^(rs.length+1)) (e:embO rs x=some l):embO (d :: rs) x=some (l++zeros d.length):=by
 rw [embO,if_neg h,e];rfl
theorem IsT.iota {rs:List (List Rat)} {S:SR} {R:List Rat→S.T→Prop} (h:IsT rs S R):∃ i,Iota rs S R i:=by
 induction h with
 | nil=>exact ⟨fun q=>q,⟨fun q=>⟨[q],rfl,rfl⟩,fun q=>rfl,fun _ _=>rfl,fun _ _=>rfl,rfl,rfl⟩⟩
 | @cons rs S R d h δ hR hd ih =>
  obtain ⟨i,hi⟩:=ih;refine ⟨fun q=>(i q,S.zer),⟨fun q => ?_,fun q => ?_,fun p q => ?_,fun p q => ?_, ?_, ?_⟩⟩
  ·obtain ⟨l,hl,hr⟩:=hi.emb q;refine ⟨l++zeros d.length,QqX ?_ hl,_,_,rfl,hr,by rw [h.len hR];exact h.zero⟩;have:=Nat.two_pow_pos rs.length;rw [Nat.pow_succ];simp;omega
  ·show sg2 δ (i q,S.zer)=_;rw [sg2,if_pos SR.QdN];exact hi.sgn q
  ·refine Prod.ext (hi.add p q) ?_;exact (SR.Qbh S.zer).symm
  ·refine Prod.ext ?_ ?_
   ·show i (p*q)=i p*i q+S.zer*S.zer * δ;rw [SR.QcR,SR.QcR,SR.Qbh,hi.mul]
   ·show S.zer=i p*S.zer+S.zer*i q;rw [SR.Qdt,SR.QcR,SR.Qbh]
  ·exact Prod.ext hi.one rfl
  ·exact Prod.ext hi.zer rfl
theorem Iota.neg {rs:List (List Rat)} {S:SR} {R:List Rat→S.T→Prop} {i:Rat→S.T} (h:Iota rs S R i) (q:Rat):i (-q) = -(i q):=by
 refine (SR.Qdk ?_).symm;rw [←h.add,Rat.add_neg_cancel,h.zer]
theorem Iota.sub {rs:List (List Rat)} {S:SR} {R:List Rat→S.T→Prop} {i:Rat→S.T} (h:Iota rs S R i) (p q:Rat):i p + -(i q)=i (p-q):=by
 rw [←h.neg,←h.add,Rat.sub_eq_add_neg]
theorem QvC {rs:List (List Rat)} {S:SR} {R:List Rat→S.T→Prop} (h:IsT rs S R) {p q:Rat} {l m u:List Rat} {s:Int} (e1:embO rs [p]=some l) (e2:embO rs [q]=some m) (e3:Qaj subQ l m=some u) (e4:Qaw rs u=some s):s=sgR (p-q):=by
 obtain ⟨i,hi⟩:=h.iota;obtain ⟨l',k1,r1⟩:=hi.emb p;obtain ⟨m',k2,r2⟩:=hi.emb q;obtain rfl:l=l':=by rw [e1] at k1;exact Option.some.inj k1
 obtain rfl:m=m':=by rw [e2] at k2;exact Option.some.inj k2
 have:S.sgn (i p + -(i q))=s:=h.sign (h.sub r1 r2 e3) e4;rw [hi.sub,hi.sgn] at this;exact this.symm
end Tw
end
section
namespace Tw
open Go.RowKit Go.Extern.Stop Go.Stop Go.Extern
open En Go.Proofs.YtihlgifojjeoaaaGreatDoor.Nm Go.Proofs.YtihlgifojjeoaaaGreatDoor.Rt
theorem QvB {W:World} {b:Nat} {n d:ByteArray} {T:TypeId} {r:Rat} (hr:pq r=(n,d)) (h:W.heap[b]? = some (Jc #[J n,J d] T (0,0))):El W (.slice (some ⟨b,0,none⟩) 1 1) [r] :=
 ⟨b,0,1,rfl,Nat.le_refl _,⟨fun i hi=>by
  obtain rfl:i=0:=by simp at hi;exact hi
  have e:pqs [r] 0=(n,d):=hr;rw [e];exact ⟨En.Qaa h 0 rfl,En.Qaa h 1 rfl⟩⟩⟩
theorem QtN {rs:List (List Rat)} (hk:rs.length≤4) {r:Rat} (fr:FitQ r) {n d:ByteArray} (hr:pq r=(n,d)) {f:Value} (pa:Nat) (w:World) (hg:Gl w) (hf:Fd w f rs) (ha:w.heap[pa]? = some (Jc #[J n,J d] 42 (0,0))) :
  Calls Tryz.prog 51 #[f,.pointer (some ⟨pa,0,none⟩)] w (AnsC (embO rs [r]≠none) (IsE (embO rs [r])) w):=by
 have ua:=(Below.refl w.heap.size w).alloc Lr (Jc #[J n,J d] 42);have cC:=Qij (x := [r]) hk (by simp) (fun q hq=>by rw [List.mem_singleton.1 hq];exact fr) (w.alloc (Jc #[J n,J d] 42)) (hg.keep ua) (Fd.keep ua hf) (QvB hr (World.alloc_heap_new w _));have a0:=En.Qaa ha 0 (v:=J n) rfl;have a1:=En.Qaa ha 1 (v:=J d) rfl;clear hg hf hr fr;obtain ⟨O,hO⟩:∃ O,O=embO rs [r]:=⟨_,rfl⟩;rw [←hO] at cC ⊢;clear hO;go_enter Tryz.func51, Tryz.ntmps51;go_wp2_with fail;refine cC.mono ?_;intro e v1 h1;have u:=ua.trans (h1.below.mono ua.size);cases O with
 | none =>
  obtain rfl:=h1.bad rfl;exact ⟨rfl,u,fun h=>absurd rfl h,fun _=>rfl⟩
 | some s =>
  obtain ⟨v,rfl,ev⟩:=h1.good s rfl;clear h1 cC;go_wp2_with fail;go_ret;exact ⟨u,fun _=>⟨_,rfl,s,rfl,ev⟩,fun h=>absurd (fun q=>by cases q) h⟩
theorem Qkq {L:List (List Rat)} (hL:FitT L) (hn:L.length≤1000) {r:Rat} (fr:FitQ r) {n d:ByteArray} (hr:pq r=(n,d)) {t:Value} (w:World) (hg:Gl w) (ht:TwAt w t L) :
  Calls Tryz.prog 18 #[t,.agg #[J n,J d]] w (AnsA (ovr L (fun rs=>embO rs [r])≠none) (IsE (ovr L fun rs=>embO rs [r])) (.slice none 0 0) w):=by
 have hmf:=mkf;have HT:Sh _:=⟨ht⟩;obtain ⟨p,cap,rfl,h⟩:=ht.ex;clear h ht;have u:=((Below.refl w.heap.size w).alloc Lr (Jc #[.slice p L.length cap] 28)).alloc (by simp) (Jc #[J n,J d] 42);have n_t:((w.alloc (Jc #[.slice p L.length cap] 28)).alloc (Jc #[J n,J d] 42)).heap[w.heap.size]? = _:=(Below.heap_alloc (w.alloc (Jc #[.slice p L.length cap] 28)) _ w.heap.size (by simp)).trans (World.alloc_heap_new w _);have n_x:=En.QaP w (Jc #[.slice p L.length cap] 28) (Jc #[J n,J d] 42);have t0:=En.Qaa n_t 0 (v:=.slice p L.length cap) rfl;obtain ⟨O,hO⟩:∃ O,O=ovr L (fun rs=>embO rs [r]):=⟨_,rfl⟩;rw [←hO];have HO:Sh _:=⟨hO⟩;clear hO;go_enter Tryz.func18, Tryz.ntmps18;go_wp2_with fail;generalize ((w.alloc (Jc #[.slice p L.length cap] 28)).alloc (Jc #[J n,J d] 42))=W0 at *
 have cA:=Qcj 51 #[.pointer (some ⟨w.heap.size+1,0,none⟩)] (enters_of Tryz.func51 (by kernel_rfl) rfl) hL hn (O≠none) (IsE O) W0 (hg.keep u) (HT.o.keep u) (by rw [HO.o];exact Qco)
  (fun rs hrs W f hB hf=>by
   rw [HO.o,QaA hrs];exact QtN (QbB hrs) fr hr (w.heap.size+1) W ((hg.keep u).keep hB) hf (En.Qac n_x hB))
 refine cA.mono ?_;intro e v1 h1;replace u:=u.trans (h1.below.mono u.size);clear HT HO n_t n_x t0 cA;cases O with
 | none =>
  obtain rfl:=h1.bad (fun h=>h rfl);clear h1;go_wp2_with fail;exact bodyPost_ret (v:=.tuple #[.slice none 0 0,.int .i64 60]) (by simp [results,Tryz.results18, go_sem]) rfl ⟨u,fun h=>absurd rfl h,fun _=>rfl⟩
 | some s =>
  obtain ⟨v,rfl,hv⟩:=h1.good (fun q=>by cases q);clear h1;go_wp2_with fail;exact bodyPost_ret (v:=.tuple #[v,.int .i64 0]) (by simp [results,Tryz.results18, go_sem]) rfl ⟨u,fun _=>⟨v,rfl,hv⟩,fun h=>absurd (fun q=>by cases q) h⟩
theorem cloCompare {rs:List (List Rat)} (hk:rs.length≤4) {x y:List Rat} (hn:x.length≤1000) (hm:y.length≤1000) (fx:FitL x) (fy:FitL y) {f vx vy:Value} (pa pb:Addr) (w:World) (hg:Gl w) (hf:Fd w f rs) (fa:w.cell? pa=some vx) (fb:w.cell? pb=some vy) (ex:El w vx x) (ey:El w vy y) :
  Calls Tryz.prog 54 #[f,.pointer (some pa),.pointer (some pb)] w (AnsC (chk2 rs x y ((Qaj subQ x y).bind (Qaw rs))≠none) (IsI (chk2 rs x y ((Qaj subQ x y).bind (Qaw rs)))) w):=by
 obtain ⟨Q,hQ⟩:∃ Q,Q=chk2 rs x y ((Qaj subQ x y).bind (Qaw rs)):=⟨_,rfl⟩;rw [←hQ];have CX:Sh (∀ W,Below w.heap.size w W→Calls Tryz.prog 39 #[f,vx] W (AnsV (decide (x.length=2^rs.length)=true) vx W)):=⟨fun W u=>(Qbw hk hn fx W (Fd.keep u hf) (ex.keep u)).mono fun _ _ h=>⟨h.below,fun q=>h.good (of_decide_eq_true q),fun q=>h.bad (fun q'=>q (decide_eq_true q'))⟩⟩;have CY:Sh (∀ W,Below w.heap.size w W→Calls Tryz.prog 39 #[f,vy] W (AnsV (decide (y.length=2^rs.length)=true) vy W)):=⟨fun W u=>(Qbw hk hm fy W (Fd.keep u hf) (ey.keep u)).mono fun _ _ h=>⟨h.below,fun q=>h.good (of_decide_eq_true q),fun q=>h.bad (fun q'=>q (decide_eq_true q'))⟩⟩;have QX:Sh (decide (x.length=2^rs.length)=false→Q=none):=⟨fun q=>by rw [hQ,chk2,if_neg (fun h=>of_decide_eq_false q h.1)]⟩;have QY:Sh (decide (y.length=2^rs.length)=false→Q=none):=⟨fun q=>by rw [hQ,chk2,if_neg (fun h=>of_decide_eq_false q h.2)]⟩
 have CP:Sh (decide (x.length=2^rs.length)=true→decide (y.length=2^rs.length)=true→Q=(Qaj subQ x y).bind (Qaw rs)∧(∀ W,Below w.heap.size w W→Calls Tryz.prog 43 #[vx,vy] W (AnsO (Qaj subQ x y) W))∧∀ z,Qaj subQ x y=some z→∀ W v,Below w.heap.size w W→El W v z→Calls Tryz.prog 47 #[f,v] W (AnsS (Qaw rs z) W)):=⟨fun qx qy=>by
  have hx:=of_decide_eq_true qx;have hy:=of_decide_eq_true qy;exact ⟨by rw [hQ,chk2,if_pos ⟨hx,hy⟩],fun W u=>Qih (hx.trans hy.symm) hn fx fy W (ex.keep u) (ey.keep u),fun z hz W v u ev=>QeU hk ((Qht (hx.trans hy.symm) hz).1.trans hx) (.pair (fun _ _ _ h=>FitQ.subQ h) hz) W (hg.keep u) (Fd.keep u hf) ev⟩⟩
 clear hg hf ex ey fx fy hn hm hk hQ;generalize Qaj subQ x y=P at *
 generalize decide (x.length=2^rs.length)=bx at *
 generalize decide (y.length=2^rs.length)=by_ at *
 go_enter Tryz.func54, Tryz.ntmps54;go_wp2_with fail
 go_region_held (fun X=>X.cell? pa=some vx∧X.cell? pb=some vy) (go_keep) (first | (go_at_call 39; (with_reducible refine (CX.o _ (QaS (Below.refl _ _))).mono ?_);intro e v1 h1;have k1:Below w.heap.size w v1:=Qah h1.below;rcases bx with _ | _;(obtain rfl:=h1.bad (fun q=>by cases q);dsimp +zetaDelta only [Exit.then,Exit.inBlock];exact ⟨rfl,k1,fun h=>absurd (QX.o rfl) h,fun _=>rfl⟩);obtain rfl:=h1.good rfl;clear h1;have fa:=Qae fa k1;have fb:=Qae fb k1) | (go_at_call 39; (with_reducible refine (CY.o _ k1).mono ?_);intro e v2 h2;have k2:Below w.heap.size w v2:=k1.trans (h2.below.mono k1.size);rcases by_ with _ | _;(obtain rfl:=h2.bad (fun q=>by cases q);dsimp +zetaDelta only [Exit.then,Exit.inBlock];exact ⟨rfl,k2,fun h=>absurd (QY.o rfl) h,fun _=>rfl⟩);obtain rfl:=h2.good rfl;have fa:=Qae fa h2.below;have fb:=Qae fb h2.below;clear h2 k1) | (go_at_call 43; have hq:=CP.o (by trivial) (by trivial);have cp:=hq.2.1 _ k2;(with_reducible refine cp.mono ?_);clear cp;intro e v3 h3;have k3:Below w.heap.size w v3:=k2.trans (h3.below.mono k2.size);rcases P with _ | z;(obtain rfl:=h3.bad rfl;dsimp +zetaDelta only [Exit.then,Exit.inBlock];exact ⟨rfl,k3,fun h=>absurd (hq.1.trans rfl) h,fun _=>rfl⟩);obtain ⟨v,rfl,ev⟩:=h3.good z rfl;have fa:=Qae fa h3.below;have fb:=Qae fb h3.below;have cs:=hq.2.2 z rfl v3 v k3 ev;have hQz:Sh (Q=Qaw rs z):=⟨hq.1.trans rfl⟩;clear h3 hq k2 ev) | (go_at_call 47; (with_reducible refine cs.mono ?_);clear cs;intro e v4 h4;have k4:Below w.heap.size w v4:=k3.trans (h4.below.mono k3.size);have fa:=Qae fa h4.below;have fb:=Qae fb h4.below;rcases hS:Qaw rs z with _ | s;(obtain rfl:=h4.bad hS;dsimp +zetaDelta only [Exit.then,Exit.inBlock];exact ⟨rfl,k4,fun h=>absurd (hQz.o.trans hS) h,fun _=>rfl⟩);obtain rfl:=h4.good s hS;have hQs:Sh (Q=some s):=⟨hQz.o.trans hS⟩;clear h4 hQz hS k3))
 all_goals (go_wp2_with fail;go_ret;exact ⟨k4,fun _=>⟨_,rfl,s,hQs.o,rfl⟩,fun h=>absurd (fun q=>by rw [hQs.o] at q;cases q) h⟩)
theorem Compare_O {L:List (List Rat)} (hL:FitT L) (hn:L.length≤1000) {x y:List Rat} (hx:x.length≤1000) (hy:y.length≤1000) (fx:FitL x) (fy:FitL y) {t vx vy:Value} (w:World) (hg:Gl w) (ht:TwAt w t L) (ex:El w vx x) (ey:El w vy y) :
  Calls Tryz.prog 20 #[t,vx,vy] w (AnsA (ovr L (fun rs=>chk2 rs x y ((Qaj subQ x y).bind (Qaw rs)))≠none) (IsI (ovr L fun rs=>chk2 rs x y ((Qaj subQ x y).bind (Qaw rs)))) (.int .i64 0) w):=by
 have hmf:=mkf;have HT:Sh _:=⟨ht⟩;obtain ⟨p,cap,rfl,h⟩:=ht.ex;clear h ht;have HX:Sh _:=⟨ex⟩;obtain ⟨b,o,c,rfl,h1,h2⟩:=ex.ex;have HY:Sh _:=⟨ey⟩;obtain ⟨b2,o2,c2,rfl,h1',h2'⟩:=ey.ex;clear h1 h2 ex h1' h2' ey;have u:=(((Below.refl w.heap.size w).alloc Lr (Jc #[.slice p L.length cap] 28)).alloc (by simp) (Jc #[.slice (some ⟨b,o,none⟩) x.length c] 29)).alloc (by simp;omega) (Jc #[.slice (some ⟨b2,o2,none⟩) y.length c2] 29);obtain ⟨n_t,n_x,n_y⟩:=En.new3 w (Jc #[.slice p L.length cap] 28) (Jc #[.slice (some ⟨b,o,none⟩) x.length c] 29) (Jc #[.slice (some ⟨b2,o2,none⟩) y.length c2] 29);have t0:=En.Qaa n_t 0 (v:=.slice p L.length cap) rfl;obtain ⟨O,hO⟩:∃ O,O=ovr L (fun rs=>chk2 rs x y ((Qaj subQ x y).bind (Qaw rs))):=⟨_,rfl⟩;rw [←hO];have HO:Sh _:=⟨hO⟩;clear hO;go_enter Tryz.func20, Tryz.ntmps20;go_wp2_with fail;generalize (((w.alloc (Jc #[.slice p L.length cap] 28)).alloc (Jc #[.slice (some ⟨b,o,none⟩) x.length c] 29)).alloc (Jc #[.slice (some ⟨b2,o2,none⟩) y.length c2] 29))=W0 at *
 have cA:=Qki 54 #[.pointer (some ⟨w.heap.size+1,0,none⟩),.pointer (some ⟨w.heap.size+1+1,0,none⟩)] (enters_of Tryz.func54 (by kernel_rfl) rfl) hL hn (O≠none) (IsI O) W0 (hg.keep u) (HT.o.keep u) (by rw [HO.o];exact Qco)
  (fun rs hrs W f hB hf=>by
   rw [HO.o,QaA hrs];exact cloCompare (QbB hrs) hx hy fx fy ⟨w.heap.size+1,0,none⟩ ⟨w.heap.size+1+1,0,none⟩ W ((hg.keep u).keep hB) hf (En.Qaa (En.Qac n_x hB) 0 rfl) (En.Qaa (En.Qac n_y hB) 0 rfl) ((HX.o.keep u).keep hB) ((HY.o.keep u).keep hB))
 refine cA.mono ?_;intro e v1 h1;replace u:=u.trans (h1.below.mono u.size);clear HX HY HT HO n_t n_x n_y t0 cA;cases O with
 | none =>
  obtain rfl:=h1.bad (fun h=>h rfl);clear h1;go_wp2_with fail;exact bodyPost_ret (v:=.tuple #[.int .i64 0,.int .i64 60]) (by simp [results,Tryz.results20, go_sem]) rfl ⟨u,fun h=>absurd rfl h,fun _=>rfl⟩
 | some s =>
  obtain ⟨v,rfl,hv⟩:=h1.good (fun q=>by cases q);clear h1;go_wp2_with fail;exact bodyPost_ret (v:=.tuple #[v,.int .i64 0]) (by simp [results,Tryz.results20, go_sem]) rfl ⟨u,fun _=>⟨v,rfl,hv⟩,fun h=>absurd (fun q=>by cases q) h⟩
theorem pick_any (c n:Int) (h1 : -9223372036854775808≤c) (h2:c≤9223372036854775807) (n1:1≤n) (n2:n≤9223372036854775807):∃ k:Nat,(k:Int)<n∧∀ w:World,Say 22 #[.int .i64 c,.int .i64 n] (.int .i64 (k:Int)) w:=by
 have hw:∀ x:Int, -9223372036854775808≤x→x≤9223372036854775807→IntKind.i64.wrap x=x:=fun x a b=>by simp [IntKind.wrap,IntKind.signed,IntKind.bits];omega
 have hn0:¬ n=0:=by omega
 obtain ⟨m,rfl⟩:=Int.eq_ofNat_of_zero_le (show 0≤n by omega);by_cases hc:c<0
 ·have e1:=hw (c+1) (by omega) (by omega);have e2:=hw (-(c+1)) (by omega) (by omega);obtain ⟨k,hk⟩:∃ k:Nat, -(c+1)=(k:Int):=⟨(-(c+1)).toNat,by omega⟩;have hm:k % m<m:=Nat.mod_lt _ (by omega);refine ⟨k % m,by omega,fun w => ?_⟩;show Calls _ _ _ _ _;have hd:decide (c<0)=true:=decide_eq_true hc;go_enter Tryz.func22, Tryz.ntmps22;go_wp2;go_ret;exact ⟨by first | rfl | simp,Below.refl _ _⟩
 ·obtain ⟨k,rfl⟩:=Int.eq_ofNat_of_zero_le (show 0≤c by omega);have hm:k % m<m:=Nat.mod_lt _ (by omega);refine ⟨k % m,by omega,fun w => ?_⟩;show Calls _ _ _ _ _;have hd:decide ((k:Int)<0)=false:=decide_eq_false hc;go_enter Tryz.func22, Tryz.ntmps22;go_wp2;go_ret;exact ⟨by first | rfl | simp,Below.refl _ _⟩
theorem of_l (n d:Int) (hn:n.natAbs≤1000000000000000) (hd:d.natAbs≤1000000000000000) (d0:d≠0):∃ s t,pq (Rat.divInt n d)=(s,t)∧∀ W,Say 19 #[.int .i64 n,.int .i64 d] (frc s t) W :=
 ⟨(pq (Rat.divInt n d)).1,(pq (Rat.divInt n d)).2,(Prod.eta _).symm,fun W=>of_q n d hn hd d0 W⟩
theorem cmp_say {p q:Rat} (hp:FitQ p) (hq:FitQ q) {s t s' t':ByteArray} (e:pq p=(s,t)) (e':pq q=(s',t')) (W:World):Say 27 #[frc s t,frc s' t'] (.int .i64 (cmpQ p q)) W:=by
 obtain rfl:s=(pq p).1:=by rw [e]
 obtain rfl:t=(pq p).2:=by rw [e]
 obtain rfl:s'=(pq q).1:=by rw [e']
 obtain rfl:t'=(pq q).2:=by rw [e']
 exact QgB hp hq W
end Tw
end
end Go.Proofs.YtihlgifojjeoaaaGreatDoor
