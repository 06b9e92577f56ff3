import Derived.Test.YtihlgifojjeoaaaGreatDoorZ8L
import Derived.Test.YtihlgifojjeoaaaGreatDoorZ8F4
import Derived.Test.YtihlgifojjeoaaaGreatDoorZ8G5
import Derived.Test.YtihlgifojjeoaaaGreatDoorZ8G4
import Derived.Test.YtihlgifojjeoaaaGreatDoorZ8H1
import Derived.Test.YtihlgifojjeoaaaGreatDoorZ8G7
import Derived.Test.YtihlgifojjeoaaaGreatDoorZ8H9
import Derived.Test.YtihlgifojjeoaaaGreatDoorZ8F7
set_option maxRecDepth 1000000
set_option maxHeartbeats 40000000
open Go.Value renaming string→J
open Go.Obj renaming cells→Jc
namespace Go.Proofs.YtihlgifojjeoaaaGreatDoor
section
namespace Tw
open Go.Proofs.YtihlgifojjeoaaaGreatDoor.Rt Go.Proofs.YtihlgifojjeoaaaGreatDoor.En
theorem Qpk {K D:Nat} (hK:0<K) {rs:List (List Rat)} {d:List Rat} (h:RadT K D (d :: rs)) {L B:Nat} {x:List Rat} (hx:x.length=2^(rs.length+1)) (hL:0<L) (ax:AllL L B x)
  (h1:2*(gr K D (rs.length+1)*(B*B))*(L*L*K^ee (rs.length+1))<10^200) (h2:(L*L*K^ee (rs.length+1))*(L*L*K^ee (rs.length+1))<10^200) :
  ∃ z,nrmO rs d x=some z∧z.length=2^rs.length∧AllL (L*L*K^ee (rs.length+1)) (gr K D (rs.length+1)*(B*B)) z:=by
 obtain ⟨hd,ad,hrs⟩:=h;obtain ⟨xa,xb⟩:=Qdv hx;have ih:=fun {L M B C:Nat} {x y:List Rat}=>Qkd hK hrs (L:=L) (M:=M) (B:=B) (C:=C) (x:=x) (y:=y);rw [nrmO];simp only [ee,gr] at *
 generalize hk:rs.length=k at *
 generalize hE:K^ee k=E at *
 have e0:0<E:=by rw [←hE];exact Nat.pow_pos hK
 have eP:K^(ee k+(1+ee k))=E*(K*E):=by rw [Nat.pow_add,Nat.pow_add,Nat.pow_one,hE]
 rw [eP] at h1 h2 ⊢;generalize hG:gr K D k=G at *
 have hLM:=Nat.mul_pos hL hL;have hP:L*L*E*(K*E)=L*L*(E*(K*E)):=Nat.mul_assoc _ _ _;have p1:L*L*E≤L*L*(E*(K*E)):=by rw [←hP];exact Nat.le_mul_of_pos_right _ (Nat.mul_pos hK e0)
 have s1:G*(B*B)≤(2*(G*(K*E))+G*G*D)*(B*B):=by
  refine Nat.mul_le_mul_right _ ?_;have:G≤G*(K*E):=Nat.le_mul_of_pos_right _ (Nat.mul_pos hK e0);omega
 have s2:G*(G*(B*B)*D)=G*G*D*(B*B):=by
  simp only [Nat.mul_comm,Nat.mul_left_comm]
 have s3:G*(G*(B*B)*D)≤(2*(G*(K*E))+G*G*D)*(B*B):=by rw [s2];exact Nat.mul_le_mul_right _ (by omega)
 have t1:2*(G*(B*B))*(L*L*E)<10^200:=Nat.lt_of_le_of_lt (Nat.mul_le_mul (Nat.mul_le_mul_left _ s1) p1) h1;have t2:(L*L*E)*(L*L*E)<10^200:=Nat.lt_of_le_of_lt (Nat.mul_le_mul p1 p1) h2;obtain ⟨aa,e1,l1,a1⟩:=ih xa xa hL hL ax.hl ax.hl t1 t2;obtain ⟨bb,e2,l2,a2⟩:=ih xb xb hL hL ax.hr ax.hr t1 t2;have hP3:L*L*E*K*E=L*L*(E*(K*E)):=by simp only [Nat.mul_comm,Nat.mul_left_comm]
 obtain ⟨bbd,e3,l3,a3⟩:=ih l2 hd (Nat.mul_pos hLM e0) hK a2 ad
  (by rw [hP3];exact Nat.lt_of_le_of_lt (Nat.mul_le_mul_right _ (Nat.mul_le_mul_left _ s3)) h1) (by rw [hP3];exact h2)
 rw [hP3] at a3
 have a1':AllL (L*L*(E*(K*E))) (G*(B*B)*(K*E)) aa:=by
  have:=a1.lift (M:=K*E) (Nat.mul_pos hK e0)
  rwa [hP] at this
 have v1:G*(B*B)*(K*E)+G*(G*(B*B)*D)≤(2*(G*(K*E))+G*G*D)*(B*B):=by
  rw [s2,Nat.add_mul,show G*(B*B)*(K*E)=G*(K*E)*(B*B) by simp only [Nat.mul_comm,Nat.mul_left_comm],Nat.mul_assoc 2];omega
 obtain ⟨p,e4,l4,a4⟩:=Qig (by rw [l1,l3]) a1' a3 (Nat.lt_of_le_of_lt (Nat.mul_le_mul_right _ (Nat.le_trans v1 (by omega))) h1) h2;refine ⟨p, ?_,by rw [l4,l1],a4.mono v1⟩;rw [e1,Option.bind_some,e2,Option.bind_some,e3,Option.bind_some,e4]
theorem Qcq {K D:Nat} (hK:0<K):∀ {rs:List (List Rat)},RadT K D rs→∀ {L B:Nat} {x:List Rat},x.length=2^rs.length→0<L→AllL L B x→sfit K D rs.length L B=true→∃ s,Qaw rs x=some s
 | [],_,L,B,x,hx,hL,ax,hs=>⟨_,rfl⟩
 | d :: rs,h,L,B,x,hx,hL,ax,hs=>by
  rw [List.length_cons,sfit,Bool.and_eq_true,Bool.and_eq_true,Bool.and_eq_true] at hs;obtain ⟨h1,h2,h3,h4⟩:=hs;obtain ⟨xa,xb⟩:=Qdv hx;obtain ⟨s,e1⟩:=Qcq hK h.2.2 xa hL ax.hl h4;obtain ⟨t,e2⟩:=Qcq hK h.2.2 xb hL ax.hr h4;obtain ⟨n,e3,l3,a3⟩:=Qpk hK h hx hL ax (of_decide_eq_true h1) (of_decide_eq_true h2);obtain ⟨u,e4⟩:=Qcq hK h.2.2 l3 (Nat.mul_pos (Nat.mul_pos hL hL) (Nat.pow_pos hK)) a3 h3;rw [Qaw,e1,Option.bind_some,e2,Option.bind_some];split
  ·exact ⟨_,rfl⟩
  ·split
   ·exact ⟨_,rfl⟩
   ·rw [e3,Option.bind_some,e4];exact ⟨_,rfl⟩
end Tw
end
section
namespace Tw
open Go.RowKit Go.Extern.Stop Go.Stop Go.Extern
open En Go.Proofs.YtihlgifojjeoaaaGreatDoor.Nm Go.Proofs.YtihlgifojjeoaaaGreatDoor.Rt
def rootO:List (List Rat)→Option (List Rat)
 | []=>none
 | d :: rs=>(embO rs [1]).map fun z=>Tw.zeros d.length++z
theorem QvB {W:World} {b:Nat} {n d:ByteArray} {T:TypeId} {r:Rat} (hr:pq r=(n,d)) (h:W.heap[b]? = some (Jc #[J n,J d] T (0,0))):El W (.slice (some ⟨b,0,none⟩) 1 1) [r] :=
 ⟨b,0,1,rfl,Nat.le_refl _,⟨fun i hi=>by
  obtain rfl:i=0:=by simp at hi;exact hi
  have e:pqs [r] 0=(n,d):=hr;rw [e];exact ⟨En.Qaa h 0 rfl,En.Qaa h 1 rfl⟩⟩⟩
theorem fitOne:FitL [1]:=fun q hq=>by rw [List.mem_singleton.1 hq];exact fit1
theorem root_O {rs:List (List Rat)} (hk:rs.length≤3) (d:List Rat) {f:Value} (w:World) (hg:Gl w) (hf:Fd w f (d :: rs)) :
  Calls Tryz.prog 60 #[f] w (AnsO (rootO (d :: rs)) w):=by
 have hp:=QbG (show rs.length≤4 by omega);have hrad:=hf.rad;obtain ⟨fb,lv,rv,rfl,n_f,hl,er,hd,fd⟩:=hf;have cI:=fun (W:World) (v:Value) (u:Below w.heap.size w W) (ev:El W v [1])=>Qij (rs:=rs) (x := [1]) (by omega) (by simp) fitOne W (hg.keep u) (Fd.keep u hl) ev;have cZ:=fun (W:World) (u:Below w.heap.size w W)=>Qke d.length (by omega) W (hg.keep u);have hs:rootO (d :: rs)=(embO rs [1]).map fun z=>Tw.zeros d.length++z:=rfl;rw [hs];have LE:Sh (∀ z,embO rs [1]=some z→z.length=2^rs.length):=⟨fun z h=>Qlh hrad.2 h⟩;have HP:Sh (1≤2^rs.length∧2^rs.length≤16∧d.length=2^rs.length):=⟨⟨hp.1,hp.2,hd⟩⟩;have CI:Sh _:=⟨cI⟩;have CZ:Sh _:=⟨cZ⟩;obtain ⟨br,orr,cr,rfl,_,_⟩:=er.ex;have o0:=hg.o0;have o1:=hg.o1;have G0:Sh (Gl w):=⟨hg⟩;clear hs cI cZ hrad hg hl er fd hk hp hd;generalize embO rs [1]=E at *
 generalize 2^rs.length=n at *
 have f0:=En.Qaa n_f 0 (v:=lv) rfl;have f1:=En.Qaa n_f 1 (v:=.slice (some ⟨br,orr,none⟩) d.length cr) rfl;go_enter Tryz.func60, Tryz.ntmps60;go_wp2_with fail
 go_region_held (fun X=>(X.cell? ⟨fb,0,none⟩=some lv∧X.cell? ⟨fb,1,none⟩=some (.slice (some ⟨br,orr,none⟩) d.length cr))∧X.cell? ⟨1, 0,none⟩=some (J ⟨#[49]⟩)∧X.cell? ⟨1, 1,none⟩=some (J ⟨#[49]⟩)) (go_keep) (first
  | (go_at_call 93; (with_reducible refine (CZ.o w.drew (QaS (Below.refl _ _))).mono ?_);intro e v1 h1;have u1:Below w.heap.size w v1:=Qah h1.below;obtain ⟨vq,rfl,eq⟩:=h1.good _ rfl;obtain ⟨bq,oq,cq,rfl,_,_⟩:=eq.ex;clear h1;have f0:=Qae f0 u1;have f1:=Qae f1 u1;have o0:=Qae o0 u1;have o1:=Qae o1 u1;have UB:=(Below.refl v1.heap.size v1).alloc Lr (Jc #[J ⟨#[49]⟩,J ⟨#[49]⟩] 42);have eq:=eq.keep UB;have CE:=CI.o _ _ (u1.trans (UB.mono u1.size)) (QvB pq1 (World.alloc_heap_new v1 (Jc #[J ⟨#[49]⟩,J ⟨#[49]⟩] 42)));have U1:Sh _:=⟨u1.trans (UB.mono u1.size)⟩;clear UB)
  | (go_at_call 93; (with_reducible refine (CZ.o _ (QaS ((Below.refl _ _).alloc Lr _))).mono ?_);intro e v1 h1;have u1:Below w.heap.size w v1:=((Below.refl w.heap.size w).alloc Lr _).trans ((Qah h1.below).mono (by simp));obtain ⟨vq,rfl,eq⟩:=h1.good _ rfl;obtain ⟨bq,oq,cq,rfl,_,_⟩:=eq.ex;have hq:=En.Qac (show (w.alloc (Jc #[J ⟨#[49]⟩,J ⟨#[49]⟩] 42)).drew.heap[w.heap.size]? = some _ from World.alloc_heap_new w _) h1.below;clear h1;have f0:=Qae f0 u1;have f1:=Qae f1 u1;have o0:=Qae o0 u1;have o1:=Qae o1 u1;have CE:=CI.o v1 _ u1 (QvB pq1 hq);have U1:Sh _:=⟨u1⟩;clear hq)
  | (go_at_call 52; (with_reducible refine CE.mono ?_);intro e v2 h2;have u2:Below w.heap.size w v2:=U1.o.trans (h2.below.mono U1.o.size);rcases E with _ | z;(obtain rfl:=h2.bad rfl;dsimp +zetaDelta only [Exit.then,Exit.inBlock];exact ⟨rfl,u2,fun z hz=>(by cases hz),fun _=>rfl⟩);obtain ⟨vz,rfl,ez⟩:=h2.good z rfl;obtain ⟨bz,oz,cz,rfl,_,_⟩:=ez.ex;have UA:=(Below.refl v2.heap.size v2).alloc Lr (Jc #[.slice (some ⟨bq,oq,none⟩) (Tw.zeros d.length).length cq,.slice (some ⟨bz,oz,none⟩) z.length cz] 67);have CT:=Qii (a:=Tw.zeros d.length) (b:=z) (by rw [QaR];have:=HP.o;omega) (by have:=LE.o z rfl;have:=HP.o;omega) v2.heap.size 2 _ (World.alloc_heap_new v2 _) ((eq.keep h2.below).keep UA) (ez.keep UA);have U3:Sh _:=⟨u2.trans (UA.mono u2.size)⟩;have f0:v2.cell? ⟨fb,0,none⟩=_:=Qae (En.Qaa n_f 0 rfl) u2;have f1:v2.cell? ⟨fb,1,none⟩=_:=Qae (En.Qaa n_f 1 rfl) u2;have o0:v2.cell? ⟨1, 0,none⟩=_:=Qae G0.o.o0 u2;have o1:v2.cell? ⟨1, 1,none⟩=_:=Qae G0.o.o1 u2;clear h2 ez eq UA CE)
  | (go_at_call 98; (with_reducible refine CT.mono ?_);intro e v3 h3;have u3:=U3.o.trans (h3.below.mono U3.o.size);obtain ⟨vt,rfl,et⟩:=h3.good _ rfl;clear h3;have f0:v3.cell? ⟨fb,0,none⟩=_:=Qae (En.Qaa n_f 0 rfl) u3;have f1:v3.cell? ⟨fb,1,none⟩=_:=Qae (En.Qaa n_f 1 rfl) u3;have o0:v3.cell? ⟨1, 0,none⟩=_:=Qae G0.o.o0 u3;have o1:v3.cell? ⟨1, 1,none⟩=_:=Qae G0.o.o1 u3))
 all_goals (go_wp2_with fail;go_ret;exact ⟨u3,fun z hz=>(by cases hz;exact ⟨_,rfl,et⟩),fun hn=>(by cases hn)⟩)
theorem rootClo {rs:List (List Rat)} (hk:rs.length≤4) {f:Value} (w:World) (hg:Gl w) (hf:Fd w f rs) :
  Calls Tryz.prog 59 #[f] w (AnsC (rootO rs≠none) (IsE (rootO rs)) w):=by
 cases rs with
 | nil =>
  obtain rfl:f = .pointer none:=hf;have hr:=QaV w;have ho:Sh (rootO []=none):=⟨rfl⟩;clear hg hk;go_enter Tryz.func59, Tryz.ntmps59;go_wp2_with fail;refine hr.mono ?_;rintro e w' ⟨rfl,rfl⟩;exact ⟨rfl,Below.refl _ _,fun h=>absurd ho.o h,fun _=>rfl⟩
 | cons d rs =>
  have cR:=root_O (by simpa using hk) d w hg hf;obtain ⟨fb,lv,rv,rfl,n_f,_,_,_,_⟩:=hf;have hr:=Qbb w;obtain ⟨O,hO⟩:∃ O,O=rootO (d :: rs):=⟨_,rfl⟩;rw [←hO] at cR ⊢;clear hO hg hk n_f;go_enter Tryz.func59, Tryz.ntmps59;go_wp2_with fail;refine hr.mono ?_;rintro e w' ⟨rfl,rfl⟩;clear hr;go_wp2_with fail;refine cR.mono ?_;intro e v1 h1;have u:=h1.below;cases O with
  | none =>
   obtain rfl:=h1.bad rfl;exact ⟨rfl,u,fun h=>absurd rfl h,fun _=>rfl⟩
  | some s =>
   obtain ⟨v,rfl,ev⟩:=h1.good s rfl;clear h1 cR;go_wp2_with fail;go_ret;exact ⟨u,fun _=>⟨_,rfl,s,rfl,ev⟩,fun h=>absurd (fun q=>by cases q) h⟩
theorem Root_O {L:List (List Rat)} (hL:FitT L) (hn:L.length≤1000) {t:Value} (w:World) (hg:Gl w) (ht:TwAt w t L) :
  Calls Tryz.prog 24 #[t] w (AnsA (ovr L rootO≠none) (IsE (ovr L rootO)) (.slice none 0 0) w):=by
 have HT:Sh _:=⟨ht⟩;obtain ⟨p,cap,rfl,h⟩:=ht.ex;clear h ht;have u:=(Below.refl w.heap.size w).alloc Lr (Jc #[.slice p L.length cap] 28);have n_t:(w.alloc (Jc #[.slice p L.length cap] 28)).heap[w.heap.size]? = _:=World.alloc_heap_new w _;have t0:=En.Qaa n_t 0 (v:=.slice p L.length cap) rfl;obtain ⟨O,hO⟩:∃ O,O=ovr L rootO:=⟨_,rfl⟩;rw [←hO];have HO:Sh _:=⟨hO⟩;clear hO;go_enter Tryz.func24, Tryz.ntmps24;go_wp2_with fail;generalize (w.alloc (Jc #[.slice p L.length cap] 28))=W0 at *
 have cA:=Qcj 59 #[] (enters_of Tryz.func59 (by kernel_rfl) rfl) hL hn (O≠none) (IsE O) W0 (hg.keep u) (HT.o.keep u) (by rw [HO.o];exact Qco)
  (fun rs hrs W f hB hf=>by
   rw [HO.o,QaA hrs];exact rootClo (QbB hrs) W ((hg.keep u).keep hB) hf)
 refine cA.mono ?_;intro e v1 h1;replace u:=u.trans (h1.below.mono u.size);clear HT HO n_t t0 cA;cases O with
 | none =>
  obtain rfl:=h1.bad (fun h=>h rfl);clear h1;go_wp2_with fail;exact bodyPost_ret (v:=.tuple #[.slice none 0 0,.int .i64 60]) (by simp [results,Tryz.results24, go_sem]) rfl ⟨u,fun h=>absurd rfl h,fun _=>rfl⟩
 | some s =>
  obtain ⟨v,rfl,hv⟩:=h1.good (fun q=>by cases q);clear h1;go_wp2_with fail;exact bodyPost_ret (v:=.tuple #[v,.int .i64 0]) (by simp [results,Tryz.results24, go_sem]) rfl ⟨u,fun _=>⟨v,rfl,hv⟩,fun h=>absurd (fun q=>by cases q) h⟩
end Tw
end
section
namespace Tw
open SR Go.Proofs.YtihlgifojjeoaaaGreatDoor.Rt
theorem Qrf {S:SR} {x y:S.T} (h:x=y):S.sgn x=S.sgn y:=by rw [h]
structure Iota (rs:List (List Rat)) (S:SR) (R:List Rat→S.T→Prop) (i:Rat→S.T):Prop where
 emb:∀ q,∃ l,embO rs [q]=some l∧R l (i q)
 sgn:∀ q,S.sgn (i q)=sgR q
 add:∀ p q,i (p+q)=i p+i q
 mul:∀ p q,i (p*q)=i p*i q
 one:i 1=S.one
 zer:i 0=S.zer
theorem Qpn:∀ {rs:List (List Rat)} {x:List Rat},x.length=2^rs.length→embO rs x=some x
 | [],x,h=>by rw [embO,if_pos (by simpa using h)]
 | d :: rs,x,h=>by rw [embO,if_pos (by simpa using h)]
theorem QvW {rs:List (List Rat)} {d x:List Rat} (h:x.length=2^rs.length):embO (d :: rs) x=some (x++zeros d.length):=by
 rw [embO,if_neg (by rw [h,Nat.pow_succ];have:=Nat.two_pow_pos rs.length;omega),Qpn h];rfl
theorem QqX {rs:List (List Rat)} {d x l:List Rat} (h:x.length≠2^(rs.length+1)) (e:embO rs x=some l):embO (d :: rs) x=some (l++zeros d.length):=by
 rw [embO,if_neg h,e];rfl
theorem IsT.iota {rs:List (List Rat)} {S:SR} {R:List Rat→S.T→Prop} (h:IsT rs S R):∃ i,Iota rs S R i:=by
 induction h with
 | nil=>exact ⟨fun q=>q,⟨fun q=>⟨[q],rfl,rfl⟩,fun q=>rfl,fun _ _=>rfl,fun _ _=>rfl,rfl,rfl⟩⟩
 | @cons rs S R d h δ hR hd ih =>
  obtain ⟨i,hi⟩:=ih;refine ⟨fun q=>(i q,S.zer),⟨fun q => ?_,fun q => ?_,fun p q => ?_,fun p q => ?_, ?_, ?_⟩⟩
  ·obtain ⟨l,hl,hr⟩:=hi.emb q;refine ⟨l++zeros d.length,QqX ?_ hl,_,_,rfl,hr,by rw [h.len hR];exact h.zero⟩;have:=Nat.two_pow_pos rs.length;rw [Nat.pow_succ];simp;omega
  ·show sg2 δ (i q,S.zer)=_;rw [sg2,if_pos SR.QdN];exact hi.sgn q
  ·refine Prod.ext (hi.add p q) ?_;exact (SR.Qbh S.zer).symm
  ·refine Prod.ext ?_ ?_
   ·show i (p*q)=i p*i q+S.zer*S.zer * δ;rw [SR.QcR,SR.QcR,SR.Qbh,hi.mul]
   ·show S.zer=i p*S.zer+S.zer*i q;rw [SR.Qdt,SR.QcR,SR.Qbh]
  ·exact Prod.ext hi.one rfl
  ·exact Prod.ext hi.zer rfl
theorem Iota.neg {rs:List (List Rat)} {S:SR} {R:List Rat→S.T→Prop} {i:Rat→S.T} (h:Iota rs S R i) (q:Rat):i (-q) = -(i q):=by
 refine (SR.Qdk ?_).symm;rw [←h.add,Rat.add_neg_cancel,h.zer]
theorem Iota.sub {rs:List (List Rat)} {S:SR} {R:List Rat→S.T→Prop} {i:Rat→S.T} (h:Iota rs S R i) (p q:Rat):i p + -(i q)=i (p-q):=by
 rw [←h.neg,←h.add,Rat.sub_eq_add_neg]
theorem QvD {rs:List (List Rat)} {S:SR} {R:List Rat→S.T→Prop} (h:IsT rs S R) {d:List Rat} {δ:S.T} (hR:R d δ) {l:List Rat} (e:rootO (d :: rs)=some l):∃ a b,l=a++b∧R a S.zer∧R b S.one:=by
 obtain ⟨i,hi⟩:=h.iota;obtain ⟨m,k1,r1⟩:=hi.emb 1;rw [rootO,k1] at e;cases e;exact ⟨_,_,rfl,by rw [h.len hR];exact h.zero,by rw [←hi.one];exact r1⟩
theorem QvE {rs:List (List Rat)} {S:SR} {R:List Rat→S.T→Prop} (h:IsT rs S R) {d:List Rat} (ld:d.length=2^rs.length) (sd:Qaw rs d=some 1) {root square:List Rat} {w:Int}
  (e1:rootO (d :: rs)=some root) (e2:mulO (d :: rs) root root=some square) (s2:Qaw (d :: rs) root=some w):square=d++zeros d.length∧w=1:=by
 obtain ⟨δ,hR⟩:=h.ex ld;have hd:=h.sign hR sd;have hT:=IsT.cons h δ hR hd;obtain ⟨a,b,rfl,ha,hb⟩:=QvD h hR e1;have r1:=hT.mul (x:=(S.zer,S.one)) (y:=(S.zer,S.one)) ⟨_,_,rfl,ha,hb⟩ ⟨_,_,rfl,ha,hb⟩ e2
 have e:(ext S δ hd).mul (S.zer,S.one) (S.zer,S.one)=(δ,S.zer):=by
  refine Prod.ext ?_ ?_
  ·show S.zer*S.zer+S.one*S.one * δ=δ;rw [SR.QcR,SR.Qcy,SR.one_mul,SR.one_mul]
  ·show S.zer*S.one+S.one*S.zer=S.zer;rw [SR.QcR,SR.Qdt,SR.Qbh]
 rw [e] at r1;have r2:=hT.sign (x:=(S.zer,S.one)) ⟨_,_,rfl,ha,hb⟩ s2;refine ⟨hT.inj r1 ⟨_,_,rfl,hR,by rw [h.len hR];exact h.zero⟩, ?_⟩;rw [←r2];show sg2 δ (S.zer,S.one)=1;rw [sg2,if_neg (by rw [S.sgn_one];decide),if_pos (.inl SR.QdN),S.sgn_one]
theorem QvF {rs:List (List Rat)} {S:SR} {R:List Rat→S.T→Prop} (h:IsT rs S R) {d:List Rat} (ld:d.length=2^rs.length) (sd:Qaw rs d=some 1) {a b ab xy:List Rat} {r z:Int} (la:a.length=2^rs.length) (lb:b.length=2^rs.length)
  (e1:mulO rs a b=some ab) (e2:mulO (d :: rs) (a++zeros d.length) (b++zeros d.length)=some xy) (s1:Qaw rs a=some r) (s2:Qaw (d :: rs) (a++zeros d.length)=some z):xy=ab++zeros d.length∧r=z:=by
 obtain ⟨δ,hR⟩:=h.ex ld;have hd:=h.sign hR sd;have hT:=IsT.cons h δ hR hd;obtain ⟨x,hx⟩:=h.ex la;obtain ⟨y,hy⟩:=h.ex lb;have hz:R (zeros d.length) S.zer:=by rw [h.len hR];exact h.zero
 have r1:=hT.mul (x:=(x,S.zer)) (y:=(y,S.zer)) ⟨_,_,rfl,hx,hz⟩ ⟨_,_,rfl,hy,hz⟩ e2
 have e:(ext S δ hd).mul (x,S.zer) (y,S.zer)=(x*y,S.zer):=by
  refine Prod.ext ?_ ?_
  ·show x*y+S.zer*S.zer * δ=x*y;rw [SR.QcR,SR.QcR,SR.Qbh]
  ·show x*S.zer+S.zer*y=S.zer;rw [SR.QcR,SR.Qdt,SR.Qbh]
 rw [e] at r1;refine ⟨hT.inj r1 ⟨_,_,rfl,h.mul hx hy e1,hz⟩, ?_⟩;have g1:=h.sign hx s1;have g2:=hT.sign (x:=(x,S.zer)) ⟨_,_,rfl,hx,hz⟩ s2;rw [←g1,←g2];show _=sg2 δ (x,S.zer);rw [sg2,if_pos SR.QdN]
theorem QqY {rs:List (List Rat)} {S:SR} {R:List Rat→S.T→Prop} (h:IsT rs S R) {a u:List Rat} {v:Int} (la:a.length=2^rs.length) (e:Qaj subQ a a=some u) (s:Qaw rs u=some v):v=0:=by
 obtain ⟨x,hx⟩:=h.ex la;have:S.sgn (x + -x)=v:=h.sign (h.sub hx hx e) s;rw [SR.Qby,SR.QdN] at this;exact this.symm
end Tw
end
section
namespace Tw
open Go.RowKit Go.Extern.Stop Go.Stop Go.Extern
open En Go.Proofs.YtihlgifojjeoaaaGreatDoor.Nm Go.Proofs.YtihlgifojjeoaaaGreatDoor.Rt
theorem cloCompare {rs:List (List Rat)} (hk:rs.length≤4) {x y:List Rat} (hn:x.length≤1000) (hm:y.length≤1000) (fx:FitL x) (fy:FitL y) {f vx vy:Value} (pa pb:Addr) (w:World) (hg:Gl w) (hf:Fd w f rs) (fa:w.cell? pa=some vx) (fb:w.cell? pb=some vy) (ex:El w vx x) (ey:El w vy y) :
  Calls Tryz.prog 54 #[f,.pointer (some pa),.pointer (some pb)] w (AnsC (chk2 rs x y ((Qaj subQ x y).bind (Qaw rs))≠none) (IsI (chk2 rs x y ((Qaj subQ x y).bind (Qaw rs)))) w):=by
 obtain ⟨Q,hQ⟩:∃ Q,Q=chk2 rs x y ((Qaj subQ x y).bind (Qaw rs)):=⟨_,rfl⟩;rw [←hQ];have CX:Sh (∀ W,Below w.heap.size w W→Calls Tryz.prog 39 #[f,vx] W (AnsV (decide (x.length=2^rs.length)=true) vx W)):=⟨fun W u=>(Qbw hk hn fx W (Fd.keep u hf) (ex.keep u)).mono fun _ _ h=>⟨h.below,fun q=>h.good (of_decide_eq_true q),fun q=>h.bad (fun q'=>q (decide_eq_true q'))⟩⟩;have CY:Sh (∀ W,Below w.heap.size w W→Calls Tryz.prog 39 #[f,vy] W (AnsV (decide (y.length=2^rs.length)=true) vy W)):=⟨fun W u=>(Qbw hk hm fy W (Fd.keep u hf) (ey.keep u)).mono fun _ _ h=>⟨h.below,fun q=>h.good (of_decide_eq_true q),fun q=>h.bad (fun q'=>q (decide_eq_true q'))⟩⟩;have QX:Sh (decide (x.length=2^rs.length)=false→Q=none):=⟨fun q=>by rw [hQ,chk2,if_neg (fun h=>of_decide_eq_false q h.1)]⟩;have QY:Sh (decide (y.length=2^rs.length)=false→Q=none):=⟨fun q=>by rw [hQ,chk2,if_neg (fun h=>of_decide_eq_false q h.2)]⟩
 have CP:Sh (decide (x.length=2^rs.length)=true→decide (y.length=2^rs.length)=true→Q=(Qaj subQ x y).bind (Qaw rs)∧(∀ W,Below w.heap.size w W→Calls Tryz.prog 43 #[vx,vy] W (AnsO (Qaj subQ x y) W))∧∀ z,Qaj subQ x y=some z→∀ W v,Below w.heap.size w W→El W v z→Calls Tryz.prog 47 #[f,v] W (AnsS (Qaw rs z) W)):=⟨fun qx qy=>by
  have hx:=of_decide_eq_true qx;have hy:=of_decide_eq_true qy;exact ⟨by rw [hQ,chk2,if_pos ⟨hx,hy⟩],fun W u=>Qih (hx.trans hy.symm) hn fx fy W (ex.keep u) (ey.keep u),fun z hz W v u ev=>QeU hk ((Qht (hx.trans hy.symm) hz).1.trans hx) (.pair (fun _ _ _ h=>FitQ.subQ h) hz) W (hg.keep u) (Fd.keep u hf) ev⟩⟩
 clear hg hf ex ey fx fy hn hm hk hQ;generalize Qaj subQ x y=P at *
 generalize decide (x.length=2^rs.length)=bx at *
 generalize decide (y.length=2^rs.length)=by_ at *
 go_enter Tryz.func54, Tryz.ntmps54;go_wp2_with fail
 go_region_held (fun X=>X.cell? pa=some vx∧X.cell? pb=some vy) (go_keep) (first | (go_at_call 39; (with_reducible refine (CX.o _ (QaS (Below.refl _ _))).mono ?_);intro e v1 h1;have k1:Below w.heap.size w v1:=Qah h1.below;rcases bx with _ | _;(obtain rfl:=h1.bad (fun q=>by cases q);dsimp +zetaDelta only [Exit.then,Exit.inBlock];exact ⟨rfl,k1,fun h=>absurd (QX.o rfl) h,fun _=>rfl⟩);obtain rfl:=h1.good rfl;clear h1;have fa:=Qae fa k1;have fb:=Qae fb k1) | (go_at_call 39; (with_reducible refine (CY.o _ k1).mono ?_);intro e v2 h2;have k2:Below w.heap.size w v2:=k1.trans (h2.below.mono k1.size);rcases by_ with _ | _;(obtain rfl:=h2.bad (fun q=>by cases q);dsimp +zetaDelta only [Exit.then,Exit.inBlock];exact ⟨rfl,k2,fun h=>absurd (QY.o rfl) h,fun _=>rfl⟩);obtain rfl:=h2.good rfl;have fa:=Qae fa h2.below;have fb:=Qae fb h2.below;clear h2 k1) | (go_at_call 43; have hq:=CP.o (by trivial) (by trivial);have cp:=hq.2.1 _ k2;(with_reducible refine cp.mono ?_);clear cp;intro e v3 h3;have k3:Below w.heap.size w v3:=k2.trans (h3.below.mono k2.size);rcases P with _ | z;(obtain rfl:=h3.bad rfl;dsimp +zetaDelta only [Exit.then,Exit.inBlock];exact ⟨rfl,k3,fun h=>absurd (hq.1.trans rfl) h,fun _=>rfl⟩);obtain ⟨v,rfl,ev⟩:=h3.good z rfl;have fa:=Qae fa h3.below;have fb:=Qae fb h3.below;have cs:=hq.2.2 z rfl v3 v k3 ev;have hQz:Sh (Q=Qaw rs z):=⟨hq.1.trans rfl⟩;clear h3 hq k2 ev) | (go_at_call 47; (with_reducible refine cs.mono ?_);clear cs;intro e v4 h4;have k4:Below w.heap.size w v4:=k3.trans (h4.below.mono k3.size);have fa:=Qae fa h4.below;have fb:=Qae fb h4.below;rcases hS:Qaw rs z with _ | s;(obtain rfl:=h4.bad hS;dsimp +zetaDelta only [Exit.then,Exit.inBlock];exact ⟨rfl,k4,fun h=>absurd (hQz.o.trans hS) h,fun _=>rfl⟩);obtain rfl:=h4.good s hS;have hQs:Sh (Q=some s):=⟨hQz.o.trans hS⟩;clear h4 hQz hS k3))
 all_goals (go_wp2_with fail;go_ret;exact ⟨k4,fun _=>⟨_,rfl,s,hQs.o,rfl⟩,fun h=>absurd (fun q=>by rw [hQs.o] at q;cases q) h⟩)
theorem Compare_O {L:List (List Rat)} (hL:FitT L) (hn:L.length≤1000) {x y:List Rat} (hx:x.length≤1000) (hy:y.length≤1000) (fx:FitL x) (fy:FitL y) {t vx vy:Value} (w:World) (hg:Gl w) (ht:TwAt w t L) (ex:El w vx x) (ey:El w vy y) :
  Calls Tryz.prog 20 #[t,vx,vy] w (AnsA (ovr L (fun rs=>chk2 rs x y ((Qaj subQ x y).bind (Qaw rs)))≠none) (IsI (ovr L fun rs=>chk2 rs x y ((Qaj subQ x y).bind (Qaw rs)))) (.int .i64 0) w):=by
 have hmf:=mkf;have HT:Sh _:=⟨ht⟩;obtain ⟨p,cap,rfl,h⟩:=ht.ex;clear h ht;have HX:Sh _:=⟨ex⟩;obtain ⟨b,o,c,rfl,h1,h2⟩:=ex.ex;have HY:Sh _:=⟨ey⟩;obtain ⟨b2,o2,c2,rfl,h1',h2'⟩:=ey.ex;clear h1 h2 ex h1' h2' ey;have u:=(((Below.refl w.heap.size w).alloc Lr (Jc #[.slice p L.length cap] 28)).alloc (by simp) (Jc #[.slice (some ⟨b,o,none⟩) x.length c] 29)).alloc (by simp;omega) (Jc #[.slice (some ⟨b2,o2,none⟩) y.length c2] 29);obtain ⟨n_t,n_x,n_y⟩:=En.new3 w (Jc #[.slice p L.length cap] 28) (Jc #[.slice (some ⟨b,o,none⟩) x.length c] 29) (Jc #[.slice (some ⟨b2,o2,none⟩) y.length c2] 29);have t0:=En.Qaa n_t 0 (v:=.slice p L.length cap) rfl;obtain ⟨O,hO⟩:∃ O,O=ovr L (fun rs=>chk2 rs x y ((Qaj subQ x y).bind (Qaw rs))):=⟨_,rfl⟩;rw [←hO];have HO:Sh _:=⟨hO⟩;clear hO;go_enter Tryz.func20, Tryz.ntmps20;go_wp2_with fail;generalize (((w.alloc (Jc #[.slice p L.length cap] 28)).alloc (Jc #[.slice (some ⟨b,o,none⟩) x.length c] 29)).alloc (Jc #[.slice (some ⟨b2,o2,none⟩) y.length c2] 29))=W0 at *
 have cA:=Qki 54 #[.pointer (some ⟨w.heap.size+1,0,none⟩),.pointer (some ⟨w.heap.size+1+1,0,none⟩)] (enters_of Tryz.func54 (by kernel_rfl) rfl) hL hn (O≠none) (IsI O) W0 (hg.keep u) (HT.o.keep u) (by rw [HO.o];exact Qco)
  (fun rs hrs W f hB hf=>by
   rw [HO.o,QaA hrs];exact cloCompare (QbB hrs) hx hy fx fy ⟨w.heap.size+1,0,none⟩ ⟨w.heap.size+1+1,0,none⟩ W ((hg.keep u).keep hB) hf (En.Qaa (En.Qac n_x hB) 0 rfl) (En.Qaa (En.Qac n_y hB) 0 rfl) ((HX.o.keep u).keep hB) ((HY.o.keep u).keep hB))
 refine cA.mono ?_;intro e v1 h1;replace u:=u.trans (h1.below.mono u.size);clear HX HY HT HO n_t n_x n_y t0 cA;cases O with
 | none =>
  obtain rfl:=h1.bad (fun h=>h rfl);clear h1;go_wp2_with fail;exact bodyPost_ret (v:=.tuple #[.int .i64 0,.int .i64 60]) (by simp [results,Tryz.results20, go_sem]) rfl ⟨u,fun h=>absurd rfl h,fun _=>rfl⟩
 | some s =>
  obtain ⟨v,rfl,hv⟩:=h1.good (fun q=>by cases q);clear h1;go_wp2_with fail;exact bodyPost_ret (v:=.tuple #[v,.int .i64 0]) (by simp [results,Tryz.results20, go_sem]) rfl ⟨u,fun _=>⟨v,rfl,hv⟩,fun h=>absurd (fun q=>by cases q) h⟩
theorem pick_any (c n:Int) (h1 : -9223372036854775808≤c) (h2:c≤9223372036854775807) (n1:1≤n) (n2:n≤9223372036854775807):∃ k:Nat,(k:Int)<n∧∀ w:World,Say 22 #[.int .i64 c,.int .i64 n] (.int .i64 (k:Int)) w:=by
 have hw:∀ x:Int, -9223372036854775808≤x→x≤9223372036854775807→IntKind.i64.wrap x=x:=fun x a b=>by simp [IntKind.wrap,IntKind.signed,IntKind.bits];omega
 have hn0:¬ n=0:=by omega
 obtain ⟨m,rfl⟩:=Int.eq_ofNat_of_zero_le (show 0≤n by omega);by_cases hc:c<0
 ·have e1:=hw (c+1) (by omega) (by omega);have e2:=hw (-(c+1)) (by omega) (by omega);obtain ⟨k,hk⟩:∃ k:Nat, -(c+1)=(k:Int):=⟨(-(c+1)).toNat,by omega⟩;have hm:k % m<m:=Nat.mod_lt _ (by omega);refine ⟨k % m,by omega,fun w => ?_⟩;show Calls _ _ _ _ _;have hd:decide (c<0)=true:=decide_eq_true hc;go_enter Tryz.func22, Tryz.ntmps22;go_wp2;go_ret;exact ⟨by first | rfl | simp,Below.refl _ _⟩
 ·obtain ⟨k,rfl⟩:=Int.eq_ofNat_of_zero_le (show 0≤c by omega);have hm:k % m<m:=Nat.mod_lt _ (by omega);refine ⟨k % m,by omega,fun w => ?_⟩;show Calls _ _ _ _ _;have hd:decide ((k:Int)<0)=false:=decide_eq_false hc;go_enter Tryz.func22, Tryz.ntmps22;go_wp2;go_ret;exact ⟨by first | rfl | simp,Below.refl _ _⟩
end Tw
end
section
namespace Tw
open SR Go.Proofs.YtihlgifojjeoaaaGreatDoor.Nm Go.Proofs.YtihlgifojjeoaaaGreatDoor.Rt
theorem embO_one:∀ {rs:List (List Rat)},Qdz rs→∀ q,embO rs [q]=some (q :: zeros (2^rs.length-1))
 | [],_,_=>rfl
 | d :: rs,h,q=>by
  have ih:=embO_one h.2 q;have h2:=Nat.two_pow_pos rs.length;rw [embO,if_neg (by rw [List.length_singleton,Nat.pow_succ];omega),ih];show some (q :: (zeros (2^rs.length-1)++zeros d.length))=some (q :: zeros (2^(rs.length+1)-1));rw [h.1,zeros,zeros,List.replicate_append_replicate,zeros,show 2^rs.length-1+2^rs.length=2^(rs.length+1)-1 by rw [Nat.pow_succ];omega]
end Tw
end
end Go.Proofs.YtihlgifojjeoaaaGreatDoor
