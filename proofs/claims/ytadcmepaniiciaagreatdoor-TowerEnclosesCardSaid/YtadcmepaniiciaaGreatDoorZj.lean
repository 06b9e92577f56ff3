import Derived.Test.YtadcmepaniiciaaGreatDoorZi
import Derived.Test.YtadcmepaniiciaaGreatDoorZh
import Derived.Deep.CutRange
set_option maxRecDepth 1000000
set_option maxHeartbeats 40000000
open Go.Value renaming string→J
open Go.Obj renaming cells→Jc
namespace Go.Proofs.YtadcmepaniiciaaGreatDoor
section
namespace Tw
open Go.Proofs.YtadcmepaniiciaaGreatDoor.Rt
def Qaj (f:Rat→Rat→Option Rat):List Rat→List Rat→Option (List Rat)
 | x :: xs,y :: ys=>(f x y).bind fun z=>(Qaj f xs ys).map (z :: ·)
 | _,_=>some []
def hl (x:List Rat):List Rat:=x.take (x.length / 2)
def hr (x:List Rat):List Rat:=x.drop (x.length / 2)
def QbQ (x:List Rat):Bool:=x.all fun r=>decide (r=0)
def zeros (n:Nat):List Rat:=List.replicate n 0
noncomputable def mulO:List (List Rat)→List Rat→List Rat→Option (List Rat)
 | [],x,y=>if (QbQ x || QbQ y)=true then some (zeros x.length) else Qaj mulQ x y
 | d :: rs,x,y=>if (QbQ x || QbQ y)=true then some (zeros x.length) else
  (mulO rs (hl x) (hl y)).bind fun ac=>(mulO rs (hr x) (hr y)).bind fun be=>(mulO rs be d).bind fun bed =>
  (Qaj addQ ac bed).bind fun p=>(mulO rs (hl x) (hr y)).bind fun ae=>(mulO rs (hr x) (hl y)).bind fun bc =>
  (Qaj addQ ae bc).map fun q=>p++q
noncomputable def nrmO (rs:List (List Rat)) (d x:List Rat):Option (List Rat) :=
 (mulO rs (hl x) (hl x)).bind fun aa=>(mulO rs (hr x) (hr x)).bind fun bb=>(mulO rs bb d).bind fun bbd=>Qaj subQ aa bbd
noncomputable def Qaw:List (List Rat)→List Rat→Option Int
 | [],x=>some (cmpQ (x.headD 0) 0)
 | d :: rs,x=>(Qaw rs (hl x)).bind fun s=>(Qaw rs (hr x)).bind fun t =>
  if t=0 then some s else if s=0∨s=t then some t else (nrmO rs d x).bind fun n=>(Qaw rs n).map fun u=>s*u
noncomputable def invO:List (List Rat)→List Rat→Option (List Rat)
 | [],x=>Qaj divQ [1] x
 | d :: rs,x=>(nrmO rs d x).bind fun n=>(Qaw rs n).bind fun s=>if s=0 then (Qaj addQ (hl x) (hl x)).bind fun aa=>(invO rs aa).map fun u=>u++zeros d.length
  else (invO rs n).bind fun m=>(mulO rs (hl x) m).bind fun p=>(Qaj subQ (zeros (hr x).length) (hr x)).bind fun nb=>(mulO rs nb m).map fun q=>p++q
inductive IsT:List (List Rat)→(S:SR)→(List Rat→S.T→Prop)→Prop
 | nil:IsT [] ratS (fun l x=>l = [x])
 | cons {rs:List (List Rat)} {S:SR} {R:List Rat→S.T→Prop} {d:List Rat} (h:IsT rs S R) (δ:S.T) (hR:R d δ) (hd:S.sgn δ=1) :
   IsT (d :: rs) (ext S δ hd) (fun l x=>∃ a b,l=a++b∧R a x.1∧R b x.2)
theorem QaB {a b:List Rat} (h:a.length=b.length):hl (a++b)=a∧hr (a++b)=b:=by
 have e:(a++b).length / 2=a.length:=by rw [List.length_append];omega
 rw [hl,hr,e];exact ⟨List.take_left,List.drop_left⟩
theorem Qbv {f:Rat→Rat→Option Rat}:∀ {x y z:List Rat},x.length=y.length→Qaj f x y=some z→z.length=x.length
 | [],_,z,_,e=>by cases e;rfl
 | x :: xs, [],_,h,_=>by cases h
 | x :: xs,y :: ys,z,h,e=>by
  rw [Qaj] at e;obtain ⟨r,_,e1⟩:=Option.bind_eq_some_iff.1 e;obtain ⟨t,e2,rfl⟩:=Option.map_eq_some_iff.1 e1;rw [List.length_cons,List.length_cons,Qbv (by simpa using h) e2]
theorem QgL {f:Rat→Rat→Option Rat}:∀ {a b c e z:List Rat},a.length=c.length→Qaj f (a++b) (c++e)=some z→∃ p q,z=p++q∧Qaj f a c=some p∧Qaj f b e=some q
 | [],b, [],e,z,_,h=>⟨[],z,rfl,rfl,h⟩
 | x :: a,b, [],e,z,h,_=>by cases h
 | [],b,y :: c,e,z,h,_=>by cases h
 | x :: a,b,y :: c,e,z,h,k=>by
  rw [List.cons_append,List.cons_append,Qaj] at k;obtain ⟨r,hr,k⟩:=Option.bind_eq_some_iff.1 k;obtain ⟨t,ht,rfl⟩:=Option.map_eq_some_iff.1 k;obtain ⟨p,q,rfl,hp,hq⟩:=QgL (by simpa using h) ht;exact ⟨r :: p,q,rfl,by rw [Qaj,hr,hp];rfl,hq⟩
theorem IsT.len {rs:List (List Rat)} {S:SR} {R:List Rat→S.T→Prop} (h:IsT rs S R):∀ {l x},R l x→l.length=2^rs.length:=by
 induction h with
 | nil=>rintro l x rfl;rfl
 | cons h δ hR hd ih =>
  rintro l x ⟨a,b,rfl,ha,hb⟩;rw [List.length_append,ih ha,ih hb,List.length_cons,Nat.pow_succ];omega
theorem IsT.ex {rs:List (List Rat)} {S:SR} {R:List Rat→S.T→Prop} (h:IsT rs S R):∀ {l:List Rat},l.length=2^rs.length→∃ x,R l x:=by
 induction h with
 | nil =>
  intro l hl
  match l,hl with
  | [x],_=>exact ⟨x,rfl⟩
 | @cons rs S R d h δ hR hd ih =>
  intro l hl;rw [List.length_cons,Nat.pow_succ] at hl;obtain ⟨x,hx⟩:=ih (l:=l.take (2^rs.length)) (by rw [List.length_take];exact Nat.min_eq_left (by omega));obtain ⟨y,hy⟩:=ih (l:=l.drop (2^rs.length)) (by rw [List.length_drop,hl];omega);exact ⟨(x,y),_,_,(List.take_append_drop _ l).symm,hx,hy⟩
theorem IsT.uni {rs:List (List Rat)} {S:SR} {R:List Rat→S.T→Prop} (h:IsT rs S R):∀ {l x y},R l x→R l y→x=y:=by
 induction h with
 | nil=>rintro l x y rfl h;cases h;rfl
 | cons h δ hR hd ih =>
  rintro l x y ⟨a,b,rfl,ha,hb⟩ ⟨c,e,he,hc,hf⟩;have hle:a.length=c.length:=by rw [h.len ha,h.len hc]
  obtain ⟨rfl,rfl⟩:=List.append_inj he hle;exact Prod.ext (ih ha hc) (ih hb hf)
theorem IsT.add {rs:List (List Rat)} {S:SR} {R:List Rat→S.T→Prop} (h:IsT rs S R):∀ {l m n x y},R l x→R m y→Qaj addQ l m=some n→R n (S.add x y):=by
 induction h with
 | nil =>
  rintro l m n x y rfl rfl e;obtain ⟨r,hr,e⟩:=Option.bind_eq_some_iff.1 e;cases e;exact congrArg (fun t => [t]) (QjW hr)
 | cons h δ hR hd ih =>
  rintro l m n x y ⟨a,b,rfl,ha,hb⟩ ⟨c,e,rfl,hc,he⟩ k;obtain ⟨p,q,rfl,hp,hq⟩:=QgL (by rw [h.len ha,h.len hc]) k;exact ⟨p,q,rfl,ih ha hc hp,ih hb he hq⟩
theorem IsT.sub {rs:List (List Rat)} {S:SR} {R:List Rat→S.T→Prop} (h:IsT rs S R):∀ {l m n x y},R l x→R m y→Qaj subQ l m=some n→R n (S.add x (S.neg y)):=by
 induction h with
 | nil =>
  rintro l m n x y rfl rfl e;obtain ⟨r,hr,e⟩:=Option.bind_eq_some_iff.1 e;cases e;exact congrArg (fun t => [t]) ((QsG hr).trans (Rat.sub_eq_add_neg _ _))
 | cons h δ hR hd ih =>
  rintro l m n x y ⟨a,b,rfl,ha,hb⟩ ⟨c,e,rfl,hc,he⟩ k;obtain ⟨p,q,rfl,hp,hq⟩:=QgL (by rw [h.len ha,h.len hc]) k;exact ⟨p,q,rfl,ih ha hc hp,ih hb he hq⟩
theorem IsT.zero {rs:List (List Rat)} {S:SR} {R:List Rat→S.T→Prop} (h:IsT rs S R):R (zeros (2^rs.length)) S.zer:=by
 induction h with
 | nil=>rfl
 | cons h δ hR hd ih=>exact ⟨_,_,by rw [zeros,List.length_cons,Nat.pow_succ,Nat.mul_two,←List.replicate_append_replicate];rfl,ih,ih⟩
theorem Qee:∀ {l:List Rat},QbQ l=true→l=zeros l.length
 | [],_=>rfl
 | x :: l,h=>by
  rw [QbQ,List.all_cons,Bool.and_eq_true] at h;rw [zeros,List.length_cons,List.replicate_succ,←zeros,←Qee h.2,of_decide_eq_true h.1]
theorem IsT.zero_of {rs:List (List Rat)} {S:SR} {R:List Rat→S.T→Prop} (h:IsT rs S R) {l x} (hx:R l x) (hz:QbQ l=true):x=S.zer:=by
 have:=Qee hz;rw [h.len hx] at this;rw [this] at hx;exact h.uni hx h.zero
open SR in
theorem IsT.mul {rs:List (List Rat)} {S:SR} {R:List Rat→S.T→Prop} (h:IsT rs S R):∀ {l m n x y},R l x→R m y→mulO rs l m=some n→R n (S.mul x y):=by
 have zer:∀ {rs:List (List Rat)} {S:SR} {R:List Rat→S.T→Prop} (_:IsT rs S R) {l m x y},R l x→R m y→(QbQ l || QbQ m)=true→R (zeros l.length) (S.mul x y):=by
  intro rs S R h l m x y hx hy hz;rw [h.len hx]
  have:S.mul x y=S.zer:=by
   rcases Bool.or_eq_true_iff.1 hz with hz | hz
   ·rw [h.zero_of hx hz];exact QcR y
   ·rw [h.zero_of hy hz];exact Qdt x
  rw [this];exact h.zero
 induction h with
 | nil =>
  intro l m n x y hx hy e;rw [mulO] at e;split at e
  ·injection e with e;rw [←e];exact zer .nil hx hy (by assumption)
  ·obtain rfl:=hx;obtain rfl:=hy;obtain ⟨r,hr,e⟩:=Option.bind_eq_some_iff.1 e;cases e;exact congrArg (fun t => [t]) (QjX hr)
 | cons h δ hR hd ih =>
  intro l m n x y hx hy k;rw [mulO] at k;split at k
  ·injection k with k;rw [←k];exact zer (.cons h δ hR hd) hx hy (by assumption)
  ·obtain ⟨a,b,rfl,ha,hb⟩:=hx;obtain ⟨c,e,rfl,hc,he⟩:=hy;rw [(QaB (by rw [h.len ha,h.len hb])).1,(QaB (by rw [h.len ha,h.len hb])).2,(QaB (by rw [h.len hc,h.len he])).1,(QaB (by rw [h.len hc,h.len he])).2] at k;obtain ⟨ac,h1,k⟩:=Option.bind_eq_some_iff.1 k;obtain ⟨be,h2,k⟩:=Option.bind_eq_some_iff.1 k;obtain ⟨bed,h3,k⟩:=Option.bind_eq_some_iff.1 k;obtain ⟨p,h4,k⟩:=Option.bind_eq_some_iff.1 k;obtain ⟨ae,h5,k⟩:=Option.bind_eq_some_iff.1 k;obtain ⟨bc,h6,k⟩:=Option.bind_eq_some_iff.1 k;obtain ⟨q,h7,rfl⟩:=Option.map_eq_some_iff.1 k;exact ⟨p,q,rfl,h.add (ih ha hc h1) (ih (ih hb he h2) hR h3) h4,h.add (ih ha he h5) (ih hb hc h6) h7⟩
open SR in
theorem IsT.norm {rs:List (List Rat)} {S:SR} {R:List Rat→S.T→Prop} (h:IsT rs S R) {d:List Rat} {δ:S.T} (hR:R d δ) {a b n:List Rat} {x y:S.T} (ha:R a x) (hb:R b y) (k:nrmO rs d (a++b)=some n):R n (nrm δ x y):=by
 rw [nrmO,(QaB (by rw [h.len ha,h.len hb])).1,(QaB (by rw [h.len ha,h.len hb])).2] at k;obtain ⟨aa,h1,k⟩:=Option.bind_eq_some_iff.1 k;obtain ⟨bb,h2,k⟩:=Option.bind_eq_some_iff.1 k;obtain ⟨bbd,h3,k⟩:=Option.bind_eq_some_iff.1 k;exact h.sub (h.mul ha ha h1) (h.mul (h.mul hb hb h2) hR h3) k
theorem Qlc (x:Rat):cmpQ x 0=ratS.sgn x:=by
 show _=sgR x;rcases Qcs x 0 with ⟨e,h⟩ | ⟨e,h⟩ | ⟨e,h⟩
 ·rw [e,Qfm h]
 ·rw [e,h,QcZ]
 ·rw [e,Qdu h]
open SR in
theorem IsT.sign {rs:List (List Rat)} {S:SR} {R:List Rat→S.T→Prop} (h:IsT rs S R):∀ {l s x},R l x→Qaw rs l=some s→S.sgn x=s:=by
 induction h with
 | nil =>
  rintro l s x rfl e;injection e with e;exact (Qlc x).symm.trans e
 | @cons rs S R d h δ hR hd ih =>
  rintro l s x ⟨a,b,rfl,ha,hb⟩ k;rw [Qaw,(QaB (by rw [h.len ha,h.len hb])).1,(QaB (by rw [h.len ha,h.len hb])).2] at k;obtain ⟨p,h1,k⟩:=Option.bind_eq_some_iff.1 k;obtain ⟨q,h2,k⟩:=Option.bind_eq_some_iff.1 k;obtain ⟨x1,x2⟩:=x;have e1:S.sgn x1=p:=ih ha h1;have e2:S.sgn x2=q:=ih hb h2;show sg2 δ (x1,x2)=s;rw [sg2,e1,e2];split at k
  ·rename_i hq;injection k with k;rw [if_pos hq,k]
  ·rename_i hq;rw [if_neg hq];split at k
   ·rename_i hs;injection k with k;rw [if_pos hs,k]
   ·rename_i hs;rw [if_neg hs];obtain ⟨n,h3,k⟩:=Option.bind_eq_some_iff.1 k;obtain ⟨u,h4,k⟩:=Option.map_eq_some_iff.1 k;have e3:S.sgn (nrm δ x1 x2)=u:=ih (h.norm hR ha hb h3) h4;rw [e3,k]
end Tw
end
section
namespace Tw
open Go.Proofs.YtadcmepaniiciaaGreatDoor.Rt Go.Proofs.YtadcmepaniiciaaGreatDoor.En
structure Lat (L B:Nat) (q:Rat):Prop where
 pos:0<L
 ex:∃ n:Int,q=Rat.divInt n L∧n.natAbs≤B
theorem Lat.bq {L B:Nat} {q:Rat} (h:Lat L B q):BQ B L q:=by
 obtain ⟨hL,n,rfl,hn⟩:=h;exact .of_div (by omega) hn (by simp)
theorem Lat.mono {L B C:Nat} {q:Rat} (h:Lat L B q) (hB:B≤C):Lat L C q:=by
 obtain ⟨hL,n,rfl,hn⟩:=h;exact ⟨hL,n,rfl,Nat.le_trans hn hB⟩
theorem Lat.zero {L:Nat} (B:Nat) (h:0<L):Lat L B 0:=⟨h,0,by simp,by simp⟩
theorem Lat.lift {L B:Nat} {q:Rat} (h:Lat L B q) {M:Nat} (hM:0<M):Lat (L*M) (B*M) q:=by
 obtain ⟨hL,n,rfl,hn⟩:=h;refine ⟨Nat.mul_pos hL hM,n*M, ?_, ?_⟩
 ·rw [Int.natCast_mul,Rat.divInt_mul_right (by omega)]
 ·rw [Int.natAbs_mul,Int.natAbs_natCast];exact Nat.mul_le_mul_right _ hn
theorem Lat.add {L B C:Nat} {p q:Rat} (hp:Lat L B p) (hq:Lat L C q):Lat L (B+C) (p+q):=by
 obtain ⟨hL,n,rfl,hn⟩:=hp;obtain ⟨_,m,rfl,hm⟩:=hq;refine ⟨hL,n+m, ?_,Nat.le_trans (Int.natAbs_add_le _ _) (Nat.add_le_add hn hm)⟩;rw [Rat.divInt_add_divInt _ _ (by omega) (by omega),←Int.add_mul,Rat.divInt_mul_right (by omega)]
theorem Lat.sub {L B C:Nat} {p q:Rat} (hp:Lat L B p) (hq:Lat L C q):Lat L (B+C) (p-q):=by
 obtain ⟨hL,n,rfl,hn⟩:=hp;obtain ⟨_,m,rfl,hm⟩:=hq;refine ⟨hL,n-m, ?_,Nat.le_trans (Int.natAbs_sub_le _ _) (Nat.add_le_add hn hm)⟩;rw [Rat.divInt_sub_divInt _ _ (by omega) (by omega),←Int.sub_mul,Rat.divInt_mul_right (by omega)]
theorem Lat.mul {L M B C:Nat} {p q:Rat} (hp:Lat L B p) (hq:Lat M C q):Lat (L*M) (B*C) (p*q):=by
 obtain ⟨hL,n,rfl,hn⟩:=hp;obtain ⟨hM,m,rfl,hm⟩:=hq;refine ⟨Nat.mul_pos hL hM,n*m, ?_,by rw [Int.natAbs_mul];exact Nat.mul_le_mul hn hm⟩;rw [Rat.divInt_mul_divInt,Int.natCast_mul]
def AllL (L B:Nat) (l:List Rat):Prop:=∀ q∈l,Lat L B q
theorem AllL.mono {L B C:Nat} {l:List Rat} (h:AllL L B l) (hB:B≤C):AllL L C l:=fun q hq=>(h q hq).mono hB
theorem AllL.lift {L B M:Nat} {l:List Rat} (h:AllL L B l) (hM:0<M):AllL (L*M) (B*M) l:=fun q hq=>(h q hq).lift hM
theorem AllL.zeros {L:Nat} (B n:Nat) (h:0<L):AllL L B (zeros n):=fun q hq=>by rw [List.eq_of_mem_replicate hq];exact .zero B h
theorem AllL.hl {L B:Nat} {l:List Rat} (h:AllL L B l):AllL L B (hl l):=fun q hq=>h q (List.mem_of_mem_take hq)
theorem AllL.hr {L B:Nat} {l:List Rat} (h:AllL L B l):AllL L B (hr l):=fun q hq=>h q (List.mem_of_mem_drop hq)
theorem AllL.app {L B:Nat} {l m:List Rat} (h:AllL L B l) (h':AllL L B m):AllL L B (l++m):=fun q hq=>(List.mem_append.1 hq).elim (h q) (h' q)
theorem QeT {f:Rat→Rat→Option Rat} {P Q T:Rat→Prop} (hf:∀ p q,P p→Q q→∃ r,f p q=some r∧T r):∀ {x y:List Rat},x.length=y.length→(∀ p∈x,P p)→(∀ q∈y,Q q)→∃ z,Qaj f x y=some z∧z.length=x.length∧∀ r∈z,T r
 | [], [],_,_,_=>⟨[],rfl,rfl,fun _ h=>by cases h⟩
 | [],_ :: _,h,_,_=>by cases h
 | _ :: _, [],h,_,_=>by cases h
 | x :: xs,y :: ys,h,hx,hy=>by
  obtain ⟨r,e,hr⟩:=hf x y (hx x (by simp)) (hy y (by simp));obtain ⟨z,e',hl,hz⟩:=QeT hf (x:=xs) (y:=ys) (by simpa using h) (fun p hp=>hx p (by simp [hp])) (fun q hq=>hy q (by simp [hq]))
  exact ⟨r :: z,by rw [Qaj,e,e'];rfl,by simp [hl],fun t ht=>by
   rcases List.mem_cons.1 ht with rfl | ht
   ·exact hr
   ·exact hz t ht⟩
theorem QfN {L B C:Nat} {x y:List Rat} (hl:x.length=y.length) (hx:AllL L B x) (hy:AllL L C y) (h:(B+C)*L<10^200) (hL:L*L<10^200):∃ z,Qaj addQ x y=some z∧z.length=x.length∧AllL L (B+C) z :=
 QeT (fun _ _ hp hq=>⟨_,Quy hp.bq hq.bq (by rw [←Nat.add_mul];exact h) hL,hp.add hq⟩) hl hx hy
theorem Qig {L B C:Nat} {x y:List Rat} (hl:x.length=y.length) (hx:AllL L B x) (hy:AllL L C y) (h:(B+C)*L<10^200) (hL:L*L<10^200):∃ z,Qaj subQ x y=some z∧z.length=x.length∧AllL L (B+C) z :=
 QeT (fun _ _ hp hq=>⟨_,Quz hp.bq hq.bq (by rw [←Nat.add_mul];exact h) hL,hp.sub hq⟩) hl hx hy
theorem Qqv {L M B C:Nat} {x y:List Rat} (hl:x.length=y.length) (hx:AllL L B x) (hy:AllL M C y) (h:B*C<10^200) (hL:L*M<10^200):∃ z,Qaj mulQ x y=some z∧z.length=x.length∧AllL (L*M) (B*C) z :=
 QeT (fun _ _ hp hq=>⟨_,QuA hp.bq hq.bq h hL,hp.mul hq⟩) hl hx hy
def RadT (K D:Nat):List (List Rat)→Prop
 | []=>True
 | d :: rs=>d.length=2^rs.length∧AllL K D d∧RadT K D rs
def ee:Nat→Nat
 | 0=>0
 | k+1=>ee k+(1+ee k)
def gr (K D:Nat):Nat→Nat
 | 0=>1
 | k+1=>2*(gr K D k*(K*K^ee k))+gr K D k*gr K D k*D
theorem Qdv {l:List Rat} {k:Nat} (h:l.length=2^(k+1)):(hl l).length=2^k∧(hr l).length=2^k:=by
 rw [Nat.pow_succ] at h;rw [hl,hr,List.length_take,List.length_drop];exact ⟨by rw [Nat.min_eq_left (by omega)];omega,by omega⟩
theorem Qkd {K D:Nat} (hK:0<K):∀ {rs:List (List Rat)},RadT K D rs→∀ {L M B C:Nat} {x y:List Rat},x.length=2^rs.length→y.length=2^rs.length→0<L→0<M→AllL L B x→AllL M C y →
  2*(gr K D rs.length*(B*C))*(L*M*K^ee rs.length)<10^200→(L*M*K^ee rs.length)*(L*M*K^ee rs.length)<10^200 →
  ∃ z,mulO rs x y=some z∧z.length=2^rs.length∧AllL (L*M*K^ee rs.length) (gr K D rs.length*(B*C)) z
 | [],_,L,M,B,C,x,y,hx,hy,hL,hM,ax,ay,h1,h2=>by
  rw [mulO];split
  ·exact ⟨_,rfl,by rw [zeros,List.length_replicate,hx],.zeros _ _ (Nat.mul_pos (Nat.mul_pos hL hM) (Nat.pow_pos hK))⟩
  ·simp only [List.length_nil,ee,gr,Nat.pow_zero,Nat.mul_one,Nat.one_mul] at *
   have p1:1≤L*M:=Nat.mul_pos hL hM;have q1:B*C≤2*(B*C)*(L*M):=Nat.le_trans (by omega) (Nat.le_mul_of_pos_right _ p1);have q2:L*M≤L*M*(L*M):=Nat.le_mul_of_pos_right _ p1;obtain ⟨z,e,hz,az⟩:=Qqv (by rw [hx,hy]) ax ay (Nat.lt_of_le_of_lt q1 h1) (Nat.lt_of_le_of_lt q2 h2);exact ⟨z,e,by rw [hz,hx],az⟩
 | d :: rs,hr_,L,M,B,C,x,y,hx,hy,hL,hM,ax,ay,h1,h2=>by
  obtain ⟨hd,ad,hrs⟩:=hr_;rw [mulO];split
  ·exact ⟨_,rfl,by rw [zeros,List.length_replicate,hx],.zeros _ _ (Nat.mul_pos (Nat.mul_pos hL hM) (Nat.pow_pos hK))⟩
  ·obtain ⟨xa,xb⟩:=Qdv hx;obtain ⟨ya,yb⟩:=Qdv hy;have ih:=fun {L M B C:Nat} {x y:List Rat}=>Qkd hK hrs (L:=L) (M:=M) (B:=B) (C:=C) (x:=x) (y:=y);simp only [List.length_cons,ee,gr] at *
   generalize hk:rs.length=k at *
   generalize hE:K^ee k=E at *
   have e0:0<E:=by rw [←hE];exact Nat.pow_pos hK
   have eP:K^(ee k+(1+ee k))=E*(K*E):=by rw [Nat.pow_add,Nat.pow_add,Nat.pow_one,hE]
   rw [eP] at h1 h2 ⊢;generalize hG:gr K D k=G at *
   have hLM:=Nat.mul_pos hL hM;have hP:L*M*E*(K*E)=L*M*(E*(K*E)):=Nat.mul_assoc _ _ _;have p1:L*M*E≤L*M*(E*(K*E)):=by rw [←hP];exact Nat.le_mul_of_pos_right _ (Nat.mul_pos hK e0)
   have s1:G*(B*C)≤(2*(G*(K*E))+G*G*D)*(B*C):=by
    refine Nat.mul_le_mul_right _ ?_;have:G≤G*(K*E):=Nat.le_mul_of_pos_right _ (Nat.mul_pos hK e0);omega
   have s2:G*(G*(B*C)*D)=G*G*D*(B*C):=by
    simp only [Nat.mul_comm,Nat.mul_left_comm]
   have s3:G*(G*(B*C)*D)≤(2*(G*(K*E))+G*G*D)*(B*C):=by rw [s2];exact Nat.mul_le_mul_right _ (by omega)
   have t1:2*(G*(B*C))*(L*M*E)<10^200:=Nat.lt_of_le_of_lt (Nat.mul_le_mul (Nat.mul_le_mul_left _ s1) p1) h1;have t2:(L*M*E)*(L*M*E)<10^200:=Nat.lt_of_le_of_lt (Nat.mul_le_mul p1 p1) h2;obtain ⟨ac,e1,l1,a1⟩:=ih xa ya hL hM ax.hl ay.hl t1 t2;obtain ⟨be,e2,l2,a2⟩:=ih xb yb hL hM ax.hr ay.hr t1 t2;obtain ⟨ae,e5,l5,a5⟩:=ih xa yb hL hM ax.hl ay.hr t1 t2;obtain ⟨bc,e6,l6,a6⟩:=ih xb ya hL hM ax.hr ay.hl t1 t2;have hP3:L*M*E*K*E=L*M*(E*(K*E)):=by simp only [Nat.mul_comm,Nat.mul_left_comm]
   obtain ⟨bed,e3,l3,a3⟩:=ih l2 hd (Nat.mul_pos hLM e0) hK a2 ad
    (by rw [hP3];exact Nat.lt_of_le_of_lt (Nat.mul_le_mul_right _ (Nat.mul_le_mul_left _ s3)) h1) (by rw [hP3];exact h2)
   rw [hP3] at a3
   have up:∀ {l:List Rat},AllL (L*M*E) (G*(B*C)) l→AllL (L*M*(E*(K*E))) (G*(B*C)*(K*E)) l:=fun h=>by
    have:=h.lift (M:=K*E) (Nat.mul_pos hK e0)
    rwa [hP] at this
   have v1:G*(B*C)*(K*E)+G*(G*(B*C)*D)≤(2*(G*(K*E))+G*G*D)*(B*C):=by
    rw [s2,Nat.add_mul,show G*(B*C)*(K*E)=G*(K*E)*(B*C) by simp only [Nat.mul_comm,Nat.mul_left_comm],Nat.mul_assoc 2];omega
   have v2:G*(B*C)*(K*E)+G*(B*C)*(K*E)≤(2*(G*(K*E))+G*G*D)*(B*C):=by
    rw [Nat.add_mul,show G*(B*C)*(K*E)=G*(K*E)*(B*C) by simp only [Nat.mul_comm,Nat.mul_left_comm],Nat.mul_assoc 2];omega
   have big:∀ {T:Nat},T≤(2*(G*(K*E))+G*G*D)*(B*C)→T*(L*M*(E*(K*E)))<10^200:=fun h=>by
    refine Nat.lt_of_le_of_lt (Nat.mul_le_mul_right _ (Nat.le_trans h ?_)) h1;omega
   obtain ⟨p,e4,l4,a4⟩:=QfN (by rw [l1,l3]) (up a1) a3 (big v1) h2;obtain ⟨q,e7,l7,a7⟩:=QfN (by rw [l5,l6]) (up a5) (up a6) (big v2) h2;refine ⟨p++q, ?_, ?_,(a4.mono v1).app (a7.mono v2)⟩
   ·rw [e1,Option.bind_some,e2,Option.bind_some,e3,Option.bind_some,e4,Option.bind_some,e5,Option.bind_some,e6,Option.bind_some,e7];rfl
   ·rw [List.length_append,l4,l7,l1,l5,Nat.pow_succ];omega
def sfit (K D:Nat):Nat→Nat→Nat→Bool
 | 0,_,_=>true
 | k+1,L,B=>decide (2*(gr K D (k+1)*(B*B))*(L*L*K^ee (k+1))<10^200) && (decide ((L*L*K^ee (k+1))*(L*L*K^ee (k+1))<10^200) && (sfit K D k (L*L*K^ee (k+1)) (gr K D (k+1)*(B*B)) && sfit K D k L B))
end Tw
end
section
namespace Tw
open Go.RowKit Go.Extern.Stop Go.Stop Go.Extern
open En Go.Proofs.YtadcmepaniiciaaGreatDoor.Nm Go.Proofs.YtadcmepaniiciaaGreatDoor.Rt
open N10 (Two)
def FitL (l:List Rat):Prop:=∀ q∈l,FitQ q
def pqs (l:List Rat) (i:Nat):P2:=pq (l.getD i 0)
structure El (W:World) (v:Value) (l:List Rat):Prop where
 ex:∃ b o cap,v = .slice (some ⟨b,o,none⟩) l.length cap∧l.length≤cap∧Cl W b o l.length (pqs l)
theorem El.keep {W W':World} {v:Value} {l:List Rat} (h:El W v l) (hB:Below W.heap.size W W'):El W' v l:=by
 obtain ⟨b,o,cap,e,h1,h2⟩:=h.ex;exact ⟨b,o,cap,e,h1,h2.keep hB⟩
structure AnsO (o:Option (List Rat)) (w:World) (e:Ending) (w':World):Prop where
 below:Below w.heap.size w w'
 good:∀ z,o=some z→∃ v,e = .returned v∧El w' v z
 bad:o=none→e = .panicked twP
theorem FitL.getD {l:List Rat} (h:FitL l) (i:Nat) (hi:i<l.length):FitQ (l.getD i 0):=by
 rw [List.getD_eq_getElem?_getD,List.getElem?_eq_getElem hi];exact h _ (List.getElem_mem hi)
theorem Qht {f:Rat→Rat→Option Rat}:∀ {l m z:List Rat},l.length=m.length→Qaj f l m=some z→z.length=l.length∧∀ j,j<l.length→f (l.getD j 0) (m.getD j 0)=some (z.getD j 0)
 | [], [],z,_,h=>by cases h;exact ⟨rfl,fun j hj=>by cases hj⟩
 | [],_ :: _,z,h,_=>by cases h
 | _ :: _, [],z,h,_=>by cases h
 | x :: l,y :: m,z,h,k=>by
  rw [Qaj] at k;obtain ⟨r,hr,k⟩:=Option.bind_eq_some_iff.1 k;obtain ⟨t,ht,rfl⟩:=Option.map_eq_some_iff.1 k;obtain ⟨h1,h2⟩:=Qht (by simpa using h) ht;refine ⟨by simp [h1],fun j hj => ?_⟩;cases j with
  | zero=>exact hr
  | succ j=>exact h2 j (by simpa using hj)
theorem Qhu {f:Rat→Rat→Option Rat}:∀ {l m:List Rat},l.length=m.length→Qaj f l m=none→∃ j,j<l.length∧f (l.getD j 0) (m.getD j 0)=none
 | [], [],_,h=>by cases h
 | [],_ :: _,h,_=>by cases h
 | _ :: _, [],h,_=>by cases h
 | x :: l,y :: m,h,k=>by
  rw [Qaj] at k;cases hf:f x y with
  | none=>exact ⟨0,by simp,hf⟩
  | some r =>
   rw [hf,Option.bind_some] at k;obtain ⟨j,hj,hn⟩:=Qhu (by simpa using h) (Option.map_eq_none_iff.1 k);exact ⟨j+1,by simpa using hj,hn⟩
theorem ansO {f:Rat→Rat→Option Rat} {l m:List Rat} {w w':World} {e:Ending} (hl:l.length=m.length)
  (h:AnsE (∀ j,j<l.length→cd (f (l.getD j 0) (m.getD j 0))=0) l.length (fun j=>(sn (f (l.getD j 0) (m.getD j 0)),sd (f (l.getD j 0) (m.getD j 0)))) w e w'):AnsO (Qaj f l m) w e w':=by
 refine ⟨h.below,fun z hz => ?_,fun hn => ?_⟩
 ·obtain ⟨h1,h2⟩:=Qht hl hz;obtain ⟨b,cap,rfl,_,k1,_,k3⟩:=h.good (fun j hj=>by rw [h2 j hj];rfl);refine ⟨_,rfl,b,0,cap,by rw [h1],by rw [h1];exact k1, ?_⟩;rw [h1];exact ⟨fun i hi=>by have:=k3.at_ i hi;rw [h2 i hi] at this;exact this⟩
 ·obtain ⟨j,hj,hf⟩:=Qhu hl hn;refine h.bad (fun k => ?_);have:=k j hj;rw [hf] at this;cases this
theorem Qjj {l m:List Rat} {vx vy:Value} (hl:l.length=m.length) (hn:l.length≤1000) (fl:FitL l) (fm:FitL m) (w:World) (hx:El w vx l) (hy:El w vy m) :
  Calls Tryz.prog 41 #[vx,vy] w (AnsO (Qaj addQ l m) w):=by
 obtain ⟨b,o,cap,rfl,h1,h2⟩:=hx.ex;obtain ⟨b',o',cap',rfl,h1',h2'⟩:=hy.ex;rw [←hl] at h1' h2' ⊢;exact (Qey l.length b o cap b' o' cap' hn h1 h1' (pqs l) (pqs m) (fun j=>(sn (addQ (l.getD j 0) (m.getD j 0)),sd (addQ (l.getD j 0) (m.getD j 0)))) (fun j=>cd (addQ (l.getD j 0) (m.getD j 0))) (fun j hj W=>Rt.addO (.some (fl.getD j hj)) (.some (fm.getD j (hl▸hj))) W) w h2 h2').mono (fun e w' h=>ansO hl h)
theorem Qih {l m:List Rat} {vx vy:Value} (hl:l.length=m.length) (hn:l.length≤1000) (fl:FitL l) (fm:FitL m) (w:World) (hx:El w vx l) (hy:El w vy m) :
  Calls Tryz.prog 43 #[vx,vy] w (AnsO (Qaj subQ l m) w):=by
 obtain ⟨b,o,cap,rfl,h1,h2⟩:=hx.ex;obtain ⟨b',o',cap',rfl,h1',h2'⟩:=hy.ex;rw [←hl] at h1' h2' ⊢;exact (QdE l.length b o cap b' o' cap' hn h1 h1' (pqs l) (pqs m) (fun j=>(sn (subQ (l.getD j 0) (m.getD j 0)),sd (subQ (l.getD j 0) (m.getD j 0)))) (fun j=>cd (subQ (l.getD j 0) (m.getD j 0))) (fun j hj W=>Rt.subO (.some (fl.getD j hj)) (.some (fm.getD j (hl▸hj))) W) w h2 h2').mono (fun e w' h=>ansO hl h)
theorem QuK {l m:List Rat} {vx vy:Value} (hl:l.length=m.length) (hn:l.length≤1000) (fl:FitL l) (fm:FitL m) (w:World) (hx:El w vx l) (hy:El w vy m) :
  Calls Tryz.prog 94 #[.func (.func 95) #[] #[],vx,vy] w (AnsO (Qaj mulQ l m) w):=by
 obtain ⟨b,o,cap,rfl,h1,h2⟩:=hx.ex;obtain ⟨b',o',cap',rfl,h1',h2'⟩:=hy.ex;rw [←hl] at h1' h2' ⊢;exact (QcY 95 (enters_of Tryz.func95 (by kernel_rfl) rfl) l.length b o cap b' o' cap' hn h1 h1' (pqs l) (pqs m) (fun j=>(sn (mulQ (l.getD j 0) (m.getD j 0)),sd (mulQ (l.getD j 0) (m.getD j 0)))) (fun j=>cd (mulQ (l.getD j 0) (m.getD j 0))) (fun j hj W=>Rt.mulO (.some (fl.getD j hj)) (.some (fm.getD j (hl▸hj))) W) w h2 h2').mono (fun e w' h=>ansO hl h)
theorem FitL.pair {f:Rat→Rat→Option Rat} (hf:∀ p q r,f p q=some r→FitQ r):∀ {l m z:List Rat},Qaj f l m=some z→FitL z
 | [],_,z,h=>by cases h;exact fun q hq=>by cases hq
 | _ :: _, [],z,h=>by cases h;exact fun q hq=>by cases hq
 | x :: l,y :: m,z,k=>by
  rw [Qaj] at k;obtain ⟨r,hr,k⟩:=Option.bind_eq_some_iff.1 k;obtain ⟨t,ht,rfl⟩:=Option.map_eq_some_iff.1 k;intro q hq;rcases List.mem_cons.1 hq with rfl | hq
  ·exact hf _ _ _ hr
  ·exact FitL.pair hf ht q hq
end Tw
end
section
namespace Tw
open Go.RowKit Go.Extern.Stop Go.Stop Go.Extern
open En Go.Proofs.YtadcmepaniiciaaGreatDoor.Nm Go.Proofs.YtadcmepaniiciaaGreatDoor.Rt
theorem txt0:txt 0=⟨#[48]⟩:=by decide +kernel
theorem txt1:txt 1=⟨#[49]⟩:=by decide +kernel
theorem pq0:pq 0=(⟨#[48]⟩,⟨#[49]⟩):=by rw [pq];exact Prod.ext txt0 txt1
theorem fit0:FitQ 0:=⟨Qas (by decide),Qas (by decide)⟩
theorem QoG {a:ByteArray} {b:List UInt8} (h:a.toList=b) (c:ByteArray) (hc:c.toList=b):a=c:=by
 have:(a.toList == c.toList)=true:=by rw [h,hc];exact beq_self_eq_true _
 rw [QcU] at this;exact of_decide_eq_true this
theorem nz_q (q:Rat):nz (pq q) = !decide (q=0):=by
 rw [nz];by_cases h:q=0
 ·subst h;rw [pq0];decide +kernel
 ·rw [decide_eq_false h];cases hd:(decide ((pq q).1.toList = [48]) && decide ((pq q).2.toList = [49])) with
  | false=>rfl
  | true =>
   rw [Bool.and_eq_true] at hd;have h1:=QoG (of_decide_eq_true hd.1) ⟨#[48]⟩ (by decide +kernel);have h2:=QoG (of_decide_eq_true hd.2) ⟨#[49]⟩ (by decide +kernel);exact absurd (QfJ (show txtQ q=txtQ 0 from (Prod.ext h1 h2:pq q=(⟨#[48]⟩,⟨#[49]⟩)).trans pq0.symm)) h
theorem Qld:∀ (l:List Rat) (n:Nat),n≤l.length→allZ (pqs l) n=(l.take n).all fun r=>decide (r=0)
 | l,0,_=>by rw [List.take_zero];rfl
 | l,n+1,h=>by
  rw [allZ,Qld l n (by omega),List.take_succ_eq_append_getElem (by omega),List.all_append,pqs,nz_q,List.getD_eq_getElem?_getD,List.getElem?_eq_getElem (by omega)];simp
theorem Qef {l:List Rat} {vx:Value} (hn:l.length≤1000) (w:World) (hg:Gl w) (hx:El w vx l) :
  Calls Tryz.prog 64 #[vx] w fun e w'=>e = .returned (.bool (QbQ l))∧Below w.heap.size w w':=by
 obtain ⟨b,o,cap,rfl,h1,h2⟩:=hx.ex;have:=Qcg l.length b o cap hn (pqs l) w hg h2;rw [Qld l l.length Lr,List.take_length] at this;exact this
theorem QaR (n:Nat):(Tw.zeros n).length=n:=by rw [Tw.zeros,List.length_replicate]
theorem QgM (n i:Nat):pqs (Tw.zeros n) i=(⟨#[48]⟩,⟨#[49]⟩):=by
 rw [pqs,Tw.zeros,←pq0];congr 1;rw [List.getD_eq_getElem?_getD,List.getElem?_replicate];split <;> rfl
theorem Qke (n:Nat) (hn:1≤n∧n≤1000) (w:World) (hg:Gl w) :
  Calls Tryz.prog 93 #[.int .i64 (n:Int)] w (AnsO (some (Tw.zeros n)) w) :=
 (QoE n hn w hg).mono fun e w' h=>by
  obtain ⟨b,cap,rfl,_,k1,_,k3⟩:=h.good trivial;refine ⟨h.below,fun z hz => ?_,fun hn=>by cases hn⟩;cases hz;refine ⟨_,rfl,b,0,cap,by rw [QaR],by rw [QaR];exact k1, ?_⟩;rw [QaR];exact ⟨fun i hi=>by rw [QgM];exact k3.at_ i hi⟩
theorem Qle (a b:List Rat) (i:Nat) (h:i<a.length):pqs (a++b) i=pqs a i:=by
 rw [pqs,pqs,List.getD_eq_getElem?_getD,List.getD_eq_getElem?_getD,List.getElem?_append_left h]
theorem Qlf (a b:List Rat) (i:Nat):pqs (a++b) (a.length+i)=pqs b i:=by
 rw [pqs,pqs,List.getD_eq_getElem?_getD,List.getD_eq_getElem?_getD,List.getElem?_append_right (by omega),Nat.add_sub_cancel_left]
theorem Qeg {a b:List Rat} {vx:Value} (hl:a.length=b.length) (hn:1≤a.length∧a.length≤500) (w:World) (hx:El w vx (a++b)) :
  Calls Tryz.prog 96 #[vx] w fun e w'=>(∃ va vb,e = .returned (.tuple #[va,vb])∧El w' va a∧El w' vb b)∧Below w.heap.size w w':=by
 obtain ⟨bk,o,cap,rfl,h1,h2⟩:=hx.ex;rw [List.length_append,←hl] at h1 h2 ⊢;refine (QmA bk o a.length cap hn h1 w).mono ?_;rintro e w' ⟨rfl,u⟩;have k2:=h2.keep u;refine ⟨⟨_,_,rfl,⟨bk,o,cap,rfl,by omega,⟨fun i hi => ?_⟩⟩,⟨bk,o+a.length*2,cap-a.length,by rw [hl],by omega,⟨fun i hi => ?_⟩⟩⟩,u⟩
 ·have:=k2.at_ i (by omega);rw [Qle a b i hi] at this;exact this
 ·have:=k2.at_ (a.length+i) (by omega);rw [Qlf,show o+(a.length+i)*2=o+a.length*2+i*2 by omega] at this;exact this
theorem Qii {a b:List Rat} {va vb:Value} (h1:1≤a.length∧a.length≤500) (h2:1≤b.length∧b.length≤500) (bo co:Nat) (w:World) (hb:w.heap[bo]? = some (Jc #[va,vb] 67 (0,0))) (hx:El w va a) (hy:El w vb b) :
  Calls Tryz.prog 98 #[.slice (some ⟨bo,0,none⟩) 2 co] w (AnsO (some (a++b)) w):=by
 obtain ⟨b1,o1,c1,rfl,_,x1⟩:=hx.ex;obtain ⟨b2,o2,c2,rfl,_,y1⟩:=hy.ex;refine (QmB b1 o1 a.length c1 b2 o2 b.length c2 bo co h1 h2 (pqs a) (pqs b) (pqs (a++b)) (fun i hi=>Qle a b i hi) (fun i _=>Qlf a b i) w hb x1 y1).mono fun e w' h => ?_;obtain ⟨b,cap,rfl,_,k1,_,k3⟩:=h.good trivial;refine ⟨h.below,fun z hz => ?_,fun hn=>by cases hn⟩;cases hz;rw [←List.length_append] at k1 k3 ⊢;exact ⟨_,rfl,_,0,cap,rfl,k1,k3⟩
def Fd (W:World):Value→List (List Rat)→Prop
 | v, []=>v = .pointer none
 | v,d :: rs=>∃ fb lv rv,v = .pointer (some ⟨fb,0,none⟩)∧W.heap[fb]? = some (Jc #[lv,rv] 117 (0,0))∧Fd W lv rs∧El W rv d∧d.length=2^rs.length∧FitL d
theorem Fd.keep {W W':World} (hB:Below W.heap.size W W'):∀ {rs:List (List Rat)} {v:Value},Fd W v rs→Fd W' v rs
 | [],_,h=>h
 | _ :: _,_,⟨fb,lv,rv,e,h1,h2,h3,h4,h5⟩=>⟨fb,lv,rv,e,En.Qac h1 hB,Fd.keep hB h2,h3.keep hB,h4,h5⟩
theorem FitL.app {a b:List Rat} (h:FitL (a++b)):FitL a∧FitL b:=⟨fun q hq=>h q (List.mem_append_left _ hq),fun q hq=>h q (List.mem_append_right _ hq)⟩
theorem FitL.both {a b:List Rat} (h:FitL a) (h':FitL b):FitL (a++b):=fun q hq=>(List.mem_append.1 hq).elim (h q) (h' q)
theorem FitL.zeros (n:Nat):FitL (Tw.zeros n):=fun q hq=>by rw [List.eq_of_mem_replicate hq];exact fit0
theorem QcB {l:List Rat} {k:Nat} (h:l.length=2^(k+1)):∃ a b,l=a++b∧a.length=2^k∧b.length=2^k:=by
 obtain ⟨h1,h2⟩:=Qdv h;exact ⟨hl l,hr l,(List.take_append_drop _ _).symm,h1,h2⟩
theorem QbL:∀ {rs:List (List Rat)} {x y z:List Rat},mulO rs x y=some z→FitL z
 | [],x,y,z,h=>by
  rw [mulO] at h;split at h
  ·cases h;exact .zeros _
  ·exact .pair (fun _ _ _ h=>FitQ.mulQ h) h
 | d :: rs,x,y,z,h=>by
  rw [mulO] at h;split at h
  ·cases h;exact .zeros _
  ·obtain ⟨ac,h1,h⟩:=Option.bind_eq_some_iff.1 h;obtain ⟨be,h2,h⟩:=Option.bind_eq_some_iff.1 h;obtain ⟨bed,h3,h⟩:=Option.bind_eq_some_iff.1 h;obtain ⟨p,h4,h⟩:=Option.bind_eq_some_iff.1 h;obtain ⟨ae,h5,h⟩:=Option.bind_eq_some_iff.1 h;obtain ⟨bc,h6,h⟩:=Option.bind_eq_some_iff.1 h;obtain ⟨q,h7,rfl⟩:=Option.map_eq_some_iff.1 h;exact .both (.pair (fun _ _ _ h=>FitQ.addQ h) h4) (.pair (fun _ _ _ h=>FitQ.addQ h) h7)
def Qdz:List (List Rat)→Prop
 | []=>True
 | d :: rs=>d.length=2^rs.length∧Qdz rs
theorem QaN:∀ {rs:List (List Rat)} {x y z:List Rat},Qdz rs→x.length=2^rs.length→y.length=2^rs.length→mulO rs x y=some z→z.length=2^rs.length
 | [],x,y,z,_,hx,hy,h=>by
  rw [mulO] at h;split at h
  ·cases h;rw [QaR,hx]
  ·rw [Qbv (by rw [hx,hy]) h,hx]
 | d :: rs,x,y,z,hd,hx,hy,h=>by
  rw [mulO] at h;split at h
  ·cases h;rw [QaR,hx]
  ·obtain ⟨a1,a2⟩:=Qdv hx;obtain ⟨c1,c2⟩:=Qdv hy;obtain ⟨ac,h1,h⟩:=Option.bind_eq_some_iff.1 h;obtain ⟨be,h2,h⟩:=Option.bind_eq_some_iff.1 h;obtain ⟨bed,h3,h⟩:=Option.bind_eq_some_iff.1 h;obtain ⟨p,h4,h⟩:=Option.bind_eq_some_iff.1 h;obtain ⟨ae,h5,h⟩:=Option.bind_eq_some_iff.1 h;obtain ⟨bc,h6,h⟩:=Option.bind_eq_some_iff.1 h;obtain ⟨q,h7,rfl⟩:=Option.map_eq_some_iff.1 h;have l1:=QaN hd.2 a1 c1 h1;have l2:=QaN hd.2 (QaN hd.2 a2 c2 h2) hd.1 h3;have l5:=QaN hd.2 a1 c2 h5;have l6:=QaN hd.2 a2 c1 h6;rw [List.length_append,Qbv (by rw [l1,l2]) h4,Qbv (by rw [l5,l6]) h7,l1,l5,List.length_cons,Nat.pow_succ];omega
theorem Fd.rad {W:World}:∀ {rs:List (List Rat)} {v:Value},Fd W v rs→Qdz rs
 | [],_,_=>trivial
 | _ :: _,_,⟨_,_,_,_,_,h2,_,h4,_⟩=>⟨h4,Fd.rad h2⟩
def QgN (rs:List (List Rat)):Prop:=∀ {x y:List Rat} {f vx vy:Value},x.length=2^rs.length→y.length=2^rs.length→FitL x→FitL y→∀ w,Gl w→Fd w f rs→El w vx x→El w vy y→Calls Tryz.prog 38 #[f,vx,vy] w (AnsO (mulO rs x y) w)
theorem QbG {k:Nat} (h:k≤4):1≤2^k∧2^k≤16:=by
 rcases (by omega:k=0∨k=1∨k=2∨k=3∨k=4) with rfl | rfl | rfl | rfl | rfl <;> decide
theorem Qhv {rs:List (List Rat)} (hk:rs.length≤4) {x y:List Rat} {f vx vy:Value} (hx:x.length=2^rs.length) (hy:y.length=2^rs.length) (w:World) (hg:Gl w) (ex:El w vx x) (ey:El w vy y) (hz:(QbQ x || QbQ y)=true) :
  Calls Tryz.prog 38 #[f,vx,vy] w (AnsO (some (Tw.zeros x.length)) w):=by
 have hp:=QbG hk;rw [←hx] at hp hy;have c1:=Qef (l:=x) (by omega) w hg ex;have c2:=fun (W:World) (u:Below w.heap.size w W)=>Qef (l:=y) (by omega) W (hg.keep u) (ey.keep u);have c3:=fun (W:World) (u:Below w.heap.size w W)=>Qke x.length (by omega) W (hg.keep u);obtain ⟨b,o,cap,rfl,_,_⟩:=ex.ex;clear ex ey hg hx hy hk;generalize x.length=n at *
 rcases Bool.or_eq_true_iff.1 hz with h | h
 ·rw [h] at c1;clear c2 hz h;go_enter Tryz.func38, Tryz.ntmps38;go_wp2_with fail;refine c1.mono ?_;rintro e w1 ⟨rfl,u1⟩;clear c1;go_wp2_with fail;refine (c3 w1 u1).mono ?_;intro e w2 h2;obtain ⟨v,rfl,hv⟩:=h2.good _ rfl;go_wp2_with fail;go_ret;exact ⟨u1.trans (h2.below.mono u1.size),fun z hz=>by cases hz;exact ⟨_,rfl,hv⟩,fun h=>by cases h⟩
 ·cases h0:QbQ x with
  | true =>
   rw [h0] at c1;clear c2 hz h;go_enter Tryz.func38, Tryz.ntmps38;go_wp2_with fail;refine c1.mono ?_;rintro e w1 ⟨rfl,u1⟩;clear c1;go_wp2_with fail;refine (c3 w1 u1).mono ?_;intro e w2 h2;obtain ⟨v,rfl,hv⟩:=h2.good _ rfl;go_wp2_with fail;go_ret;exact ⟨u1.trans (h2.below.mono u1.size),fun z hz=>by cases hz;exact ⟨_,rfl,hv⟩,fun h=>by cases h⟩
  | false =>
   rw [h0] at c1;rw [h] at c2;clear hz h h0;go_enter Tryz.func38, Tryz.ntmps38;go_wp2_with fail;refine c1.mono ?_;rintro e w1 ⟨rfl,u1⟩;clear c1;go_wp2_with fail;refine (c2 w1 u1).mono ?_;rintro e w2 ⟨rfl,u2⟩;have u3:=u1.trans (u2.mono u1.size);clear c2 u1 u2;go_wp2_with fail;refine (c3 w2 u3).mono ?_;intro e w3 h2;obtain ⟨v,rfl,hv⟩:=h2.good _ rfl;go_wp2_with fail;go_ret;exact ⟨u3.trans (h2.below.mono u3.size),fun z hz=>by cases hz;exact ⟨_,rfl,hv⟩,fun h=>by cases h⟩
theorem QoH:QgN []:=by
 intro x y f vx vy hx hy fx fy w hg hf ex ey;rw [mulO];by_cases hz:(QbQ x || QbQ y)=true
 ·rw [if_pos hz];exact Qhv (rs := []) (by decide) hx hy w hg ex ey hz
 ·rw [if_neg hz];obtain rfl:f = .pointer none:=hf;rw [Bool.or_eq_true_iff,not_or,Bool.not_eq_true,Bool.not_eq_true] at hz;have hx1:x.length=1:=hx;have hy1:y.length=1:=hy;have c1:=Qef (l:=x) (by omega) w hg ex;have c2:=fun (W:World) (u:Below w.heap.size w W)=>Qef (l:=y) (by omega) W (hg.keep u) (ey.keep u);have c3:=fun (W:World) (u:Below w.heap.size w W)=>QuK (l:=x) (m:=y) (by omega) (by omega) fx fy W (ex.keep u) (ey.keep u);rw [hz.1] at c1;rw [hz.2] at c2;clear ex ey hg hz;go_enter Tryz.func38, Tryz.ntmps38;go_wp2_with fail;refine c1.mono ?_;rintro e w1 ⟨rfl,u1⟩;clear c1;go_wp2_with fail;refine (c2 w1 u1).mono ?_;rintro e w2 ⟨rfl,u2⟩;have u3:=u1.trans (u2.mono u1.size);clear c2 u1 u2;go_wp2_with fail;refine (c3 w2 u3).mono ?_;intro e w3 h2;rcases ho:Qaj mulQ x y with _ | z
  ·obtain rfl:=h2.bad ho;exact ⟨rfl,u3.trans (h2.below.mono u3.size),fun z hz=>(by cases hz),fun _=>rfl⟩
  ·obtain ⟨v,rfl,hv⟩:=h2.good _ ho;go_wp2_with fail;go_ret;exact ⟨u3.trans (h2.below.mono u3.size),fun z' hz=>(by rw [ho] at hz;cases hz;exact ⟨_,rfl,hv⟩),fun h=>(by rw [ho] at h;cases h)⟩
theorem Qrw {rs:List (List Rat)} (ih:QgN rs) {b g d:List Rat} {lv vb ve rv:Value} (lb:b.length=2^rs.length) (lg:g.length=2^rs.length) (ld:d.length=2^rs.length) (fb:FitL b) (fg:FitL g) (fd:FitL d)
  (bo co:Nat) (w:World) (hg:Gl w) (hl:Fd w lv rs) (eb:El w vb b) (ee:El w ve g) (ed:El w rv d) (hb:w.heap[bo]? = some (Jc #[ve,rv] 67 (0,0))) :
  Calls Tryz.prog 97 #[.func (.func 38) #[lv] #[],vb,.slice (some ⟨bo,0,none⟩) 2 co] w (AnsO ((mulO rs b g).bind fun be=>mulO rs be d) w):=by
 refine (Qqq 38 (enters_of Tryz.func38 (by kernel_rfl) rfl) lv vb ve rv bo co w hb (fun v W=>∃ be,mulO rs b g=some be∧El W v be)
  (fun e W=>(∀ z,((mulO rs b g).bind fun be=>mulO rs be d)=some z→∃ v,e = .returned v∧El W v z)∧(((mulO rs b g).bind fun be=>mulO rs be d)=none→e = .panicked twP)) ?_ ?_).mono (fun e w' h=>⟨h.1,h.2.1,h.2.2⟩)
 ·refine (ih lb lg fb fg w hg hl eb ee).mono fun e w1 h=>⟨h.below, ?_⟩;rcases ho:mulO rs b g with _ | be
  ·exact .inr ⟨h.bad ho,fun z hz=>(by rw [Option.bind_none] at hz;cases hz),fun _=>h.bad ho⟩
  ·obtain ⟨v,rfl,hv⟩:=h.good _ ho;exact .inl ⟨v,rfl,be,rfl,hv⟩
 ·rintro v w1 u ⟨be,ho,hv⟩;rw [ho];refine (ih (QaN hl.rad lb lg ho) ld (QbL ho) fd w1 (hg.keep u) (Fd.keep u hl) hv (ed.keep u)).mono fun e w2 h=>⟨h.below, ?_⟩;rcases hq:mulO rs be d with _ | z
  ·exact .inr ⟨h.bad hq,fun z hz=>(by rw [Option.bind_some,hq] at hz;cases hz),fun _=>h.bad hq⟩
  ·obtain ⟨v2,rfl,hv2⟩:=h.good _ hq;exact .inl ⟨v2,rfl,fun z' hz=>(by rw [Option.bind_some,hq] at hz;cases hz;exact ⟨_,rfl,hv2⟩),fun hn=>(by rw [Option.bind_some,hq] at hn;cases hn)⟩
theorem Qlg {rs:List (List Rat)} {d a b c g:List Rat} (h1:a.length=b.length) (h2:c.length=g.length) (hz:¬(QbQ (a++b) || QbQ (c++g))=true) :
  mulO (d :: rs) (a++b) (c++g)=(mulO rs a c).bind fun ac=>((mulO rs b g).bind fun be=>mulO rs be d).bind fun bed=>(Qaj addQ ac bed).bind fun p=>(mulO rs a g).bind fun ae=>(mulO rs b c).bind fun bc=>(Qaj addQ ae bc).map fun q=>p++q:=by
 rw [mulO,if_neg hz,(QaB h1).1,(QaB h1).2,(QaB h2).1,(QaB h2).2];rcases mulO rs a c with _ | ac
 ·rfl
 ·rcases mulO rs b g with _ | be <;> rfl
theorem QmD {rs:List (List Rat)} (hk:rs.length≤3) (d:List Rat) (ih:QgN rs):QgN (d :: rs):=by
 intro x y f vx vy hx hy fx fy w hg hf ex ey;by_cases hz:(QbQ x || QbQ y)=true
 ·rw [mulO,if_pos hz];exact Qhv (rs:=d :: rs) (by simp;omega) hx hy w hg ex ey hz
 ·have hz':=hz;rw [Bool.or_eq_true_iff,not_or,Bool.not_eq_true,Bool.not_eq_true] at hz';have hp:=QbG (show rs.length≤4 by omega);have hxn:x.length≤1000:=by rw [hx,List.length_cons,Nat.pow_succ];omega
  have hyn:y.length≤1000:=by rw [hy,List.length_cons,Nat.pow_succ];omega
  have c1:=Qef hxn w hg ex;have c2:=fun (W:World) (u:Below w.heap.size w W)=>Qef hyn W (hg.keep u) (ey.keep u);rw [hz'.1] at c1;rw [hz'.2] at c2;obtain ⟨a,b,rfl,ha,hb⟩:=QcB hx;obtain ⟨c,g,rfl,hc,he⟩:=QcB hy;have ch1:=fun (W:World) (u:Below w.heap.size w W)=>Qeg (a:=a) (b:=b) (by omega) (by omega) W (ex.keep u);have ch2:=fun (W:World) (u:Below w.heap.size w W)=>Qeg (a:=c) (b:=g) (by omega) (by omega) W (ey.keep u);rw [Qlg (by omega) (by omega) hz];obtain ⟨fb,lv,rv,rfl,n_f,hl,er,hd,fd⟩:=hf;have hrad:=hl.rad;have TT:Sh (∀ W va vc,Below w.heap.size w W→El W va a→El W vc c→Calls Tryz.prog 38 #[lv,va,vc] W (AnsO (mulO rs a c) W)):=⟨fun W va vc u h h'=>ih ha hc fx.app.1 fy.app.1 W (hg.keep u) (Fd.keep u hl) h h'⟩;have T2:Sh (∀ W va vc,Below w.heap.size w W→El W va a→El W vc g→Calls Tryz.prog 38 #[lv,va,vc] W (AnsO (mulO rs a g) W)):=⟨fun W va vc u h h'=>ih ha he fx.app.1 fy.app.2 W (hg.keep u) (Fd.keep u hl) h h'⟩;have T3:Sh (∀ W va vc,Below w.heap.size w W→El W va b→El W vc c→Calls Tryz.prog 38 #[lv,va,vc] W (AnsO (mulO rs b c) W)):=⟨fun W va vc u h h'=>ih hb hc fx.app.2 fy.app.1 W (hg.keep u) (Fd.keep u hl) h h'⟩
  have FF:Sh (∀ W vb ve bo,Below w.heap.size w W→El W vb b→El W ve g→W.heap[bo]? = some (Jc #[ve,rv] 67 (0,0))→Calls Tryz.prog 97 #[.func (.func 38) #[lv] #[],vb,.slice (some ⟨bo,0,none⟩) 2 2] W (AnsO ((mulO rs b g).bind fun be=>mulO rs be d) W)) :=
   ⟨fun W vb ve bo u h h' hq=>Qrw ih hb he hd fx.app.2 fy.app.2 fd bo 2 W (hg.keep u) (Fd.keep u hl) h h' (er.keep u) hq⟩
  have PA:Sh (∀ z,mulO rs a c=some z→FitL z∧z.length=2^rs.length):=⟨fun z h=>⟨QbL h,QaN hrad ha hc h⟩⟩;have P2_:Sh (∀ z,mulO rs a g=some z→FitL z∧z.length=2^rs.length):=⟨fun z h=>⟨QbL h,QaN hrad ha he h⟩⟩;have P3_:Sh (∀ z,mulO rs b c=some z→FitL z∧z.length=2^rs.length):=⟨fun z h=>⟨QbL h,QaN hrad hb hc h⟩⟩
  have PF:Sh (∀ z,((mulO rs b g).bind fun be=>mulO rs be d)=some z→FitL z∧z.length=2^rs.length):=⟨fun z h=>by
   obtain ⟨be,h1,h2⟩:=Option.bind_eq_some_iff.1 h;exact ⟨QbL h2,QaN hrad (QaN hrad hb he h1) hd h2⟩⟩
  have HP:Sh (1≤2^rs.length∧2^rs.length≤16):=⟨hp⟩;have ER:Sh _:=⟨er⟩;clear ex ey hz hz' hg hl er hx hy hxn hyn hrad ha hb hc he hd fx fy fd hk hp;clear ih;generalize mulO rs a c=A at *
  generalize ((mulO rs b g).bind fun be=>mulO rs be d)=F at *
  generalize mulO rs a g=AE at *
  generalize mulO rs b c=BC at *
  generalize 2^rs.length=n at *
  go_enter Tryz.func38, Tryz.ntmps38;go_wp2_with fail;refine c1.mono ?_;rintro e w1 ⟨rfl,u1⟩;clear c1;go_wp2_with fail;refine (c2 w1 u1).mono ?_;rintro e w2 ⟨rfl,u2⟩;replace u2:=u1.trans (u2.mono u1.size);clear c2 u1;go_wp2_with fail;refine (ch1 w2 u2).mono ?_;rintro e w3 ⟨⟨va,vb,rfl,ea,eb⟩,u3⟩;replace u3:=u2.trans (u3.mono u2.size);clear ch1 u2;go_wp2_with fail;refine (ch2 w3 u3).mono ?_;rintro e w4 ⟨⟨vc,ve,rfl,ec,ee⟩,u4⟩;replace ea:=ea.keep u4;replace eb:=eb.keep u4;replace u4:=u3.trans (u4.mono u3.size);clear ch2 u3;have n4:=En.Qac n_f u4;have f0:=En.Qaa n4 0 (v:=lv) rfl;have f1:=En.Qaa n4 1 (v:=rv) rfl;go_wp2_with fail;have ed:=ER.o.keep u4;have u5:=QaS (Below.refl w4.heap.size w4);obtain ⟨br,orr,cr,rfl,_,_⟩:=ed.ex;obtain ⟨be,oe,cee,rfl,_,_⟩:=ee.ex;have T4:Sh (∀ W,Below w4.heap.size w4 W→Calls Tryz.prog 38 #[lv,va,vc] W (AnsO A W)):=⟨fun W h=>TT.o W va vc (u4.trans (h.mono u4.size)) (ea.keep h) (ec.keep h)⟩;have E4:Sh (El w4 va a∧El w4 vb b∧El w4 vc c∧El w4 _ g):=⟨ea,eb,ec,ee⟩;clear TT ER ea eb ec ee ed u5 f0
  go_cut [12] from 43 to 57 (fun s wx=>∃ ac bed p,A=some ac∧F=some bed∧Qaj addQ ac bed=some p∧El wx s p∧Below w4.heap.size w4 wx)
  case first =>
   go_region_held (fun X=>X.cell? ⟨fb,1,none⟩=some (.slice (some ⟨br,orr,none⟩) d.length cr)) (go_keep) (first | (go_at_call 38; (with_reducible refine (T4.o _ (by first | exact QaS (Below.refl _ _) | exact QaS ((Below.refl _ _).alloc Lr _))).mono ?_);intro e v1 h1;have k1:Below w4.heap.size w4 v1:=(by first | exact Qah h1.below | exact ((Below.refl w4.heap.size w4).alloc Lr _).trans ((Qah h1.below).mono (by simp)));rcases A with _ | ac;(obtain rfl:=h1.bad rfl;dsimp +zetaDelta only [Exit.then,Exit.inBlock];exact ⟨rfl,u4.trans (k1.mono u4.size),fun z hz=>(by cases hz),fun _=>rfl⟩);obtain ⟨va1,rfl,ea1⟩:=h1.good ac rfl;have hb1:=h1.below;clear h1;have f1:=Qae f1 k1) | (go_at_call 97; (with_reducible refine (FF.o _ vb _ _ (u4.trans ((k1.alloc k1.size _).mono u4.size)) (E4.o.2.1.keep (k1.alloc k1.size _)) (E4.o.2.2.2.keep (k1.alloc k1.size _)) (World.alloc_heap_new v1 _)).mono ?_);intro e v2 h2;have k2:Below w4.heap.size w4 v2:=(k1.alloc k1.size _).trans (h2.below.mono (k1.alloc k1.size _).size);rcases F with _ | bed;(obtain rfl:=h2.bad rfl;dsimp +zetaDelta only [Exit.then,Exit.inBlock];exact ⟨rfl,u4.trans (k2.mono u4.size),fun z hz=>(by cases hz),fun _=>rfl⟩);obtain ⟨vf,rfl,ef⟩:=h2.good bed rfl;have ea2:=ea1.keep (((Below.refl v1.heap.size v1).alloc Lr _).trans (h2.below.mono (by simp)));have tp:=Qjj (l:=ac) (m:=bed) (by rw [(PA.o ac rfl).2,(PF.o bed rfl).2]) (by rw [(PA.o ac rfl).2];have:=HP.o;omega) (PA.o ac rfl).1 (PF.o bed rfl).1 v2 ea2 ef;have TP:Sh _:=⟨tp⟩;clear h2 tp ea2 ef k1 ea1 hb1;have f1:v2.cell? ⟨fb,1,none⟩=_:=Qae (En.Qaa n4 1 rfl) k2) | (go_at_call 97; have hq:=En.Qac (show (w4.alloc (Jc #[.slice (some ⟨be,oe,none⟩) g.length cee,.slice (some ⟨br,orr,none⟩) d.length cr] 67)).drew.heap[w4.heap.size]? = some _ from World.alloc_heap_new w4 _) hb1;(with_reducible refine (FF.o v1 vb _ w4.heap.size (u4.trans (k1.mono u4.size)) (E4.o.2.1.keep k1) (E4.o.2.2.2.keep k1) hq).mono ?_);intro e v2 h2;have k2:Below w4.heap.size w4 v2:=k1.trans (h2.below.mono k1.size);rcases F with _ | bed;(obtain rfl:=h2.bad rfl;dsimp +zetaDelta only [Exit.then,Exit.inBlock];exact ⟨rfl,u4.trans (k2.mono u4.size),fun z hz=>(by cases hz),fun _=>rfl⟩);obtain ⟨vf,rfl,ef⟩:=h2.good bed rfl;have ea2:=ea1.keep h2.below;have tp:=Qjj (l:=ac) (m:=bed) (by rw [(PA.o ac rfl).2,(PF.o bed rfl).2]) (by rw [(PA.o ac rfl).2];have:=HP.o;omega) (PA.o ac rfl).1 (PF.o bed rfl).1 v2 ea2 ef;have TP:Sh _:=⟨tp⟩;clear h2 tp ea2 ef k1 ea1 hb1;have f1:v2.cell? ⟨fb,1,none⟩=_:=Qae (En.Qaa n4 1 rfl) k2) | (go_at_call 41; (with_reducible refine TP.o.mono ?_);intro e v3 h3;have k3:=k2.trans (h3.below.mono k2.size);rcases hP:Qaj addQ ac bed with _ | p;(obtain rfl:=h3.bad hP;dsimp +zetaDelta only [Exit.then,Exit.inBlock];exact ⟨rfl,u4.trans (k3.mono u4.size),fun z hz=>(by rw [Option.bind_some,Option.bind_some,hP] at hz;cases hz),fun _=>rfl⟩);obtain ⟨vp,rfl,ep⟩:=h3.good p hP;have f1:v3.cell? ⟨fb,1,none⟩=_:=Qae (En.Qaa n4 1 rfl) k3))
   all_goals (go_wp2_with fail;go_meet;exact ⟨ac,bed,p,rfl,rfl,hP,ep,k3⟩)
  case rest =>
   obtain ⟨ac,bed,p,rfl,rfl,hP,ep,k3⟩:=hcut;have k4:=u4.trans (k3.mono u4.size);have EW:Sh (El wc va a∧El wc vb b∧El wc vc c∧El wc _ g):=⟨E4.o.1.keep k3,E4.o.2.1.keep k3,E4.o.2.2.1.keep k3,E4.o.2.2.2.keep k3⟩;obtain ⟨bp,op,cp,rfl,_,_⟩:=ep.ex;have EP:Sh _:=⟨ep⟩;clear k3 ep n4 f1 n_f u4 E4 FF T4;have c2:=T2.o wc va _ k4 EW.o.1 EW.o.2.2.2;go_wp2_with fail;refine c2.mono ?_;intro e v5 h5;have k5:=k4.trans (h5.below.mono k4.size);rcases AE with _ | ae
   ·obtain rfl:=h5.bad rfl;exact ⟨rfl,k5,fun z hz=>(by rw [Option.bind_some,Option.bind_some,hP] at hz;cases hz),fun _=>rfl⟩
   obtain ⟨v5a,rfl,e5⟩:=h5.good ae rfl;have c3:=T3.o v5 vb vc k5 (EW.o.2.1.keep h5.below) (EW.o.2.2.1.keep h5.below);have EP5:Sh _:=⟨EP.o.keep h5.below⟩;clear h5 c2 k4 T2 EW EP;go_wp2_with fail;refine c3.mono ?_;intro e v6 h6;have k6:=k5.trans (h6.below.mono k5.size);rcases BC with _ | bc
   ·obtain rfl:=h6.bad rfl;exact ⟨rfl,k6,fun z hz=>(by rw [Option.bind_some,Option.bind_some,hP] at hz;cases hz),fun _=>rfl⟩
   obtain ⟨v6a,rfl,e6⟩:=h6.good bc rfl;have c4:=Qjj (l:=ae) (m:=bc) (by rw [(P2_.o ae rfl).2,(P3_.o bc rfl).2]) (by rw [(P2_.o ae rfl).2];have:=HP.o;omega) (P2_.o ae rfl).1 (P3_.o bc rfl).1 v6 (e5.keep h6.below) e6;have EP6:Sh _:=⟨EP5.o.keep h6.below⟩;clear h6 c3 k5 T3 EP5 e5 e6;go_wp2_with fail;refine c4.mono ?_;intro e v7 h7;have k7:=k6.trans (h7.below.mono k6.size);rcases hQ:Qaj addQ ae bc with _ | q
   ·obtain rfl:=h7.bad hQ;exact ⟨rfl,k7,fun z hz=>(by rw [Option.bind_some,Option.bind_some,hP,Option.bind_some,Option.bind_some,Option.bind_some,hQ] at hz;cases hz),fun _=>rfl⟩
   obtain ⟨v7a,rfl,e7⟩:=h7.good q hQ;have EP7:=EP6.o.keep h7.below;have lp:p.length=_:=(Qbv (by rw [(PA.o ac rfl).2,(PF.o bed rfl).2]) hP).trans (PA.o ac rfl).2;have lq:q.length=_:=(Qbv (by rw [(P2_.o ae rfl).2,(P3_.o bc rfl).2]) hQ).trans (P2_.o ae rfl).2;obtain ⟨bq,oq,cq,rfl,_,_⟩:=e7.ex;have ua:=(Below.refl v7.heap.size v7).alloc Lr (Jc #[.slice (some ⟨bp,op,none⟩) p.length cp,.slice (some ⟨bq,oq,none⟩) q.length cq] 67);have hp:=HP.o;have c5:=Qii (a:=p) (b:=q) (by omega) (by omega) v7.heap.size 2 _ (World.alloc_heap_new v7 _) (EP7.keep ua) (e7.keep ua);have KU:Sh _:=⟨k7.trans (ua.mono k7.size)⟩;clear h7 c4 k6 k7 EP6 EP7 e7 ua lp lq hp;go_wp2_with fail;refine c5.mono ?_;intro e v8 h8;obtain ⟨v8a,rfl,e8⟩:=h8.good _ rfl;go_wp2_with fail;go_ret;refine ⟨KU.o.trans (h8.below.mono KU.o.size),fun z hz => ?_,fun hn => ?_⟩
   ·rw [Option.bind_some,Option.bind_some,hP,Option.bind_some,Option.bind_some,Option.bind_some,hQ] at hz;cases hz;exact ⟨_,rfl,e8⟩
   ·rw [Option.bind_some,Option.bind_some,hP,Option.bind_some,Option.bind_some,Option.bind_some,hQ] at hn;cases hn
theorem Qdd:∀ {rs:List (List Rat)},rs.length≤4→QgN rs
 | [],_=>QoH
 | d :: rs,h=>QmD (by simpa using h) d (Qdd (by simp at h;omega))
theorem QfO {rs:List (List Rat)} {d a b:List Rat} (h:a.length=b.length):nrmO rs d (a++b)=(mulO rs a a).bind fun aa=>((mulO rs b b).bind fun bb=>mulO rs bb d).bind fun bbd=>Qaj subQ aa bbd:=by
 rw [nrmO,(QaB h).1,(QaB h).2];rcases mulO rs a a with _ | aa
 ·rfl
 ·rcases mulO rs b b with _ | bb <;> rfl
theorem Qrx {rs:List (List Rat)} (hk:rs.length≤3) {d x:List Rat} {f vx:Value} (hx:x.length=2^(rs.length+1)) (fx:FitL x) (w:World) (hg:Gl w) (hf:Fd w f (d :: rs)) (ex:El w vx x) :
  Calls Tryz.prog 102 #[f,vx] w (AnsO (nrmO rs d x) w):=by
 have hp:=QbG (show rs.length≤4 by omega);have ih:QgN rs:=Qdd (by omega);obtain ⟨a,b,rfl,ha,hb⟩:=QcB hx;have ch1:=Qeg (a:=a) (b:=b) (by omega) (by omega) w ex;rw [QfO (by omega)];obtain ⟨fb,lv,rv,rfl,n_f,hl,er,hd,fd⟩:=hf;have hrad:=hl.rad;have TT:Sh (∀ W va vc,Below w.heap.size w W→El W va a→El W vc a→Calls Tryz.prog 38 #[lv,va,vc] W (AnsO (mulO rs a a) W)):=⟨fun W va vc u h h'=>ih ha ha fx.app.1 fx.app.1 W (hg.keep u) (Fd.keep u hl) h h'⟩
 have FF:Sh (∀ W vb ve bo,Below w.heap.size w W→El W vb b→El W ve b→W.heap[bo]? = some (Jc #[ve,rv] 67 (0,0))→Calls Tryz.prog 97 #[.func (.func 38) #[lv] #[],vb,.slice (some ⟨bo,0,none⟩) 2 2] W (AnsO ((mulO rs b b).bind fun be=>mulO rs be d) W)) :=
  ⟨fun W vb ve bo u h h' hq=>Qrw ih hb hb hd fx.app.2 fx.app.2 fd bo 2 W (hg.keep u) (Fd.keep u hl) h h' (er.keep u) hq⟩
 have PA:Sh (∀ z,mulO rs a a=some z→FitL z∧z.length=2^rs.length):=⟨fun z h=>⟨QbL h,QaN hrad ha ha h⟩⟩
 have PF:Sh (∀ z,((mulO rs b b).bind fun be=>mulO rs be d)=some z→FitL z∧z.length=2^rs.length):=⟨fun z h=>by
  obtain ⟨be,h1,h2⟩:=Option.bind_eq_some_iff.1 h;exact ⟨QbL h2,QaN hrad (QaN hrad hb hb h1) hd h2⟩⟩
 have HP:Sh (1≤2^rs.length∧2^rs.length≤16):=⟨hp⟩;have ER:Sh _:=⟨er⟩;clear ex hg hl er hx hrad ha hb hd fx fd hk hp ih;generalize mulO rs a a=A at *
 generalize ((mulO rs b b).bind fun be=>mulO rs be d)=F at *
 generalize 2^rs.length=n at *
 go_enter Tryz.func102, Tryz.ntmps102;go_wp2_with fail;refine ch1.mono ?_;rintro e w4 ⟨⟨va,vb,rfl,ea,eb⟩,u4⟩;clear ch1;have n4:=En.Qac n_f u4;have f0:=En.Qaa n4 0 (v:=lv) rfl;have f1:=En.Qaa n4 1 (v:=rv) rfl;go_wp2_with fail;have ed:=ER.o.keep u4;obtain ⟨br,orr,cr,rfl,_,_⟩:=ed.ex;obtain ⟨b2,o2,c2,rfl,_,_⟩:=eb.ex;have T4:Sh (∀ W,Below w4.heap.size w4 W→Calls Tryz.prog 38 #[lv,va,va] W (AnsO A W)):=⟨fun W h=>TT.o W va va (u4.trans (h.mono u4.size)) (ea.keep h) (ea.keep h)⟩;have E4:Sh (El w4 va a∧El w4 _ b):=⟨ea,eb⟩;clear TT ER ea eb ed f0
 go_region_held (fun X=>X.cell? ⟨fb,1,none⟩=some (.slice (some ⟨br,orr,none⟩) d.length cr)) (go_keep) (first | (go_at_call 38; (with_reducible refine (T4.o _ (by first | exact QaS (Below.refl _ _) | exact QaS ((Below.refl _ _).alloc Lr _))).mono ?_);intro e v1 h1;have k1:Below w4.heap.size w4 v1:=(by first | exact Qah h1.below | exact ((Below.refl w4.heap.size w4).alloc Lr _).trans ((Qah h1.below).mono (by simp)));rcases A with _ | ac;(obtain rfl:=h1.bad rfl;dsimp +zetaDelta only [Exit.then,Exit.inBlock];exact ⟨rfl,u4.trans (k1.mono u4.size),fun z hz=>(by cases hz),fun _=>rfl⟩);obtain ⟨va1,rfl,ea1⟩:=h1.good ac rfl;have hb1:=h1.below;clear h1;have f1:=Qae f1 k1) | (go_at_call 97; (with_reducible refine (FF.o _ (.slice (some ⟨b2,o2,none⟩) b.length c2) _ _ (u4.trans ((k1.alloc k1.size _).mono u4.size)) (E4.o.2.keep (k1.alloc k1.size _)) (E4.o.2.keep (k1.alloc k1.size _)) (World.alloc_heap_new v1 _)).mono ?_);intro e v2 h2;have k2:Below w4.heap.size w4 v2:=(k1.alloc k1.size _).trans (h2.below.mono (k1.alloc k1.size _).size);rcases F with _ | bed;(obtain rfl:=h2.bad rfl;dsimp +zetaDelta only [Exit.then,Exit.inBlock];exact ⟨rfl,u4.trans (k2.mono u4.size),fun z hz=>(by cases hz),fun _=>rfl⟩);obtain ⟨vf,rfl,ef⟩:=h2.good bed rfl;have ea2:=ea1.keep (((Below.refl v1.heap.size v1).alloc Lr _).trans (h2.below.mono (by simp)));have tp:=Qih (l:=ac) (m:=bed) (by rw [(PA.o ac rfl).2,(PF.o bed rfl).2]) (by rw [(PA.o ac rfl).2];have:=HP.o;omega) (PA.o ac rfl).1 (PF.o bed rfl).1 v2 ea2 ef;have TP:Sh _:=⟨tp⟩;clear h2 tp ea2 ef k1 ea1 hb1;have f1:v2.cell? ⟨fb,1,none⟩=_:=Qae (En.Qaa n4 1 rfl) k2) | (go_at_call 97; have hq:=En.Qac (show (w4.alloc (Jc #[.slice (some ⟨b2,o2,none⟩) b.length c2,.slice (some ⟨br,orr,none⟩) d.length cr] 67)).drew.heap[w4.heap.size]? = some _ from World.alloc_heap_new w4 _) hb1;(with_reducible refine (FF.o v1 (.slice (some ⟨b2,o2,none⟩) b.length c2) _ w4.heap.size (u4.trans (k1.mono u4.size)) (E4.o.2.keep k1) (E4.o.2.keep k1) hq).mono ?_);intro e v2 h2;have k2:Below w4.heap.size w4 v2:=k1.trans (h2.below.mono k1.size);rcases F with _ | bed;(obtain rfl:=h2.bad rfl;dsimp +zetaDelta only [Exit.then,Exit.inBlock];exact ⟨rfl,u4.trans (k2.mono u4.size),fun z hz=>(by cases hz),fun _=>rfl⟩);obtain ⟨vf,rfl,ef⟩:=h2.good bed rfl;have ea2:=ea1.keep h2.below;have tp:=Qih (l:=ac) (m:=bed) (by rw [(PA.o ac rfl).2,(PF.o bed rfl).2]) (by rw [(PA.o ac rfl).2];have:=HP.o;omega) (PA.o ac rfl).1 (PF.o bed rfl).1 v2 ea2 ef;have TP:Sh _:=⟨tp⟩;clear h2 tp ea2 ef k1 ea1 hb1;have f1:v2.cell? ⟨fb,1,none⟩=_:=Qae (En.Qaa n4 1 rfl) k2) | (go_at_call 43; (with_reducible refine TP.o.mono ?_);intro e v3 h3;have k3:=k2.trans (h3.below.mono k2.size);rcases hP:Qaj subQ ac bed with _ | p;(obtain rfl:=h3.bad hP;dsimp +zetaDelta only [Exit.then,Exit.inBlock];exact ⟨rfl,u4.trans (k3.mono u4.size),fun z hz=>(by rw [Option.bind_some,Option.bind_some,hP] at hz;cases hz),fun _=>rfl⟩);obtain ⟨vp,rfl,ep⟩:=h3.good p hP;have f1:v3.cell? ⟨fb,1,none⟩=_:=Qae (En.Qaa n4 1 rfl) k3))
 all_goals (go_wp2_with fail;go_ret;exact ⟨u4.trans (k3.mono u4.size),fun z hz=>(by rw [Option.bind_some,Option.bind_some,hP] at hz;cases hz;exact ⟨_,rfl,ep⟩),fun hn=>(by rw [Option.bind_some,Option.bind_some,hP] at hn;cases hn)⟩)
structure AnsS (o:Option Int) (w:World) (e:Ending) (w':World):Prop where
 below:Below w.heap.size w w'
 good:∀ z,o=some z→e = .returned (.int .i64 z)
 bad:o=none→e = .panicked twP
def QoI (rs:List (List Rat)):Prop:=∀ {x:List Rat} {f vx:Value},x.length=2^rs.length→FitL x→∀ w,Gl w→Fd w f rs→El w vx x→Calls Tryz.prog 47 #[f,vx] w (AnsS (Qaw rs x) w)
theorem Qqw:QoI []:=by
 intro x f vx hx fx w hg hf ex;obtain rfl:f = .pointer none:=hf
 obtain ⟨q,rfl⟩:∃ q,x = [q]:=by
  match x,hx with
  | [q],_=>exact ⟨q,rfl⟩
 have cC:=fun W=>QgB (p:=q) (q:=0) (fx q (by simp)) fit0 W;obtain ⟨b,o,cap,rfl,h1,h2⟩:=ex.ex;obtain ⟨x0,x1⟩:=h2.at_ 0 (by simp);have z0:=hg.z0;have z1:=hg.z1;have e0:(⟨#[48]⟩:ByteArray)=txt (0:Rat).num:=txt0.symm;have e1:(⟨#[49]⟩:ByteArray)=txt ((0:Rat).den:Int):=txt1.symm;have hsign:Qaw [] [q]=some (cmpQ q 0):=rfl;rw [hsign]
 replace cC:∀ W,Calls Tryz.prog 27 #[.agg #[J (pq q).1,J (pq q).2],.agg #[J ⟨#[48]⟩,J ⟨#[49]⟩]] W fun e w'=>e = .returned (.int .i64 (cmpQ q 0))∧Below W.heap.size W w':=by
  rw [e0,e1];exact cC
 replace x0:w.cell? ⟨b,o,none⟩=some (J (pq q).1):=x0;replace x1:w.cell? ⟨b,o+1,none⟩=some (J (pq q).2):=x1;generalize cmpQ q 0=c at *
 generalize pq q=s at *
 clear e0 e1 hsign fx h2 hg ex;go_enter Tryz.func47, Tryz.ntmps47;go_wp2_with fail
 go_region_held (fun X=>X.cell? ⟨b,o,none⟩=some (J s.1)∧X.cell? ⟨b,o+1,none⟩=some (J s.2)∧X.cell? ⟨0, 0,none⟩=some (J ⟨#[48]⟩)∧X.cell? ⟨0, 1,none⟩=some (J ⟨#[49]⟩)) (go_keep) (first | (go_at_call 27; (with_reducible refine (cC _).mono ?_);rintro e v1 ⟨rfl,g⟩;have u:=Qah g;replace x0:=Qae x0 u;replace x1:=Qae x1 u;replace z0:=Qae z0 u;replace z1:=Qae z1 u))
 all_goals (go_wp2_with fail;go_ret;exact ⟨u,fun z hz=>(by cases hz;rfl),fun hn=>(by cases hn)⟩)
theorem Qcu:∀ {rs:List (List Rat)} {x:List Rat} {s:Int},Qaw rs x=some s→s = -1∨s=0∨s=1
 | [],x,s,h=>by
  injection h with h;rcases Qcs (x.headD 0) 0 with ⟨e,_⟩ | ⟨e,_⟩ | ⟨e,_⟩ <;> omega
 | d :: rs,x,s,h=>by
  rw [Qaw] at h;obtain ⟨p,h1,h⟩:=Option.bind_eq_some_iff.1 h;obtain ⟨q,h2,h⟩:=Option.bind_eq_some_iff.1 h;have e1:=Qcu h1;have e2:=Qcu h2;split at h
  ·injection h with h;omega
  ·split at h
   ·injection h with h;omega
   ·obtain ⟨n,h3,h⟩:=Option.bind_eq_some_iff.1 h;obtain ⟨u,h4,rfl⟩:=Option.map_eq_some_iff.1 h;have e4:=Qcu h4;rcases e1 with rfl | rfl | rfl <;> rcases e4 with rfl | rfl | rfl <;> decide
theorem QgO {rs:List (List Rat)} {d a b:List Rat} (h:a.length=b.length):Qaw (d :: rs) (a++b)=(Qaw rs a).bind fun s=>(Qaw rs b).bind fun t=>if t=0 then some s else if s=0∨s=t then some t else ((nrmO rs d (a++b)).bind fun n=>Qaw rs n).map fun u=>s*u:=by
 rw [Qaw,(QaB h).1,(QaB h).2];rcases nrmO rs d (a++b) with _ | n <;> rfl
theorem QoJ {rs : List (List Rat)} (hk : rs.length ≤ 3) (d : List Rat) (ih : QoI rs) : QoI (d :: rs) := by
  intro x f vx hx fx w hg hf ex;have hp := QbG (show rs.length ≤ 4 by omega);have cN := fun (W : World) (u : Below w.heap.size w W) => Qrx hk hx fx W (hg.keep u) (Fd.keep u hf) (ex.keep u);obtain ⟨a, b, rfl, ha, hb⟩ := QcB hx;have ch1 := Qeg (a := a) (b := b) (by omega) (by omega) w ex;rw [QgO (by omega)];have hf0 := hf;obtain ⟨fb, lv, rv, rfl, n_f, hl, er, hd, fd⟩ := hf;have hrad := hl.rad;have TA : Sh (∀ W va, Below w.heap.size w W → El W va a → Calls Tryz.prog 47 #[lv, va] W (AnsS (Qaw rs a) W)) := ⟨fun W va u h => ih ha fx.app.1 W (hg.keep u) (Fd.keep u hl) h⟩;have TB : Sh (∀ W va, Below w.heap.size w W → El W va b → Calls Tryz.prog 47 #[lv, va] W (AnsS (Qaw rs b) W)) := ⟨fun W va u h => ih hb fx.app.2 W (hg.keep u) (Fd.keep u hl) h⟩
  have TS : Sh (∀ z, nrmO rs d (a ++ b) = some z → ∀ W vz, Below w.heap.size w W → El W vz z → Calls Tryz.prog 47 #[lv, vz] W (AnsS ((nrmO rs d (a ++ b)).bind fun n => Qaw rs n) W)) := ⟨fun z hz W vz u h => by
    have l1 : z.length = 2 ^ rs.length := by
      rw [QfO (by omega)] at hz;obtain ⟨aa, h1, hz⟩ := Option.bind_eq_some_iff.1 hz;obtain ⟨bbd, h2, hz⟩ := Option.bind_eq_some_iff.1 hz;obtain ⟨bb, h3, h2⟩ := Option.bind_eq_some_iff.1 h2;have k1 := QaN hrad ha ha h1;have k2 := QaN hrad (QaN hrad hb hb h3) hd h2;rw [Qbv (by rw [k1, k2]) hz, k1]
    have f1 : FitL z := by
      rw [QfO (by omega)] at hz;obtain ⟨aa, h1, hz⟩ := Option.bind_eq_some_iff.1 hz;obtain ⟨bbd, h2, hz⟩ := Option.bind_eq_some_iff.1 hz;exact .pair (fun _ _ _ h => FitQ.subQ h) hz
    rw [hz];exact ih l1 f1 W (hg.keep u) (Fd.keep u hl) h⟩
  have NZ : Sh (nrmO rs d (a ++ b) = none → ((nrmO rs d (a ++ b)).bind fun n => Qaw rs n) = none) := ⟨fun h => by rw [h]; rfl⟩;have RA : Sh (∀ s, Qaw rs a = some s → s = -1 ∨ s = 0 ∨ s = 1) := ⟨fun s h => Qcu h⟩;have RB : Sh (∀ s, Qaw rs b = some s → s = -1 ∨ s = 0 ∨ s = 1) := ⟨fun s h => Qcu h⟩
  have RN : Sh (∀ s, ((nrmO rs d (a ++ b)).bind fun n => Qaw rs n) = some s → s = -1 ∨ s = 0 ∨ s = 1) := ⟨fun s h => by
    obtain ⟨n, _, h⟩ := Option.bind_eq_some_iff.1 h;exact Qcu h⟩
  have CN : Sh _ := ⟨cN⟩;clear cN ex hg hl er hx hrad ha hb hd fx fd hk hp ih hf0;generalize ((nrmO rs d (a ++ b)).bind fun n => Qaw rs n) = NS at *
  generalize nrmO rs d (a ++ b) = NN at *
  generalize Qaw rs a = SA at *
  generalize Qaw rs b = SB at *
  go_enter Tryz.func47, Tryz.ntmps47;go_wp2_with fail;refine ch1.mono ?_;rintro e w4 ⟨⟨va, vb, rfl, ea, eb⟩, u4⟩;clear ch1;have n4 := En.Qac n_f u4;have f0 := En.Qaa n4 0 (v := lv) rfl;have T4 : Sh (∀ W, Below w4.heap.size w4 W → Calls Tryz.prog 47 #[lv, va] W (AnsS SA W)) := ⟨fun W h => TA.o W va (u4.trans (h.mono u4.size)) (ea.keep h)⟩;have T5 : Sh (∀ W, Below w4.heap.size w4 W → Calls Tryz.prog 47 #[lv, vb] W (AnsS SB W)) := ⟨fun W h => TB.o W vb (u4.trans (h.mono u4.size)) (eb.keep h)⟩;clear TA TB ea eb;go_wp2_with fail
  go_region_held (fun X => X.cell? ⟨fb, 0, none⟩ = some lv) (go_keep) (first | (go_at_call 47; (with_reducible refine (T4.o _ (QaS (Below.refl _ _))).mono ?_); intro e v1 h1; have k1 : Below w4.heap.size w4 v1 := Qah h1.below; rcases SA with _ | p; (obtain rfl := h1.bad rfl; dsimp +zetaDelta only [Exit.then, Exit.inBlock]; exact ⟨rfl, u4.trans (k1.mono u4.size), fun z hz => (by cases hz), fun _ => rfl⟩); obtain rfl := h1.good p rfl; clear h1; have f0 := Qae f0 k1) | (go_at_call 47; (with_reducible refine (T5.o v1 k1).mono ?_); intro e v2 h2; have k2 := k1.trans (h2.below.mono k1.size); rcases SB with _ | q; (obtain rfl := h2.bad rfl; dsimp +zetaDelta only [Exit.then, Exit.inBlock]; exact ⟨rfl, u4.trans (k2.mono u4.size), fun z hz => (by cases hz), fun _ => rfl⟩); obtain rfl := h2.good q rfl; clear h2; have f0 : v2.cell? ⟨fb, 0, none⟩ = _ := Qae (En.Qaa n4 0 rfl) k2))
  have hp3 := RA.o p rfl;have hq3 := RB.o q rfl;have k3 := u4.trans (k2.mono u4.size);have f0 := Qae (En.Qaa n_f 0 (v := lv) rfl) k3;have TN := CN.o v2.drew (QaS k3);have hw : Sh (∀ u : Int, (u = -1 ∨ u = 0 ∨ u = 1) → IntKind.i64.wrap u = u ∧ IntKind.i64.wrap (-u) = -u) := ⟨fun u h => by rcases h with rfl | rfl | rfl <;> decide⟩;clear T4 T5 CN RA RB k1;rcases hq3 with rfl | rfl | rfl <;> rcases hp3 with rfl | rfl | rfl
  all_goals go_wp2_with fail
  all_goals first
    | (go_ret; exact ⟨k3, fun z hz => (by simp at hz; subst hz; rfl), fun hn => (by simp at hn)⟩)
    | (go_region_held (fun X => X.cell? ⟨fb, 0, none⟩ = some lv) (go_keep) (first | (go_at_call 102; (with_reducible refine TN.mono ?_); intro e v3 h3; clear TN; have k4 := k3.trans ((Qah h3.below).mono k3.size); rcases NN with _ | z; (obtain rfl := h3.bad rfl; dsimp +zetaDelta only [Exit.then, Exit.inBlock]; exact ⟨rfl, k4, fun z hz => (by rw [NZ.o rfl] at hz; simp at hz), fun _ => rfl⟩); obtain ⟨vn, rfl, en⟩ := h3.good z rfl; have TZ := TS.o z rfl v3 vn k4 en; clear h3 en; have f0 : v3.cell? ⟨fb, 0, none⟩ = _ := Qae (En.Qaa n_f 0 (v := lv) rfl) k4) | (go_at_call 47; (with_reducible refine TZ.mono ?_); intro e v5 h5; have k5 := k4.trans (h5.below.mono k4.size); rcases NS with _ | u; (obtain rfl := h5.bad rfl; dsimp +zetaDelta only [Exit.then, Exit.inBlock]; exact ⟨rfl, k5, fun z hz => (by simp at hz), fun _ => rfl⟩); obtain rfl := h5.good u rfl; obtain ⟨w1, w2⟩ := hw.o u (RN.o u rfl); clear h5; have f0 : v5.cell? ⟨fb, 0, none⟩ = _ := Qae (En.Qaa n_f 0 (v := lv) rfl) k5))
       go_wp2_with fail;go_ret;exact ⟨k5, fun z hz => (by simp at hz; subst hz; simp), fun hn => (by simp at hn)⟩)
theorem QeU:∀ {rs:List (List Rat)},rs.length≤4→QoI rs
 | [],_=>Qqw
 | d :: rs,h=>QoJ (by simpa using h) d (QeU (by simp at h;omega))
structure AnsV (ok:Prop) (v:Value) (w:World) (e:Ending) (w':World):Prop where
 below:Below w.heap.size w w'
 good:ok→e = .returned v
 bad:¬ ok→e = .panicked twP
theorem QoK {rs:List (List Rat)} {f:Value} (w:World) (hk:rs.length≤4) (hf:Fd w f rs):Calls Tryz.prog 99 #[f] w fun e w'=>e = .returned (.int .i64 ((2^rs.length:Nat):Int))∧w'=w:=by
 match rs,hf,hk with
 | [],hf,_ =>
  obtain rfl:f = .pointer none:=hf;exact Qqp w
 | d :: rs,hf,hk =>
  obtain ⟨fb,lv,rv,rfl,n_f,hl,er,hd,fd⟩:=hf;obtain ⟨br,orr,cr,rfl,_,_⟩:=er.ex;have hp:=QbG (show rs.length≤4 by simp at hk;omega);have:=QoC fb lv (some ⟨br,orr,none⟩) d.length cr (by omega) w n_f;rw [List.length_cons,Nat.pow_succ,←hd,Nat.mul_comm];exact this
theorem Qkf {rs:List (List Rat)} (hk:rs.length≤4) {f:Value} (n b o cap:Nat) (hn:n≤1000) (G:Nat→P2) (ok:Nat→Bool) (hV:∀ j,j<n→Ret 65 #[frc (G j).1 (G j).2] (.bool (ok j))) (w:World) (hf:Fd w f rs) (hx:Cl w b o n G) :
  Calls Tryz.prog 39 #[f,.slice (some ⟨b,o,none⟩) n cap] w (AnsV (n=2^rs.length∧∀ j,j<n→ok j=true) (.slice (some ⟨b,o,none⟩) n cap) w):=by
 have cS:=QoK w hk hf;have hp:=QbG hk;generalize 2^rs.length=m at *
 unfold frc at hV;have CV:Sh _:=⟨hV⟩;have HX:Sh _:=⟨hx⟩;clear hV hx hf;by_cases hnm:n=m
 ·subst hnm;have hr:=Qbb w;have hb:((n:Int) != (n:Int))=false:=by simp
  go_enter Tryz.func39, Tryz.ntmps39;go_wp2_with fail;refine cS.mono ?_;rintro e w1 ⟨rfl,hw⟩;rw [hw];clear hw cS;go_wp2_with fail;refine hr.mono ?_;rintro e w1 ⟨rfl,hw⟩;rw [hw];clear hw hr;go_wp2_with fail
  go_loopw [15] (fun jv wr=>∃ j:Nat,j≤n∧jv = .int .i64 (j:Int)∧Sh (Below w.heap.size w wr)∧Sh (∀ i,i<j→ok i=true)) (fun jv _=>n-(intOf jv).toNat)
  case atStart=>exact ⟨0,Nat.zero_le _,rfl,⟨Below.refl _ _⟩,⟨fun i h=>by omega⟩⟩
  case round =>
   obtain ⟨j,hj,rfl,HU,HC⟩:=hrel;have u:=HU.o;clear HU;by_cases hjn:j=n
   ·subst hjn;go_wp2_with fail;go_ret;exact ⟨u,fun _=>rfl,fun h=>(h (by first | exact ⟨rfl,HC.o⟩ | exact ⟨trivial,HC.o⟩)).elim⟩
   ·have hjl:j<n:=by omega
    have hj2:(j:Int)<(n:Int):=by omega
    have hj3:(0:Int)≤(j:Int):=by omega
    obtain ⟨x0,x1⟩:=(HX.o.keep u).at_ j hjl;have cO:=CV.o j hjl;have hw1:IntKind.i64.wrap ((j:Int)+1)=(j:Int)+1:=by simp [IntKind.wrap,IntKind.signed,IntKind.bits];omega
    obtain ⟨t,ht⟩:∃ t,t=ok j:=⟨_,rfl⟩;rw [←ht] at cO;have HT:Sh _:=⟨ht⟩;clear ht;obtain ⟨g0,hg0⟩:∃ v,v=G j:=⟨_,rfl⟩;rw [←hg0] at x0 x1 cO;clear hg0;have cO:∀ W:World,_:=cO;have m_o:(wr.alloc (Jc #[J g0.1,J g0.2] 42)).heap[wr.heap.size]? = _:=World.alloc_heap_new wr _;have o0:=En.Qaa m_o 0 (v:=J g0.1) rfl;have o1:=En.Qaa m_o 1 (v:=J g0.2) rfl;go_wp2_with fail;refine (cO _).mono ?_;rintro e v1 ⟨rfl,g⟩;have u2:=u.trans (((Below.refl wr.heap.size wr).alloc Lr (Jc #[J g0.1,J g0.2] 42)).trans (g.mono (by simp)) |>.mono u.size);clear g x0 x1 cO m_o o0 o1;cases t with
    | true =>
     have hr:=Qbb v1;go_wp2_with fail;refine hr.mono ?_;rintro e v2 ⟨rfl,rfl⟩;go_wp2_with fail
     go_roundw
     case rel=>exact ⟨j+1,by omega,by first | rfl | go_num | simp,⟨u2⟩,⟨fun i hi=>by
      rcases Nat.lt_or_ge i j with h | h
      ·exact HC.o i h
      ·obtain rfl:i=j:=by omega
       exact HT.o.symm⟩⟩
     case measure=>simp [intOf];omega
    | false =>
     have hr:=QaV v1;go_wp2_with fail;refine hr.mono ?_;rintro e v2 ⟨rfl,rfl⟩;exact ⟨rfl,u2,fun h=>absurd (HT.o.trans (h.2 j hjl)) (by decide),fun _=>rfl⟩
 ·have hr:=QaV w;have hb:((n:Int) != (m:Int))=true:=by simp;omega
  go_enter Tryz.func39, Tryz.ntmps39;go_wp2_with fail;refine cS.mono ?_;rintro e w1 ⟨rfl,hw⟩;rw [hw];clear hw cS;go_wp2_with fail;refine hr.mono ?_;rintro e w1 ⟨rfl,rfl⟩;exact ⟨rfl,Below.refl _ _,fun h=>absurd h.1 hnm,fun _=>rfl⟩
theorem QmE {q:Rat} (h:FitQ q):Ret 65 #[frc (pq q).1 (pq q).2] (.bool true):=Qia h
theorem Qbw {rs:List (List Rat)} (hk:rs.length≤4) {x:List Rat} {f vx:Value} (hn:x.length≤1000) (fx:FitL x) (w:World) (hf:Fd w f rs) (ex:El w vx x) :
  Calls Tryz.prog 39 #[f,vx] w (AnsV (x.length=2^rs.length) vx w):=by
 obtain ⟨b,o,cap,rfl,h1,h2⟩:=ex.ex;exact (Qkf hk x.length b o cap hn (pqs x) (fun _=>true) (fun j hj=>QmE (fx.getD j hj)) w hf h2).mono fun e w' h=>⟨h.below,fun k=>h.good ⟨k,fun _ _=>rfl⟩,fun k=>h.bad (fun q=>k q.1)⟩
theorem QoL {x:List Rat} {vx:Value} (hn:1≤x.length∧x.length≤1000) (w:World) (ex:El w vx x) :
  Calls Tryz.prog 104 #[vx] w (AnsO (some x) w):=by
 obtain ⟨b,o,cap,rfl,h1,h2⟩:=ex.ex;refine (Qjg b o x.length cap hn (pqs x) w h2).mono fun e w' h => ?_;obtain ⟨b',cap',rfl,_,k1,_,k3⟩:=h.good trivial;exact ⟨h.below,fun z hz=>by cases hz;exact ⟨_,rfl,_,0,cap',rfl,k1,k3⟩,fun hn=>by cases hn⟩
def embO:List (List Rat)→List Rat→Option (List Rat)
 | [],x=>if x.length=1 then some x else none
 | d :: rs,x=>if x.length=2^(rs.length+1) then some x else (embO rs x).map fun z=>z++Tw.zeros d.length
theorem Qlh:∀ {rs:List (List Rat)} {x z:List Rat},Qdz rs→embO rs x=some z→z.length=2^rs.length
 | [],x,z,_,h=>by
  rw [embO] at h;split at h
  ·injection h with h;rw [←h];assumption
  ·cases h
 | d :: rs,x,z,hd,h=>by
  rw [embO] at h;split at h
  ·injection h with h;rw [←h];assumption
  ·obtain ⟨t,ht,rfl⟩:=Option.map_eq_some_iff.1 h;rw [List.length_append,QaR,Qlh hd.2 ht,hd.1,List.length_cons,Nat.pow_succ];omega
def EmbC (rs:List (List Rat)):Prop:=∀ {x:List Rat} {f vx:Value},x.length≤1000→FitL x→∀ w,Gl w→Fd w f rs→El w vx x→Calls Tryz.prog 52 #[f,vx] w (AnsO (embO rs x) w)
theorem Qtg:EmbC []:=by
 intro x f vx hn fx w hg hf ex;have cC:=Qbw (rs := []) (by decide) hn fx w hf ex;have cK:=fun (W:World) (u:Below w.heap.size w W) (h:1≤x.length∧x.length≤1000)=>QoL h W (ex.keep u);obtain rfl:f = .pointer none:=hf;have hs:embO [] x=if x.length=1 then some x else none:=rfl
 rw [hs];have cK:Sh _:=⟨cK⟩;clear hs;by_cases h1:x.length=1
 ·rw [if_pos h1];have HL:Sh _:=⟨h1⟩;clear h1 ex hg fx;go_enter Tryz.func52, Tryz.ntmps52;go_wp2_with fail;refine cC.mono ?_;intro e w1 h;obtain rfl:=h.good HL.o;have c2:=cK.o w1 h.below (by have:=HL.o;omega);have u:=h.below;clear h cC;go_wp2_with fail;refine c2.mono ?_;intro e w2 h2;obtain ⟨v,rfl,hv⟩:=h2.good _ rfl;go_wp2_with fail;go_ret;exact ⟨u.trans (h2.below.mono u.size),fun z hz=>(by cases hz;exact ⟨_,rfl,hv⟩),fun hn=>(by cases hn)⟩
 ·rw [if_neg h1];have HL:Sh _:=⟨h1⟩;clear h1 ex hg fx;go_enter Tryz.func52, Tryz.ntmps52;go_wp2_with fail;refine cC.mono ?_;intro e w1 h;obtain rfl:=h.bad HL.o;exact ⟨rfl,h.below,fun z hz=>(by cases hz),fun _=>rfl⟩
theorem Qqx {rs:List (List Rat)} (hk:rs.length≤3) (d:List Rat) (ih:EmbC rs):EmbC (d :: rs):=by
 intro x f vx hn fx w hg hf ex;have hp:=QbG (show rs.length≤4 by omega);have hp2:=QbG (show (d :: rs).length≤4 by simp;omega);have cS:=QoK w (by simp;omega) hf;have cC:=fun (W:World) (u:Below w.heap.size w W)=>Qbw (by simp;omega) hn fx W (Fd.keep u hf) (ex.keep u);have cK:=fun (W:World) (u:Below w.heap.size w W) (h:1≤x.length∧x.length≤1000)=>QoL h W (ex.keep u);have hrad:=hf.rad;obtain ⟨fb,lv,rv,rfl,n_f,hl,er,hd,fd⟩:=hf;have cI:=fun (W:World) (u:Below w.heap.size w W)=>ih hn fx W (hg.keep u) (Fd.keep u hl) (ex.keep u);have cZ:=fun (W:World) (u:Below w.heap.size w W)=>Qke d.length (by omega) W (hg.keep u);have hs:embO (d :: rs) x=if x.length=2^(d :: rs).length then some x else (embO rs x).map fun z=>z++Tw.zeros d.length:=rfl
 rw [hs];have LE:Sh (∀ z,embO rs x=some z→z.length=2^rs.length):=⟨fun z h=>Qlh hrad.2 h⟩;have HP:Sh (1≤2^rs.length∧2^rs.length≤16∧d.length=2^rs.length∧1≤2^(d :: rs).length):=⟨⟨hp.1,hp.2,hd,hp2.1⟩⟩;have CC:Sh _:=⟨cC⟩;have CK:Sh _:=⟨cK⟩;have CI:Sh _:=⟨cI⟩;have CZ:Sh _:=⟨cZ⟩;obtain ⟨br,orr,cr,rfl,_,_⟩:=er.ex;obtain ⟨bx,ox,cx,rfl,_,_⟩:=ex.ex;have HN:Sh _:=⟨hn⟩;clear hs cC cK cI cZ hrad hg hl er ex fx fd hk hp hp2 ih hn hd;generalize embO rs x=E at *
 generalize 2^rs.length=n at *
 generalize 2^(d :: rs).length=m at *
 by_cases hxm:x.length=m
 ·rw [if_pos hxm];have HL:Sh _:=⟨hxm⟩;have hb:((x.length:Int) == (m:Int))=true:=by simp [hxm]
  clear hxm;go_enter Tryz.func52, Tryz.ntmps52;go_wp2_with fail;refine cS.mono ?_;rintro e w1 ⟨rfl,hw⟩;rw [hw];clear hw cS;have cC:=CC.o w (Below.refl _ _);go_wp2_with fail;refine cC.mono ?_;intro e w1 h;obtain rfl:=h.good HL.o;have c2:=CK.o w1 h.below (by have:=HL.o;have:=HP.o;have:=HN.o;omega);have u:=h.below;clear h cC;go_wp2_with fail;refine c2.mono ?_;intro e w2 h2;obtain ⟨v,rfl,hv⟩:=h2.good _ rfl;go_wp2_with fail;go_ret;exact ⟨u.trans (h2.below.mono u.size),fun z hz=>(by cases hz;exact ⟨_,rfl,hv⟩),fun hn=>(by cases hn)⟩
 ·rw [if_neg hxm];have hb:((x.length:Int) == (m:Int))=false:=by rw [beq_eq_false_iff_ne];omega
  clear hxm;go_enter Tryz.func52, Tryz.ntmps52;go_wp2_with fail;refine cS.mono ?_;rintro e w1 ⟨rfl,hw⟩;rw [hw];clear hw cS;have f0:=En.Qaa n_f 0 (v:=lv) rfl;have f1:=En.Qaa n_f 1 (v:=.slice (some ⟨br,orr,none⟩) d.length cr) rfl;go_wp2_with fail
  go_region_held (fun X=>X.cell? ⟨fb,0,none⟩=some lv∧X.cell? ⟨fb,1,none⟩=some (.slice (some ⟨br,orr,none⟩) d.length cr)) (go_keep) (first | (go_at_call 52; (with_reducible refine (CI.o w.drew (QaS (Below.refl _ _))).mono ?_);intro e v1 h1;have u1:Below w.heap.size w v1:=Qah h1.below;rcases E with _ | z;(obtain rfl:=h1.bad rfl;dsimp +zetaDelta only [Exit.then,Exit.inBlock];exact ⟨rfl,u1,fun z hz=>(by cases hz),fun _=>rfl⟩);obtain ⟨vz,rfl,ez⟩:=h1.good z rfl;obtain ⟨bz,oz,cz,rfl,_,_⟩:=ez.ex;clear h1;replace f0:=Qae f0 u1;replace f1:=Qae f1 u1) | (go_at_call 93; (with_reducible refine (CZ.o v1 u1).mono ?_);intro e v2 h2;have u2:=u1.trans (h2.below.mono u1.size);obtain ⟨vq,rfl,eq⟩:=h2.good _ rfl;obtain ⟨bq,oq,cq,rfl,_,_⟩:=eq.ex;have UA:=(Below.refl v2.heap.size v2).alloc Lr (Jc #[.slice (some ⟨bz,oz,none⟩) z.length cz,.slice (some ⟨bq,oq,none⟩) (Tw.zeros d.length).length cq] 67);have CT:=Qii (a:=z) (b:=Tw.zeros d.length) (by have:=LE.o z rfl;have:=HP.o;omega) (by rw [QaR];have:=HP.o;omega) v2.heap.size 2 _ (World.alloc_heap_new v2 _) ((ez.keep h2.below).keep UA) (eq.keep UA);have U3:Sh _:=⟨u2.trans (UA.mono u2.size)⟩;have f0:v2.cell? ⟨fb,0,none⟩=_:=Qae (En.Qaa n_f 0 rfl) u2;have f1:v2.cell? ⟨fb,1,none⟩=_:=Qae (En.Qaa n_f 1 rfl) u2;clear h2 ez eq UA) | (go_at_call 98; (with_reducible refine CT.mono ?_);intro e v3 h3;have u3:=U3.o.trans (h3.below.mono U3.o.size);obtain ⟨vt,rfl,et⟩:=h3.good _ rfl;clear h3;have f0:v3.cell? ⟨fb,0,none⟩=_:=Qae (En.Qaa n_f 0 rfl) u3;have f1:v3.cell? ⟨fb,1,none⟩=_:=Qae (En.Qaa n_f 1 rfl) u3))
  all_goals (go_wp2_with fail;go_ret;exact ⟨u3,fun z hz=>(by cases hz;exact ⟨_,rfl,et⟩),fun hn=>(by cases hn)⟩)
theorem Qij:∀ {rs:List (List Rat)},rs.length≤4→EmbC rs
 | [],_=>Qtg
 | d :: rs,h=>Qqx (by simpa using h) d (Qij (by simp at h;omega))
end Tw
end
end Go.Proofs.YtadcmepaniiciaaGreatDoor
