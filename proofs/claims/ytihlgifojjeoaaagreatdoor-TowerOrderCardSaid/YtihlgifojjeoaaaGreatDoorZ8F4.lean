import Derived.Test.YtihlgifojjeoaaaGreatDoorZ8F3
import Derived.Test.YtihlgifojjeoaaaGreatDoorZ6C4
import Derived.Test.YtihlgifojjeoaaaGreatDoorZ6C6
import Derived.Test.YtihlgifojjeoaaaGreatDoorZ8F2
set_option maxRecDepth 1000000
set_option maxHeartbeats 40000000
open Go.Value renaming string→J
open Go.Obj renaming cells→Jc
namespace Go.Proofs.YtihlgifojjeoaaaGreatDoor
section
namespace Tw
open Go.Proofs.YtihlgifojjeoaaaGreatDoor.Rt
def Qaj (f:Rat→Rat→Option Rat):List Rat→List Rat→Option (List Rat)
 | x :: xs,y :: ys=>(f x y).bind fun z=>(Qaj f xs ys).map (z :: ·)
 | _,_=>some []
def hl (x:List Rat):List Rat:=x.take (x.length / 2)
def hr (x:List Rat):List Rat:=x.drop (x.length / 2)
def QbQ (x:List Rat):Bool:=x.all fun r=>decide (r=0)
def zeros (n:Nat):List Rat:=List.replicate n 0
noncomputable def mulO:List (List Rat)→List Rat→List Rat→Option (List Rat)
 | [],x,y=>if (QbQ x || QbQ y)=true then some (zeros x.length) else Qaj mulQ x y
 | d :: rs,x,y=>if (QbQ x || QbQ y)=true then some (zeros x.length) else
  (mulO rs (hl x) (hl y)).bind fun ac=>(mulO rs (hr x) (hr y)).bind fun be=>(mulO rs be d).bind fun bed =>
  (Qaj addQ ac bed).bind fun p=>(mulO rs (hl x) (hr y)).bind fun ae=>(mulO rs (hr x) (hl y)).bind fun bc =>
  (Qaj addQ ae bc).map fun q=>p++q
noncomputable def nrmO (rs:List (List Rat)) (d x:List Rat):Option (List Rat) :=
 (mulO rs (hl x) (hl x)).bind fun aa=>(mulO rs (hr x) (hr x)).bind fun bb=>(mulO rs bb d).bind fun bbd=>Qaj subQ aa bbd
noncomputable def Qaw:List (List Rat)→List Rat→Option Int
 | [],x=>some (cmpQ (x.headD 0) 0)
 | d :: rs,x=>(Qaw rs (hl x)).bind fun s=>(Qaw rs (hr x)).bind fun t =>
  if t=0 then some s else if s=0∨s=t then some t else (nrmO rs d x).bind fun n=>(Qaw rs n).map fun u=>s*u
noncomputable def invO:List (List Rat)→List Rat→Option (List Rat)
 | [],x=>Qaj divQ [1] x
 | d :: rs,x=>(nrmO rs d x).bind fun n=>(Qaw rs n).bind fun s=>if s=0 then (Qaj addQ (hl x) (hl x)).bind fun aa=>(invO rs aa).map fun u=>u++zeros d.length
  else (invO rs n).bind fun m=>(mulO rs (hl x) m).bind fun p=>(Qaj subQ (zeros (hr x).length) (hr x)).bind fun nb=>(mulO rs nb m).map fun q=>p++q
inductive IsT:List (List Rat)→(S:SR)→(List Rat→S.T→Prop)→Prop
 | nil:IsT [] ratS (fun l x=>l = [x])
 | cons {rs:List (List Rat)} {S:SR} {R:List Rat→S.T→Prop} {d:List Rat} (h:IsT rs S R) (δ:S.T) (hR:R d δ) (hd:S.sgn δ=1) :
   IsT (d :: rs) (ext S δ hd) (fun l x=>∃ a b,l=a++b∧R a x.1∧R b x.2)
theorem QaB {a b:List Rat} (h:a.length=b.length):hl (a++b)=a∧hr (a++b)=b:=by
 have e:(a++b).length / 2=a.length:=by rw [List.length_append];omega
 rw [hl,hr,e];exact ⟨List.take_left,List.drop_left⟩
theorem Qbv {f:Rat→Rat→Option Rat}:∀ {x y z:List Rat},x.length=y.length→Qaj f x y=some z→z.length=x.length
 | [],_,z,_,e=>by cases e;rfl
 | x :: xs, [],_,h,_=>by cases h
 | x :: xs,y :: ys,z,h,e=>by
  rw [Qaj] at e;obtain ⟨r,_,e1⟩:=Option.bind_eq_some_iff.1 e;obtain ⟨t,e2,rfl⟩:=Option.map_eq_some_iff.1 e1;rw [List.length_cons,List.length_cons,Qbv (by simpa using h) e2]
theorem QgL {f:Rat→Rat→Option Rat}:∀ {a b c e z:List Rat},a.length=c.length→Qaj f (a++b) (c++e)=some z→∃ p q,z=p++q∧Qaj f a c=some p∧Qaj f b e=some q
 | [],b, [],e,z,_,h=>⟨[],z,rfl,rfl,h⟩
 | x :: a,b, [],e,z,h,_=>by cases h
 | [],b,y :: c,e,z,h,_=>by cases h
 | x :: a,b,y :: c,e,z,h,k=>by
  rw [List.cons_append,List.cons_append,Qaj] at k;obtain ⟨r,hr,k⟩:=Option.bind_eq_some_iff.1 k;obtain ⟨t,ht,rfl⟩:=Option.map_eq_some_iff.1 k;obtain ⟨p,q,rfl,hp,hq⟩:=QgL (by simpa using h) ht;exact ⟨r :: p,q,rfl,by rw [Qaj,hr,hp];rfl,hq⟩
theorem IsT.len {rs:List (List Rat)} {S:SR} {R:List Rat→S.T→Prop} (h:IsT rs S R):∀ {l x},R l x→l.length=2^rs.length:=by
 induction h with
 | nil=>rintro l x rfl;rfl
 | cons h δ hR hd ih =>
  rintro l x ⟨a,b,rfl,ha,hb⟩;rw [List.length_append,ih ha,ih hb,List.length_cons,Nat.pow_succ];omega
theorem IsT.ex {rs:List (List Rat)} {S:SR} {R:List Rat→S.T→Prop} (h:IsT rs S R):∀ {l:List Rat},l.length=2^rs.length→∃ x,R l x:=by
 induction h with
 | nil =>
  intro l hl
  match l,hl with
  | [x],_=>exact ⟨x,rfl⟩
 | @cons rs S R d h δ hR hd ih =>
  intro l hl;rw [List.length_cons,Nat.pow_succ] at hl;obtain ⟨x,hx⟩:=ih (l:=l.take (2^rs.length)) (by rw [List.length_take];exact Nat.min_eq_left (by omega));obtain ⟨y,hy⟩:=ih (l:=l.drop (2^rs.length)) (by rw [List.length_drop,hl];omega);exact ⟨(x,y),_,_,(List.take_append_drop _ l).symm,hx,hy⟩
theorem IsT.uni {rs:List (List Rat)} {S:SR} {R:List Rat→S.T→Prop} (h:IsT rs S R):∀ {l x y},R l x→R l y→x=y:=by
 induction h with
 | nil=>rintro l x y rfl h;cases h;rfl
 | cons h δ hR hd ih =>
  rintro l x y ⟨a,b,rfl,ha,hb⟩ ⟨c,e,he,hc,hf⟩;have hle:a.length=c.length:=by rw [h.len ha,h.len hc]
  obtain ⟨rfl,rfl⟩:=List.append_inj he hle;exact Prod.ext (ih ha hc) (ih hb hf)
theorem IsT.inj {rs:List (List Rat)} {S:SR} {R:List Rat→S.T→Prop} (h:IsT rs S R):∀ {l m x},R l x→R m x→l=m:=by
 induction h with
 | nil=>rintro l m x rfl h;exact h.symm
 | cons h δ hR hd ih =>
  rintro l m x ⟨a,b,rfl,ha,hb⟩ ⟨c,e,rfl,hc,hf⟩;rw [ih ha hc,ih hb hf]
theorem IsT.add {rs:List (List Rat)} {S:SR} {R:List Rat→S.T→Prop} (h:IsT rs S R):∀ {l m n x y},R l x→R m y→Qaj addQ l m=some n→R n (S.add x y):=by
 induction h with
 | nil =>
  rintro l m n x y rfl rfl e;obtain ⟨r,hr,e⟩:=Option.bind_eq_some_iff.1 e;cases e;exact congrArg (fun t => [t]) (QjW hr)
 | cons h δ hR hd ih =>
  rintro l m n x y ⟨a,b,rfl,ha,hb⟩ ⟨c,e,rfl,hc,he⟩ k;obtain ⟨p,q,rfl,hp,hq⟩:=QgL (by rw [h.len ha,h.len hc]) k;exact ⟨p,q,rfl,ih ha hc hp,ih hb he hq⟩
theorem IsT.sub {rs:List (List Rat)} {S:SR} {R:List Rat→S.T→Prop} (h:IsT rs S R):∀ {l m n x y},R l x→R m y→Qaj subQ l m=some n→R n (S.add x (S.neg y)):=by
 induction h with
 | nil =>
  rintro l m n x y rfl rfl e;obtain ⟨r,hr,e⟩:=Option.bind_eq_some_iff.1 e;cases e;exact congrArg (fun t => [t]) ((QsG hr).trans (Rat.sub_eq_add_neg _ _))
 | cons h δ hR hd ih =>
  rintro l m n x y ⟨a,b,rfl,ha,hb⟩ ⟨c,e,rfl,hc,he⟩ k;obtain ⟨p,q,rfl,hp,hq⟩:=QgL (by rw [h.len ha,h.len hc]) k;exact ⟨p,q,rfl,ih ha hc hp,ih hb he hq⟩
theorem IsT.zero {rs:List (List Rat)} {S:SR} {R:List Rat→S.T→Prop} (h:IsT rs S R):R (zeros (2^rs.length)) S.zer:=by
 induction h with
 | nil=>rfl
 | cons h δ hR hd ih=>exact ⟨_,_,by rw [zeros,List.length_cons,Nat.pow_succ,Nat.mul_two,←List.replicate_append_replicate];rfl,ih,ih⟩
theorem Qee:∀ {l:List Rat},QbQ l=true→l=zeros l.length
 | [],_=>rfl
 | x :: l,h=>by
  rw [QbQ,List.all_cons,Bool.and_eq_true] at h;rw [zeros,List.length_cons,List.replicate_succ,←zeros,←Qee h.2,of_decide_eq_true h.1]
theorem IsT.zero_of {rs:List (List Rat)} {S:SR} {R:List Rat→S.T→Prop} (h:IsT rs S R) {l x} (hx:R l x) (hz:QbQ l=true):x=S.zer:=by
 have:=Qee hz;rw [h.len hx] at this;rw [this] at hx;exact h.uni hx h.zero
open SR in
theorem IsT.mul {rs:List (List Rat)} {S:SR} {R:List Rat→S.T→Prop} (h:IsT rs S R):∀ {l m n x y},R l x→R m y→mulO rs l m=some n→R n (S.mul x y):=by
 have zer:∀ {rs:List (List Rat)} {S:SR} {R:List Rat→S.T→Prop} (_:IsT rs S R) {l m x y},R l x→R m y→(QbQ l || QbQ m)=true→R (zeros l.length) (S.mul x y):=by
  intro rs S R h l m x y hx hy hz;rw [h.len hx]
  have:S.mul x y=S.zer:=by
   rcases Bool.or_eq_true_iff.1 hz with hz | hz
   ·rw [h.zero_of hx hz];exact QcR y
   ·rw [h.zero_of hy hz];exact Qdt x
  rw [this];exact h.zero
 induction h with
 | nil =>
  intro l m n x y hx hy e;rw [mulO] at e;split at e
  ·injection e with e;rw [←e];exact zer .nil hx hy (by assumption)
  ·obtain rfl:=hx;obtain rfl:=hy;obtain ⟨r,hr,e⟩:=Option.bind_eq_some_iff.1 e;cases e;exact congrArg (fun t => [t]) (QjX hr)
 | cons h δ hR hd ih =>
  intro l m n x y hx hy k;rw [mulO] at k;split at k
  ·injection k with k;rw [←k];exact zer (.cons h δ hR hd) hx hy (by assumption)
  ·obtain ⟨a,b,rfl,ha,hb⟩:=hx;obtain ⟨c,e,rfl,hc,he⟩:=hy;rw [(QaB (by rw [h.len ha,h.len hb])).1,(QaB (by rw [h.len ha,h.len hb])).2,(QaB (by rw [h.len hc,h.len he])).1,(QaB (by rw [h.len hc,h.len he])).2] at k;obtain ⟨ac,h1,k⟩:=Option.bind_eq_some_iff.1 k;obtain ⟨be,h2,k⟩:=Option.bind_eq_some_iff.1 k;obtain ⟨bed,h3,k⟩:=Option.bind_eq_some_iff.1 k;obtain ⟨p,h4,k⟩:=Option.bind_eq_some_iff.1 k;obtain ⟨ae,h5,k⟩:=Option.bind_eq_some_iff.1 k;obtain ⟨bc,h6,k⟩:=Option.bind_eq_some_iff.1 k;obtain ⟨q,h7,rfl⟩:=Option.map_eq_some_iff.1 k;exact ⟨p,q,rfl,h.add (ih ha hc h1) (ih (ih hb he h2) hR h3) h4,h.add (ih ha he h5) (ih hb hc h6) h7⟩
open SR in
theorem IsT.norm {rs:List (List Rat)} {S:SR} {R:List Rat→S.T→Prop} (h:IsT rs S R) {d:List Rat} {δ:S.T} (hR:R d δ) {a b n:List Rat} {x y:S.T} (ha:R a x) (hb:R b y) (k:nrmO rs d (a++b)=some n):R n (nrm δ x y):=by
 rw [nrmO,(QaB (by rw [h.len ha,h.len hb])).1,(QaB (by rw [h.len ha,h.len hb])).2] at k;obtain ⟨aa,h1,k⟩:=Option.bind_eq_some_iff.1 k;obtain ⟨bb,h2,k⟩:=Option.bind_eq_some_iff.1 k;obtain ⟨bbd,h3,k⟩:=Option.bind_eq_some_iff.1 k;exact h.sub (h.mul ha ha h1) (h.mul (h.mul hb hb h2) hR h3) k
theorem Qlc (x:Rat):cmpQ x 0=ratS.sgn x:=by
 show _=sgR x;rcases Qcs x 0 with ⟨e,h⟩ | ⟨e,h⟩ | ⟨e,h⟩
 ·rw [e,Qfm h]
 ·rw [e,h,QcZ]
 ·rw [e,Qdu h]
open SR in
theorem IsT.sign {rs:List (List Rat)} {S:SR} {R:List Rat→S.T→Prop} (h:IsT rs S R):∀ {l s x},R l x→Qaw rs l=some s→S.sgn x=s:=by
 induction h with
 | nil =>
  rintro l s x rfl e;injection e with e;exact (Qlc x).symm.trans e
 | @cons rs S R d h δ hR hd ih =>
  rintro l s x ⟨a,b,rfl,ha,hb⟩ k;rw [Qaw,(QaB (by rw [h.len ha,h.len hb])).1,(QaB (by rw [h.len ha,h.len hb])).2] at k;obtain ⟨p,h1,k⟩:=Option.bind_eq_some_iff.1 k;obtain ⟨q,h2,k⟩:=Option.bind_eq_some_iff.1 k;obtain ⟨x1,x2⟩:=x;have e1:S.sgn x1=p:=ih ha h1;have e2:S.sgn x2=q:=ih hb h2;show sg2 δ (x1,x2)=s;rw [sg2,e1,e2];split at k
  ·rename_i hq;injection k with k;rw [if_pos hq,k]
  ·rename_i hq;rw [if_neg hq];split at k
   ·rename_i hs;injection k with k;rw [if_pos hs,k]
   ·rename_i hs;rw [if_neg hs];obtain ⟨n,h3,k⟩:=Option.bind_eq_some_iff.1 k;obtain ⟨u,h4,k⟩:=Option.map_eq_some_iff.1 k;have e3:S.sgn (nrm δ x1 x2)=u:=ih (h.norm hR ha hb h3) h4;rw [e3,k]
end Tw
end
section
namespace Tw
open Go.Proofs.YtihlgifojjeoaaaGreatDoor.Rt Go.Proofs.YtihlgifojjeoaaaGreatDoor.En
structure Lat (L B:Nat) (q:Rat):Prop where
 pos:0<L
 ex:∃ n:Int,q=Rat.divInt n L∧n.natAbs≤B
theorem Lat.bq {L B:Nat} {q:Rat} (h:Lat L B q):BQ B L q:=by
 obtain ⟨hL,n,rfl,hn⟩:=h;exact .of_div (by omega) hn (by simp)
theorem Lat.mono {L B C:Nat} {q:Rat} (h:Lat L B q) (hB:B≤C):Lat L C q:=by
 obtain ⟨hL,n,rfl,hn⟩:=h;exact ⟨hL,n,rfl,Nat.le_trans hn hB⟩
theorem Lat.zero {L:Nat} (B:Nat) (h:0<L):Lat L B 0:=⟨h,0,by simp,by simp⟩
theorem Lat.lift {L B:Nat} {q:Rat} (h:Lat L B q) {M:Nat} (hM:0<M):Lat (L*M) (B*M) q:=by
 obtain ⟨hL,n,rfl,hn⟩:=h;refine ⟨Nat.mul_pos hL hM,n*M, ?_, ?_⟩
 ·rw [Int.natCast_mul,Rat.divInt_mul_right (by omega)]
 ·rw [Int.natAbs_mul,Int.natAbs_natCast];exact Nat.mul_le_mul_right _ hn
theorem Lat.add {L B C:Nat} {p q:Rat} (hp:Lat L B p) (hq:Lat L C q):Lat L (B+C) (p+q):=by
 obtain ⟨hL,n,rfl,hn⟩:=hp;obtain ⟨_,m,rfl,hm⟩:=hq;refine ⟨hL,n+m, ?_,Nat.le_trans (Int.natAbs_add_le _ _) (Nat.add_le_add hn hm)⟩;rw [Rat.divInt_add_divInt _ _ (by omega) (by omega),←Int.add_mul,Rat.divInt_mul_right (by omega)]
theorem Lat.sub {L B C:Nat} {p q:Rat} (hp:Lat L B p) (hq:Lat L C q):Lat L (B+C) (p-q):=by
 obtain ⟨hL,n,rfl,hn⟩:=hp;obtain ⟨_,m,rfl,hm⟩:=hq;refine ⟨hL,n-m, ?_,Nat.le_trans (Int.natAbs_sub_le _ _) (Nat.add_le_add hn hm)⟩;rw [Rat.divInt_sub_divInt _ _ (by omega) (by omega),←Int.sub_mul,Rat.divInt_mul_right (by omega)]
theorem Lat.mul {L M B C:Nat} {p q:Rat} (hp:Lat L B p) (hq:Lat M C q):Lat (L*M) (B*C) (p*q):=by
 obtain ⟨hL,n,rfl,hn⟩:=hp;obtain ⟨hM,m,rfl,hm⟩:=hq;refine ⟨Nat.mul_pos hL hM,n*m, ?_,by rw [Int.natAbs_mul];exact Nat.mul_le_mul hn hm⟩;rw [Rat.divInt_mul_divInt,Int.natCast_mul]
def AllL (L B:Nat) (l:List Rat):Prop:=∀ q∈l,Lat L B q
theorem AllL.mono {L B C:Nat} {l:List Rat} (h:AllL L B l) (hB:B≤C):AllL L C l:=fun q hq=>(h q hq).mono hB
theorem AllL.lift {L B M:Nat} {l:List Rat} (h:AllL L B l) (hM:0<M):AllL (L*M) (B*M) l:=fun q hq=>(h q hq).lift hM
theorem AllL.zeros {L:Nat} (B n:Nat) (h:0<L):AllL L B (zeros n):=fun q hq=>by rw [List.eq_of_mem_replicate hq];exact .zero B h
theorem AllL.hl {L B:Nat} {l:List Rat} (h:AllL L B l):AllL L B (hl l):=fun q hq=>h q (List.mem_of_mem_take hq)
theorem AllL.hr {L B:Nat} {l:List Rat} (h:AllL L B l):AllL L B (hr l):=fun q hq=>h q (List.mem_of_mem_drop hq)
theorem AllL.app {L B:Nat} {l m:List Rat} (h:AllL L B l) (h':AllL L B m):AllL L B (l++m):=fun q hq=>(List.mem_append.1 hq).elim (h q) (h' q)
theorem QeT {f:Rat→Rat→Option Rat} {P Q T:Rat→Prop} (hf:∀ p q,P p→Q q→∃ r,f p q=some r∧T r):∀ {x y:List Rat},x.length=y.length→(∀ p∈x,P p)→(∀ q∈y,Q q)→∃ z,Qaj f x y=some z∧z.length=x.length∧∀ r∈z,T r
 | [], [],_,_,_=>⟨[],rfl,rfl,fun _ h=>by cases h⟩
 | [],_ :: _,h,_,_=>by cases h
 | _ :: _, [],h,_,_=>by cases h
 | x :: xs,y :: ys,h,hx,hy=>by
  obtain ⟨r,e,hr⟩:=hf x y (hx x (by simp)) (hy y (by simp));obtain ⟨z,e',hl,hz⟩:=QeT hf (x:=xs) (y:=ys) (by simpa using h) (fun p hp=>hx p (by simp [hp])) (fun q hq=>hy q (by simp [hq]))
  exact ⟨r :: z,by rw [Qaj,e,e'];rfl,by simp [hl],fun t ht=>by
   rcases List.mem_cons.1 ht with rfl | ht
   ·exact hr
   ·exact hz t ht⟩
theorem QfN {L B C:Nat} {x y:List Rat} (hl:x.length=y.length) (hx:AllL L B x) (hy:AllL L C y) (h:(B+C)*L<10^200) (hL:L*L<10^200):∃ z,Qaj addQ x y=some z∧z.length=x.length∧AllL L (B+C) z :=
 QeT (fun _ _ hp hq=>⟨_,Quy hp.bq hq.bq (by rw [←Nat.add_mul];exact h) hL,hp.add hq⟩) hl hx hy
theorem Qig {L B C:Nat} {x y:List Rat} (hl:x.length=y.length) (hx:AllL L B x) (hy:AllL L C y) (h:(B+C)*L<10^200) (hL:L*L<10^200):∃ z,Qaj subQ x y=some z∧z.length=x.length∧AllL L (B+C) z :=
 QeT (fun _ _ hp hq=>⟨_,Quz hp.bq hq.bq (by rw [←Nat.add_mul];exact h) hL,hp.sub hq⟩) hl hx hy
theorem Qqv {L M B C:Nat} {x y:List Rat} (hl:x.length=y.length) (hx:AllL L B x) (hy:AllL M C y) (h:B*C<10^200) (hL:L*M<10^200):∃ z,Qaj mulQ x y=some z∧z.length=x.length∧AllL (L*M) (B*C) z :=
 QeT (fun _ _ hp hq=>⟨_,QuA hp.bq hq.bq h hL,hp.mul hq⟩) hl hx hy
def RadT (K D:Nat):List (List Rat)→Prop
 | []=>True
 | d :: rs=>d.length=2^rs.length∧AllL K D d∧RadT K D rs
def ee:Nat→Nat
 | 0=>0
 | k+1=>ee k+(1+ee k)
def gr (K D:Nat):Nat→Nat
 | 0=>1
 | k+1=>2*(gr K D k*(K*K^ee k))+gr K D k*gr K D k*D
theorem Qdv {l:List Rat} {k:Nat} (h:l.length=2^(k+1)):(hl l).length=2^k∧(hr l).length=2^k:=by
 rw [Nat.pow_succ] at h;rw [hl,hr,List.length_take,List.length_drop];exact ⟨by rw [Nat.min_eq_left (by omega)];omega,by omega⟩
theorem Qkd {K D:Nat} (hK:0<K):∀ {rs:List (List Rat)},RadT K D rs→∀ {L M B C:Nat} {x y:List Rat},x.length=2^rs.length→y.length=2^rs.length→0<L→0<M→AllL L B x→AllL M C y →
  2*(gr K D rs.length*(B*C))*(L*M*K^ee rs.length)<10^200→(L*M*K^ee rs.length)*(L*M*K^ee rs.length)<10^200 →
  ∃ z,mulO rs x y=some z∧z.length=2^rs.length∧AllL (L*M*K^ee rs.length) (gr K D rs.length*(B*C)) z
 | [],_,L,M,B,C,x,y,hx,hy,hL,hM,ax,ay,h1,h2=>by
  rw [mulO];split
  ·exact ⟨_,rfl,by rw [zeros,List.length_replicate,hx],.zeros _ _ (Nat.mul_pos (Nat.mul_pos hL hM) (Nat.pow_pos hK))⟩
  ·simp only [List.length_nil,ee,gr,Nat.pow_zero,Nat.mul_one,Nat.one_mul] at *
   have p1:1≤L*M:=Nat.mul_pos hL hM;have q1:B*C≤2*(B*C)*(L*M):=Nat.le_trans (by omega) (Nat.le_mul_of_pos_right _ p1);have q2:L*M≤L*M*(L*M):=Nat.le_mul_of_pos_right _ p1;obtain ⟨z,e,hz,az⟩:=Qqv (by rw [hx,hy]) ax ay (Nat.lt_of_le_of_lt q1 h1) (Nat.lt_of_le_of_lt q2 h2);exact ⟨z,e,by rw [hz,hx],az⟩
 | d :: rs,hr_,L,M,B,C,x,y,hx,hy,hL,hM,ax,ay,h1,h2=>by
  obtain ⟨hd,ad,hrs⟩:=hr_;rw [mulO];split
  ·exact ⟨_,rfl,by rw [zeros,List.length_replicate,hx],.zeros _ _ (Nat.mul_pos (Nat.mul_pos hL hM) (Nat.pow_pos hK))⟩
  ·obtain ⟨xa,xb⟩:=Qdv hx;obtain ⟨ya,yb⟩:=Qdv hy;have ih:=fun {L M B C:Nat} {x y:List Rat}=>Qkd hK hrs (L:=L) (M:=M) (B:=B) (C:=C) (x:=x) (y:=y);simp only [List.length_cons,ee,gr] at *
   generalize hk:rs.length=k at *
   generalize hE:K^ee k=E at *
   have e0:0<E:=by rw [←hE];exact Nat.pow_pos hK
   have eP:K^(ee k+(1+ee k))=E*(K*E):=by rw [Nat.pow_add,Nat.pow_add,Nat.pow_one,hE]
   rw [eP] at h1 h2 ⊢;generalize hG:gr K D k=G at *
   have hLM:=Nat.mul_pos hL hM;have hP:L*M*E*(K*E)=L*M*(E*(K*E)):=Nat.mul_assoc _ _ _;have p1:L*M*E≤L*M*(E*(K*E)):=by rw [←hP];exact Nat.le_mul_of_pos_right _ (Nat.mul_pos hK e0)
   have s1:G*(B*C)≤(2*(G*(K*E))+G*G*D)*(B*C):=by
    refine Nat.mul_le_mul_right _ ?_;have:G≤G*(K*E):=Nat.le_mul_of_pos_right _ (Nat.mul_pos hK e0);omega
   have s2:G*(G*(B*C)*D)=G*G*D*(B*C):=by
    simp only [Nat.mul_comm,Nat.mul_left_comm]
   have s3:G*(G*(B*C)*D)≤(2*(G*(K*E))+G*G*D)*(B*C):=by rw [s2];exact Nat.mul_le_mul_right _ (by omega)
   have t1:2*(G*(B*C))*(L*M*E)<10^200:=Nat.lt_of_le_of_lt (Nat.mul_le_mul (Nat.mul_le_mul_left _ s1) p1) h1;have t2:(L*M*E)*(L*M*E)<10^200:=Nat.lt_of_le_of_lt (Nat.mul_le_mul p1 p1) h2;obtain ⟨ac,e1,l1,a1⟩:=ih xa ya hL hM ax.hl ay.hl t1 t2;obtain ⟨be,e2,l2,a2⟩:=ih xb yb hL hM ax.hr ay.hr t1 t2;obtain ⟨ae,e5,l5,a5⟩:=ih xa yb hL hM ax.hl ay.hr t1 t2;obtain ⟨bc,e6,l6,a6⟩:=ih xb ya hL hM ax.hr ay.hl t1 t2;have hP3:L*M*E*K*E=L*M*(E*(K*E)):=by simp only [Nat.mul_comm,Nat.mul_left_comm]
   obtain ⟨bed,e3,l3,a3⟩:=ih l2 hd (Nat.mul_pos hLM e0) hK a2 ad
    (by rw [hP3];exact Nat.lt_of_le_of_lt (Nat.mul_le_mul_right _ (Nat.mul_le_mul_left _ s3)) h1) (by rw [hP3];exact h2)
   rw [hP3] at a3
   have up:∀ {l:List Rat},AllL (L*M*E) (G*(B*C)) l→AllL (L*M*(E*(K*E))) (G*(B*C)*(K*E)) l:=fun h=>by
    have:=h.lift (M:=K*E) (Nat.mul_pos hK e0)
    rwa [hP] at this
   have v1:G*(B*C)*(K*E)+G*(G*(B*C)*D)≤(2*(G*(K*E))+G*G*D)*(B*C):=by
    rw [s2,Nat.add_mul,show G*(B*C)*(K*E)=G*(K*E)*(B*C) by simp only [Nat.mul_comm,Nat.mul_left_comm],Nat.mul_assoc 2];omega
   have v2:G*(B*C)*(K*E)+G*(B*C)*(K*E)≤(2*(G*(K*E))+G*G*D)*(B*C):=by
    rw [Nat.add_mul,show G*(B*C)*(K*E)=G*(K*E)*(B*C) by simp only [Nat.mul_comm,Nat.mul_left_comm],Nat.mul_assoc 2];omega
   have big:∀ {T:Nat},T≤(2*(G*(K*E))+G*G*D)*(B*C)→T*(L*M*(E*(K*E)))<10^200:=fun h=>by
    refine Nat.lt_of_le_of_lt (Nat.mul_le_mul_right _ (Nat.le_trans h ?_)) h1;omega
   obtain ⟨p,e4,l4,a4⟩:=QfN (by rw [l1,l3]) (up a1) a3 (big v1) h2;obtain ⟨q,e7,l7,a7⟩:=QfN (by rw [l5,l6]) (up a5) (up a6) (big v2) h2;refine ⟨p++q, ?_, ?_,(a4.mono v1).app (a7.mono v2)⟩
   ·rw [e1,Option.bind_some,e2,Option.bind_some,e3,Option.bind_some,e4,Option.bind_some,e5,Option.bind_some,e6,Option.bind_some,e7];rfl
   ·rw [List.length_append,l4,l7,l1,l5,Nat.pow_succ];omega
def sfit (K D:Nat):Nat→Nat→Nat→Bool
 | 0,_,_=>true
 | k+1,L,B=>decide (2*(gr K D (k+1)*(B*B))*(L*L*K^ee (k+1))<10^200) && (decide ((L*L*K^ee (k+1))*(L*L*K^ee (k+1))<10^200) && (sfit K D k (L*L*K^ee (k+1)) (gr K D (k+1)*(B*B)) && sfit K D k L B))
end Tw
end
section
namespace Tw
open Go.RowKit Go.Extern.Stop Go.Stop Go.Extern
open En Go.Proofs.YtihlgifojjeoaaaGreatDoor.Nm Go.Proofs.YtihlgifojjeoaaaGreatDoor.Rt
open N10 (Two)
def FitL (l:List Rat):Prop:=∀ q∈l,FitQ q
def pqs (l:List Rat) (i:Nat):P2:=pq (l.getD i 0)
structure El (W:World) (v:Value) (l:List Rat):Prop where
 ex:∃ b o cap,v = .slice (some ⟨b,o,none⟩) l.length cap∧l.length≤cap∧Cl W b o l.length (pqs l)
theorem El.keep {W W':World} {v:Value} {l:List Rat} (h:El W v l) (hB:Below W.heap.size W W'):El W' v l:=by
 obtain ⟨b,o,cap,e,h1,h2⟩:=h.ex;exact ⟨b,o,cap,e,h1,h2.keep hB⟩
structure AnsO (o:Option (List Rat)) (w:World) (e:Ending) (w':World):Prop where
 below:Below w.heap.size w w'
 good:∀ z,o=some z→∃ v,e = .returned v∧El w' v z
 bad:o=none→e = .panicked twP
theorem FitL.getD {l:List Rat} (h:FitL l) (i:Nat) (hi:i<l.length):FitQ (l.getD i 0):=by
 rw [List.getD_eq_getElem?_getD,List.getElem?_eq_getElem hi];exact h _ (List.getElem_mem hi)
theorem Qht {f:Rat→Rat→Option Rat}:∀ {l m z:List Rat},l.length=m.length→Qaj f l m=some z→z.length=l.length∧∀ j,j<l.length→f (l.getD j 0) (m.getD j 0)=some (z.getD j 0)
 | [], [],z,_,h=>by cases h;exact ⟨rfl,fun j hj=>by cases hj⟩
 | [],_ :: _,z,h,_=>by cases h
 | _ :: _, [],z,h,_=>by cases h
 | x :: l,y :: m,z,h,k=>by
  rw [Qaj] at k;obtain ⟨r,hr,k⟩:=Option.bind_eq_some_iff.1 k;obtain ⟨t,ht,rfl⟩:=Option.map_eq_some_iff.1 k;obtain ⟨h1,h2⟩:=Qht (by simpa using h) ht;refine ⟨by simp [h1],fun j hj => ?_⟩;cases j with
  | zero=>exact hr
  | succ j=>exact h2 j (by simpa using hj)
theorem Qhu {f:Rat→Rat→Option Rat}:∀ {l m:List Rat},l.length=m.length→Qaj f l m=none→∃ j,j<l.length∧f (l.getD j 0) (m.getD j 0)=none
 | [], [],_,h=>by cases h
 | [],_ :: _,h,_=>by cases h
 | _ :: _, [],h,_=>by cases h
 | x :: l,y :: m,h,k=>by
  rw [Qaj] at k;cases hf:f x y with
  | none=>exact ⟨0,by simp,hf⟩
  | some r =>
   rw [hf,Option.bind_some] at k;obtain ⟨j,hj,hn⟩:=Qhu (by simpa using h) (Option.map_eq_none_iff.1 k);exact ⟨j+1,by simpa using hj,hn⟩
theorem ansO {f:Rat→Rat→Option Rat} {l m:List Rat} {w w':World} {e:Ending} (hl:l.length=m.length)
  (h:AnsE (∀ j,j<l.length→cd (f (l.getD j 0) (m.getD j 0))=0) l.length (fun j=>(sn (f (l.getD j 0) (m.getD j 0)),sd (f (l.getD j 0) (m.getD j 0)))) w e w'):AnsO (Qaj f l m) w e w':=by
 refine ⟨h.below,fun z hz => ?_,fun hn => ?_⟩
 ·obtain ⟨h1,h2⟩:=Qht hl hz;obtain ⟨b,cap,rfl,_,k1,_,k3⟩:=h.good (fun j hj=>by rw [h2 j hj];rfl);refine ⟨_,rfl,b,0,cap,by rw [h1],by rw [h1];exact k1, ?_⟩;rw [h1];exact ⟨fun i hi=>by have:=k3.at_ i hi;rw [h2 i hi] at this;exact this⟩
 ·obtain ⟨j,hj,hf⟩:=Qhu hl hn;refine h.bad (fun k => ?_);have:=k j hj;rw [hf] at this;cases this
theorem Qjj {l m:List Rat} {vx vy:Value} (hl:l.length=m.length) (hn:l.length≤1000) (fl:FitL l) (fm:FitL m) (w:World) (hx:El w vx l) (hy:El w vy m) :
  Calls Tryz.prog 41 #[vx,vy] w (AnsO (Qaj addQ l m) w):=by
 obtain ⟨b,o,cap,rfl,h1,h2⟩:=hx.ex;obtain ⟨b',o',cap',rfl,h1',h2'⟩:=hy.ex;rw [←hl] at h1' h2' ⊢;exact (Qey l.length b o cap b' o' cap' hn h1 h1' (pqs l) (pqs m) (fun j=>(sn (addQ (l.getD j 0) (m.getD j 0)),sd (addQ (l.getD j 0) (m.getD j 0)))) (fun j=>cd (addQ (l.getD j 0) (m.getD j 0))) (fun j hj W=>Rt.addO (.some (fl.getD j hj)) (.some (fm.getD j (hl▸hj))) W) w h2 h2').mono (fun e w' h=>ansO hl h)
theorem Qih {l m:List Rat} {vx vy:Value} (hl:l.length=m.length) (hn:l.length≤1000) (fl:FitL l) (fm:FitL m) (w:World) (hx:El w vx l) (hy:El w vy m) :
  Calls Tryz.prog 43 #[vx,vy] w (AnsO (Qaj subQ l m) w):=by
 obtain ⟨b,o,cap,rfl,h1,h2⟩:=hx.ex;obtain ⟨b',o',cap',rfl,h1',h2'⟩:=hy.ex;rw [←hl] at h1' h2' ⊢;exact (QdE l.length b o cap b' o' cap' hn h1 h1' (pqs l) (pqs m) (fun j=>(sn (subQ (l.getD j 0) (m.getD j 0)),sd (subQ (l.getD j 0) (m.getD j 0)))) (fun j=>cd (subQ (l.getD j 0) (m.getD j 0))) (fun j hj W=>Rt.subO (.some (fl.getD j hj)) (.some (fm.getD j (hl▸hj))) W) w h2 h2').mono (fun e w' h=>ansO hl h)
theorem QuK {l m:List Rat} {vx vy:Value} (hl:l.length=m.length) (hn:l.length≤1000) (fl:FitL l) (fm:FitL m) (w:World) (hx:El w vx l) (hy:El w vy m) :
  Calls Tryz.prog 94 #[.func (.func 95) #[] #[],vx,vy] w (AnsO (Qaj mulQ l m) w):=by
 obtain ⟨b,o,cap,rfl,h1,h2⟩:=hx.ex;obtain ⟨b',o',cap',rfl,h1',h2'⟩:=hy.ex;rw [←hl] at h1' h2' ⊢;exact (QcY 95 (enters_of Tryz.func95 (by kernel_rfl) rfl) l.length b o cap b' o' cap' hn h1 h1' (pqs l) (pqs m) (fun j=>(sn (mulQ (l.getD j 0) (m.getD j 0)),sd (mulQ (l.getD j 0) (m.getD j 0)))) (fun j=>cd (mulQ (l.getD j 0) (m.getD j 0))) (fun j hj W=>Rt.mulO (.some (fl.getD j hj)) (.some (fm.getD j (hl▸hj))) W) w h2 h2').mono (fun e w' h=>ansO hl h)
theorem FitL.pair {f:Rat→Rat→Option Rat} (hf:∀ p q r,f p q=some r→FitQ r):∀ {l m z:List Rat},Qaj f l m=some z→FitL z
 | [],_,z,h=>by cases h;exact fun q hq=>by cases hq
 | _ :: _, [],z,h=>by cases h;exact fun q hq=>by cases hq
 | x :: l,y :: m,z,k=>by
  rw [Qaj] at k;obtain ⟨r,hr,k⟩:=Option.bind_eq_some_iff.1 k;obtain ⟨t,ht,rfl⟩:=Option.map_eq_some_iff.1 k;intro q hq;rcases List.mem_cons.1 hq with rfl | hq
  ·exact hf _ _ _ hr
  ·exact FitL.pair hf ht q hq
end Tw
end
end Go.Proofs.YtihlgifojjeoaaaGreatDoor
