/-
  Package enclosure on all strings: intervals, Valid, Point, Within, Contains, Add, Sub, Hull, Meet, Width, Round.
-/
import Derived.Test.YtbfonkabmehlmaaGreatDoorY6C6
import Derived.Test.YtbfonkabmehlmaaGreatDoorY6C8
import Derived.Test.YtbfonkabmehlmaaGreatDoorY6C7
import Derived.Test.YtbfonkabmehlmaaGreatDoorY6D2
set_option maxRecDepth 1000000
set_option maxHeartbeats 40000000
open Go.Value renaming string→Z
open Go.Obj renaming cells→O
namespace Go.Proofs.YtbfonkabmehlmaaGreatDoor
section
namespace En
open Go.RowKit Go.Extern.Stop Go.Stop Go.Extern
open Go.Proofs.YtbfonkabmehlmaaGreatDoor.Nm Go.Proofs.YtbfonkabmehlmaaGreatDoor.Rt
open N10 (Two)
structure Sz (x0 x1 x2 x3:ByteArray):Prop where
 a:x0.size≤1000000
 b:x1.size≤1000000
 c:x2.size≤1000000
 d:x3.size≤1000000
noncomputable def iOf (x0 x1 x2 x3:ByteArray):Option (Rat×Rat):=(qOf x0 x1).bind fun p=>(qOf x2 x3).bind fun q=>if p≤q then some (p,q) else none
theorem iOf_some {x0 x1 x2 x3:ByteArray} {p q:Rat} (h:iOf x0 x1 x2 x3=some (p,q)):FitQ p∧FitQ q∧p≤q∧x0=txt p.num∧x1=txt (p.den:Int)∧x2=txt q.num∧x3=txt (q.den:Int):=by
 rw [iOf] at h
 cases h1:qOf x0 x1 with
 | none=>rw [h1] at h;cases h
 | some r =>
  cases h2:qOf x2 x3 with
  | none=>rw [h1,h2] at h;cases h
  | some s =>
   rw [h1,h2] at h
   by_cases hc:r≤s
   ·have h:(if r≤s then some (r,s) else none)=some (p,q):=h
    rw [if_pos hc] at h
    injection h with h
    injection h with e1 e2
    subst e1 e2
    obtain ⟨a1,a2,a3⟩:=qOf_some h1
    obtain ⟨b1,b2,b3⟩:=qOf_some h2
    exact ⟨a3,b3,hc,a1,a2,b1,b2⟩
   ·have h:(if r≤s then some (r,s) else none)=some (p,q):=h
    rw [if_neg hc] at h
    cases h
theorem iOf_q {p q:Rat} (hp:FitQ p) (hq:FitQ q):iOf (txt p.num) (txt (p.den:Int)) (txt q.num) (txt (q.den:Int))=if p≤q then some (p,q) else none:=by
 rw [iOf,qOf_txt hp,qOf_txt hq];rfl
theorem iOf_no {x0 x1 x2 x3:ByteArray} (h:((qOf x0 x1).isSome && (qOf x2 x3).isSome)=false):iOf x0 x1 x2 x3=none:=by
 rw [iOf]
 cases h1:qOf x0 x1 with
 | none=>rfl
 | some r =>
  cases h2:qOf x2 x3 with
  | none=>rfl
  | some s=>rw [h1,h2] at h;cases h
theorem str_ne_or (x0 x1 x2 x3:ByteArray):(x0=x2∧x1=x3)∨((x0.toList == x2.toList)=false∨((x0.toList == x2.toList)=true∧(x1.toList == x3.toList)=false)):=by
 rw [str_eq,str_eq]
 by_cases h1:x0=x2
 ·by_cases h2:x1=x3
  ·exact .inl ⟨h1,h2⟩
  ·exact .inr (.inr ⟨decide_eq_true h1,decide_eq_false h2⟩)
 ·exact .inr (.inl (decide_eq_false h1))
theorem iValid_all (x0 x1 x2 x3:ByteArray) (hx:Sz x0 x1 x2 x3):Ret 20 #[ivl x0 x1 x2 x3] (.bool (iOf x0 x1 x2 x3).isSome):=by
 rcases q_ways x0 x1 x2 x3 with ⟨p,q,fp,fq,rfl,rfl,rfl,rfl⟩ | h
 ·rw [iOf_q fp fq]
  have:=iValid_q fp fq
  by_cases hc:p≤q
  ·rw [decide_eq_true hc] at this;rw [if_pos hc];exact this
  ·rw [decide_eq_false hc] at this;rw [if_neg hc];exact this
 ·rw [iOf_no h]
  rcases str_ne_or x0 x1 x2 x3 with ⟨rfl,rfl⟩ | hne
  ·have e:(qOf x0 x1).isSome=false:=by simpa using h
   exact fun W=>Valid_same _ _ false (fun W=>by have:=Valid_all x0 x1 hx.a hx.b W;rw [e] at this;exact this) W
  ·have hC:=fun W=>Compare_no x0 x1 x2 x3 _ _ W h (fun W=>Valid_all x0 x1 hx.a hx.b W) (fun W=>Valid_all x2 x3 hx.c hx.d W)
   exact fun W=>Valid_other _ _ _ _ 0 hC hne W
theorem Point_all (r0 r1:ByteArray) (h0:r0.size≤1000000) (h1:r1.size≤1000000):Ret 22 #[.agg #[Z r0,Z r1]] (.agg (if (qOf r0 r1).isSome then #[Z r0,Z r1,Z r0,Z r1] else #[Z ⟨#[]⟩,Z ⟨#[]⟩,Z ⟨#[]⟩,Z ⟨#[]⟩])) :=
 Point_any _ _ _ (fun W=>Valid_all r0 r1 h0 h1 W)
noncomputable def wIn (A B:Option (Rat×Rat)):Bool:=match A,B with
 | some P,some Q=>decide (Q.1≤P.1) && decide (P.2≤Q.2)
 | _,_=>false
theorem atMost_all (x0 x1 y0 y1:ByteArray) (h0:x0.size≤1000000) (h1:x1.size≤1000000) (g0:y0.size≤1000000) (g1:y1.size≤1000000):∃ b,Ret 68 #[frc x0 x1,frc y0 y1] (.bool b)∧(∀ p q,FitQ p→FitQ q→x0=txt p.num→x1=txt (p.den:Int)→y0=txt q.num→y1=txt (q.den:Int)→b=decide (p≤q))∧(((qOf x0 x1).isSome && (qOf y0 y1).isSome)=false→¬(x0=y0∧x1=y1)→b=false):=by
 rcases q_ways x0 x1 y0 y1 with ⟨p,q,fp,fq,rfl,rfl,rfl,rfl⟩ | h
 ·refine ⟨_,atMost_q fp fq,fun p' q' f1 f2 e1 e2 e3 e4 => ?_,fun h => ?_⟩
  ·have a1:=txtQ_inj (p:=p) (q:=p') (Prod.ext e1 e2)
   have a2:=txtQ_inj (p:=q) (q:=q') (Prod.ext e3 e4)
   rw [a1,a2]
  ·rw [qOf_txt fp,qOf_txt fq] at h;cases h
 ·rcases str_ne_or x0 x1 y0 y1 with ⟨rfl,rfl⟩ | hne
  ·refine ⟨true,atMost_same _ _,fun p q f1 f2 e1 e2 e3 e4 => ?_,fun _ hn=>absurd ⟨rfl,rfl⟩ hn⟩
   subst e1 e2
   rw [qOf_txt f1] at h;cases h
  ·have hC:=fun W=>Compare_no x0 x1 y0 y1 _ _ W h (fun W=>Valid_all x0 x1 h0 h1 W) (fun W=>Valid_all y0 y1 g0 g1 W)
   refine ⟨false,atMost_other _ _ _ _ 0 hC hne,fun p q f1 f2 e1 e2 e3 e4 => ?_,fun _ _=>rfl⟩
   subst e1 e2 e3 e4
   rw [qOf_txt f1,qOf_txt f2] at h;cases h
theorem Within_all (x0 x1 x2 x3 y0 y1 y2 y3:ByteArray) (hx:Sz x0 x1 x2 x3) (hy:Sz y0 y1 y2 y3):Ret 26 #[ivl x0 x1 x2 x3,ivl y0 y1 y2 y3] (.bool (wIn (iOf x0 x1 x2 x3) (iOf y0 y1 y2 y3))):=by
 have hV:=iValid_all x0 x1 x2 x3 hx
 obtain ⟨l,hL,l1,l2⟩:=atMost_all y0 y1 x0 x1 hy.a hy.b hx.a hx.b
 obtain ⟨r,hR,r1,r2⟩:=atMost_all x2 x3 y2 y3 hx.c hx.d hy.c hy.d
 have h:=Within_any x0 x1 x2 x3 y0 y1 y2 y3 _ l r hV (fun _=>hL) (fun _ _=>hR)
 have e:((iOf x0 x1 x2 x3).isSome && (l && r))=wIn (iOf x0 x1 x2 x3) (iOf y0 y1 y2 y3):=by
  cases hi:iOf x0 x1 x2 x3 with
  | none=>rfl
  | some P =>
   obtain ⟨p,q⟩:=P
   obtain ⟨f1,f2,o,e1,e2,e3,e4⟩:=iOf_some hi
   rcases q_ways y0 y1 y2 y3 with ⟨u,v,fu,fv,hy0,hy1,hy2,hy3⟩ | hn
   ·rw [l1 u p fu f1 hy0 hy1 e1 e2,r1 q v f2 fv e3 e4 hy2 hy3,hy0,hy1,hy2,hy3,iOf_q fu fv]
    by_cases hc:u≤v
    ·rw [if_pos hc];rfl
    ·rw [if_neg hc]
     show (decide (u≤p) && decide (q≤v))=false
     rw [←Bool.decide_and]
     exact decide_eq_false (fun h=>hc (Rat.le_trans h.1 (Rat.le_trans o h.2)))
   ·rw [iOf_no hn]
    show (l && r)=false
    have s1:(qOf x0 x1).isSome=true:=by rw [e1,e2,qOf_txt f1];rfl
    have s2:(qOf x2 x3).isSome=true:=by rw [e3,e4,qOf_txt f2];rfl
    rcases (show (qOf y0 y1).isSome=false∨(qOf y2 y3).isSome=false by revert hn;cases (qOf y0 y1).isSome <;> cases (qOf y2 y3).isSome <;> simp) with hz | hz
    ·rw [l2 (by rw [hz];rfl) (fun e=>by rw [e.1,e.2,s1] at hz;cases hz)];rfl
    ·rw [r2 (by rw [hz,Bool.and_false]) (fun e=>by rw [←e.1,←e.2,s2] at hz;cases hz),Bool.and_false]
 rw [e] at h
 exact h
noncomputable def cIn (A:Option (Rat×Rat)) (r:Option Rat):Bool:=match A,r with
 | some P,some r=>decide (P.1≤r) && decide (r≤P.2)
 | _,_=>false
theorem sz0:Sz ⟨#[]⟩ ⟨#[]⟩ ⟨#[]⟩ ⟨#[]⟩:=⟨Nat.zero_le _,Nat.zero_le _,Nat.zero_le _,Nat.zero_le _⟩
theorem Contains_all (x0 x1 x2 x3 r0 r1:ByteArray) (hx:Sz x0 x1 x2 x3) (h0:r0.size≤1000000) (h1:r1.size≤1000000):Ret 24 #[ivl x0 x1 x2 x3,frc r0 r1] (.bool (cIn (iOf x0 x1 x2 x3) (qOf r0 r1))):=by
 have hP:=Point_all r0 r1 h0 h1
 cases hq:qOf r0 r1 with
 | none =>
  rw [hq] at hP
  have h:=Contains_any x0 x1 x2 x3 r0 r1 _ _ _ _ _ hP (Within_all _ _ _ _ _ _ _ _ sz0 hx)
  have e:wIn (iOf ⟨#[]⟩ ⟨#[]⟩ ⟨#[]⟩ ⟨#[]⟩) (iOf x0 x1 x2 x3)=cIn (iOf x0 x1 x2 x3) none:=by
   rw [iOf_no (by rw [qOf_nil];rfl)]
   cases iOf x0 x1 x2 x3 <;> rfl
  rw [e] at h
  exact h
 | some r =>
  rw [hq] at hP
  have h:=Contains_any x0 x1 x2 x3 r0 r1 _ _ _ _ _ hP (Within_all _ _ _ _ _ _ _ _ ⟨h0,h1,h0,h1⟩ hx)
  obtain ⟨e1,e2,fr⟩:=qOf_some hq
  have e:wIn (iOf r0 r1 r0 r1) (iOf x0 x1 x2 x3)=cIn (iOf x0 x1 x2 x3) (some r):=by
   rw [e1,e2,iOf_q fr fr,if_pos Rat.le_refl]
   cases iOf x0 x1 x2 x3 <;> rfl
  rw [e] at h
  exact h
end En
end
section
namespace En
open Go.RowKit Go.Extern.Stop Go.Stop Go.Extern
open Go.Proofs.YtbfonkabmehlmaaGreatDoor.Nm Go.Proofs.YtbfonkabmehlmaaGreatDoor.Rt
def FourR (f:Rat→Rat→Option Rat) (p1 q1 p2 q2:Rat) (o:Option (Rat×Rat)):Prop :=
 ((∃ u v,(u=p1∨u=q1)∧(v=p2∨v=q2)∧f u v=none)∧o=none) ∨
 (∃ x y x' y' lo hi,(x=p1∨x=q1)∧(y=p2∨y=q2)∧(x'=p1∨x'=q1)∧(y'=p2∨y'=q2)∧f x y=some lo∧f x' y'=some hi∧(∀ u v,(u=p1∨u=q1)→(v=p2∨v=q2)→∃ r,f u v=some r∧lo≤r∧r≤hi)∧o=some (lo,hi))
theorem FourR.one {f:Rat→Rat→Option Rat} {p1 q1 p2 q2:Rat} {o o':Option (Rat×Rat)} (h:FourR f p1 q1 p2 q2 o) (h':FourR f p1 q1 p2 q2 o'):o=o':=by
 rcases h with ⟨⟨u,v,hu,hv,e⟩,rfl⟩ | ⟨x,y,x',y',lo,hi,hx,hy,hx',hy',e1,e2,hall,rfl⟩
 ·rcases h' with ⟨_,rfl⟩ | ⟨_,_,_,_,_,_,_,_,_,_,_,_,hall,_⟩
  ·rfl
  ·obtain ⟨r,er,_⟩:=hall u v hu hv
   rw [e] at er;cases er
 ·rcases h' with ⟨⟨u,v,hu,hv,e⟩,rfl⟩ | ⟨z,t,z',t',lo',hi',hz,ht,hz',ht',e3,e4,hall',rfl⟩
  ·obtain ⟨r,er,_⟩:=hall u v hu hv
   rw [e] at er;cases er
  ·obtain ⟨r1,a1,b1,_⟩:=hall z t hz ht
   obtain ⟨r2,a2,_,b2⟩:=hall z' t' hz' ht'
   obtain ⟨r3,a3,b3,_⟩:=hall' x y hx hy
   obtain ⟨r4,a4,_,b4⟩:=hall' x' y' hx' hy'
   rw [e3] at a1;injection a1 with a1;subst a1
   rw [e4] at a2;injection a2 with a2;subst a2
   rw [e1] at a3;injection a3 with a3;subst a3
   rw [e2] at a4;injection a4 with a4;subst a4
   rw [Rat.le_antisymm b1 b3,Rat.le_antisymm b4 b2]
theorem cd_zero {o:Option Rat} (h:cd o=0):∃ r,o=some r:=by
 cases o with
 | none=>exact absurd h (by decide)
 | some r=>exact ⟨r,rfl⟩
theorem cd_none {o:Option Rat}:cd o=0↔o≠none:=by
 cases o with
 | none=>exact ⟨fun h=>absurd h (by decide),fun h=>absurd rfl h⟩
 | some r=>exact ⟨fun _ h=>(by cases h),fun _=>rfl⟩
theorem comb_none (a:Addr) (k:Nat) (hk:Enters Tryz.prog k) (p1 q1 p2 q2:Rat) (f:Rat→Rat→Option Rat)
  (hO:∀ u v,(u=p1∨u=q1)→(v=p2∨v=q2)→Ret k #[frc (pq u).1 (pq u).2,frc (pq v).1 (pq v).2] (resO (f u v))) (hf:∀ u v r,f u v=some r→FitQ r)
  (hbad:∃ u v,(u=p1∨u=q1)∧(v=p2∨v=q2)∧f u v=none) (W:World) (hW:Ref a W) :
  Calls Tryz.prog 93 #[.func (.func k) #[] #[],iq p1 q1,iq p2 q2] W fun e W'=>e = .panicked (refP a)∧Below W.heap.size W W':=by
 obtain ⟨n,hn⟩:∃ n,n=ne_ p1 q1:=⟨_,rfl⟩
 obtain ⟨m,hm⟩:∃ m,m=ne_ p2 q2:=⟨_,rfl⟩
 have bn:=ne_b p1 q1
 have bm:=ne_b p2 q2
 rw [←hn] at bn
 rw [←hm] at bm
 have hE:=ends_q p1 q1
 have hD:=ends_q p2 q2
 rw [←hn] at hE
 rw [←hm] at hD
 have c:=combined_any a k hk _ _ _ _ _ _ _ _ n m bn bm _ _ hE hD (fun i j=>(sn (f (en p1 q1 i) (en p2 q2 j)),sd (f (en p1 q1 i) (en p2 q2 j)))) (fun i j=>cd (f (en p1 q1 i) (en p2 q2 j))) (fun i j _ _=>hO _ _ (en_in p1 q1 i) (en_in p2 q2 j)) PQ AL AG AL_ret AG_ret
  (fun i j _ _ h=>by
   obtain ⟨r,hr⟩:=cd_zero h
   refine ⟨r,hf _ _ _ hr, ?_⟩
   show (sn (f (en p1 q1 i) (en p2 q2 j)),sd (f (en p1 q1 i) (en p2 q2 j)))=pq r
   rw [hr];rfl)
  (fun t=>(sn (f (en p1 q1 (t / m)) (en p2 q2 (t % m))),sd (f (en p1 q1 (t / m)) (en p2 q2 (t % m))))) (fun i j hj=>by show (_,_)=(_,_);rw [(ix_div i j m hj).1,(ix_div i j m hj).2]) true
  ⟨fun h=>(by cases h),fun h=>by
   obtain ⟨u,v,hu,hv,e⟩:=hbad
   obtain ⟨iu,hiu,rfl⟩:=en_has hu
   obtain ⟨iv,hiv,rfl⟩:=en_has hv
   rw [←hn] at hiu
   rw [←hm] at hiv
   exact absurd e (cd_none.1 (h iu iv hiu hiv))⟩ W hW
 rw [if_neg (by decide)] at c
 exact c
theorem Mul_G (a:Addr) {p1 q1 p2 q2:Rat} (h1:FitQ p1) (h2:FitQ q1) (h3:FitQ p2) (h4:FitQ q2) (o1:p1≤q1) (o2:p2≤q2):∃ o,FourR mulQ p1 q1 p2 q2 o∧IC a 38 #[iq p1 q1,iq p2 q2] o:=by
 have hu:∀ u,(u=p1∨u=q1)→FitQ u:=fun u h=>by rcases h with rfl | rfl <;> assumption
 have hv:∀ v,(v=p2∨v=q2)→FitQ v:=fun u h=>by rcases h with rfl | rfl <;> assumption
 by_cases hbad:∃ u v,(u=p1∨u=q1)∧(v=p2∨v=q2)∧mulQ u v=none
 ·refine ⟨none,.inl ⟨hbad,rfl⟩,fun W hW => ?_⟩
  have v1:=iValid_q h1 h2
  have v2:=iValid_q h3 h4
  rw [decide_eq_true o1] at v1
  rw [decide_eq_true o2] at v2
  exact liftMul a _ _ _ _ _ _ _ _ ⟨#[]⟩ ⟨#[]⟩ ⟨#[]⟩ ⟨#[]⟩ true true true (fun _ _ Bx By V hv' hx hy=>(mul_clo a Bx By _ _ _ _ _ _ _ _ _ _ _ _ true (fun V' hV'=>comb_none a 30 (enters_of Tryz.func30 (by kernel_rfl) rfl) p1 q1 p2 q2 mulQ (fun u v h5 h6 W=>mulO (.some (hu u h5)) (.some (hv v h6)) W) (fun u v r h=>FitQ.mulQ h) hbad V' hV') V hv' hx hy)) v1 v2 W hW
 ·have hall:∀ u v,(u=p1∨u=q1)→(v=p2∨v=q2)→mulQ u v=some (u*v):=fun u v h5 h6=>by
   cases e:mulQ u v with
   | none=>exact absurd ⟨u,v,h5,h6,e⟩ hbad
   | some r=>rw [mulQ_eq e]
  obtain ⟨x,y,x',y',hx,hy,hx',hy',hb,hc⟩:=Mul_I a h1 h2 h3 h4 o1 o2 hall
  exact ⟨_,.inr ⟨x,y,x',y',_,_,hx,hy,hx',hy',hall x y hx hy,hall x' y' hx' hy',fun u v h5 h6=>⟨_,hall u v h5 h6,(hb u v h5 h6).1,(hb u v h5 h6).2⟩,rfl⟩,hc⟩
def DivR (p1 q1 p2 q2:Rat) (o:Option (Rat×Rat)):Prop:=((p2≤0∧0≤q2)∧o=none)∨(¬(p2≤0∧0≤q2)∧FourR divQ p1 q1 p2 q2 o)
theorem Div_G (a:Addr) {p1 q1 p2 q2:Rat} (h1:FitQ p1) (h2:FitQ q1) (h3:FitQ p2) (h4:FitQ q2) (o1:p1≤q1) (o2:p2≤q2):∃ o,DivR p1 q1 p2 q2 o∧IC a 40 #[iq p1 q1,iq p2 q2] o:=by
 by_cases h0:p2≤0∧0≤q2
 ·exact ⟨none,.inl ⟨h0,rfl⟩,Div_none a h1 h2 h3 h4 o1 o2 h0⟩
 have hu:∀ u,(u=p1∨u=q1)→FitQ u:=fun u h=>by rcases h with rfl | rfl <;> assumption
 have hv:∀ v,(v=p2∨v=q2)→FitQ v:=fun u h=>by rcases h with rfl | rfl <;> assumption
 by_cases hbad:∃ u v,(u=p1∨u=q1)∧(v=p2∨v=q2)∧divQ u v=none
 ·refine ⟨none,.inr ⟨h0,.inl ⟨hbad,rfl⟩⟩,fun W hW => ?_⟩
  have v1:=iValid_q h1 h2
  have v2:=iValid_q h3 h4
  rw [decide_eq_true o1] at v1
  rw [decide_eq_true o2] at v2
  have hC:=Contains_q h3 h4 (show FitQ 0 from ⟨fits_small (by decide),fits_small (by decide)⟩)
  rw [decide_eq_false h0] at hC
  have hC2:Ret 24 #[iq p2 q2,.agg #[Z ⟨#[48]⟩,Z ⟨#[49]⟩]] (.bool false):=by rw [←rq0];exact hC
  exact liftDiv a _ _ _ _ _ _ _ _ ⟨#[]⟩ ⟨#[]⟩ ⟨#[]⟩ ⟨#[]⟩ true true true (fun _ _ Bx By V hv' hx hy=>(div_clo a Bx By _ _ _ _ _ _ _ _ _ _ _ _ true false hC2 (fun _ V' hV'=>comb_none a 31 (enters_of Tryz.func31 (by kernel_rfl) rfl) p1 q1 p2 q2 divQ (fun u v h5 h6 W=>divO (.some (hu u h5)) (.some (hv v h6)) W) (fun u v r h=>FitQ.divQ h) hbad V' hV') V hv' hx hy)) v1 v2 W hW
 ·have hall:∀ u v,(u=p1∨u=q1)→(v=p2∨v=q2)→divQ u v=some (u / v):=fun u v h5 h6=>by
   cases e:divQ u v with
   | none=>exact absurd ⟨u,v,h5,h6,e⟩ hbad
   | some r=>rw [(divQ_eq e).1]
  obtain ⟨x,y,x',y',hx,hy,hx',hy',hb,hc⟩:=Div_I a h1 h2 h3 h4 o1 o2 h0 hall
  exact ⟨_,.inr ⟨h0,.inr ⟨x,y,x',y',_,_,hx,hy,hx',hy',hall x y hx hy,hall x' y' hx' hy',fun u v h5 h6=>⟨_,hall u v h5 h6,(hb u v h5 h6).1,(hb u v h5 h6).2⟩,rfl⟩⟩,hc⟩
def Pair (a:Addr) (f g:Nat) (args:Array Value):Prop:=∃ (m:P4) (e:Int),LCm a f args m e∧Ret g args (.tuple #[.agg #[Z m.1.1,Z m.1.2,Z m.2.1,Z m.2.2],.int .i64 e])
theorem Pair.of {a:Addr} {f g:Nat} {args:Array Value} {o:Option (Rat×Rat)} (h1:IC a f args o) (h2:Ret g args (resI o)):Pair a f g args:=by
 cases o with
 | none=>exact ⟨m0,50,h1.none,h2⟩
 | some r=>exact ⟨(pq r.1,pq r.2),0,h1.some,h2⟩
theorem pair2 (a:Addr) (f g:Nat) (x0 x1 x2 x3 y0 y1 y2 y3:ByteArray)
  (hno:((iOf x0 x1 x2 x3).isSome && (iOf y0 y1 y2 y3).isSome)=false→IC a f #[ivl x0 x1 x2 x3,ivl y0 y1 y2 y3] none∧Ret g #[ivl x0 x1 x2 x3,ivl y0 y1 y2 y3] (resI none))
  (hyes:∀ p1 q1 p2 q2,FitQ p1→FitQ q1→FitQ p2→FitQ q2→p1≤q1→p2≤q2→x0=txt p1.num→x1=txt (p1.den:Int)→x2=txt q1.num→x3=txt (q1.den:Int)→y0=txt p2.num→y1=txt (p2.den:Int)→y2=txt q2.num→y3=txt (q2.den:Int)→∃ o,IC a f #[iq p1 q1,iq p2 q2] o∧Ret g #[iq p1 q1,iq p2 q2] (resI o)):Pair a f g #[ivl x0 x1 x2 x3,ivl y0 y1 y2 y3]:=by
 cases h1:iOf x0 x1 x2 x3 with
 | none=>obtain ⟨a1,a2⟩:=hno (by rw [h1];rfl);exact .of a1 a2
 | some P =>
  cases h2:iOf y0 y1 y2 y3 with
  | none=>obtain ⟨a1,a2⟩:=hno (by rw [h1,h2];rfl);exact .of a1 a2
  | some Q =>
   obtain ⟨p1,q1⟩:=P
   obtain ⟨p2,q2⟩:=Q
   obtain ⟨f1,f2,o1,a1,a2,a3,a4⟩:=iOf_some h1
   obtain ⟨g1,g2,o2,b1,b2,b3,b4⟩:=iOf_some h2
   obtain ⟨o,c1,c2⟩:=hyes p1 q1 p2 q2 f1 f2 g1 g2 o1 o2 a1 a2 a3 a4 b1 b2 b3 b4
   subst a1 a2 a3 a4 b1 b2 b3 b4
   exact .of c1 c2
end En
end
end Go.Proofs.YtbfonkabmehlmaaGreatDoor
