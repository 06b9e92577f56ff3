/-
  The reference of package enclosure on all strings: Valid, Point, Contains, Within, both, result; pairs: Add, Sub, Mul, Div, Hull.
-/
import Derived.Test.YtbfonkabmehlmaaGreatDoorY6D4
import Derived.Test.YtbfonkabmehlmaaGreatDoorY6D1
import Derived.Test.YtbfonkabmehlmaaGreatDoorY6D6
import Derived.Test.YtbfonkabmehlmaaGreatDoorY6D8
import Derived.Test.YtbfonkabmehlmaaGreatDoorY6D7
import Derived.Test.YtbfonkabmehlmaaGreatDoorY6D9
import Derived.Test.YtbfonkabmehlmaaGreatDoorY6B4
import Derived.Test.YtbfonkabmehlmaaGreatDoorY6C5
import Derived.Test.YtbfonkabmehlmaaGreatDoorY6D3
set_option maxRecDepth 1000000
set_option maxHeartbeats 40000000
open Go.Value renaming string→Z
open Go.Obj renaming cells→O
namespace Go.Proofs.YtbfonkabmehlmaaGreatDoor
section
namespace En
open Go.RowKit Go.Extern.Stop Go.Stop Go.Extern
open Go.Proofs.YtbfonkabmehlmaaGreatDoor.Nm Go.Proofs.YtbfonkabmehlmaaGreatDoor.Rt
open N10 (Two)
theorem vR_q {p:Rat} (hp:FitQ p):Ret 13 #[.agg #[Z (txt p.num),Z (txt (p.den:Int))]] (.bool true):=two_VRq hp
theorem iValidR_all (x0 x1 x2 x3:ByteArray) (hx:Sz x0 x1 x2 x3):Ret 21 #[ivl x0 x1 x2 x3] (.bool (iOf x0 x1 x2 x3).isSome):=by
 rcases q_ways x0 x1 x2 x3 with ⟨p,q,fp,fq,rfl,rfl,rfl,rfl⟩ | h
 ·have c:=ValidS _ _ _ _ true true (cmpQ p q) (vR_q fp) (vR_q fq) (fun _ _=>CompareR_q fp fq)
  rw [iOf_q fp fq]
  by_cases hc:p≤q
  ·rw [decide_eq_true ((cmp_le p q).2 hc)] at c;rw [if_pos hc];exact c
  ·rw [decide_eq_false (fun h=>hc ((cmp_le p q).1 h))] at c;rw [if_neg hc];exact c
 ·have c:=ValidS x0 x1 x2 x3 _ _ 0 (two_VR x0 x1 hx.a hx.b) (two_VR x2 x3 hx.c hx.d) (fun h1 h2=>by rw [h1,h2] at h;cases h)
  rw [iOf_no h]
  rw [show ((qOf x0 x1).isSome && ((qOf x2 x3).isSome && decide ((0:Int)≤0)))=false by rw [←h];simp] at c
  exact c
theorem PointR_all (r0 r1:ByteArray) (h0:r0.size≤1000000) (h1:r1.size≤1000000):Ret 23 #[.agg #[Z r0,Z r1]] (.agg (if (qOf r0 r1).isSome then #[Z r0,Z r1,Z r0,Z r1] else #[Z ⟨#[]⟩,Z ⟨#[]⟩,Z ⟨#[]⟩,Z ⟨#[]⟩])):=by
 have hV:Ret 13 #[.agg #[Z r0,Z r1]] (.bool (qOf r0 r1).isSome):=two_VR r0 r1 h0 h1
 cases h:(qOf r0 r1).isSome with
 | false=>rw [h] at hV;exact PointS_no _ _ hV
 | true=>rw [h] at hV;exact PointS_yes _ _ hV
theorem ContainsR_all (x0 x1 x2 x3 r0 r1:ByteArray) (hx:Sz x0 x1 x2 x3) (h0:r0.size≤1000000) (h1:r1.size≤1000000):Ret 25 #[ivl x0 x1 x2 x3,frc r0 r1] (.bool (cIn (iOf x0 x1 x2 x3) (qOf r0 r1))):=by
 have hV:=iValidR_all x0 x1 x2 x3 hx
 have hR:Ret 13 #[.agg #[Z r0,Z r1]] (.bool (qOf r0 r1).isSome):=two_VR r0 r1 h0 h1
 cases hi:iOf x0 x1 x2 x3 with
 | none=>rw [hi] at hV;exact ContainsS x0 x1 x2 x3 r0 r1 false _ 0 0 hV hR (fun h=>by cases h) (fun h=>by cases h)
 | some P =>
  obtain ⟨p,q⟩:=P
  rw [hi] at hV
  cases hq:qOf r0 r1 with
  | none=>rw [hq] at hR;exact ContainsS x0 x1 x2 x3 r0 r1 true false 0 0 hV hR (fun _ h=>by cases h) (fun _ h=>by cases h)
  | some r =>
   rw [hq] at hR
   obtain ⟨f1,f2,o,e1,e2,e3,e4⟩:=iOf_some hi
   obtain ⟨d1,d2,fr⟩:=qOf_some hq
   subst e1 e2 e3 e4 d1 d2
   have c:=ContainsS _ _ _ _ _ _ true true (cmpQ p r) (cmpQ r q) hV hR (fun _ _=>CompareR_q f1 fr) (fun _ _ _=>CompareR_q fr f2)
   rw [show (true && (true && (decide (cmpQ p r≤0) && decide (cmpQ r q≤0))))=cIn (some (p,q)) (some r) by
    show (decide (cmpQ p r≤0) && decide (cmpQ r q≤0))=(decide (p≤r) && decide (r≤q))
    rw [decide_eq_decide.2 (cmp_le p r),decide_eq_decide.2 (cmp_le r q)]] at c
   exact c
theorem WithinR_all (x0 x1 x2 x3 y0 y1 y2 y3:ByteArray) (hx:Sz x0 x1 x2 x3) (hy:Sz y0 y1 y2 y3):Ret 27 #[ivl x0 x1 x2 x3,ivl y0 y1 y2 y3] (.bool (wIn (iOf x0 x1 x2 x3) (iOf y0 y1 y2 y3))):=by
 have c:=WithinS x0 x1 x2 x3 y0 y1 y2 y3 _ _ _ (iValidR_all x0 x1 x2 x3 hx) (ContainsR_all y0 y1 y2 y3 x0 x1 hy hx.a hx.b) (ContainsR_all y0 y1 y2 y3 x2 x3 hy hx.c hx.d)
 rw [show ((iOf x0 x1 x2 x3).isSome && (cIn (iOf y0 y1 y2 y3) (qOf x0 x1) && cIn (iOf y0 y1 y2 y3) (qOf x2 x3)))=wIn (iOf x0 x1 x2 x3) (iOf y0 y1 y2 y3) by
  cases hi:iOf x0 x1 x2 x3 with
  | none=>rfl
  | some P =>
   obtain ⟨p,q⟩:=P
   obtain ⟨f1,f2,o,e1,e2,e3,e4⟩:=iOf_some hi
   rw [e1,e2,e3,e4,qOf_txt f1,qOf_txt f2]
   cases iOf y0 y1 y2 y3 with
   | none=>rfl
   | some Q =>
    obtain ⟨r,s⟩:=Q
    show ((decide (r≤p) && decide (p≤s)) && (decide (r≤q) && decide (q≤s)))=(decide (r≤p) && decide (q≤s))
    by_cases h1:r≤p
    ·by_cases h2:q≤s
     ·rw [decide_eq_true h1,decide_eq_true h2,decide_eq_true (Rat.le_trans o h2),decide_eq_true (Rat.le_trans h1 o)];rfl
     ·rw [decide_eq_false h2,Bool.and_false,Bool.and_false,Bool.and_false]
    ·rw [decide_eq_false h1];rfl] at c
 exact c
theorem bothR_all (x0 x1 x2 x3 y0 y1 y2 y3:ByteArray) (hx:Sz x0 x1 x2 x3) (hy:Sz y0 y1 y2 y3):Ret 108 #[ivl x0 x1 x2 x3,ivl y0 y1 y2 y3] (.bool ((iOf x0 x1 x2 x3).isSome && (iOf y0 y1 y2 y3).isSome)) :=
 bothS _ _ _ _ _ _ _ _ _ _ (iValidR_all x0 x1 x2 x3 hx) (iValidR_all y0 y1 y2 y3 hy)
theorem resultR (o1 o2:Option Rat):Ret 109 #[.agg #[Z (sn o1),Z (sd o1)],.int .i64 (cd o1),.agg #[Z (sn o2),Z (sd o2)],.int .i64 (cd o2)] (resI (bothO o1 o2)):=by
 cases o1 with
 | none=>exact resultS_bad _ _ _ _ _ _ (fun h=>(cd_none.1 h.1) rfl)
 | some r =>
  cases o2 with
  | none=>exact resultS_bad _ _ _ _ _ _ (fun h=>(cd_none.1 h.2) rfl)
  | some s=>exact resultS_ok _ _ _ _
theorem resI_form (o:Option (Rat×Rat)):∃ (m0 m1 m2 m3:ByteArray) (c:Int),resI o = .tuple #[.agg #[Z m0,Z m1,Z m2,Z m3],.int .i64 c]:=by
 cases o with
 | none=>exact ⟨_,_,_,_,_,rfl⟩
 | some r=>exact ⟨_,_,_,_,_,rfl⟩
theorem sz_q {p q:Rat} (hp:FitQ p) (hq:FitQ q):Sz (txt p.num) (txt (p.den:Int)) (txt q.num) (txt (q.den:Int)):=⟨hp.size.1,hp.size.2,hq.size.1,hq.size.2⟩
theorem both_q {p1 q1 p2 q2:Rat} (h1:FitQ p1) (h2:FitQ q1) (h3:FitQ p2) (h4:FitQ q2) (o1:p1≤q1) (o2:p2≤q2):Ret 108 #[iq p1 q1,iq p2 q2] (.bool true):=by
 have c:=bothR_all _ _ _ _ _ _ _ _ (sz_q h1 h2) (sz_q h3 h4)
 rw [iOf_q h1 h2,iOf_q h3 h4,if_pos o1,if_pos o2] at c
 exact c
theorem AddR_I {p1 q1 p2 q2:Rat} (h1:FitQ p1) (h2:FitQ q1) (h3:FitQ p2) (h4:FitQ q2) (o1:p1≤q1) (o2:p2≤q2):Ret 55 #[iq p1 q1,iq p2 q2] (resI (bothO (addQ p1 p2) (addQ q1 q2))):=by
 have A:=addR_O (.some h1) (.some h3)
 rw [show lift2 addQ (some p1) (some p2)=addQ p1 p2 from rfl] at A
 have B:=addR_O (.some h2) (.some h4)
 rw [show lift2 addQ (some q1) (some q2)=addQ q1 q2 from rfl] at B
 generalize addQ p1 p2=u at *
 generalize addQ q1 q2=v at *
 have hR:=resultR u v
 obtain ⟨m0,m1,m2,m3,c,e⟩:=resI_form (bothO u v)
 rw [e] at hR
 rw [e]
 exact AddS _ _ _ _ _ _ _ _ (sn u) (sd u) (sn v) (sd v) _ _ _ _ (cd u) (cd v) _ (both_q h1 h2 h3 h4 o1 o2) A B hR
theorem SubR_I {p1 q1 p2 q2:Rat} (h1:FitQ p1) (h2:FitQ q1) (h3:FitQ p2) (h4:FitQ q2) (o1:p1≤q1) (o2:p2≤q2):Ret 56 #[iq p1 q1,iq p2 q2] (resI (bothO (subQ p1 q2) (subQ q1 p2))):=by
 have A:=subR_O (.some h1) (.some h4)
 rw [show lift2 subQ (some p1) (some q2)=subQ p1 q2 from rfl] at A
 have B:=subR_O (.some h2) (.some h3)
 rw [show lift2 subQ (some q1) (some p2)=subQ q1 p2 from rfl] at B
 generalize subQ p1 q2=u at *
 generalize subQ q1 p2=v at *
 have hR:=resultR u v
 obtain ⟨m0,m1,m2,m3,c,e⟩:=resI_form (bothO u v)
 rw [e] at hR
 rw [e]
 exact SubS _ _ _ _ _ _ _ _ (sn u) (sd u) (sn v) (sd v) _ _ _ _ (cd u) (cd v) _ (both_q h1 h2 h3 h4 o1 o2) A B hR
theorem Add_no (a:Addr) (x0 x1 x2 x3 y0 y1 y2 y3:ByteArray) (hx:Sz x0 x1 x2 x3) (hy:Sz y0 y1 y2 y3) (h:((iOf x0 x1 x2 x3).isSome && (iOf y0 y1 y2 y3).isSome)=false):IC a 53 #[ivl x0 x1 x2 x3,ivl y0 y1 y2 y3] none:=by
 intro W hW
 have hn:¬((iOf x0 x1 x2 x3).isSome=true∧(iOf y0 y1 y2 y3).isSome=true):=fun e=>by rw [e.1,e.2] at h;cases h
 have c:=liftAdd a x0 x1 x2 x3 y0 y1 y2 y3 ⟨#[]⟩ ⟨#[]⟩ ⟨#[]⟩ ⟨#[]⟩ _ _ true (fun h1 h2=>absurd ⟨h1,h2⟩ hn) (iValid_all x0 x1 x2 x3 hx) (iValid_all y0 y1 y2 y3 hy) W hW
 rw [if_neg (fun e=>hn ⟨e.1,e.2.1⟩)] at c
 exact c
theorem Sub_no (a:Addr) (x0 x1 x2 x3 y0 y1 y2 y3:ByteArray) (hx:Sz x0 x1 x2 x3) (hy:Sz y0 y1 y2 y3) (h:((iOf x0 x1 x2 x3).isSome && (iOf y0 y1 y2 y3).isSome)=false):IC a 54 #[ivl x0 x1 x2 x3,ivl y0 y1 y2 y3] none:=by
 intro W hW
 have hn:¬((iOf x0 x1 x2 x3).isSome=true∧(iOf y0 y1 y2 y3).isSome=true):=fun e=>by rw [e.1,e.2] at h;cases h
 have c:=liftSub a x0 x1 x2 x3 y0 y1 y2 y3 ⟨#[]⟩ ⟨#[]⟩ ⟨#[]⟩ ⟨#[]⟩ _ _ true (fun h1 h2=>absurd ⟨h1,h2⟩ hn) (iValid_all x0 x1 x2 x3 hx) (iValid_all y0 y1 y2 y3 hy) W hW
 rw [if_neg (fun e=>hn ⟨e.1,e.2.1⟩)] at c
 exact c
theorem Mul_no (a:Addr) (x0 x1 x2 x3 y0 y1 y2 y3:ByteArray) (hx:Sz x0 x1 x2 x3) (hy:Sz y0 y1 y2 y3) (h:((iOf x0 x1 x2 x3).isSome && (iOf y0 y1 y2 y3).isSome)=false):IC a 38 #[ivl x0 x1 x2 x3,ivl y0 y1 y2 y3] none:=by
 intro W hW
 have hn:¬((iOf x0 x1 x2 x3).isSome=true∧(iOf y0 y1 y2 y3).isSome=true):=fun e=>by rw [e.1,e.2] at h;cases h
 have c:=liftMul a x0 x1 x2 x3 y0 y1 y2 y3 ⟨#[]⟩ ⟨#[]⟩ ⟨#[]⟩ ⟨#[]⟩ _ _ true (fun h1 h2=>absurd ⟨h1,h2⟩ hn) (iValid_all x0 x1 x2 x3 hx) (iValid_all y0 y1 y2 y3 hy) W hW
 rw [if_neg (fun e=>hn ⟨e.1,e.2.1⟩)] at c
 exact c
theorem Div_no (a:Addr) (x0 x1 x2 x3 y0 y1 y2 y3:ByteArray) (hx:Sz x0 x1 x2 x3) (hy:Sz y0 y1 y2 y3) (h:((iOf x0 x1 x2 x3).isSome && (iOf y0 y1 y2 y3).isSome)=false):IC a 40 #[ivl x0 x1 x2 x3,ivl y0 y1 y2 y3] none:=by
 intro W hW
 have hn:¬((iOf x0 x1 x2 x3).isSome=true∧(iOf y0 y1 y2 y3).isSome=true):=fun e=>by rw [e.1,e.2] at h;cases h
 have c:=liftDiv a x0 x1 x2 x3 y0 y1 y2 y3 ⟨#[]⟩ ⟨#[]⟩ ⟨#[]⟩ ⟨#[]⟩ _ _ true (fun h1 h2=>absurd ⟨h1,h2⟩ hn) (iValid_all x0 x1 x2 x3 hx) (iValid_all y0 y1 y2 y3 hy) W hW
 rw [if_neg (fun e=>hn ⟨e.1,e.2.1⟩)] at c
 exact c
theorem Hull_no (a:Addr) (x0 x1 x2 x3 y0 y1 y2 y3:ByteArray) (hx:Sz x0 x1 x2 x3) (hy:Sz y0 y1 y2 y3) (h:((iOf x0 x1 x2 x3).isSome && (iOf y0 y1 y2 y3).isSome)=false):IC a 37 #[ivl x0 x1 x2 x3,ivl y0 y1 y2 y3] none:=by
 intro W hW
 have hn:¬((iOf x0 x1 x2 x3).isSome=true∧(iOf y0 y1 y2 y3).isSome=true):=fun e=>by rw [e.1,e.2] at h;cases h
 have c:=liftHull a x0 x1 x2 x3 y0 y1 y2 y3 ⟨#[]⟩ ⟨#[]⟩ ⟨#[]⟩ ⟨#[]⟩ _ _ true (fun h1 h2=>absurd ⟨h1,h2⟩ hn) (iValid_all x0 x1 x2 x3 hx) (iValid_all y0 y1 y2 y3 hy) W hW
 rw [if_neg (fun e=>hn ⟨e.1,e.2.1⟩)] at c
 exact c
theorem Meet_no (a:Addr) (x0 x1 x2 x3 y0 y1 y2 y3:ByteArray) (hx:Sz x0 x1 x2 x3) (hy:Sz y0 y1 y2 y3) (h:((iOf x0 x1 x2 x3).isSome && (iOf y0 y1 y2 y3).isSome)=false):IC a 36 #[ivl x0 x1 x2 x3,ivl y0 y1 y2 y3] none:=by
 intro W hW
 have hn:¬((iOf x0 x1 x2 x3).isSome=true∧(iOf y0 y1 y2 y3).isSome=true):=fun e=>by rw [e.1,e.2] at h;cases h
 have c:=liftMeet a x0 x1 x2 x3 y0 y1 y2 y3 ⟨#[]⟩ ⟨#[]⟩ ⟨#[]⟩ ⟨#[]⟩ _ _ true (fun h1 h2=>absurd ⟨h1,h2⟩ hn) (iValid_all x0 x1 x2 x3 hx) (iValid_all y0 y1 y2 y3 hy) W hW
 rw [if_neg (fun e=>hn ⟨e.1,e.2.1⟩)] at c
 exact c
theorem pair_Add (a:Addr) (x0 x1 x2 x3 y0 y1 y2 y3:ByteArray) (hx:Sz x0 x1 x2 x3) (hy:Sz y0 y1 y2 y3):Pair a 53 55 #[ivl x0 x1 x2 x3,ivl y0 y1 y2 y3] :=
 pair2 a _ _ x0 x1 x2 x3 y0 y1 y2 y3 (fun h=>⟨Add_no a _ _ _ _ _ _ _ _ hx hy h,AddS_no _ _ _ _ _ _ _ _ (by have:=bothR_all x0 x1 x2 x3 y0 y1 y2 y3 hx hy;rw [h] at this;exact this)⟩)
  (fun p1 q1 p2 q2 h1 h2 h3 h4 o1 o2 _ _ _ _ _ _ _ _=>⟨_,Add_I a h1 h2 h3 h4 o1 o2,AddR_I h1 h2 h3 h4 o1 o2⟩)
theorem pair_Sub (a:Addr) (x0 x1 x2 x3 y0 y1 y2 y3:ByteArray) (hx:Sz x0 x1 x2 x3) (hy:Sz y0 y1 y2 y3):Pair a 54 56 #[ivl x0 x1 x2 x3,ivl y0 y1 y2 y3] :=
 pair2 a _ _ x0 x1 x2 x3 y0 y1 y2 y3 (fun h=>⟨Sub_no a _ _ _ _ _ _ _ _ hx hy h,SubS_no _ _ _ _ _ _ _ _ (by have:=bothR_all x0 x1 x2 x3 y0 y1 y2 y3 hx hy;rw [h] at this;exact this)⟩)
  (fun p1 q1 p2 q2 h1 h2 h3 h4 o1 o2 _ _ _ _ _ _ _ _=>⟨_,Sub_I a h1 h2 h3 h4 o1 o2,SubR_I h1 h2 h3 h4 o1 o2⟩)
theorem HullR_I {p1 q1 p2 q2:Rat} (h1:FitQ p1) (h2:FitQ q1) (h3:FitQ p2) (h4:FitQ q2) (o1:p1≤q1) (o2:p2≤q2):Ret 59 #[iq p1 q1,iq p2 q2] (resI (some (minQ p1 p2,maxQ q1 q2))) :=
 HullS _ _ _ _ _ _ _ _ _ _ _ _ (both_q h1 h2 h3 h4 o1 o2) (leastR_q h1 h3) (mostR_q h2 h4)
theorem pair_Hull (a:Addr) (x0 x1 x2 x3 y0 y1 y2 y3:ByteArray) (hx:Sz x0 x1 x2 x3) (hy:Sz y0 y1 y2 y3):Pair a 37 59 #[ivl x0 x1 x2 x3,ivl y0 y1 y2 y3] :=
 pair2 a _ _ x0 x1 x2 x3 y0 y1 y2 y3 (fun h=>⟨Hull_no a _ _ _ _ _ _ _ _ hx hy h,HullS_no _ _ _ _ _ _ _ _ (by have:=bothR_all x0 x1 x2 x3 y0 y1 y2 y3 hx hy;rw [h] at this;exact this)⟩)
  (fun p1 q1 p2 q2 h1 h2 h3 h4 o1 o2 _ _ _ _ _ _ _ _=>⟨_,Hull_I a h1 h2 h3 h4 o1 o2,HullR_I h1 h2 h3 h4 o1 o2⟩)
end En
end
section
namespace En
open Go.RowKit Go.Extern.Stop Go.Stop Go.Extern
open Go.Proofs.YtbfonkabmehlmaaGreatDoor.Nm Go.Proofs.YtbfonkabmehlmaaGreatDoor.Rt
open N10 (Two)
theorem divR_O {o1 o2:Option Rat} (h1:FitO o1) (h2:FitO o2):Ret 152 #[vO o1,vO o2] (resO (lift2 divQ o1 o2)):=fun W=>by
 have:=DivR_all (sn o1) (sd o1) (sn o2) (sd o2) h1.sizes.1 h1.sizes.2 h2.sizes.1 h2.sizes.2 W
 rw [divB h1 h2] at this
 exact this
noncomputable def KQ (s t:P2):Int:=cmpQ (valP s) (valP t)
theorem KQ_q {p q:Rat} (hp:FitQ p) (hq:FitQ q):KQ (pq p) (pq q)=cmpQ p q:=by rw [KQ,val_pq hp,val_pq hq]
theorem KQ_ret (s t:P2) (hs:PQ s) (ht:PQ t):Ret 67 #[.agg #[Z s.1,Z s.2],.agg #[Z t.1,Z t.2]] (.int .i64 (KQ s t)):=by
 obtain ⟨p,hp,rfl⟩:=hs
 obtain ⟨q,hq,rfl⟩:=ht
 rw [KQ_q hp hq]
 exact CompareR_q hp hq
theorem loF_least (V:Nat→P2) (r:Nat→Rat):∀ k,(∀ j,j<k+1→FitQ (r j)∧V j=pq (r j))→∃ i,i<k+1∧loF KQ V (k+1)=pq (r i)∧∀ j,j<k+1→r i≤r j
 | 0,h=>⟨0,by omega,by rw [loF,if_pos (.inl rfl)];exact (h 0 (by omega)).2,fun j hj=>by obtain rfl:j=0:=(by omega);exact Rat.le_refl⟩
 | k+1,h=>by
  obtain ⟨i,hi,e,hall⟩:=loF_least V r k (fun j hj=>h j (by omega))
  have hk:=h (k+1) (by omega)
  have hi2:=h i (by omega)
  rw [loF,e,hk.2,KQ_q hk.1 hi2.1]
  by_cases hc:cmpQ (r (k+1)) (r i)<0
  ·rw [if_pos (.inr hc)]
   have hle:r (k+1)≤r i:=(cmp_le _ _).1 (by omega)
   refine ⟨k+1,by omega,rfl,fun j hj => ?_⟩
   rcases Nat.lt_or_ge j (k+1) with h1 | h1
   ·exact Rat.le_trans hle (hall j h1)
   ·obtain rfl:j=k+1:=by omega
    exact Rat.le_refl
  ·rw [if_neg (fun h=>h.elim (fun h=>by omega) hc)]
   have hle:r i≤r (k+1):=(cmp_ge _ _).1 (by omega)
   refine ⟨i,by omega,rfl,fun j hj => ?_⟩
   rcases Nat.lt_or_ge j (k+1) with h1 | h1
   ·exact hall j h1
   ·obtain rfl:j=k+1:=by omega
    exact hle
theorem hiF_most (V:Nat→P2) (r:Nat→Rat):∀ k,(∀ j,j<k+1→FitQ (r j)∧V j=pq (r j))→∃ i,i<k+1∧hiF KQ V (k+1)=pq (r i)∧∀ j,j<k+1→r j≤r i
 | 0,h=>⟨0,by omega,by rw [hiF,if_pos (.inl rfl)];exact (h 0 (by omega)).2,fun j hj=>by obtain rfl:j=0:=(by omega);exact Rat.le_refl⟩
 | k+1,h=>by
  obtain ⟨i,hi,e,hall⟩:=hiF_most V r k (fun j hj=>h j (by omega))
  have hk:=h (k+1) (by omega)
  have hi2:=h i (by omega)
  rw [hiF,e,hk.2,KQ_q hk.1 hi2.1]
  by_cases hc:0<cmpQ (r (k+1)) (r i)
  ·rw [if_pos (.inr hc)]
   have hle:r i≤r (k+1):=(cmp_ge _ _).1 (by omega)
   refine ⟨k+1,by omega,rfl,fun j hj => ?_⟩
   rcases Nat.lt_or_ge j (k+1) with h1 | h1
   ·exact Rat.le_trans (hall j h1) hle
   ·obtain rfl:j=k+1:=by omega
    exact Rat.le_refl
  ·rw [if_neg (fun h=>h.elim (fun h=>by omega) hc)]
   have hle:r (k+1)≤r i:=(cmp_le _ _).1 (by omega)
   refine ⟨i,by omega,rfl,fun j hj => ?_⟩
   rcases Nat.lt_or_ge j (k+1) with h1 | h1
   ·exact hall j h1
   ·obtain rfl:j=k+1:=by omega
    exact hle
theorem en_two {p q u:Rat} (h:u=p∨u=q):∃ i,i<2∧en p q i=u:=by
 rcases h with rfl | rfl
 ·exact ⟨0,by omega,rfl⟩
 ·exact ⟨1,by omega,rfl⟩
theorem four_rel (f : Rat → Rat → Option Rat) (hf : ∀ u v r, f u v = some r → FitQ r) (p1 q1 p2 q2 : Rat) : ∃ o, FourR f p1 q1 p2 q2 o ∧
    (((∀ j, j < 4 → cd (f (en p1 q1 (j / 2)) (en p2 q2 (j % 2))) = 0) ∧ resI o = .tuple #[.agg #[Z (loF KQ (fun j => (sn (f (en p1 q1 (j / 2)) (en p2 q2 (j % 2))), sd (f (en p1 q1 (j / 2)) (en p2 q2 (j % 2))))) 4).1, Z (loF KQ (fun j => (sn (f (en p1 q1 (j / 2)) (en p2 q2 (j % 2))), sd (f (en p1 q1 (j / 2)) (en p2 q2 (j % 2))))) 4).2, Z (hiF KQ (fun j => (sn (f (en p1 q1 (j / 2)) (en p2 q2 (j % 2))), sd (f (en p1 q1 (j / 2)) (en p2 q2 (j % 2))))) 4).1, Z (hiF KQ (fun j => (sn (f (en p1 q1 (j / 2)) (en p2 q2 (j % 2))), sd (f (en p1 q1 (j / 2)) (en p2 q2 (j % 2))))) 4).2], .int .i64 0]) ∨
     ((∃ j, j < 4 ∧ cd (f (en p1 q1 (j / 2)) (en p2 q2 (j % 2))) ≠ 0) ∧ resI o = .tuple #[.agg #[Z ⟨#[]⟩, Z ⟨#[]⟩, Z ⟨#[]⟩, Z ⟨#[]⟩], .int .i64 50])) := by
  by_cases hbad : ∃ j, j < 4 ∧ cd (f (en p1 q1 (j / 2)) (en p2 q2 (j % 2))) ≠ 0
  · obtain ⟨j, hj, hc⟩ := hbad
    refine ⟨none, .inl ⟨⟨_, _, en_in p1 q1 (j / 2), en_in p2 q2 (j % 2), ?_⟩, rfl⟩, .inr ⟨⟨j, hj, hc⟩, rfl⟩⟩
    cases e : f (en p1 q1 (j / 2)) (en p2 q2 (j % 2)) with
    | none => rfl
    | some r => rw [e] at hc; exact absurd rfl hc
  · have hall : ∀ j, j < 4 → cd (f (en p1 q1 (j / 2)) (en p2 q2 (j % 2))) = 0 := fun j hj => by
      by_cases h : cd (f (en p1 q1 (j / 2)) (en p2 q2 (j % 2))) = 0
      · exact h
      · exact absurd ⟨j, hj, h⟩ hbad
    obtain ⟨r, hr⟩ : ∃ r : Nat → Rat, ∀ j, j < 4 → f (en p1 q1 (j / 2)) (en p2 q2 (j % 2)) = some (r j) := by
      refine ⟨fun j => (f (en p1 q1 (j / 2)) (en p2 q2 (j % 2))).getD 0, fun j hj => ?_⟩
      obtain ⟨s, hs⟩ := cd_zero (hall j hj)
      show _ = some ((f (en p1 q1 (j / 2)) (en p2 q2 (j % 2))).getD 0)
      rw [hs]; rfl
    have hV : ∀ j, j < 3 + 1 → FitQ (r j) ∧ (fun j => ((sn (f (en p1 q1 (j / 2)) (en p2 q2 (j % 2))), sd (f (en p1 q1 (j / 2)) (en p2 q2 (j % 2)))) : P2)) j = pq (r j) := fun j hj => ⟨hf _ _ _ (hr j hj), by
      show ((sn (f (en p1 q1 (j / 2)) (en p2 q2 (j % 2))), sd (f (en p1 q1 (j / 2)) (en p2 q2 (j % 2)))) : P2) = pq (r j)
      rw [hr j hj]; rfl⟩
    obtain ⟨i, hi, e1, h1⟩ := loF_least _ r 3 hV
    obtain ⟨k, hk, e2, h2⟩ := hiF_most _ r 3 hV
    refine ⟨some (r i, r k), .inr ⟨_, _, _, _, _, _, en_in p1 q1 (i / 2), en_in p2 q2 (i % 2), en_in p1 q1 (k / 2), en_in p2 q2 (k % 2), hr i (by omega), hr k (by omega), fun u v hu hv => ?_, rfl⟩, .inl ⟨hall, ?_⟩⟩
    · obtain ⟨a, ha, rfl⟩ := en_two hu
      obtain ⟨b, hb, rfl⟩ := en_two hv
      have hj := hr (a * 2 + b) (by omega)
      rw [show (a * 2 + b) / 2 = a by omega, show (a * 2 + b) % 2 = b by omega] at hj
      exact ⟨_, hj, h1 _ (by omega), h2 _ (by omega)⟩
    · rw [e1, e2]; rfl
theorem MulR_I {p1 q1 p2 q2:Rat} (h1:FitQ p1) (h2:FitQ q1) (h3:FitQ p2) (h4:FitQ q2) (o1:p1≤q1) (o2:p2≤q2):∃ o,FourR mulQ p1 q1 p2 q2 o∧Ret 57 #[iq p1 q1,iq p2 q2] (resI o):=by
 obtain ⟨o,ho,hv⟩:=four_rel mulQ (fun _ _ _ h=>FitQ.mulQ h) p1 q1 p2 q2
 refine ⟨o,ho, ?_⟩
 have hu:∀ i,FitQ (en p1 q1 i):=fun i=>by rw [en];split <;> assumption
 have hw:∀ i,FitQ (en p2 q2 i):=fun i=>by rw [en];split <;> assumption
 have c:=four_mul (fun j=>pq (en p1 q1 j)) (fun j=>pq (en p2 q2 j)) (fun j=>(sn (mulQ (en p1 q1 (j / 2)) (en p2 q2 (j % 2))),sd (mulQ (en p1 q1 (j / 2)) (en p2 q2 (j % 2))))) (fun j=>cd (mulQ (en p1 q1 (j / 2)) (en p2 q2 (j % 2)))) KQ PQ
  (fun k _=>mulR_O (.some (hu (k / 2))) (.some (hw (k % 2)))) KQ_ret (fun k _ h=>by
   obtain ⟨r,hr⟩:=cd_zero h
   refine ⟨r,FitQ.mulQ hr, ?_⟩
   show ((sn (mulQ (en p1 q1 (k / 2)) (en p2 q2 (k % 2))),sd (mulQ (en p1 q1 (k / 2)) (en p2 q2 (k % 2)))):P2)=pq r
   rw [hr];rfl) (resI o) hv
 obtain ⟨m0,m1,m2,m3,d,e⟩:=resI_form o
 rw [e] at c
 rw [e]
 exact MulS _ _ _ _ _ _ _ _ m0 m1 m2 m3 d (both_q h1 h2 h3 h4 o1 o2) c
theorem zero_contR {p q:Rat} (hp:FitQ p) (hq:FitQ q) (o:p≤q):Ret 25 #[iq p q,.agg #[Z ⟨#[48]⟩,Z ⟨#[49]⟩]] (.bool (decide (p≤0∧0≤q))):=by
 have f0:FitQ 0:=⟨fits_small (by decide),fits_small (by decide)⟩
 have c:=ContainsR_all _ _ _ _ _ _ (sz_q hp hq) f0.size.1 f0.size.2
 rw [iOf_q hp hq,if_pos o,qOf_txt f0] at c
 rw [←rq0,Bool.decide_and]
 exact c
theorem DivR_I {p1 q1 p2 q2:Rat} (h1:FitQ p1) (h2:FitQ q1) (h3:FitQ p2) (h4:FitQ q2) (o1:p1≤q1) (o2:p2≤q2):∃ o,DivR p1 q1 p2 q2 o∧Ret 58 #[iq p1 q1,iq p2 q2] (resI o):=by
 have hz:=zero_contR h3 h4 o2
 by_cases h0:p2≤0∧0≤q2
 ·rw [decide_eq_true h0] at hz
  exact ⟨none,.inl ⟨h0,rfl⟩,DivS_no _ _ _ _ _ _ _ _ true true (both_q h1 h2 h3 h4 o1 o2) hz (.inr ⟨rfl,rfl⟩)⟩
 rw [decide_eq_false h0] at hz
 obtain ⟨o,ho,hv⟩:=four_rel divQ (fun _ _ _ h=>FitQ.divQ h) p1 q1 p2 q2
 refine ⟨o,.inr ⟨h0,ho⟩, ?_⟩
 have hu:∀ i,FitQ (en p1 q1 i):=fun i=>by rw [en];split <;> assumption
 have hw:∀ i,FitQ (en p2 q2 i):=fun i=>by rw [en];split <;> assumption
 have c:=four_div (fun j=>pq (en p1 q1 j)) (fun j=>pq (en p2 q2 j)) (fun j=>(sn (divQ (en p1 q1 (j / 2)) (en p2 q2 (j % 2))),sd (divQ (en p1 q1 (j / 2)) (en p2 q2 (j % 2))))) (fun j=>(sn (mulQ (en p1 q1 (j / 2)) (en p2 q2 (j % 2))),sd (mulQ (en p1 q1 (j / 2)) (en p2 q2 (j % 2))))) (fun j=>cd (divQ (en p1 q1 (j / 2)) (en p2 q2 (j % 2)))) (fun j=>cd (mulQ (en p1 q1 (j / 2)) (en p2 q2 (j % 2)))) KQ PQ
  (fun k _=>mulR_O (.some (hu (k / 2))) (.some (hw (k % 2)))) (fun k _=>divR_O (.some (hu (k / 2))) (.some (hw (k % 2)))) KQ_ret (fun k _ h=>by
   obtain ⟨r,hr⟩:=cd_zero h
   refine ⟨r,FitQ.divQ hr, ?_⟩
   show ((sn (divQ (en p1 q1 (k / 2)) (en p2 q2 (k % 2))),sd (divQ (en p1 q1 (k / 2)) (en p2 q2 (k % 2)))):P2)=pq r
   rw [hr];rfl) (resI o) hv
 obtain ⟨m0,m1,m2,m3,d,e⟩:=resI_form o
 rw [e] at c
 rw [e]
 exact DivS _ _ _ _ _ _ _ _ m0 m1 m2 m3 d (both_q h1 h2 h3 h4 o1 o2) hz c
theorem pair_Mul (a:Addr) (x0 x1 x2 x3 y0 y1 y2 y3:ByteArray) (hx:Sz x0 x1 x2 x3) (hy:Sz y0 y1 y2 y3):Pair a 38 57 #[ivl x0 x1 x2 x3,ivl y0 y1 y2 y3] :=
 pair2 a _ _ x0 x1 x2 x3 y0 y1 y2 y3 (fun h=>⟨Mul_no a _ _ _ _ _ _ _ _ hx hy h,MulS_no _ _ _ _ _ _ _ _ (by have:=bothR_all x0 x1 x2 x3 y0 y1 y2 y3 hx hy;rw [h] at this;exact this)⟩)
  (fun p1 q1 p2 q2 h1 h2 h3 h4 o1 o2 _ _ _ _ _ _ _ _=>by
   obtain ⟨o,r,c⟩:=Mul_G a h1 h2 h3 h4 o1 o2
   obtain ⟨o',r',c'⟩:=MulR_I h1 h2 h3 h4 o1 o2
   exact ⟨o,c,by rw [r.one r'];exact c'⟩)
theorem DivR.one {p1 q1 p2 q2:Rat} {o o':Option (Rat×Rat)} (h:DivR p1 q1 p2 q2 o) (h':DivR p1 q1 p2 q2 o'):o=o':=by
 rcases h with ⟨h,e⟩ | ⟨h,e⟩ <;> rcases h' with ⟨h',e'⟩ | ⟨h',e'⟩
 ·rw [e,e']
 ·exact absurd h h'
 ·exact absurd h' h
 ·exact e.one e'
theorem pair_Div (a:Addr) (x0 x1 x2 x3 y0 y1 y2 y3:ByteArray) (hx:Sz x0 x1 x2 x3) (hy:Sz y0 y1 y2 y3):Pair a 40 58 #[ivl x0 x1 x2 x3,ivl y0 y1 y2 y3] :=
 pair2 a _ _ x0 x1 x2 x3 y0 y1 y2 y3 (fun h=>⟨Div_no a _ _ _ _ _ _ _ _ hx hy h,by
   have f0:FitQ 0:=⟨fits_small (by decide),fits_small (by decide)⟩
   have hz:Ret 25 #[ivl y0 y1 y2 y3,.agg #[Z ⟨#[48]⟩,Z ⟨#[49]⟩]] (.bool (cIn (iOf y0 y1 y2 y3) (qOf (txt (0:Rat).num) (txt ((0:Rat).den:Int))))):=by rw [←rq0];exact ContainsR_all y0 y1 y2 y3 _ _ hy f0.size.1 f0.size.2
   exact DivS_no _ _ _ _ _ _ _ _ _ _ (by have:=bothR_all x0 x1 x2 x3 y0 y1 y2 y3 hx hy;rw [h] at this;exact this) hz (.inl rfl)⟩)
  (fun p1 q1 p2 q2 h1 h2 h3 h4 o1 o2 _ _ _ _ _ _ _ _=>by
   obtain ⟨o,r,c⟩:=Div_G a h1 h2 h3 h4 o1 o2
   obtain ⟨o',r',c'⟩:=DivR_I h1 h2 h3 h4 o1 o2
   exact ⟨o,c,by rw [r.one r'];exact c'⟩)
theorem least_S (x0 x1 y0 y1:ByteArray) (h0:x0.size≤1000000) (h1:x1.size≤1000000) (h2:y0.size≤1000000) (h3:y1.size≤1000000):∃ l0 l1:ByteArray,l0.size≤1000000∧l1.size≤1000000∧Ret 51 #[frc x0 x1,frc y0 y1] (frc l0 l1):=by
 obtain ⟨k, -,hk⟩:=pair_Cmp x0 x1 y0 y1 h0 h1 h2 h3
 have c:=leastS x0 x1 y0 y1 k hk
 by_cases h:k≤0
 ·rw [if_pos h] at c;exact ⟨_,_,h0,h1,c⟩
 ·rw [if_neg h] at c;exact ⟨_,_,h2,h3,c⟩
theorem most_S (x0 x1 y0 y1:ByteArray) (h0:x0.size≤1000000) (h1:x1.size≤1000000) (h2:y0.size≤1000000) (h3:y1.size≤1000000):∃ l0 l1:ByteArray,l0.size≤1000000∧l1.size≤1000000∧Ret 52 #[frc x0 x1,frc y0 y1] (frc l0 l1):=by
 obtain ⟨k, -,hk⟩:=pair_Cmp x0 x1 y0 y1 h0 h1 h2 h3
 have c:=mostS x0 x1 y0 y1 k hk
 by_cases h:0≤k
 ·rw [if_pos h] at c;exact ⟨_,_,h0,h1,c⟩
 ·rw [if_neg h] at c;exact ⟨_,_,h2,h3,c⟩
theorem pair_Meet (a:Addr) (x0 x1 x2 x3 y0 y1 y2 y3:ByteArray) (hx:Sz x0 x1 x2 x3) (hy:Sz y0 y1 y2 y3):Pair a 36 60 #[ivl x0 x1 x2 x3,ivl y0 y1 y2 y3] :=
 pair2 a _ _ x0 x1 x2 x3 y0 y1 y2 y3 (fun h=>⟨Meet_no a _ _ _ _ _ _ _ _ hx hy h,by
   obtain ⟨l0,l1, -, -,hl⟩:=most_S x0 x1 y0 y1 hx.a hx.b hy.a hy.b
   obtain ⟨g0,g1, -, -,hg⟩:=least_S x2 x3 y2 y3 hx.c hx.d hy.c hy.d
   have c:=MeetS x0 x1 x2 x3 y0 y1 y2 y3 l0 l1 g0 g1 false 0 (by have:=bothR_all x0 x1 x2 x3 y0 y1 y2 y3 hx hy;rw [h] at this;exact this) hl hg (fun h=>by cases h)
   rw [if_neg (fun h=>by cases h.1)] at c
   exact c⟩)
  (fun p1 q1 p2 q2 h1 h2 h3 h4 o1 o2 _ _ _ _ _ _ _ _=>by
   refine ⟨_,Meet_I a h1 h2 h3 h4 o1 o2, ?_⟩
   have c:=MeetS _ _ _ _ _ _ _ _ _ _ _ _ true (cmpQ (maxQ p1 p2) (minQ q1 q2)) (both_q h1 h2 h3 h4 o1 o2) (mostR_q h1 h3) (leastR_q h2 h4) (fun _=>CompareR_q (FitQ.maxQ h1 h3) (FitQ.minQ h2 h4))
   by_cases hc:maxQ p1 p2≤minQ q1 q2
   ·rw [if_pos ⟨rfl,(cmp_le _ _).2 hc⟩] at c;rw [if_pos hc];exact c
   ·rw [if_neg (fun h=>hc ((cmp_le _ _).1 h.2))] at c;rw [if_neg hc];exact c)
end En
end
section
namespace N10
open Go.RowKit
open Go.Proofs.YtbfonkabmehlmaaGreatDoor.Nm (decN decN_zero decN_pos decN_dig decN_head decN_nil dvl dvl_snoc dvl_append decN_dvl)
theorem trimmed_ref (l:List Nat) (v:Value) (w:World) (h:NI w v l) (hd:Dig l) (hl:l.length≤1000) :
  Calls Tryz.prog 173 #[v] w fun e w'=>∃ u,e = .returned u∧NI w' u (natL (nv l))∧Below w.heap.size w w':=by
 have hal:Below w.heap.size w (w.alloc (O #[] 3)):=(Below.refl _ _).alloc (Nat.le_refl _) _
 have HNI:Shut _:=⟨h.below hal (Nat.le_refl _)⟩
 have HONE:Shut _:=⟨OwnJ.zero w w.heap.size (Nat.le_refl _)⟩
 have ct:=fun (v:Value) (W:World) (h:NI W v l)=>trim_ref l v W h hd (by omega)
 obtain ⟨p,cap,g,o,rfl,_,_,_,_⟩:=h.open
 clear h hd
 go_enter Tryz.func173, Tryz.ntmps173
 go_wp2_with (first | (at_builtin;refine append_j64 rfl _ _ rfl w.heap.size _ [] rfl HONE.o _ l rfl HNI.o (by simp;omega) (by rw [World.size_alloc];omega) ?_;intro v5 w5 hO5 _ hB5) | (go_at_call 151; refine (ct v5 w5 hO5.ni).mono ?_;rintro e w6 ⟨u6,rfl,hu6,hob6,rfl⟩))
 go_ret
 exact ⟨_,rfl,hu6,hal.trans ⟨hB5.os,hB5.tape,hB5.output,hB5.size,fun k hk=>hB5.block k hk⟩⟩

theorem sqr_room (n L:Nat) (h:n<10^L):sqr n<10^((L+1) / 2):=by
 rcases Nat.lt_or_ge (sqr n) (10^((L+1) / 2)) with h1 | h1
 ·exact h1
 ·exfalso
  have h2:=(sqr_spec n).1
  have h3:10^((L+1) / 2)*10^((L+1) / 2)≤sqr n*sqr n:=Nat.mul_le_mul h1 h1
  rw [←Nat.pow_add] at h3
  have h4:10^L≤10^((L+1) / 2+(L+1) / 2):=Nat.pow_le_pow_right (by decide) (by omega)
  omega
def QO (w wr:World) (h n j:Nat):Prop:=IR wr w.heap.size (padL h (10^j*(sqr n / 10^j)))∧Below w.heap.size w wr
def QI (w wr:World) (h n j d:Nat):Prop:=IR wr w.heap.size (padL h (10^(j+1)*(sqr n / 10^(j+1))+10^j*d))∧Below w.heap.size w wr∧sqr n<10^(j+1)*(sqr n / 10^(j+1))+10^j*d+10^j
set_option maxRecDepth 100000 in
theorem Root_ref (x:Int) (hx:Fits x) (h0:0≤x) (w:World) :
  Calls Tryz.prog 153 #[Z (txt x)] w fun e w'=>e = .returned (.tuple #[Z (txt (sqr x.natAbs:Nat)),.int .i64 0])∧Below w.heap.size w w':=by
 have lx:=fitsL hx
 have ca:=fun W=>Valid_yes x hx W
 have dx:=fun W=>digits_ref x (by omega) W
 obtain ⟨e1,_,e3⟩:=txt_nonneg x h0
 have hsz:=size_pos e3
 have h45:hd0 (txt x)≠45:=fun e=>by
  have:=(e1 _ (getD_mem (k:=0) (by rw [bl_len];exact hsz))).1
  rw [hd0] at e
  omega
 have hget:(txt x)[0].toNat≠45:=by rw [hd0_get _ hsz];exact h45
 rw [decide_eq_false (show ¬ x<0 by omega)] at dx
 generalize txt x=s at *
 generalize x.natAbs=n at *
 obtain ⟨r,hr⟩:∃ r,r=txt ((sqr n:Nat):Int):=⟨_,rfl⟩
 rw [←hr]
 have HR:Shut _:=⟨hr⟩
 clear hr
 clear hx h0 h45 e1 e3
 obtain ⟨L,hL⟩:∃ L,L=(natL n).length:=⟨_,rfl⟩
 have hsq:=sqr_room n L (by rw [hL];exact natL_lt n)
 obtain ⟨h,hh⟩:∃ h,h=(L+1) / 2:=⟨_,rfl⟩
 rw [←hh] at hsq
 have HSQ:Shut (sqr n<10^h):=⟨hsq⟩
 have HL:Shut _:=⟨hL⟩
 have hdv:(((natL n).length:Int)+1) / 2=(h:Int):=by rw [←hL];omega
 have hh100:h≤100:=by omega
 have hb2:(((s[0].toNat:Nat):Int) == 45)=false:=by rw [beq_eq_false_iff_ne];omega
 clear hsq hh
 go_enter Tryz.func153, Tryz.ntmps153
 go_upto_region 5 with (first | (go_at_call 48; with_reducible refine (ca _).mono ?_;rintro e w1 ⟨rfl,hm⟩;have hb1:=drawn_below hm;clear hm) | (go_at_call 100; with_reducible refine (dx _).mono ?_;rintro e w3 ⟨v3,rfl,hv3,hb3⟩;obtain ⟨p3,c3,g3,o3,rfl,_,_,_,_⟩:=hv3.open) | (at_make;go_must (refine make_j64 rfl _ _ rfl w3.heap.size h (by exact congrArg (Value.int .i64) hdv) (by exact congrArg (Value.int .i64) hdv) (by omega) (Nat.le_refl _) ?_);intro w5 hO5 hB5))
 go_upto_region 99 with fail
 obtain ⟨_,hu5, -,_,hm5⟩:=hO5.openS
 have HLB:Shut (L≤200∧n<10^L∧h≤100∧h=(L+1) / 2):=⟨⟨by rw [HL.o];exact lx,by rw [HL.o];exact natL_lt n,hh100,by omega⟩⟩
 have HS:Shut (QO w3 w5 h n h):=⟨⟨by rw [Nat.div_eq_of_lt HSQ.o,Nat.mul_zero,padL_zero];exact hu5,hB5⟩⟩
 have HW3:Shut _:=⟨And.intro hv3 (hb1.trans (hb3.mono hb1.size))⟩
 clear hO5 hu5 hB5 hb1 hb3 hv3 ca dx lx hdv
 go_loopw [7] (fun iv wr=>∃ j:Nat,j≤h∧iv = .int .i64 ((j:Int)-1)∧Shut (QO w3 wr h n j)) (fun iv _=>(intOf iv+1).toNat)
 case atStart=>exact ⟨h,Nat.le_refl _,by go_num,HS⟩
 case round =>
  clear HS
  rename World=>wo
  obtain ⟨j,hj,rfl,hS⟩:=hrel
  by_cases hj0:j=0
  ·subst hj0
   have hu:=hS.o.1
   rw [Nat.pow_zero,Nat.div_one,Nat.one_mul] at hu
   have hl:=padL_len h (sqr n)
   have hni2:NI wo (.slice (some ⟨w3.heap.size,0,none⟩) h h) (padL h (sqr n)):=⟨_,h,by rw [hl],by rw [hl];exact Nat.le_refl _,hm5,.inr ⟨_,0,rfl,hu.lt,hu.ia⟩⟩
   have ct:=trim_ref (padL h (sqr n)) _ wo hni2 (padL_dig _ _) (by omega)
   rw [padL_nv h (sqr n) HSQ.o] at ct
   have hls:(natL (sqr n)).length≤100:=Nat.le_trans (natL_len_le HSQ.o) hh100
   have cc:=fun (v:Value) (W:World) (hv:NI W v (natL (sqr n)))=>checked_ref false (sqr n) v W hv (by omega)
   rw [show sg false (sqr n)=((sqr n:Nat):Int) from rfl,calcR_fit (by unfold Fits;rw [decN_len,Int.natAbs_natCast];omega)] at cc
   rw [←HR.o] at cc
   have HBB:Shut _:=⟨HW3.o.2.trans (hS.o.2.mono HW3.o.2.size)⟩
   clear hu hni2 hl hls hS
   go_wp2_with (first | (go_at_call 151; refine ct.mono ?_;rintro e w6 ⟨u,rfl,hu2,_,rfl⟩) | (go_at_call 105; refine (cc _ _ hu2).mono ?_;rintro e w7 ⟨rfl,hb7⟩))
   go_ret2
   exact ⟨rfl,HBB.o.trans (hb7.mono HBB.o.size)⟩
  ·obtain ⟨j,rfl⟩:∃ j',j=j'+1:=⟨j-1,by omega⟩
   have hji:(((j+1:Nat):Int)-1)=(j:Int):=by omega
   rw [hji]
   have hjl:(j:Int)<(h:Int):=by omega
   have hu:=hS.o.1
   have hfz:=hu.frozen j
   have hcl:=hu.j64 j (by rw [padL_len];omega)
   have hs9:=hu.set64 j 9 (by rw [padL_len];omega)
   rw [padL_set h _ j 9 (by omega) (by omega)] at hs9
   have hd0:10^(j+1)*(sqr n / 10^(j+1)) / 10^j % 10=0:=by have:=digit_of (sqr n / 10^(j+1)) j 0 (by decide);rwa [Nat.mul_zero,Nat.add_zero] at this
   rw [hd0,Nat.mul_zero,Nat.sub_zero] at hs9
   have HI0:Shut (QI w3 (wo.setCell ⟨w3.heap.size,j,none⟩ (.int .i64 9)) h n j 9):=⟨⟨hs9,hS.o.2.setCell (p:=⟨w3.heap.size,j,none⟩) (Nat.le_refl _) _,root_first _ _⟩⟩
   clear hu hs9 hd0 hS
   go_upto_region 99 with fail
   go_loopw [] (fun wr=>∃ d:Nat,d≤9∧Shut (QI w3 wr h n j d)) (fun wr=>dgt wr w3.heap.size j)
   case atStart=>exact ⟨9,by omega,HI0⟩
   case round =>
    clear HI0 hcl hfz
    obtain ⟨d,hd,hT⟩:=hrel
    have hu:=hT.o.1
    have hcl:=hu.j64 j (by rw [padL_len];omega)
    have hfz:=hu.frozen j
    rw [padL_getD h _ j (by omega),digit_of _ j d (by omega)] at hcl
    have hdg:dgt wr w3.heap.size j=d:=by rw [dgt,hcl];simp
    have hXr:=root_room (sqr n) j h d (by omega) HSQ.o hd
    obtain ⟨X,hX⟩:∃ X,X=10^(j+1)*(sqr n / 10^(j+1))+10^j*d:=⟨_,rfl⟩
    by_cases hd0:d=0
    ·have HQ:Shut (QO w3 wr h n j):=⟨⟨by rw [←root_end (sqr n) j d _ rfl hT.o.2.2 (.inl hd0)];exact hT.o.1,hT.o.2.1⟩⟩
     subst hd0
     clear hT hu hdg hXr hX
     go_wp2
     exact ⟨⟨j,by omega,rfl,HQ⟩,by simp [intOf]⟩
    ·have hdi:(0:Int)<(d:Int):=by omega
     rw [←hX] at hXr hu
     have hl:=padL_len h X
     have hni:NI wr (.slice (some ⟨w3.heap.size,0,none⟩) h h) (padL h X):=⟨_,h,by rw [hl],by rw [hl];exact Nat.le_refl _,hm5,.inr ⟨_,0,rfl,hu.lt,hu.ia⟩⟩
     have ct:=fun (W:World) (hB:Below wr.heap.size wr W)=>trimmed_ref (padL h X) _ W (hni.below hB (Nat.le_refl _)) (padL_dig _ _) (by omega)
     rw [padL_nv h X hXr] at ct
     have hlX:(natL X).length≤100:=Nat.le_trans (natL_len_le hXr) hh100
     have hlXX:(natL (X*X)).length≤1000:=mul_len (by omega) (by omega)
     have cm:=fun (va vb:Value) (W:World) (ha:NI W va (natL X)) (hb:NI W vb (natL X))=>times_ref X X va vb W ha hb (by omega) (by omega)
     have hLn:NI wr (.slice p3 (natL n).length c3) (natL n):=HW3.o.1.below hT.o.2.1 (Nat.le_refl _)
     have co:=fun (va:Value) (W:World) (ha:NI W va (natL (X*X))) (hB:Below wr.heap.size wr W)=>order_ref (X*X) n va _ W ha (hLn.below hB (Nat.le_refl _)) hlXX (by have:=HLB.o.1;have:=HL.o;omega)
     by_cases hgt:n<X*X
     ·have hcm:0<cmpN (X*X) n:=by unfold cmpN;(repeat' split) <;> omega
      have hsX:sqr n<X:=by
       rcases Nat.lt_or_ge (sqr n) X with h1 | h1
       ·exact h1
       ·exact absurd (sqr_le.2 h1) (by omega)
      obtain ⟨d,rfl⟩:∃ d',d=d'+1:=⟨d-1,by omega⟩
      have HFIN:Shut (∀ (m:Nat) (W:World),Below wr.heap.size wr W→(W.drewN m).cell? ⟨w3.heap.size,j,none⟩=some (.int .i64 ((d+1:Nat):Int))∧(W.drewN m).frozen? ⟨w3.heap.size,j,none⟩=false∧QI w3 ((W.drewN m).setCell ⟨w3.heap.size,j,none⟩ (.int .i64 ((d:Nat):Int))) h n j d∧dgt ((W.drewN m).setCell ⟨w3.heap.size,j,none⟩ (.int .i64 ((d:Nat):Int))) w3.heap.size j=d):=⟨fun m W hB=>by
       have hir:=(hT.o.1.below hB hT.o.1.lt).drewN m
       have hc:=hir.j64 j (by rw [padL_len];omega)
       rw [padL_getD h _ j (by omega),digit_of _ j (d+1) (by omega)] at hc
       have h2:=hir.set64 j d (by rw [padL_len];omega)
       rw [padL_set h _ j d (by omega) (by omega),digit_of _ j (d+1) (by omega),show 10^(j+1)*(sqr n / 10^(j+1))+10^j*(d+1)+10^j*d-10^j*(d+1)=10^(j+1)*(sqr n / 10^(j+1))+10^j*d by omega] at h2
       have h9:=h2.j64 j (by rw [padL_len];omega)
       rw [padL_getD h _ j (by omega),digit_of _ j d (by omega)] at h9
       refine ⟨hc,hir.frozen j,⟨h2, ?_, ?_⟩,by rw [dgt,h9];simp⟩
       ·exact (below_drewN (hT.o.2.1.trans (hB.mono hT.o.2.1.size)) m).setCell (p:=⟨w3.heap.size,j,none⟩) (Nat.le_refl _) _
       ·rw [Nat.mul_add,Nat.mul_one] at hX;omega⟩
      have HDG:Shut _:=⟨hdg⟩
      have hd9:d≤9:=by omega
      clear hT hni hX hXr hl hlX hlXX hLn hgt hsX hdg hu
      generalize cmpN (X*X) n=cv at *
      go_wp2_with (first | (go_at_call 173; with_reducible refine (ct wr (Below.refl _ _)).mono ?_;rintro e w5 ⟨u5,rfl,hu5,hb5⟩) | (go_at_call 173; with_reducible refine (ct w5 hb5).mono ?_;rintro e w6 ⟨u6,rfl,hu6,hb6⟩;have hu7:=hu5.below hb6 (Nat.le_refl _);have hb56:=hb5.trans (hb6.mono hb5.size)) | (go_at_call 150; with_reducible refine (cm u5 u6 w6 hu7 hu6).mono ?_;rintro e w8 ⟨u8,rfl,hu8,hb8⟩;have hb58:=hb56.trans (hb8.mono hb56.size)) | (go_at_call 103; with_reducible refine (co u8 w8 hu8 hb58).mono ?_;rintro e w9 ⟨rfl,m,rfl⟩;obtain ⟨hc9,hf9,hQ9⟩:=HFIN.o m w8 hb58;have HQ9:Shut _:=⟨hQ9.1⟩;have HDQ:Shut _:=⟨hQ9.2⟩;clear hQ9))
      exact ⟨⟨d,hd9,HQ9⟩,by rw [HDQ.o,HDG.o];omega⟩
     ·have hcm:¬ 0<cmpN (X*X) n:=by unfold cmpN;(repeat' split) <;> omega
      have hsX:X≤sqr n:=sqr_le.1 (by omega)
      have hQE:=root_end (sqr n) j d X hX (by rw [hX];exact hT.o.2.2) (.inr hsX)
      have HQ:Shut (∀ (m:Nat) (W:World),Below wr.heap.size wr W→QO w3 (W.drewN m) h n j):=⟨fun m W hB=>⟨by rw [←hQE,hX];exact (hT.o.1.below hB hT.o.1.lt).drewN m,below_drewN (hT.o.2.1.trans (hB.mono hT.o.2.1.size)) m⟩⟩
      clear hT hni hX hXr hl hlX hlXX hLn hgt hsX hdg hu hQE
      generalize cmpN (X*X) n=cv at *
      go_wp2_with (first | (go_at_call 173; with_reducible refine (ct wr (Below.refl _ _)).mono ?_;rintro e w5 ⟨u5,rfl,hu5,hb5⟩) | (go_at_call 173; with_reducible refine (ct w5 hb5).mono ?_;rintro e w6 ⟨u6,rfl,hu6,hb6⟩;have hu7:=hu5.below hb6 (Nat.le_refl _);have hb56:=hb5.trans (hb6.mono hb5.size)) | (go_at_call 150; with_reducible refine (cm u5 u6 w6 hu7 hu6).mono ?_;rintro e w8 ⟨u8,rfl,hu8,hb8⟩;have hb58:=hb56.trans (hb8.mono hb56.size)) | (go_at_call 103; with_reducible refine (co u8 w8 hu8 hb58).mono ?_;rintro e w9 ⟨rfl,m,rfl⟩))
      exact ⟨⟨j,by omega,rfl,⟨HQ.o m w8 hb58⟩⟩,by simp [intOf]⟩
end N10
end
section
namespace En
open Go.RowKit Go.Extern.Stop Go.Stop Go.Extern
open Go.Proofs.YtbfonkabmehlmaaGreatDoor.Nm Go.Proofs.YtbfonkabmehlmaaGreatDoor.Rt
open N10 (Two)
theorem bR_form (o:Option (ByteArray×ByteArray)):∃ (n d:ByteArray) (c:Int),bR o = .tuple #[.agg #[Z n,Z d],.int .i64 c]∧(c=0∨c=40):=by
 cases o with
 | none=>exact ⟨_,_,40,rfl,.inr rfl⟩
 | some x=>exact ⟨x.1,x.2,0,rfl,.inl rfl⟩
theorem resS (l0 l1 g0 g1:ByteArray) (e f:Int):∃ (m:P4) (c:Int),Ret 109 #[.agg #[Z l0,Z l1],.int .i64 e,.agg #[Z g0,Z g1],.int .i64 f] (.tuple #[.agg #[Z m.1.1,Z m.1.2,Z m.2.1,Z m.2.2],.int .i64 c])∧((e=0∧f=0∧m=((l0,l1),(g0,g1))∧c=0)∨(¬(e=0∧f=0)∧m=m0∧c=50)):=by
 by_cases h:e=0∧f=0
 ·obtain ⟨rfl,rfl⟩:=h
  exact ⟨((l0,l1),(g0,g1)),0,resultS_ok _ _ _ _,.inl ⟨rfl,rfl,rfl,rfl⟩⟩
 ·exact ⟨m0,50,resultS_bad _ _ _ _ _ _ h,.inr ⟨h,rfl,rfl⟩⟩
theorem pair_Round (a:Addr) (x0 x1 x2 x3:ByteArray) (hx:Sz x0 x1 x2 x3) (p:Int):Pair a 41 62 #[ivl x0 x1 x2 x3,.int .i64 p]:=by
 have hV:=iValid_all x0 x1 x2 x3 hx
 have hR:=iValidR_all x0 x1 x2 x3 hx
 cases hi:(iOf x0 x1 x2 x3).isSome with
 | false =>
  rw [hi] at hV hR
  refine ⟨m0,50,fun W hW => ?_,RoundS_no _ _ _ _ p hR⟩
  have c:=liftRound a x0 x1 x2 x3 ⟨#[]⟩ ⟨#[]⟩ ⟨#[]⟩ ⟨#[]⟩ p false true (fun h=>by cases h) hV W hW
  rw [if_neg (fun h=>by cases h.1)] at c
  exact c
 | true =>
  rw [hi] at hV hR
  obtain ⟨n,d,e,h1, -⟩:=bR_form (downR x0 x1 p)
  obtain ⟨n',d',f,h2, -⟩:=bR_form (upR x2 x3 p)
  obtain ⟨m,c,hres,hw⟩:=resS n d n' d' e f
  have dC:=fun W=>Down_all x0 x1 hx.a hx.b p W
  have uC:=fun W=>Up_all x2 x3 hx.c hx.d p W
  have dR:=fun W=>DownR_all x0 x1 hx.a hx.b p W
  have uR:=fun W=>UpR_all x2 x3 hx.c hx.d p W
  rw [h1] at dC dR
  rw [h2] at uC uR
  refine ⟨m,c,fun W hW => ?_,RoundS x0 x1 x2 x3 n d n' d' _ _ _ _ p e f c hR dR uR hres⟩
  have k:=liftRound a x0 x1 x2 x3 n d n' d' p true (!(decide (e=0∧f=0))) (fun _ Bx Bp V hv hx' hp=>(round_clo a Bx Bp x0 x1 x2 x3 n d n' d' p e f dC uC V hv hx' hp).mono (fun e' V' h=>⟨by rw [h.1];exact end_bad _ _ _ _ _ _ _,h.2⟩)) hV W hW
  rcases hw with ⟨rfl,rfl,rfl,rfl⟩ | ⟨hn,rfl,rfl⟩
  ·rw [if_pos ⟨rfl,rfl⟩] at k;exact k
  ·rw [if_neg (fun h=>by have:=h.2;rw [decide_eq_false hn] at this;cases this)] at k;exact k
theorem pair_Width (a:Addr) (x0 x1 x2 x3:ByteArray) (hx:Sz x0 x1 x2 x3):∃ (n d:ByteArray) (c:Int),LC a 18 #[ivl x0 x1 x2 x3] (.tuple #[.agg #[Z n,Z d],.int .i64 c])∧Ret 19 #[ivl x0 x1 x2 x3] (.tuple #[.agg #[Z n,Z d],.int .i64 c]):=by
 have hV:=iValid_all x0 x1 x2 x3 hx
 have hR:=iValidR_all x0 x1 x2 x3 hx
 obtain ⟨s,t,e,hs, -⟩:=bR_form (sumR opSub x2 x3 x0 x1)
 have sR:=fun W=>SubR_all x2 x3 x0 x1 hx.c hx.d hx.a hx.b W
 have sC:=fun W=>Sub_all x2 x3 x0 x1 hx.c hx.d hx.a hx.b W
 rw [hs] at sR sC
 cases hi:(iOf x0 x1 x2 x3).isSome with
 | false =>
  rw [hi] at hV hR
  refine ⟨⟨#[]⟩,⟨#[]⟩,50,fun W hW => ?_,WidthS_no _ _ _ _ s t false e hR sR (.inl rfl)⟩
  have c:=Width_any a x0 x1 x2 x3 s t e false (fun h=>by cases h) hV W hW
  rw [if_neg (fun h=>by cases h.1)] at c
  exact c
 | true =>
  rw [hi] at hV hR
  by_cases he:e=0
  ·subst he
   refine ⟨s,t,0,fun W hW => ?_,WidthS _ _ _ _ s t hR sR⟩
   have c:=Width_any a x0 x1 x2 x3 s t 0 true (fun _=>sC) hV W hW
   rw [if_pos ⟨rfl,rfl⟩] at c
   exact c
  ·refine ⟨⟨#[]⟩,⟨#[]⟩,50,fun W hW => ?_,WidthS_no _ _ _ _ s t true e hR sR (.inr ⟨rfl,he⟩)⟩
   have c:=Width_any a x0 x1 x2 x3 s t e true (fun _=>sC) hV W hW
   rw [if_neg (fun h=>he h.2)] at c
   exact c
theorem fits_ten {x:Int} {c:Nat} (h:Fits (x*10^c)):Fits x:=by
 refine fits_le h ?_
 rw [Int.natAbs_mul,Int.natAbs_pow]
 exact Nat.le_mul_of_pos_right _ (Nat.pow_pos (by decide))
theorem root_G (a:Addr) {r:Rat} (hr:FitQ r) {c:Nat} (hc:c≤30):∃ (o:ByteArray) (ex bad:Bool),RootC a (txt r.num) (txt (r.den:Int)) (txt (10^c)) o ex bad∧(bad=true↔r.num<0∨¬ Fits (xN r c)):=by
 have hf:Fits ((10:Int)^c):=pow_fits c hc
 by_cases f2:Fits (xN r c)
 ·have f2':Fits (r.num*10^c*10^c):=f2
  have f1:Fits (r.num*10^c):=fits_ten f2'
  by_cases h0:r.num<0
  ·exact ⟨⟨#[]⟩,false,true,root_neg_q a hr h0 hf f1 f2' _ _,⟨fun _ => .inl h0,fun _=>rfl⟩⟩
  ·exact ⟨_,_,false,root_q a hr (by omega) hf f1 f2',⟨fun h=>(by cases h),fun h=>h.elim (fun h=>absurd h h0) (fun h=>absurd f2 h)⟩⟩
 ·refine ⟨⟨#[]⟩,false,true,fun W hW => ?_,⟨fun _ => .inr f2,fun _=>rfl⟩⟩
  by_cases f1:Fits (r.num*10^c)
  ·have k:=root_any a (txt r.num) (txt (r.den:Int)) (txt (10^c)) (txt (r.num*10^c)) ⟨#[]⟩ ⟨#[]⟩ ⟨#[]⟩ ⟨#[]⟩ ⟨#[]⟩ 0 30 0 0 _ _ (fun V=>by have:=Mul_ok r.num (10^c) hr.1 hf V;rw [calcR_fit f1] at this;exact this) (fun _ V=>by have:=Mul_ok (r.num*10^c) (10^c) f1 hf V;rw [calcR_not (show ¬ Fits (r.num*10^c*10^c) from f2)] at this;exact this) (fun _ h=>by cases h) (fun _ h=>by cases h) rfl (fun _ h=>by cases h) rfl W hW
   rw [if_neg (fun h=>by cases h.2.1)] at k
   exact k
  ·have k:=root_any a (txt r.num) (txt (r.den:Int)) (txt (10^c)) ⟨#[]⟩ ⟨#[]⟩ ⟨#[]⟩ ⟨#[]⟩ ⟨#[]⟩ ⟨#[]⟩ 30 0 0 0 _ _ (fun V=>by have:=Mul_ok r.num (10^c) hr.1 hf V;rw [calcR_not f1] at this;exact this) (fun h=>by cases h) (fun h=>by cases h) (fun h=>by cases h) rfl (fun h=>by cases h) rfl W hW
   rw [if_neg (fun h=>by cases h.1)] at k
   exact k
theorem pow_two (x:Int) (c:Nat):x*10^(2*c)=x*10^c*10^c:=by rw [show 2*c=c+c by omega,Int.pow_add,←Int.mul_assoc]
theorem pow_fits60 {c:Nat} (hc:c≤30):Fits ((10:Int)^(2*c)):=fits_small (by rw [Int.natAbs_pow];exact Nat.pow_lt_pow_right (by decide) (by omega))
theorem least_one {x d n m:Int} (hd:0<d) (n0:0≤n) (m0:0≤m) (h1:x≤n*n*d) (h2:n=0∨(n-1)*(n-1)*d<x) (h3:x≤m*m*d) (h4:m=0∨(m-1)*(m-1)*d<x):n=m:=by
 have a:n-1<m∨n=0:=by
  rcases h2 with h | h
  ·exact .inr h
  ·exact .inl (cross_lt2 hd hd m0 h (Int.le_refl _) h3)
 have b:m-1<n∨m=0:=by
  rcases h4 with h | h
  ·exact .inr h
  ·exact .inl (cross_lt2 hd hd n0 h (Int.le_refl _) h1)
 omega
theorem rootR_dn {r:Rat} (hr:FitQ r) (h0:0≤r.num) {c:Nat} (hc:c≤30) (hf:Fits (xN r c)):Ret 112 #[.agg #[Z (txt r.num),Z (txt (r.den:Int))],.int .i64 (c:Int),.bool false] (.tuple #[Z (txt ((rtN r c:Nat):Int)),.bool true]):=by
 obtain ⟨s1,s2⟩:=sqN_fit h0 hf
 obtain ⟨g1,g2⟩:=rtN_fit h0 hf
 have hd:=den_posI r
 refine rootS_dn _ _ (txt (xN r c)) (txt (sqN r c)) (txt (xN r c % (r.den:Int))) _ (txt (((rtN r c:Nat):Int)*((rtN r c:Nat):Int))) c hc (fun W => ?_) (fun W=>N10.Div_ref _ _ hf hr.2 (by omega) W) (fun W=>N10.Root_ref _ s1 s2 W) (fun W => ?_)
 ·rw [T10_int]
  have:=N10.Mul_ref r.num (10^(2*c)) hr.1 (pow_fits60 hc) W
  rw [pow_two,calcR_fit (show Fits (r.num*10^c*10^c) from hf)] at this
  exact this
 ·have:=N10.Mul_ref _ _ g1 g1 W
  rw [calcR_fit g2] at this
  exact this
theorem rootR_no {r:Rat} (hr:FitQ r) {c:Nat} (hc:c≤30) (up:Bool) (hf:¬ Fits (xN r c)):Ret 112 #[.agg #[Z (txt r.num),Z (txt (r.den:Int))],.int .i64 (c:Int),.bool up] (.tuple #[Z ⟨#[]⟩,.bool false]):=by
 refine rootS_no _ _ ⟨#[]⟩ c hc up 30 (by decide) (fun W => ?_)
 rw [T10_int]
 have:=N10.Mul_ref r.num (10^(2*c)) hr.1 (pow_fits60 hc) W
 rw [pow_two,calcR_not (show ¬ Fits (r.num*10^c*10^c) from hf)] at this
 exact this
theorem fits_up {q d x:Int} (h0:0≤x) (hd:0<d) (hx:Fits x) (hq:q=x / d) (hz:x % d≠0):Fits (q+1):=by
 have e:=Int.mul_ediv_add_emod x d
 have l1:=Int.emod_nonneg x (show d≠0 by omega)
 have hq0:0≤q:=by rw [hq];exact Int.ediv_nonneg h0 (Int.le_of_lt hd)
 refine fits_le hx ?_
 have h1:q≤d*q:=by
  have:=Int.mul_le_mul_of_nonneg_right (show (1:Int)≤d by omega) hq0
  rwa [Int.one_mul] at this
 rw [←hq] at e
 generalize d*q=z at *
 omega
theorem rootR_up {r:Rat} (hr:FitQ r) (h0:0≤r.num) {c:Nat} (hc:c≤30) (hf:Fits (xN r c)):Ret 112 #[.agg #[Z (txt r.num),Z (txt (r.den:Int))],.int .i64 (c:Int),.bool true] (.tuple #[Z (txt (upN r c)),.bool true]):=by
 obtain ⟨s1,s2⟩:=sqN_fit h0 hf
 have hd:=den_posI r
 have hX:=xN_nonneg h0 c
 have t1:txt 1=(⟨#[49]⟩:ByteArray):=by decide +kernel
 obtain ⟨q',hq',fq',q0⟩:∃ q':Int,q'=(if xN r c % (r.den:Int)=0 then sqN r c else sqN r c+1)∧Fits q'∧0≤q':=by
  refine ⟨_,rfl, ?_⟩
  split
  ·exact ⟨s1,s2⟩
  ·rename_i h;exact ⟨fits_up hX hd hf rfl h,by omega⟩
 obtain ⟨g1,g2⟩:=sqr_spec q'.natAbs
 obtain ⟨m,hm⟩:∃ m,m=sqr q'.natAbs:=⟨_,rfl⟩
 rw [←hm] at g1 g2
 have gq:((q'.natAbs:Nat):Int)=q':=by omega
 have g1':(m:Int)*(m:Int)≤q':=by rw [←gq];exact_mod_cast g1
 have g2':q'<((m:Int)+1)*((m:Int)+1):=by
  have:((q'.natAbs:Nat):Int)<((m:Int)+1)*((m:Int)+1):=by exact_mod_cast g2
  rwa [gq] at this
 have fmm:Fits ((m:Int)*(m:Int)):=fits_le fq' (by
  have a0:(0:Int)≤(m:Int)*(m:Int):=Int.mul_nonneg (by omega) (by omega)
  generalize (m:Int)*(m:Int)=z at *
  omega)
 have mle:(m:Int)≤(m:Int)*(m:Int):=by
  have:=Nat.le_mul_self m
  exact_mod_cast this
 have fm:Fits (m:Int):=fits_le fmm (by
  generalize (m:Int)*(m:Int)=z at *
  omega)
 have hx:=Int.mul_ediv_add_emod (xN r c) (r.den:Int)
 have l1:=Int.emod_nonneg (xN r c) (show (r.den:Int)≠0 by omega)
 have l2:=Int.emod_lt_of_pos (xN r c) hd
 have hs:sqN r c=xN r c / (r.den:Int):=rfl
 rw [←hs] at hx
 have k1:xN r c≤q'*r.den:=by
  rw [hq'];split
  ·rw [Int.mul_comm];omega
  ·rw [Int.add_mul,Int.one_mul,Int.mul_comm (sqN r c)];omega
 have k2:(q'-1)*r.den<xN r c:=by
  rw [hq'];split
  ·rw [Int.sub_mul,Int.one_mul,Int.mul_comm (sqN r c)];omega
  ·rw [Int.add_sub_cancel,Int.mul_comm];omega
 obtain ⟨u0,u1,u2⟩:=up_spec h0 c
 have mono:∀ {x y:Int},x≤y→x*(r.den:Int)≤y*r.den:=fun h=>Int.mul_le_mul_of_nonneg_right h (Int.le_of_lt hd)
 have hres:upN r c=if (m:Int)*(m:Int)=q' then (m:Int) else (m:Int)+1:=by
  by_cases hc2:(m:Int)*(m:Int)=q'
  ·rw [if_pos hc2]
   refine least_one hd u0 (by omega) u1 u2 (by rw [hc2];exact k1) ?_
   by_cases hz:(m:Int)=0
   ·exact .inl hz
   ·right
    have:((m:Int)-1)*((m:Int)-1)≤q'-1:=by
     rw [←hc2,Int.sub_mul,Int.mul_sub]
     have:1≤(m:Int):=by omega
     generalize (m:Int)*(m:Int)=z at *
     omega
    exact Int.lt_of_le_of_lt (mono this) k2
  ·rw [if_neg hc2]
   refine least_one hd u0 (by omega) u1 u2 ?_ (.inr ?_)
   ·exact Int.le_trans k1 (mono (Int.le_of_lt g2'))
   ·rw [Int.add_sub_cancel]
    exact Int.lt_of_le_of_lt (mono (show (m:Int)*(m:Int)≤q'-1 by omega)) k2
 have fm1:(m:Int)*(m:Int)≠q'→Fits ((m:Int)+1):=fun hn=>fits_le fq' (by
  generalize (m:Int)*(m:Int)=z at *
  omega)
 have c':=rootS_up (txt r.num) (txt (r.den:Int)) (txt (xN r c)) (txt (sqN r c)) (txt (sqN r c+1)) (txt q') (txt (xN r c % (r.den:Int))) (txt (m:Int)) (txt ((m:Int)+1)) (txt ((m:Int)*(m:Int))) c hc (decide (xN r c % (r.den:Int)=0)) (decide ((m:Int)*(m:Int)=q')) (txt_eq0 _) (by rw [str_eq,decide_eq_decide];exact ⟨fun h=>txt_inj h,fun h=>by rw [h]⟩)
  (by rw [hq'];by_cases h:xN r c % (r.den:Int)=0
      ·rw [if_pos h,if_pos (decide_eq_true h)]
      ·rw [if_neg h,if_neg (by rw [decide_eq_false h];decide)])
  (fun W=>by
   rw [T10_int]
   have:=N10.Mul_ref r.num (10^(2*c)) hr.1 (pow_fits60 hc) W
   rw [pow_two,calcR_fit (show Fits (r.num*10^c*10^c) from hf)] at this
   exact this)
  (fun W=>N10.Div_ref _ _ hf hr.2 (by omega) W)
  (fun hz W=>by
   have:=N10.Add_ref (sqN r c) 1 s1 (fits_small (by decide)) W
   rw [calcR_fit (show Fits (sqN r c+1) from fits_up hX hd hf rfl (of_decide_eq_false hz)),t1] at this
   exact this)
  (fun W=>by rw [hm];exact N10.Root_ref q' fq' q0 W)
  (fun W=>by have:=N10.Mul_ref _ _ fm fm W;rw [calcR_fit fmm] at this;exact this)
  (fun hz W=>by
   have:=N10.Add_ref (m:Int) 1 fm (fits_small (by decide)) W
   rw [calcR_fit (fm1 (of_decide_eq_false hz)),t1] at this
   exact this)
 rw [hres]
 by_cases hc2:(m:Int)*(m:Int)=q'
 ·rw [if_pos hc2];rw [if_pos (decide_eq_true hc2)] at c';exact c'
 ·rw [if_neg hc2];rw [if_neg (by rw [decide_eq_false hc2];decide)] at c';exact c'
end En
end
section
namespace En
open Go.RowKit Go.Extern.Stop Go.Stop Go.Extern
open Go.Proofs.YtbfonkabmehlmaaGreatDoor.Nm Go.Proofs.YtbfonkabmehlmaaGreatDoor.Rt
open N10 (Two)
theorem Sqrt_none (a:Addr) {p q:Rat} (h1:FitQ p) (h2:FitQ q) (o:p≤q) (k:Int) (hk:(k<0∨30<k)∨∃ c:Nat,k=(c:Int)∧c≤30∧((p.num<0∨¬ Fits (xN p c))∨(q.num<0∨¬ Fits (xN q c)))):IC a 34 #[iq p q,.int .i64 k] none:=by
 intro W hW
 have v1:=iValid_q h1 h2
 rw [decide_eq_true o] at v1
 rcases hk with hk | ⟨c,rfl,hc,hb⟩
 ·have s:=liftSqrt a _ _ _ _ ⟨#[]⟩ ⟨#[]⟩ ⟨#[]⟩ ⟨#[]⟩ k true true (fun _ Bx Bp V hv hx hp=>(sqrt_clo a Bp Bx _ _ _ _ ⟨#[]⟩ (⟨#[49]⟩ ++ ⟨#[]⟩) ⟨#[]⟩ ⟨#[]⟩ ⟨#[]⟩ (if false then ⟨#[]⟩ else ⟨#[]⟩) ⟨#[]⟩ ⟨#[]⟩ ⟨#[]⟩ ⟨#[]⟩ k false true true false false ⟨fun h=>(by cases h),fun h=>(by omega)⟩
   (fun h=>by cases h) (Nat.zero_le _) rfl (fun h=>by cases h) (fun h=>by cases h) (fun h=>by cases h) rfl (fun h=>by cases h) (fun h=>by cases h) V hv hx hp).mono (fun e V' h=>⟨by rw [h.1,if_neg (fun h=>by cases h.1)];rfl,h.2⟩)) v1 W hW
  rw [if_neg (fun h=>by cases h.2)] at s
  exact s
 ·obtain ⟨o1,e1,b1,hL,w1⟩:=root_G a h1 hc
  obtain ⟨o2,e2,b2,hH,w2⟩:=root_G a h2 hc
  have hbb:¬(b1=false∧b2=false):=fun h=>by
   rcases hb with hb | hb
   ·rw [w1.2 hb] at h;cases h.1
   ·rw [w2.2 hb] at h;cases h.2
  have s:=liftSqrt a _ _ _ _ ⟨#[]⟩ ⟨#[]⟩ ⟨#[]⟩ ⟨#[]⟩ (c:Int) true true (fun _ Bx Bp V hv hx hp=>(sqrt_clo a Bp Bx _ _ _ _ ⟨(Lib.repeatL [48] c).toArray⟩ (txt (10^c)) o1 o2 ⟨#[]⟩ (if e2 then o2 else ⟨#[]⟩) ⟨#[]⟩ ⟨#[]⟩ ⟨#[]⟩ ⟨#[]⟩ (c:Int) true b1 b2 e1 e2 ⟨fun _=>by omega,fun _=>rfl⟩
   (fun _ V'=>Repeat_all c hc V') (zs_size c hc) (units_eq c hc) (fun _=>hL) (fun _=>hH)
   (fun _ h3 h4=>absurd ⟨h3,h4⟩ hbb) rfl (fun _ h3 h4=>absurd ⟨h3,h4⟩ hbb) (fun _ h3 h4=>absurd ⟨h3,h4⟩ hbb) V hv hx hp).mono (fun e V' h=>⟨by rw [h.1,if_neg (fun h=>hbb ⟨h.2.1,h.2.2⟩)];rfl,h.2⟩)) v1 W hW
  rw [if_neg (fun h=>by cases h.2)] at s
  exact s
theorem zero_cmpR {p:Rat} (hp:FitQ p):Ret 67 #[.agg #[Z (txt p.num),Z (txt (p.den:Int))],.agg #[Z ⟨#[48]⟩,Z ⟨#[49]⟩]] (.int .i64 (cmpQ p 0)):=by
 have f0:FitQ 0:=⟨fits_small (by decide),fits_small (by decide)⟩
 rw [←rq0]
 exact CompareR_q hp f0
theorem MakeR_q {x y:Int} (hx:Fits x) (hy:Fits y) (h0:y≠0):Ret 44 #[Z (txt x),Z (txt y)] (.tuple #[.agg #[Z (txt (Rat.divInt x y).num),Z (txt ((Rat.divInt x y).den:Int))],.int .i64 0]) :=
 two_MK x y hx hy _ _ 0 (by rw [red_q hx hy h0];rfl)
theorem pair_Sqrt (a:Addr) (x0 x1 x2 x3:ByteArray) (hx:Sz x0 x1 x2 x3) (k:Int):Pair a 34 61 #[ivl x0 x1 x2 x3,.int .i64 k]:=by
 have hV:=iValid_all x0 x1 x2 x3 hx
 have hR:=iValidR_all x0 x1 x2 x3 hx
 cases hi:iOf x0 x1 x2 x3 with
 | none =>
  rw [hi] at hV hR
  refine ⟨m0,50,fun W hW => ?_,SqrtS_inv _ _ _ _ k hR⟩
  have c:=liftSqrt a x0 x1 x2 x3 ⟨#[]⟩ ⟨#[]⟩ ⟨#[]⟩ ⟨#[]⟩ k false true (fun h=>by cases h) hV W hW
  rw [if_neg (fun h=>by cases h.1)] at c
  exact c
 | some P =>
  obtain ⟨p,q⟩:=P
  rw [hi] at hR
  obtain ⟨f1,f2,o,e1,e2,e3,e4⟩:=iOf_some hi
  subst e1 e2 e3 e4
  have hK:=zero_cmpR f1
  by_cases hkr:k<0∨30<k
  ·exact Pair.of (o:=none) (Sqrt_none a f1 f2 o k (.inl hkr)) (SqrtS_no _ _ _ _ k _ hR hK (.inr hkr))
  obtain ⟨c,rfl⟩:=Int.eq_ofNat_of_zero_le (show 0≤k by omega)
  have hc:c≤30:=by omega
  by_cases hp:p.num<0
  ·refine Pair.of (o:=none) (Sqrt_none a f1 f2 o _ (.inr ⟨c,rfl,hc,.inl (.inl hp)⟩)) (SqrtS_no _ _ _ _ _ _ hR hK (.inl ?_))
   have:=mt (cmp_ge p 0).1 (fun h=>by have:=Rat.num_nonneg.2 h;omega)
   omega
  have np:0≤p.num:=by omega
  have nq:0≤q.num:=Rat.num_nonneg.2 (Rat.le_trans (Rat.num_nonneg.1 np) o)
  have hk0:0≤cmpQ p 0:=(cmp_ge p 0).2 (Rat.num_nonneg.1 np)
  by_cases fp:Fits (xN p c)
  ·by_cases fq:Fits (xN q c)
   ·have C:=Sqrt_I a f1 f2 o np nq hc (fits_ten fp) fp (fits_ten fq) fq
    have hf:=pow_fits c hc
    have hne:((10:Int)^c)≠0:=Int.ne_of_gt (pow_big c hc).2
    have hup:Fits (upN q c):=by
     rw [upN];split
     ·exact (rtN_fit nq fq).1
     ·exact upN_fit nq fq
    have hM:=MakeR_q (rtN_fit np fp).1 hf hne
    have hN:=MakeR_q hup hf hne
    rw [←T10_int] at hM hN
    exact Pair.of C (SqrtS _ _ _ _ _ _ _ _ _ _ _ _ _ _ c _ 0 0 0 hc hk0 hR hK (rootR_dn f1 np hc fp) (rootR_up f2 nq hc fq) hM hN (resultS_ok _ _ _ _))
   ·exact Pair.of (o:=none) (Sqrt_none a f1 f2 o _ (.inr ⟨c,rfl,hc,.inr (.inr fq)⟩)) (SqrtS_bad _ _ _ _ _ _ true false c _ hc hk0 hR hK (rootR_dn f1 np hc fp) (rootR_no f2 hc true fq) (.inr ⟨rfl,rfl⟩))
  ·by_cases fq:Fits (xN q c)
   ·exact Pair.of (o:=none) (Sqrt_none a f1 f2 o _ (.inr ⟨c,rfl,hc,.inl (.inr fp)⟩)) (SqrtS_bad _ _ _ _ _ _ false true c _ hc hk0 hR hK (rootR_no f1 hc false fp) (rootR_up f2 nq hc fq) (.inl rfl))
   ·exact Pair.of (o:=none) (Sqrt_none a f1 f2 o _ (.inr ⟨c,rfl,hc,.inl (.inr fp)⟩)) (SqrtS_bad _ _ _ _ _ _ false false c _ hc hk0 hR hK (rootR_no f1 hc false fp) (rootR_no f2 hc true fq) (.inl rfl))
end En
end
end Go.Proofs.YtbfonkabmehlmaaGreatDoor
