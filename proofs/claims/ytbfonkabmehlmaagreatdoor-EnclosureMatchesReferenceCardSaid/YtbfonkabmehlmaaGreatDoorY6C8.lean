/-
  Package enclosure over fractions: Meet; the law's sane.
-/
import Derived.Test.YtbfonkabmehlmaaGreatDoorY6C6
import Derived.Test.YtbfonkabmehlmaaGreatDoorY6C3
import Derived.Deep.RegionHeld3
set_option maxRecDepth 1000000
set_option maxHeartbeats 40000000
open Go.Value renaming string→Z
open Go.Obj renaming cells→O
namespace Go.Proofs.YtbfonkabmehlmaaGreatDoor
section
namespace En
open Go.RowKit Go.Extern.Stop Go.Stop Go.Extern
open Go.Proofs.YtbfonkabmehlmaaGreatDoor.Nm Go.Proofs.YtbfonkabmehlmaaGreatDoor.Rt
theorem Meet_I (a:Addr) {p1 q1 p2 q2:Rat} (h1:FitQ p1) (h2:FitQ q1) (h3:FitQ p2) (h4:FitQ q2) (o1:p1≤q1) (o2:p2≤q2):IC a 36 #[iq p1 q1,iq p2 q2] (if maxQ p1 p2≤minQ q1 q2 then some (maxQ p1 p2,minQ q1 q2) else none):=by
 intro W hW
 have v1:=iValid_q h1 h2
 have v2:=iValid_q h3 h4
 rw [decide_eq_true o1] at v1
 rw [decide_eq_true o2] at v2
 have hA:=atMost_q (FitQ.maxQ h1 h3) (FitQ.minQ h2 h4)
 have c:=liftMeet a _ _ _ _ _ _ _ _ _ _ _ _ true true (!decide (maxQ p1 p2≤minQ q1 q2)) (fun _ _ Bx By V hv hx hy=>(meet_clo a Bx By _ _ _ _ _ _ _ _ (pq (maxQ p1 p2)) (pq (minQ q1 q2)) (greatest2 h1 h3) (least2 h2 h4) _ hA V hv hx hy).mono (fun e V' h=>⟨by rw [h.1];cases decide (maxQ p1 p2≤minQ q1 q2) <;> rfl,h.2⟩)) v1 v2 W hW
 refine c.mono (fun e V' h=>⟨?_,h.2⟩)
 rw [h.1]
 by_cases hc:maxQ p1 p2≤minQ q1 q2
 ·rw [if_pos hc,decide_eq_true hc];rfl
 ·rw [if_neg hc,decide_eq_false hc];rfl
end En
end
section
namespace En
open Go.RowKit Go.Extern.Stop Go.Stop Go.Extern
open Go.Proofs.YtbfonkabmehlmaaGreatDoor.Nm Go.Proofs.YtbfonkabmehlmaaGreatDoor.Rt
theorem iq_lit {p q:Rat} {a b c d:ByteArray} (h1:txtQ p=(a,b)) (h2:txtQ q=(c,d)):iq p q = .agg #[Z a,Z b,Z c,Z d] :=
 (congrArg (fun x:P2×P2=>Value.agg #[Z x.1.1,Z x.1.2,Z x.2.1,Z x.2.2]) (Prod.ext h1 h2:(txtQ p,txtQ q)=((a,b),(c,d))))
theorem rq_lit {p:Rat} {a b:ByteArray} (h1:txtQ p=(a,b)):(.agg #[Z (txt p.num),Z (txt (p.den:Int))]:Value) = .agg #[Z a,Z b]:=congrArg (fun x:P2=>Value.agg #[Z x.1,Z x.2]) h1
def LC (a:Addr) (f:Nat) (args:Array Value) (v:Value):Prop:=∀ W:World,Ref a W→Calls Tryz.prog f args W fun e W'=>e = .returned v∧Below W.heap.size W W'
theorem e_ratio1_4:Ret 12 #[.int .i64 1,.int .i64 4] (.agg #[Z ⟨#[49]⟩,Z ⟨#[52]⟩]):=by
 rw [←rq_lit (by decide +kernel:txtQ (Rat.divInt (1) 4)=(⟨#[49]⟩,⟨#[52]⟩))]
 exact ratio_q 1 4 (by decide) (by decide) (by decide)
theorem e_ratio1_1:Ret 12 #[.int .i64 1,.int .i64 1] (.agg #[Z ⟨#[49]⟩,Z ⟨#[49]⟩]):=by
 rw [←rq_lit (by decide +kernel:txtQ (Rat.divInt (1) 1)=(⟨#[49]⟩,⟨#[49]⟩))]
 exact ratio_q 1 1 (by decide) (by decide) (by decide)
theorem e_ratio7_5:Ret 12 #[.int .i64 7,.int .i64 5] (.agg #[Z ⟨#[55]⟩,Z ⟨#[53]⟩]):=by
 rw [←rq_lit (by decide +kernel:txtQ (Rat.divInt (7) 5)=(⟨#[55]⟩,⟨#[53]⟩))]
 exact ratio_q 7 5 (by decide) (by decide) (by decide)
theorem e_ratio9_5:Ret 12 #[.int .i64 9,.int .i64 5] (.agg #[Z ⟨#[57]⟩,Z ⟨#[53]⟩]):=by
 rw [←rq_lit (by decide +kernel:txtQ (Rat.divInt (9) 5)=(⟨#[57]⟩,⟨#[53]⟩))]
 exact ratio_q 9 5 (by decide) (by decide) (by decide)
theorem e_ratio3_10:Ret 12 #[.int .i64 3,.int .i64 10] (.agg #[Z ⟨#[51]⟩,Z ⟨#[49,48]⟩]):=by
 rw [←rq_lit (by decide +kernel:txtQ (Rat.divInt (3) 10)=(⟨#[51]⟩,⟨#[49,48]⟩))]
 exact ratio_q 3 10 (by decide) (by decide) (by decide)
theorem e_ratio7_10:Ret 12 #[.int .i64 7,.int .i64 10] (.agg #[Z ⟨#[55]⟩,Z ⟨#[49,48]⟩]):=by
 rw [←rq_lit (by decide +kernel:txtQ (Rat.divInt (7) 10)=(⟨#[55]⟩,⟨#[49,48]⟩))]
 exact ratio_q 7 10 (by decide) (by decide) (by decide)
theorem e_ratio5_1:Ret 12 #[.int .i64 5,.int .i64 1] (.agg #[Z ⟨#[53]⟩,Z ⟨#[49]⟩]):=by
 rw [←rq_lit (by decide +kernel:txtQ (Rat.divInt (5) 1)=(⟨#[53]⟩,⟨#[49]⟩))]
 exact ratio_q 5 1 (by decide) (by decide) (by decide)
theorem e_ratio0_1:Ret 12 #[.int .i64 0,.int .i64 1] (.agg #[Z ⟨#[48]⟩,Z ⟨#[49]⟩]):=by
 rw [←rq_lit (by decide +kernel:txtQ (Rat.divInt (0) 1)=(⟨#[48]⟩,⟨#[49]⟩))]
 exact ratio_q 0 1 (by decide) (by decide) (by decide)
theorem e_ratio3_1:Ret 12 #[.int .i64 3,.int .i64 1] (.agg #[Z ⟨#[51]⟩,Z ⟨#[49]⟩]):=by
 rw [←rq_lit (by decide +kernel:txtQ (Rat.divInt (3) 1)=(⟨#[51]⟩,⟨#[49]⟩))]
 exact ratio_q 3 1 (by decide) (by decide) (by decide)
theorem e_ratio1_3:Ret 12 #[.int .i64 1,.int .i64 3] (.agg #[Z ⟨#[49]⟩,Z ⟨#[51]⟩]):=by
 rw [←rq_lit (by decide +kernel:txtQ (Rat.divInt (1) 3)=(⟨#[49]⟩,⟨#[51]⟩))]
 exact ratio_q 1 3 (by decide) (by decide) (by decide)
theorem e_ratio2_3:Ret 12 #[.int .i64 2,.int .i64 3] (.agg #[Z ⟨#[50]⟩,Z ⟨#[51]⟩]):=by
 rw [←rq_lit (by decide +kernel:txtQ (Rat.divInt (2) 3)=(⟨#[50]⟩,⟨#[51]⟩))]
 exact ratio_q 2 3 (by decide) (by decide) (by decide)
theorem e_spanm2_3:Ret 39 #[.int .i64 (-2),.int .i64 3] (.agg #[Z ⟨#[45,50]⟩,Z ⟨#[49]⟩,Z ⟨#[51]⟩,Z ⟨#[49]⟩]):=by
 rw [←iq_lit (by decide +kernel:txtQ (Rat.divInt (-2) 1)=(⟨#[45,50]⟩,⟨#[49]⟩)) (by decide +kernel:txtQ (Rat.divInt (3) 1)=(⟨#[51]⟩,⟨#[49]⟩))]
 exact span_q (-2) 3 (by decide) (by decide)
theorem e_spanm5_1:Ret 39 #[.int .i64 (-5),.int .i64 1] (.agg #[Z ⟨#[45,53]⟩,Z ⟨#[49]⟩,Z ⟨#[49]⟩,Z ⟨#[49]⟩]):=by
 rw [←iq_lit (by decide +kernel:txtQ (Rat.divInt (-5) 1)=(⟨#[45,53]⟩,⟨#[49]⟩)) (by decide +kernel:txtQ (Rat.divInt (1) 1)=(⟨#[49]⟩,⟨#[49]⟩))]
 exact span_q (-5) 1 (by decide) (by decide)
theorem e_span1_2:Ret 39 #[.int .i64 (1),.int .i64 2] (.agg #[Z ⟨#[49]⟩,Z ⟨#[49]⟩,Z ⟨#[50]⟩,Z ⟨#[49]⟩]):=by
 rw [←iq_lit (by decide +kernel:txtQ (Rat.divInt (1) 1)=(⟨#[49]⟩,⟨#[49]⟩)) (by decide +kernel:txtQ (Rat.divInt (2) 1)=(⟨#[50]⟩,⟨#[49]⟩))]
 exact span_q (1) 2 (by decide) (by decide)
theorem e_spanm1_4:Ret 39 #[.int .i64 (-1),.int .i64 4] (.agg #[Z ⟨#[45,49]⟩,Z ⟨#[49]⟩,Z ⟨#[52]⟩,Z ⟨#[49]⟩]):=by
 rw [←iq_lit (by decide +kernel:txtQ (Rat.divInt (-1) 1)=(⟨#[45,49]⟩,⟨#[49]⟩)) (by decide +kernel:txtQ (Rat.divInt (4) 1)=(⟨#[52]⟩,⟨#[49]⟩))]
 exact span_q (-1) 4 (by decide) (by decide)
theorem e_span2_4:Ret 39 #[.int .i64 (2),.int .i64 4] (.agg #[Z ⟨#[50]⟩,Z ⟨#[49]⟩,Z ⟨#[52]⟩,Z ⟨#[49]⟩]):=by
 rw [←iq_lit (by decide +kernel:txtQ (Rat.divInt (2) 1)=(⟨#[50]⟩,⟨#[49]⟩)) (by decide +kernel:txtQ (Rat.divInt (4) 1)=(⟨#[52]⟩,⟨#[49]⟩))]
 exact span_q (2) 4 (by decide) (by decide)
theorem e_span2_3:Ret 39 #[.int .i64 (2),.int .i64 3] (.agg #[Z ⟨#[50]⟩,Z ⟨#[49]⟩,Z ⟨#[51]⟩,Z ⟨#[49]⟩]):=by
 rw [←iq_lit (by decide +kernel:txtQ (Rat.divInt (2) 1)=(⟨#[50]⟩,⟨#[49]⟩)) (by decide +kernel:txtQ (Rat.divInt (3) 1)=(⟨#[51]⟩,⟨#[49]⟩))]
 exact span_q (2) 3 (by decide) (by decide)
theorem e_span2_5:Ret 39 #[.int .i64 (2),.int .i64 5] (.agg #[Z ⟨#[50]⟩,Z ⟨#[49]⟩,Z ⟨#[53]⟩,Z ⟨#[49]⟩]):=by
 rw [←iq_lit (by decide +kernel:txtQ (Rat.divInt (2) 1)=(⟨#[50]⟩,⟨#[49]⟩)) (by decide +kernel:txtQ (Rat.divInt (5) 1)=(⟨#[53]⟩,⟨#[49]⟩))]
 exact span_q (2) 5 (by decide) (by decide)
theorem e_span3_5:Ret 39 #[.int .i64 (3),.int .i64 5] (.agg #[Z ⟨#[51]⟩,Z ⟨#[49]⟩,Z ⟨#[53]⟩,Z ⟨#[49]⟩]):=by
 rw [←iq_lit (by decide +kernel:txtQ (Rat.divInt (3) 1)=(⟨#[51]⟩,⟨#[49]⟩)) (by decide +kernel:txtQ (Rat.divInt (5) 1)=(⟨#[53]⟩,⟨#[49]⟩))]
 exact span_q (3) 5 (by decide) (by decide)
theorem e_spanm15_10:Ret 39 #[.int .i64 (-15),.int .i64 10] (.agg #[Z ⟨#[45,49,53]⟩,Z ⟨#[49]⟩,Z ⟨#[49,48]⟩,Z ⟨#[49]⟩]):=by
 rw [←iq_lit (by decide +kernel:txtQ (Rat.divInt (-15) 1)=(⟨#[45,49,53]⟩,⟨#[49]⟩)) (by decide +kernel:txtQ (Rat.divInt (10) 1)=(⟨#[49,48]⟩,⟨#[49]⟩))]
 exact span_q (-15) 10 (by decide) (by decide)
theorem e_span2_2:Ret 39 #[.int .i64 (2),.int .i64 2] (.agg #[Z ⟨#[50]⟩,Z ⟨#[49]⟩,Z ⟨#[50]⟩,Z ⟨#[49]⟩]):=by
 rw [←iq_lit (by decide +kernel:txtQ (Rat.divInt (2) 1)=(⟨#[50]⟩,⟨#[49]⟩)) (by decide +kernel:txtQ (Rat.divInt (2) 1)=(⟨#[50]⟩,⟨#[49]⟩))]
 exact span_q (2) 2 (by decide) (by decide)
theorem e_span2_1:Ret 39 #[.int .i64 (2),.int .i64 1] (.agg #[Z ⟨#[50]⟩,Z ⟨#[49]⟩,Z ⟨#[49]⟩,Z ⟨#[49]⟩]):=by
 rw [←iq_lit (by decide +kernel:txtQ (Rat.divInt (2) 1)=(⟨#[50]⟩,⟨#[49]⟩)) (by decide +kernel:txtQ (Rat.divInt (1) 1)=(⟨#[49]⟩,⟨#[49]⟩))]
 exact span_q (2) 1 (by decide) (by decide)
theorem e_span3_3:Ret 39 #[.int .i64 (3),.int .i64 3] (.agg #[Z ⟨#[51]⟩,Z ⟨#[49]⟩,Z ⟨#[51]⟩,Z ⟨#[49]⟩]):=by
 rw [←iq_lit (by decide +kernel:txtQ (Rat.divInt (3) 1)=(⟨#[51]⟩,⟨#[49]⟩)) (by decide +kernel:txtQ (Rat.divInt (3) 1)=(⟨#[51]⟩,⟨#[49]⟩))]
 exact span_q (3) 3 (by decide) (by decide)
theorem e_mul (a:Addr):LC a 38 #[.agg #[Z ⟨#[45,50]⟩,Z ⟨#[49]⟩,Z ⟨#[51]⟩,Z ⟨#[49]⟩],.agg #[Z ⟨#[45,53]⟩,Z ⟨#[49]⟩,Z ⟨#[49]⟩,Z ⟨#[49]⟩]] (.tuple #[.agg #[Z ⟨#[45,49,53]⟩,Z ⟨#[49]⟩,Z ⟨#[49,48]⟩,Z ⟨#[49]⟩],.int .i64 0]):=by
 obtain ⟨x,y,x',y',hx,hy,hx',hy',hall,hc⟩:=Mul_I a (p1:=Rat.divInt (-2) 1) (q1:=Rat.divInt (3) 1) (p2:=Rat.divInt (-5) 1) (q2:=Rat.divInt (1) 1) ⟨fits_small (by decide +kernel),fits_small (by decide +kernel)⟩ ⟨fits_small (by decide +kernel),fits_small (by decide +kernel)⟩ ⟨fits_small (by decide +kernel),fits_small (by decide +kernel)⟩ ⟨fits_small (by decide +kernel),fits_small (by decide +kernel)⟩ (by decide +kernel) (by decide +kernel) (fun u v hu hv=>by rcases hu with rfl | rfl <;> rcases hv with rfl | rfl <;> (rw [mulQ,if_pos ⟨fits_small (by decide +kernel),fits_small (by decide +kernel)⟩]))
 have e1:x*y=Rat.divInt (-15) 1:=by
  refine Rat.le_antisymm (Rat.le_trans (hall (Rat.divInt (3) 1) (Rat.divInt (-5) 1) (.inr rfl) (.inl rfl)).1 (by decide +kernel)) ?_
  rcases hx with rfl | rfl <;> rcases hy with rfl | rfl <;> decide +kernel
 have e2:x'*y'=Rat.divInt (10) 1:=by
  refine Rat.le_antisymm ?_ (Rat.le_trans (by decide +kernel) (hall (Rat.divInt (-2) 1) (Rat.divInt (-5) 1) (.inl rfl) (.inl rfl)).2)
  rcases hx' with rfl | rfl <;> rcases hy' with rfl | rfl <;> decide +kernel
 rw [e1,e2] at hc
 rw [←iq_lit (by decide +kernel:txtQ (Rat.divInt (-2) 1)=(⟨#[45,50]⟩,⟨#[49]⟩)) (by decide +kernel:txtQ (Rat.divInt (3) 1)=(⟨#[51]⟩,⟨#[49]⟩)),←iq_lit (by decide +kernel:txtQ (Rat.divInt (-5) 1)=(⟨#[45,53]⟩,⟨#[49]⟩)) (by decide +kernel:txtQ (Rat.divInt (1) 1)=(⟨#[49]⟩,⟨#[49]⟩)),←iq_lit (by decide +kernel:txtQ (Rat.divInt (-15) 1)=(⟨#[45,49,53]⟩,⟨#[49]⟩)) (by decide +kernel:txtQ (Rat.divInt (10) 1)=(⟨#[49,48]⟩,⟨#[49]⟩))]
 exact hc
theorem e_div (a:Addr):LC a 40 #[.agg #[Z ⟨#[49]⟩,Z ⟨#[49]⟩,Z ⟨#[50]⟩,Z ⟨#[49]⟩],.agg #[Z ⟨#[50]⟩,Z ⟨#[49]⟩,Z ⟨#[52]⟩,Z ⟨#[49]⟩]] (.tuple #[.agg #[Z ⟨#[49]⟩,Z ⟨#[52]⟩,Z ⟨#[49]⟩,Z ⟨#[49]⟩],.int .i64 0]):=by
 obtain ⟨x,y,x',y',hx,hy,hx',hy',hall,hc⟩:=Div_I a (p1:=Rat.divInt (1) 1) (q1:=Rat.divInt (2) 1) (p2:=Rat.divInt (2) 1) (q2:=Rat.divInt (4) 1) ⟨fits_small (by decide +kernel),fits_small (by decide +kernel)⟩ ⟨fits_small (by decide +kernel),fits_small (by decide +kernel)⟩ ⟨fits_small (by decide +kernel),fits_small (by decide +kernel)⟩ ⟨fits_small (by decide +kernel),fits_small (by decide +kernel)⟩ (by decide +kernel) (by decide +kernel) (by decide +kernel) (fun u v hu hv=>by rcases hu with rfl | rfl <;> rcases hv with rfl | rfl <;> (rw [divQ,if_pos ⟨fits_small (by decide +kernel),fits_small (by decide +kernel),by decide +kernel⟩]))
 have e1:x / y=Rat.divInt (1) 4:=by
  refine Rat.le_antisymm (Rat.le_trans (hall (Rat.divInt (1) 1) (Rat.divInt (4) 1) (.inl rfl) (.inr rfl)).1 (by decide +kernel)) ?_
  rcases hx with rfl | rfl <;> rcases hy with rfl | rfl <;> decide +kernel
 have e2:x' / y'=Rat.divInt (1) 1:=by
  refine Rat.le_antisymm ?_ (Rat.le_trans (by decide +kernel) (hall (Rat.divInt (2) 1) (Rat.divInt (2) 1) (.inr rfl) (.inl rfl)).2)
  rcases hx' with rfl | rfl <;> rcases hy' with rfl | rfl <;> decide +kernel
 rw [e1,e2] at hc
 rw [←iq_lit (by decide +kernel:txtQ (Rat.divInt (1) 1)=(⟨#[49]⟩,⟨#[49]⟩)) (by decide +kernel:txtQ (Rat.divInt (2) 1)=(⟨#[50]⟩,⟨#[49]⟩)),←iq_lit (by decide +kernel:txtQ (Rat.divInt (2) 1)=(⟨#[50]⟩,⟨#[49]⟩)) (by decide +kernel:txtQ (Rat.divInt (4) 1)=(⟨#[52]⟩,⟨#[49]⟩)),←iq_lit (by decide +kernel:txtQ (Rat.divInt (1) 4)=(⟨#[49]⟩,⟨#[52]⟩)) (by decide +kernel:txtQ (Rat.divInt (1) 1)=(⟨#[49]⟩,⟨#[49]⟩))]
 exact hc
theorem e_div0 (a:Addr):LC a 40 #[.agg #[Z ⟨#[49]⟩,Z ⟨#[49]⟩,Z ⟨#[50]⟩,Z ⟨#[49]⟩],.agg #[Z ⟨#[45,49]⟩,Z ⟨#[49]⟩,Z ⟨#[52]⟩,Z ⟨#[49]⟩]] (.tuple #[ivl0,.int .i64 50]):=by
 rw [←iq_lit (by decide +kernel:txtQ (Rat.divInt (1) 1)=(⟨#[49]⟩,⟨#[49]⟩)) (by decide +kernel:txtQ (Rat.divInt (2) 1)=(⟨#[50]⟩,⟨#[49]⟩)),←iq_lit (by decide +kernel:txtQ (Rat.divInt (-1) 1)=(⟨#[45,49]⟩,⟨#[49]⟩)) (by decide +kernel:txtQ (Rat.divInt (4) 1)=(⟨#[52]⟩,⟨#[49]⟩))]
 exact Div_none a ⟨fits_small (by decide +kernel),fits_small (by decide +kernel)⟩ ⟨fits_small (by decide +kernel),fits_small (by decide +kernel)⟩ ⟨fits_small (by decide +kernel),fits_small (by decide +kernel)⟩ ⟨fits_small (by decide +kernel),fits_small (by decide +kernel)⟩ (by decide +kernel) (by decide +kernel) (by decide +kernel)
theorem e_sqrt (a:Addr):LC a 34 #[.agg #[Z ⟨#[50]⟩,Z ⟨#[49]⟩,Z ⟨#[51]⟩,Z ⟨#[49]⟩],.int .i64 1] (.tuple #[.agg #[Z ⟨#[55]⟩,Z ⟨#[53]⟩,Z ⟨#[57]⟩,Z ⟨#[53]⟩],.int .i64 0]):=by
 rw [←iq_lit (by decide +kernel:txtQ (Rat.divInt (2) 1)=(⟨#[50]⟩,⟨#[49]⟩)) (by decide +kernel:txtQ (Rat.divInt (3) 1)=(⟨#[51]⟩,⟨#[49]⟩)),←iq_lit (by decide +kernel:txtQ (Rat.divInt ((rtN (Rat.divInt 2 1) 1:Nat):Int) (10^1))=(⟨#[55]⟩,⟨#[53]⟩)) (by decide +kernel:txtQ (Rat.divInt (upN (Rat.divInt 3 1) 1) (10^1))=(⟨#[57]⟩,⟨#[53]⟩))]
 exact Sqrt_I a ⟨fits_small (by decide +kernel),fits_small (by decide +kernel)⟩ ⟨fits_small (by decide +kernel),fits_small (by decide +kernel)⟩ (by decide +kernel) (by decide +kernel) (by decide +kernel) (c:=1) (by decide) (fits_small (by decide +kernel)) (fits_small (by decide +kernel)) (fits_small (by decide +kernel)) (fits_small (by decide +kernel))
theorem e_round (a:Addr):LC a 41 #[.agg #[Z ⟨#[49]⟩,Z ⟨#[51]⟩,Z ⟨#[50]⟩,Z ⟨#[51]⟩],.int .i64 1] (.tuple #[.agg #[Z ⟨#[51]⟩,Z ⟨#[49,48]⟩,Z ⟨#[55]⟩,Z ⟨#[49,48]⟩],.int .i64 0]):=by
 rw [←iq_lit (by decide +kernel:txtQ (Rat.divInt (1) 3)=(⟨#[49]⟩,⟨#[51]⟩)) (by decide +kernel:txtQ (Rat.divInt (2) 3)=(⟨#[50]⟩,⟨#[51]⟩)),←iq_lit (by decide +kernel:txtQ (Rat.divInt ((Rat.divInt 1 3).num*10^1 / ((Rat.divInt 1 3).den:Int)) (10^1))=(⟨#[51]⟩,⟨#[49,48]⟩)) (by decide +kernel:txtQ (Rat.divInt (upI ((Rat.divInt 2 3).num*10^1) (Rat.divInt 2 3).den) (10^1))=(⟨#[55]⟩,⟨#[49,48]⟩))]
 exact Round_I a (r:=Rat.divInt ((Rat.divInt 1 3).num*10^1 / ((Rat.divInt 1 3).den:Int)) (10^1)) (s:=Rat.divInt (upI ((Rat.divInt 2 3).num*10^1) (Rat.divInt 2 3).den) (10^1)) ⟨fits_small (by decide +kernel),fits_small (by decide +kernel)⟩ ⟨fits_small (by decide +kernel),fits_small (by decide +kernel)⟩ (by decide +kernel) (c:=1) (by decide) (by rw [downQ,if_pos (fits_small (by decide +kernel))]) (by rw [upQ,if_pos ⟨(fits_small (by decide +kernel)),(fits_small (by decide +kernel))⟩])
theorem e_width (a:Addr):LC a 18 #[.agg #[Z ⟨#[45,49]⟩,Z ⟨#[49]⟩,Z ⟨#[52]⟩,Z ⟨#[49]⟩]] (.tuple #[.agg #[Z ⟨#[53]⟩,Z ⟨#[49]⟩],.int .i64 0]):=by
 rw [←iq_lit (by decide +kernel:txtQ (Rat.divInt (-1) 1)=(⟨#[45,49]⟩,⟨#[49]⟩)) (by decide +kernel:txtQ (Rat.divInt (4) 1)=(⟨#[52]⟩,⟨#[49]⟩)),←rq_lit (by decide +kernel:txtQ (Rat.divInt 4 1-Rat.divInt (-1) 1)=(⟨#[53]⟩,⟨#[49]⟩))]
 exact fun W hW=>Width_I a ⟨fits_small (by decide +kernel),fits_small (by decide +kernel)⟩ ⟨fits_small (by decide +kernel),fits_small (by decide +kernel)⟩ (by decide +kernel) (by rw [subQ,if_pos ⟨(fits_small (by decide +kernel)),(fits_small (by decide +kernel)),(fits_small (by decide +kernel)),(fits_small (by decide +kernel))⟩]) W hW
theorem e_meet (a:Addr):LC a 36 #[.agg #[Z ⟨#[49]⟩,Z ⟨#[49]⟩,Z ⟨#[50]⟩,Z ⟨#[49]⟩],.agg #[Z ⟨#[50]⟩,Z ⟨#[49]⟩,Z ⟨#[53]⟩,Z ⟨#[49]⟩]] (.tuple #[.agg #[Z ⟨#[50]⟩,Z ⟨#[49]⟩,Z ⟨#[50]⟩,Z ⟨#[49]⟩],.int .i64 0]):=by
 have h:=Meet_I a (p1:=Rat.divInt (1) 1) (q1:=Rat.divInt (2) 1) (p2:=Rat.divInt (2) 1) (q2:=Rat.divInt (5) 1) ⟨fits_small (by decide +kernel),fits_small (by decide +kernel)⟩ ⟨fits_small (by decide +kernel),fits_small (by decide +kernel)⟩ ⟨fits_small (by decide +kernel),fits_small (by decide +kernel)⟩ ⟨fits_small (by decide +kernel),fits_small (by decide +kernel)⟩ (by decide +kernel) (by decide +kernel)
 rw [if_pos (by decide +kernel:maxQ (Rat.divInt (1) 1) (Rat.divInt (2) 1)≤minQ (Rat.divInt (2) 1) (Rat.divInt (5) 1))] at h
 rw [←iq_lit (by decide +kernel:txtQ (Rat.divInt (1) 1)=(⟨#[49]⟩,⟨#[49]⟩)) (by decide +kernel:txtQ (Rat.divInt (2) 1)=(⟨#[50]⟩,⟨#[49]⟩)),←iq_lit (by decide +kernel:txtQ (Rat.divInt (2) 1)=(⟨#[50]⟩,⟨#[49]⟩)) (by decide +kernel:txtQ (Rat.divInt (5) 1)=(⟨#[53]⟩,⟨#[49]⟩)),←iq_lit (by decide +kernel:txtQ (maxQ (Rat.divInt (1) 1) (Rat.divInt (2) 1))=(⟨#[50]⟩,⟨#[49]⟩)) (by decide +kernel:txtQ (minQ (Rat.divInt (2) 1) (Rat.divInt (5) 1))=(⟨#[50]⟩,⟨#[49]⟩))]
 exact h
theorem e_meet0 (a:Addr):LC a 36 #[.agg #[Z ⟨#[49]⟩,Z ⟨#[49]⟩,Z ⟨#[50]⟩,Z ⟨#[49]⟩],.agg #[Z ⟨#[51]⟩,Z ⟨#[49]⟩,Z ⟨#[53]⟩,Z ⟨#[49]⟩]] (.tuple #[ivl0,.int .i64 50]):=by
 have h:=Meet_I a (p1:=Rat.divInt (1) 1) (q1:=Rat.divInt (2) 1) (p2:=Rat.divInt (3) 1) (q2:=Rat.divInt (5) 1) ⟨fits_small (by decide +kernel),fits_small (by decide +kernel)⟩ ⟨fits_small (by decide +kernel),fits_small (by decide +kernel)⟩ ⟨fits_small (by decide +kernel),fits_small (by decide +kernel)⟩ ⟨fits_small (by decide +kernel),fits_small (by decide +kernel)⟩ (by decide +kernel) (by decide +kernel)
 rw [if_neg (by decide +kernel:¬ maxQ (Rat.divInt (1) 1) (Rat.divInt (3) 1)≤minQ (Rat.divInt (2) 1) (Rat.divInt (5) 1))] at h
 rw [←iq_lit (by decide +kernel:txtQ (Rat.divInt (1) 1)=(⟨#[49]⟩,⟨#[49]⟩)) (by decide +kernel:txtQ (Rat.divInt (2) 1)=(⟨#[50]⟩,⟨#[49]⟩)),←iq_lit (by decide +kernel:txtQ (Rat.divInt (3) 1)=(⟨#[51]⟩,⟨#[49]⟩)) (by decide +kernel:txtQ (Rat.divInt (5) 1)=(⟨#[53]⟩,⟨#[49]⟩))]
 exact h
theorem e_valid:Ret 20 #[.agg #[Z ⟨#[45,49,53]⟩,Z ⟨#[49]⟩,Z ⟨#[49,48]⟩,Z ⟨#[49]⟩]] (.bool true):=by
 have h:=iValid_q (p:=Rat.divInt (-15) 1) (q:=Rat.divInt (10) 1) ⟨fits_small (by decide +kernel),fits_small (by decide +kernel)⟩ ⟨fits_small (by decide +kernel),fits_small (by decide +kernel)⟩
 rw [decide_eq_true (by decide +kernel)] at h
 rw [←iq_lit (by decide +kernel:txtQ (Rat.divInt (-15) 1)=(⟨#[45,49,53]⟩,⟨#[49]⟩)) (by decide +kernel:txtQ (Rat.divInt (10) 1)=(⟨#[49,48]⟩,⟨#[49]⟩))]
 exact h
theorem e_valid0:Ret 20 #[.agg #[Z ⟨#[50]⟩,Z ⟨#[49]⟩,Z ⟨#[49]⟩,Z ⟨#[49]⟩]] (.bool false):=by
 have h:=iValid_q (p:=Rat.divInt (2) 1) (q:=Rat.divInt (1) 1) ⟨fits_small (by decide +kernel),fits_small (by decide +kernel)⟩ ⟨fits_small (by decide +kernel),fits_small (by decide +kernel)⟩
 rw [decide_eq_false (by decide +kernel)] at h
 rw [←iq_lit (by decide +kernel:txtQ (Rat.divInt (2) 1)=(⟨#[50]⟩,⟨#[49]⟩)) (by decide +kernel:txtQ (Rat.divInt (1) 1)=(⟨#[49]⟩,⟨#[49]⟩))]
 exact h
theorem e_cont:Ret 24 #[.agg #[Z ⟨#[45,49,53]⟩,Z ⟨#[49]⟩,Z ⟨#[49,48]⟩,Z ⟨#[49]⟩],.agg #[Z ⟨#[48]⟩,Z ⟨#[49]⟩]] (.bool true):=by
 have h:=Contains_q (p:=Rat.divInt (-15) 1) (q:=Rat.divInt (10) 1) (r:=Rat.divInt (0) 1) ⟨fits_small (by decide +kernel),fits_small (by decide +kernel)⟩ ⟨fits_small (by decide +kernel),fits_small (by decide +kernel)⟩ ⟨fits_small (by decide +kernel),fits_small (by decide +kernel)⟩
 rw [decide_eq_true (by decide +kernel)] at h
 rw [←iq_lit (by decide +kernel:txtQ (Rat.divInt (-15) 1)=(⟨#[45,49,53]⟩,⟨#[49]⟩)) (by decide +kernel:txtQ (Rat.divInt (10) 1)=(⟨#[49,48]⟩,⟨#[49]⟩)),←rq_lit (by decide +kernel:txtQ (Rat.divInt (0) 1)=(⟨#[48]⟩,⟨#[49]⟩))]
 exact h
theorem e_within:Ret 26 #[.agg #[Z ⟨#[49]⟩,Z ⟨#[52]⟩,Z ⟨#[49]⟩,Z ⟨#[49]⟩],.agg #[Z ⟨#[55]⟩,Z ⟨#[53]⟩,Z ⟨#[57]⟩,Z ⟨#[53]⟩]] (.bool false):=by
 have h:=Within_q (p:=Rat.divInt (1) 4) (q:=Rat.divInt (1) 1) (r:=Rat.divInt (7) 5) (s:=Rat.divInt (9) 5) ⟨fits_small (by decide +kernel),fits_small (by decide +kernel)⟩ ⟨fits_small (by decide +kernel),fits_small (by decide +kernel)⟩ ⟨fits_small (by decide +kernel),fits_small (by decide +kernel)⟩ ⟨fits_small (by decide +kernel),fits_small (by decide +kernel)⟩
 rw [decide_eq_false (by decide +kernel)] at h
 rw [←iq_lit (by decide +kernel:txtQ (Rat.divInt (1) 4)=(⟨#[49]⟩,⟨#[52]⟩)) (by decide +kernel:txtQ (Rat.divInt (1) 1)=(⟨#[49]⟩,⟨#[49]⟩)),←iq_lit (by decide +kernel:txtQ (Rat.divInt (7) 5)=(⟨#[55]⟩,⟨#[53]⟩)) (by decide +kernel:txtQ (Rat.divInt (9) 5)=(⟨#[57]⟩,⟨#[53]⟩))]
 exact h
theorem e_point:Ret 22 #[.agg #[Z ⟨#[51]⟩,Z ⟨#[49]⟩]] (.agg #[Z ⟨#[51]⟩,Z ⟨#[49]⟩,Z ⟨#[51]⟩,Z ⟨#[49]⟩]):=by
 have h:=Point_q (r:=Rat.divInt (3) 1) ⟨fits_small (by decide +kernel),fits_small (by decide +kernel)⟩
 rw [←rq_lit (by decide +kernel:txtQ (Rat.divInt (3) 1)=(⟨#[51]⟩,⟨#[49]⟩)),←iq_lit (by decide +kernel:txtQ (Rat.divInt (3) 1)=(⟨#[51]⟩,⟨#[49]⟩)) (by decide +kernel:txtQ (Rat.divInt (3) 1)=(⟨#[51]⟩,⟨#[49]⟩))]
 exact h
end En
end
section
namespace En
open Go.RowKit Go.Extern.Stop Go.Stop Go.Extern
open Go.Proofs.YtbfonkabmehlmaaGreatDoor.Nm Go.Proofs.YtbfonkabmehlmaaGreatDoor.Rt
def HL (l:List (Nat×Obj)) (W:World):Prop:=∀ x∈l,W.heap[x.1]? = some x.2
theorem pass {l:List (Nat×Obj)} {w W W':World} (hl:HL l W) (hb:Below w.heap.size w W) (hn:Below W.heap.size W W'):HL l W'∧Below w.heap.size w W' :=
 ⟨fun x hx=>lkeep (hl x hx) hn,hb.trans (hn.mono hb.size)⟩
theorem addL {l:List (Nat×Obj)} {w W:World} {c:Array Value} {t:TypeId} (hl:HL l W) (hb:Below w.heap.size w W):HL ((W.heap.size,.cells c t (0,0)) :: l) (W.alloc (.cells c t))∧Below w.heap.size w (W.alloc (.cells c t)) :=
 ⟨fun x hx=>by
  rcases List.mem_cons.1 hx with rfl | hx
  ·exact World.alloc_heap_new W _
  ·exact lold (hl x hx),hb.alloc hb.size _⟩
theorem passU {l:List (Nat×Obj)} {w W W':World} (hl:HL l W) (hb:Below w.heap.size w W) (hn:Below W.drew.heap.size W.drew W'):HL l W'∧Below w.heap.size w W':=pass hl hb (lundrew2 hn)
theorem S9 {ba bz1 bb bc bd bz2 bk bv:Nat} {W:World} (h:HL [(bv,(O #[Z ⟨#[53]⟩,Z ⟨#[49]⟩] 23 (0,0))),(bk,(O #[Z ⟨#[51]⟩,Z ⟨#[49,48]⟩,Z ⟨#[55]⟩,Z ⟨#[49,48]⟩] 25 (0,0))),(bz2,(O #[Z ⟨#[]⟩,Z ⟨#[]⟩,Z ⟨#[]⟩,Z ⟨#[]⟩] 25 (0,0))),(bd,(O #[Z ⟨#[50]⟩,Z ⟨#[49]⟩,Z ⟨#[50]⟩,Z ⟨#[49]⟩] 25 (0,0))),(bc,(O #[Z ⟨#[55]⟩,Z ⟨#[53]⟩,Z ⟨#[57]⟩,Z ⟨#[53]⟩] 25 (0,0))),(bb,(O #[Z ⟨#[49]⟩,Z ⟨#[52]⟩,Z ⟨#[49]⟩,Z ⟨#[49]⟩] 25 (0,0))),(bz1,(O #[Z ⟨#[]⟩,Z ⟨#[]⟩,Z ⟨#[]⟩,Z ⟨#[]⟩] 25 (0,0))),(ba,(O #[Z ⟨#[45,49,53]⟩,Z ⟨#[49]⟩,Z ⟨#[49,48]⟩,Z ⟨#[49]⟩] 25 (0,0)))] W):W.cell? ⟨ba,0,none⟩=some (Z ⟨#[45,49,53]⟩)∧W.cell? ⟨ba,1,none⟩=some (Z ⟨#[49]⟩)∧W.cell? ⟨ba,2,none⟩=some (Z ⟨#[49,48]⟩)∧W.cell? ⟨ba,3,none⟩=some (Z ⟨#[49]⟩)∧W.cell? ⟨bb,0,none⟩=some (Z ⟨#[49]⟩)∧W.cell? ⟨bb,1,none⟩=some (Z ⟨#[52]⟩)∧W.cell? ⟨bb,2,none⟩=some (Z ⟨#[49]⟩)∧W.cell? ⟨bb,3,none⟩=some (Z ⟨#[49]⟩)∧W.cell? ⟨bc,0,none⟩=some (Z ⟨#[55]⟩)∧W.cell? ⟨bc,1,none⟩=some (Z ⟨#[53]⟩)∧W.cell? ⟨bc,2,none⟩=some (Z ⟨#[57]⟩)∧W.cell? ⟨bc,3,none⟩=some (Z ⟨#[53]⟩):=by
 have qa:=h (ba,(O #[Z ⟨#[45,49,53]⟩,Z ⟨#[49]⟩,Z ⟨#[49,48]⟩,Z ⟨#[49]⟩] 25 (0,0))) (by simp)
 have qb:=h (bb,(O #[Z ⟨#[49]⟩,Z ⟨#[52]⟩,Z ⟨#[49]⟩,Z ⟨#[49]⟩] 25 (0,0))) (by simp)
 have qc:=h (bc,(O #[Z ⟨#[55]⟩,Z ⟨#[53]⟩,Z ⟨#[57]⟩,Z ⟨#[53]⟩] 25 (0,0))) (by simp)
 exact ⟨lcell qa 0 rfl,lcell qa 1 rfl,lcell qa 2 rfl,lcell qa 3 rfl,lcell qb 0 rfl,lcell qb 1 rfl,lcell qb 2 rfl,lcell qb 3 rfl,lcell qc 0 rfl,lcell qc 1 rfl,lcell qc 2 rfl,lcell qc 3 rfl⟩
theorem S10 {ba bz1 bb bc bd bz2 bk bv:Nat} {W:World} (h:HL [(bv,(O #[Z ⟨#[53]⟩,Z ⟨#[49]⟩] 23 (0,0))),(bk,(O #[Z ⟨#[51]⟩,Z ⟨#[49,48]⟩,Z ⟨#[55]⟩,Z ⟨#[49,48]⟩] 25 (0,0))),(bz2,(O #[Z ⟨#[]⟩,Z ⟨#[]⟩,Z ⟨#[]⟩,Z ⟨#[]⟩] 25 (0,0))),(bd,(O #[Z ⟨#[50]⟩,Z ⟨#[49]⟩,Z ⟨#[50]⟩,Z ⟨#[49]⟩] 25 (0,0))),(bc,(O #[Z ⟨#[55]⟩,Z ⟨#[53]⟩,Z ⟨#[57]⟩,Z ⟨#[53]⟩] 25 (0,0))),(bb,(O #[Z ⟨#[49]⟩,Z ⟨#[52]⟩,Z ⟨#[49]⟩,Z ⟨#[49]⟩] 25 (0,0))),(bz1,(O #[Z ⟨#[]⟩,Z ⟨#[]⟩,Z ⟨#[]⟩,Z ⟨#[]⟩] 25 (0,0))),(ba,(O #[Z ⟨#[45,49,53]⟩,Z ⟨#[49]⟩,Z ⟨#[49,48]⟩,Z ⟨#[49]⟩] 25 (0,0)))] W):W.cell? ⟨bd,0,none⟩=some (Z ⟨#[50]⟩)∧W.cell? ⟨bd,1,none⟩=some (Z ⟨#[49]⟩)∧W.cell? ⟨bd,2,none⟩=some (Z ⟨#[50]⟩)∧W.cell? ⟨bd,3,none⟩=some (Z ⟨#[49]⟩)∧W.cell? ⟨bk,0,none⟩=some (Z ⟨#[51]⟩)∧W.cell? ⟨bk,1,none⟩=some (Z ⟨#[49,48]⟩)∧W.cell? ⟨bk,2,none⟩=some (Z ⟨#[55]⟩)∧W.cell? ⟨bk,3,none⟩=some (Z ⟨#[49,48]⟩)∧W.cell? ⟨bv,0,none⟩=some (Z ⟨#[53]⟩)∧W.cell? ⟨bv,1,none⟩=some (Z ⟨#[49]⟩):=by
 have qd:=h (bd,(O #[Z ⟨#[50]⟩,Z ⟨#[49]⟩,Z ⟨#[50]⟩,Z ⟨#[49]⟩] 25 (0,0))) (by simp)
 have qk:=h (bk,(O #[Z ⟨#[51]⟩,Z ⟨#[49,48]⟩,Z ⟨#[55]⟩,Z ⟨#[49,48]⟩] 25 (0,0))) (by simp)
 have qv:=h (bv,(O #[Z ⟨#[53]⟩,Z ⟨#[49]⟩] 23 (0,0))) (by simp)
 exact ⟨lcell qd 0 rfl,lcell qd 1 rfl,lcell qd 2 rfl,lcell qd 3 rfl,lcell qk 0 rfl,lcell qk 1 rfl,lcell qk 2 rfl,lcell qk 3 rfl,lcell qv 0 rfl,lcell qv 1 rfl⟩
theorem sane_any (a:Addr) (w:World) (hv:Ref a w):Calls Tryz.prog 8 #[] w fun e w'=>e = .returned (.bool true)∧Below w.heap.size w w':=by
 have HV:Shut _:=⟨hv⟩
 clear hv
 have hb:Below w.heap.size w w:=Below.refl _ _
 have hl:HL [] w:=fun x hx=>by cases hx
 go_enter Tryz.func8, Tryz.ntmps8
 go_wp2_with fail
 refine (e_spanm2_3 _).mono ?_
 rintro e w1 ⟨rfl,hn⟩
 have hh:=pass hl hb hn
 clear hl hb hn
 obtain ⟨hl,hb⟩:=hh
 go_wp2_with fail
 refine (e_spanm5_1 _).mono ?_
 rintro e w2 ⟨rfl,hn⟩
 have hh:=pass hl hb hn
 clear hl hb hn
 obtain ⟨hl,hb⟩:=hh
 go_wp2_with fail
 refine (e_mul a _ (HV.o.keep hb)).mono ?_
 rintro e w3 ⟨rfl,hn⟩
 have hh:=pass hl hb hn
 clear hl hb hn
 obtain ⟨hl,hb⟩:=hh
 go_wp2_with fail
 have hh:=addL (c:=#[Z ⟨#[45,49,53]⟩,Z ⟨#[49]⟩,Z ⟨#[49,48]⟩,Z ⟨#[49]⟩]) (t := 25) hl hb
 clear hl hb
 obtain ⟨hl,hb⟩:=hh
 generalize w3.alloc (O #[Z ⟨#[45,49,53]⟩,Z ⟨#[49]⟩,Z ⟨#[49,48]⟩,Z ⟨#[49]⟩] 25)=Va at *
 refine (e_span1_2 _).mono ?_
 rintro e w4 ⟨rfl,hn⟩
 have hh:=pass hl hb hn
 clear hl hb hn
 obtain ⟨hl,hb⟩:=hh
 go_wp2_with fail
 refine (e_spanm1_4 _).mono ?_
 rintro e w5 ⟨rfl,hn⟩
 have hh:=pass hl hb hn
 clear hl hb hn
 obtain ⟨hl,hb⟩:=hh
 go_wp2_with fail
 refine (e_div0 a _ (HV.o.keep hb)).mono ?_
 rintro e w6 ⟨rfl,hn⟩
 have hh:=pass hl hb hn
 clear hl hb hn
 obtain ⟨hl,hb⟩:=hh
 go_wp2_with fail
 have hh:=addL (c:=#[Z ⟨#[]⟩,Z ⟨#[]⟩,Z ⟨#[]⟩,Z ⟨#[]⟩]) (t := 25) hl hb
 clear hl hb
 obtain ⟨hl,hb⟩:=hh
 generalize w6.alloc (O #[Z ⟨#[]⟩,Z ⟨#[]⟩,Z ⟨#[]⟩,Z ⟨#[]⟩] 25)=Vz1 at *
 refine (e_span1_2 _).mono ?_
 rintro e w7 ⟨rfl,hn⟩
 have hh:=pass hl hb hn
 clear hl hb hn
 obtain ⟨hl,hb⟩:=hh
 go_wp2_with fail
 refine (e_span2_4 _).mono ?_
 rintro e w8 ⟨rfl,hn⟩
 have hh:=pass hl hb hn
 clear hl hb hn
 obtain ⟨hl,hb⟩:=hh
 go_wp2_with fail
 refine (e_div a _ (HV.o.keep hb)).mono ?_
 rintro e w9 ⟨rfl,hn⟩
 have hh:=pass hl hb hn
 clear hl hb hn
 obtain ⟨hl,hb⟩:=hh
 go_wp2_with fail
 have hh:=addL (c:=#[Z ⟨#[49]⟩,Z ⟨#[52]⟩,Z ⟨#[49]⟩,Z ⟨#[49]⟩]) (t := 25) hl hb
 clear hl hb
 obtain ⟨hl,hb⟩:=hh
 generalize w9.alloc (O #[Z ⟨#[49]⟩,Z ⟨#[52]⟩,Z ⟨#[49]⟩,Z ⟨#[49]⟩] 25)=Vb at *
 refine (e_span2_3 _).mono ?_
 rintro e w10 ⟨rfl,hn⟩
 have hh:=pass hl hb hn
 clear hl hb hn
 obtain ⟨hl,hb⟩:=hh
 go_wp2_with fail
 refine (e_sqrt a _ (HV.o.keep hb)).mono ?_
 rintro e w11 ⟨rfl,hn⟩
 have hh:=pass hl hb hn
 clear hl hb hn
 obtain ⟨hl,hb⟩:=hh
 go_wp2_with fail
 have hh:=addL (c:=#[Z ⟨#[55]⟩,Z ⟨#[53]⟩,Z ⟨#[57]⟩,Z ⟨#[53]⟩]) (t := 25) hl hb
 clear hl hb
 obtain ⟨hl,hb⟩:=hh
 generalize w11.alloc (O #[Z ⟨#[55]⟩,Z ⟨#[53]⟩,Z ⟨#[57]⟩,Z ⟨#[53]⟩] 25)=Vc at *
 refine (e_span1_2 _).mono ?_
 rintro e w12 ⟨rfl,hn⟩
 have hh:=pass hl hb hn
 clear hl hb hn
 obtain ⟨hl,hb⟩:=hh
 go_wp2_with fail
 refine (e_span2_5 _).mono ?_
 rintro e w13 ⟨rfl,hn⟩
 have hh:=pass hl hb hn
 clear hl hb hn
 obtain ⟨hl,hb⟩:=hh
 go_wp2_with fail
 refine (e_meet a _ (HV.o.keep hb)).mono ?_
 rintro e w14 ⟨rfl,hn⟩
 have hh:=pass hl hb hn
 clear hl hb hn
 obtain ⟨hl,hb⟩:=hh
 go_wp2_with fail
 have hh:=addL (c:=#[Z ⟨#[50]⟩,Z ⟨#[49]⟩,Z ⟨#[50]⟩,Z ⟨#[49]⟩]) (t := 25) hl hb
 clear hl hb
 obtain ⟨hl,hb⟩:=hh
 generalize w14.alloc (O #[Z ⟨#[50]⟩,Z ⟨#[49]⟩,Z ⟨#[50]⟩,Z ⟨#[49]⟩] 25)=Vd at *
 refine (e_span1_2 _).mono ?_
 rintro e w15 ⟨rfl,hn⟩
 have hh:=pass hl hb hn
 clear hl hb hn
 obtain ⟨hl,hb⟩:=hh
 go_wp2_with fail
 refine (e_span3_5 _).mono ?_
 rintro e w16 ⟨rfl,hn⟩
 have hh:=pass hl hb hn
 clear hl hb hn
 obtain ⟨hl,hb⟩:=hh
 go_wp2_with fail
 refine (e_meet0 a _ (HV.o.keep hb)).mono ?_
 rintro e w17 ⟨rfl,hn⟩
 have hh:=pass hl hb hn
 clear hl hb hn
 obtain ⟨hl,hb⟩:=hh
 go_wp2_with fail
 have hh:=addL (c:=#[Z ⟨#[]⟩,Z ⟨#[]⟩,Z ⟨#[]⟩,Z ⟨#[]⟩]) (t := 25) hl hb
 clear hl hb
 obtain ⟨hl,hb⟩:=hh
 generalize w17.alloc (O #[Z ⟨#[]⟩,Z ⟨#[]⟩,Z ⟨#[]⟩,Z ⟨#[]⟩] 25)=Vz2 at *
 refine (e_ratio1_3 _).mono ?_
 rintro e w18 ⟨rfl,hn⟩
 have hh:=pass hl hb hn
 clear hl hb hn
 obtain ⟨hl,hb⟩:=hh
 go_wp2_with fail
 refine (e_ratio2_3 _).mono ?_
 rintro e w19 ⟨rfl,hn⟩
 have hh:=pass hl hb hn
 clear hl hb hn
 obtain ⟨hl,hb⟩:=hh
 go_wp2_with fail
 refine (e_round a _ (HV.o.keep hb)).mono ?_
 rintro e w20 ⟨rfl,hn⟩
 have hh:=pass hl hb hn
 clear hl hb hn
 obtain ⟨hl,hb⟩:=hh
 go_wp2_with fail
 have hh:=addL (c:=#[Z ⟨#[51]⟩,Z ⟨#[49,48]⟩,Z ⟨#[55]⟩,Z ⟨#[49,48]⟩]) (t := 25) hl hb
 clear hl hb
 obtain ⟨hl,hb⟩:=hh
 generalize w20.alloc (O #[Z ⟨#[51]⟩,Z ⟨#[49,48]⟩,Z ⟨#[55]⟩,Z ⟨#[49,48]⟩] 25)=Vk at *
 refine (e_spanm1_4 _).mono ?_
 rintro e w21 ⟨rfl,hn⟩
 have hh:=pass hl hb hn
 clear hl hb hn
 obtain ⟨hl,hb⟩:=hh
 go_wp2_with fail
 refine (e_width a _ (HV.o.keep hb)).mono ?_
 rintro e w22 ⟨rfl,hn⟩
 have hh:=pass hl hb hn
 clear hl hb hn
 obtain ⟨hl,hb⟩:=hh
 go_wp2_with fail
 have hh:=addL (c:=#[Z ⟨#[53]⟩,Z ⟨#[49]⟩]) (t := 23) hl hb
 clear hl hb
 obtain ⟨hl,hb⟩:=hh
 generalize w22.alloc (O #[Z ⟨#[53]⟩,Z ⟨#[49]⟩] 23)=Vv at *
 generalize w3.heap.size=ba at *
 generalize w6.heap.size=bz1 at *
 generalize w9.heap.size=bb at *
 generalize w11.heap.size=bc at *
 generalize w14.heap.size=bd at *
 generalize w17.heap.size=bz2 at *
 generalize w20.heap.size=bk at *
 generalize w22.heap.size=bv at *
 go_region_held3 (fun X=>X.cell? ⟨ba,0,none⟩=some (Z ⟨#[45,49,53]⟩)∧X.cell? ⟨ba,1,none⟩=some (Z ⟨#[49]⟩)∧X.cell? ⟨ba,2,none⟩=some (Z ⟨#[49,48]⟩)∧X.cell? ⟨ba,3,none⟩=some (Z ⟨#[49]⟩)∧X.cell? ⟨bb,0,none⟩=some (Z ⟨#[49]⟩)∧X.cell? ⟨bb,1,none⟩=some (Z ⟨#[52]⟩)∧X.cell? ⟨bb,2,none⟩=some (Z ⟨#[49]⟩)∧X.cell? ⟨bb,3,none⟩=some (Z ⟨#[49]⟩)∧X.cell? ⟨bc,0,none⟩=some (Z ⟨#[55]⟩)∧X.cell? ⟨bc,1,none⟩=some (Z ⟨#[53]⟩)∧X.cell? ⟨bc,2,none⟩=some (Z ⟨#[57]⟩)∧X.cell? ⟨bc,3,none⟩=some (Z ⟨#[53]⟩)) (exact S9 (by assumption)) (first | (go_at_call 39; (with_reducible refine (Ret.run e_spanm15_10 _).mono ?_);rintro e wn ⟨rfl,hn⟩;(first | (have hh:=pass hl hb hn;clear hl hb hn;obtain ⟨hl,hb⟩:=hh) | (have hh:=passU hl hb hn;clear hl hb hn;obtain ⟨hl,hb⟩:=hh))) | (go_at_call 12; (with_reducible refine (Ret.run e_ratio1_4 _).mono ?_);rintro e wn ⟨rfl,hn⟩;(first | (have hh:=pass hl hb hn;clear hl hb hn;obtain ⟨hl,hb⟩:=hh) | (have hh:=passU hl hb hn;clear hl hb hn;obtain ⟨hl,hb⟩:=hh))) | (go_at_call 12; (with_reducible refine (Ret.run e_ratio1_1 _).mono ?_);rintro e wn ⟨rfl,hn⟩;(first | (have hh:=pass hl hb hn;clear hl hb hn;obtain ⟨hl,hb⟩:=hh) | (have hh:=passU hl hb hn;clear hl hb hn;obtain ⟨hl,hb⟩:=hh))) | (go_at_call 12; (with_reducible refine (Ret.run e_ratio7_5 _).mono ?_);rintro e wn ⟨rfl,hn⟩;(first | (have hh:=pass hl hb hn;clear hl hb hn;obtain ⟨hl,hb⟩:=hh) | (have hh:=passU hl hb hn;clear hl hb hn;obtain ⟨hl,hb⟩:=hh))) | (go_at_call 12; (with_reducible refine (Ret.run e_ratio9_5 _).mono ?_);rintro e wn ⟨rfl,hn⟩;(first | (have hh:=pass hl hb hn;clear hl hb hn;obtain ⟨hl,hb⟩:=hh) | (have hh:=passU hl hb hn;clear hl hb hn;obtain ⟨hl,hb⟩:=hh))))
 go_wp2_with fail
 go_region_held3 (fun X=>X.cell? ⟨bd,0,none⟩=some (Z ⟨#[50]⟩)∧X.cell? ⟨bd,1,none⟩=some (Z ⟨#[49]⟩)∧X.cell? ⟨bd,2,none⟩=some (Z ⟨#[50]⟩)∧X.cell? ⟨bd,3,none⟩=some (Z ⟨#[49]⟩)∧X.cell? ⟨bk,0,none⟩=some (Z ⟨#[51]⟩)∧X.cell? ⟨bk,1,none⟩=some (Z ⟨#[49,48]⟩)∧X.cell? ⟨bk,2,none⟩=some (Z ⟨#[55]⟩)∧X.cell? ⟨bk,3,none⟩=some (Z ⟨#[49,48]⟩)∧X.cell? ⟨bv,0,none⟩=some (Z ⟨#[53]⟩)∧X.cell? ⟨bv,1,none⟩=some (Z ⟨#[49]⟩)) (exact S10 (by assumption)) (first | (go_at_call 39; (with_reducible refine (Ret.run e_span2_2 _).mono ?_);rintro e wn ⟨rfl,hn⟩;(first | (have hh:=pass hl hb hn;clear hl hb hn;obtain ⟨hl,hb⟩:=hh) | (have hh:=passU hl hb hn;clear hl hb hn;obtain ⟨hl,hb⟩:=hh))) | (go_at_call 12; (with_reducible refine (Ret.run e_ratio3_10 _).mono ?_);rintro e wn ⟨rfl,hn⟩;(first | (have hh:=pass hl hb hn;clear hl hb hn;obtain ⟨hl,hb⟩:=hh) | (have hh:=passU hl hb hn;clear hl hb hn;obtain ⟨hl,hb⟩:=hh))) | (go_at_call 12; (with_reducible refine (Ret.run e_ratio7_10 _).mono ?_);rintro e wn ⟨rfl,hn⟩;(first | (have hh:=pass hl hb hn;clear hl hb hn;obtain ⟨hl,hb⟩:=hh) | (have hh:=passU hl hb hn;clear hl hb hn;obtain ⟨hl,hb⟩:=hh))) | (go_at_call 12; (with_reducible refine (Ret.run e_ratio5_1 _).mono ?_);rintro e wn ⟨rfl,hn⟩;(first | (have hh:=pass hl hb hn;clear hl hb hn;obtain ⟨hl,hb⟩:=hh) | (have hh:=passU hl hb hn;clear hl hb hn;obtain ⟨hl,hb⟩:=hh))))
 go_wp2_with fail
 go_region_held3 (fun X=>X.cell? ⟨ba,0,none⟩=some (Z ⟨#[45,49,53]⟩)∧X.cell? ⟨ba,1,none⟩=some (Z ⟨#[49]⟩)∧X.cell? ⟨ba,2,none⟩=some (Z ⟨#[49,48]⟩)∧X.cell? ⟨ba,3,none⟩=some (Z ⟨#[49]⟩)∧X.cell? ⟨bb,0,none⟩=some (Z ⟨#[49]⟩)∧X.cell? ⟨bb,1,none⟩=some (Z ⟨#[52]⟩)∧X.cell? ⟨bb,2,none⟩=some (Z ⟨#[49]⟩)∧X.cell? ⟨bb,3,none⟩=some (Z ⟨#[49]⟩)∧X.cell? ⟨bc,0,none⟩=some (Z ⟨#[55]⟩)∧X.cell? ⟨bc,1,none⟩=some (Z ⟨#[53]⟩)∧X.cell? ⟨bc,2,none⟩=some (Z ⟨#[57]⟩)∧X.cell? ⟨bc,3,none⟩=some (Z ⟨#[53]⟩)) (exact S9 (by assumption)) (first | (go_at_call 20; (with_reducible refine (Ret.run e_valid _).mono ?_);rintro e wn ⟨rfl,hn⟩;(first | (have hh:=pass hl hb hn;clear hl hb hn;obtain ⟨hl,hb⟩:=hh) | (have hh:=passU hl hb hn;clear hl hb hn;obtain ⟨hl,hb⟩:=hh))) | (go_at_call 39; (with_reducible refine (Ret.run e_span2_1 _).mono ?_);rintro e wn ⟨rfl,hn⟩;(first | (have hh:=pass hl hb hn;clear hl hb hn;obtain ⟨hl,hb⟩:=hh) | (have hh:=passU hl hb hn;clear hl hb hn;obtain ⟨hl,hb⟩:=hh))) | (go_at_call 20; (with_reducible refine (Ret.run e_valid0 _).mono ?_);rintro e wn ⟨rfl,hn⟩;(first | (have hh:=pass hl hb hn;clear hl hb hn;obtain ⟨hl,hb⟩:=hh) | (have hh:=passU hl hb hn;clear hl hb hn;obtain ⟨hl,hb⟩:=hh))) | (go_at_call 12; (with_reducible refine (Ret.run e_ratio0_1 _).mono ?_);rintro e wn ⟨rfl,hn⟩;(first | (have hh:=pass hl hb hn;clear hl hb hn;obtain ⟨hl,hb⟩:=hh) | (have hh:=passU hl hb hn;clear hl hb hn;obtain ⟨hl,hb⟩:=hh))) | (go_at_call 24; (with_reducible refine (Ret.run e_cont _).mono ?_);rintro e wn ⟨rfl,hn⟩;(first | (have hh:=pass hl hb hn;clear hl hb hn;obtain ⟨hl,hb⟩:=hh) | (have hh:=passU hl hb hn;clear hl hb hn;obtain ⟨hl,hb⟩:=hh))) | (go_at_call 26; (with_reducible refine (Ret.run e_within _).mono ?_);rintro e wn ⟨rfl,hn⟩;(first | (have hh:=pass hl hb hn;clear hl hb hn;obtain ⟨hl,hb⟩:=hh) | (have hh:=passU hl hb hn;clear hl hb hn;obtain ⟨hl,hb⟩:=hh))) | (go_at_call 12; (with_reducible refine (Ret.run e_ratio3_1 _).mono ?_);rintro e wn ⟨rfl,hn⟩;(first | (have hh:=pass hl hb hn;clear hl hb hn;obtain ⟨hl,hb⟩:=hh) | (have hh:=passU hl hb hn;clear hl hb hn;obtain ⟨hl,hb⟩:=hh))) | (go_at_call 22; (with_reducible refine (Ret.run e_point _).mono ?_);rintro e wn ⟨rfl,hn⟩;(first | (have hh:=pass hl hb hn;clear hl hb hn;obtain ⟨hl,hb⟩:=hh) | (have hh:=passU hl hb hn;clear hl hb hn;obtain ⟨hl,hb⟩:=hh))) | (go_at_call 39; (with_reducible refine (Ret.run e_span3_3 _).mono ?_);rintro e wn ⟨rfl,hn⟩;(first | (have hh:=pass hl hb hn;clear hl hb hn;obtain ⟨hl,hb⟩:=hh) | (have hh:=passU hl hb hn;clear hl hb hn;obtain ⟨hl,hb⟩:=hh))))
 go_wp2_with fail
 go_ret
 exact ⟨rfl,hb⟩
end En
end
end Go.Proofs.YtbfonkabmehlmaaGreatDoor
