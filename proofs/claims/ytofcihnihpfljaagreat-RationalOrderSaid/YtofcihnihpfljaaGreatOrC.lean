/-
  The law RationalOrder, with its fixed examples.
-/
import Derived.Test.YtofcihnihpfljaaGreatOrB
import Derived.Test.YtofcihnihpfljaaGreatRatSb
import Derived.Test.YtofcihnihpfljaaGreatRatOp
namespace Go.Proofs.YtofcihnihpfljaaGreat
set_option maxRecDepth 1000000
namespace Rt
open Go.RowKit Go.Proofs.YtofcihnihpfljaaGreat.Nm
theorem order_any (x0 x1 x2 x3 y0 y1 y2 y3 z0 z1 z2 z3 s0 s1 : Int) (hx : (Lit.int .i64 x0).wf = true ∧ (Lit.int .i64 x1).wf = true ∧ (Lit.int .i64 x2).wf = true ∧ (Lit.int .i64 x3).wf = true) (hy : (Lit.int .i64 y0).wf = true ∧ (Lit.int .i64 y1).wf = true ∧ (Lit.int .i64 y2).wf = true ∧ (Lit.int .i64 y3).wf = true) (hz : (Lit.int .i64 z0).wf = true ∧ (Lit.int .i64 z1).wf = true ∧ (Lit.int .i64 z2).wf = true ∧ (Lit.int .i64 z3).wf = true) (hs : (Lit.int .i64 s0).wf = true ∧ (Lit.int .i64 s1).wf = true) (w : World) :
    Calls Tryz.prog 7 #[.agg #[.int .i64 x0, .int .i64 x1, .int .i64 x2, .int .i64 x3], .agg #[.int .i64 y0, .int .i64 y1, .int .i64 y2, .int .i64 y3], .agg #[.int .i64 z0, .int .i64 z1, .int .i64 z2, .int .i64 z3], .agg #[.int .i64 s0, .int .i64 s1]] w fun e w' => e = .returned (.bool true) ∧ Below w.heap.size w w' := by
  have i (x : Int) (h : (Lit.int .i64 x).wf = true) : -9223372036854775808 ≤ x ∧ x ≤ 9223372036854775807 := Joins.in64_of_wf h
  exact order_walk x0 x1 x2 x3 y0 y1 y2 y3 z0 z1 z2 z3 s0 s1 (i _ hx.1) (i _ hx.2.1) (i _ hx.2.2.1) (i _ hx.2.2.2) (i _ hy.1) (i _ hy.2.1) (i _ hy.2.2.1) (i _ hy.2.2.2) (i _ hz.1) (i _ hz.2.1) (i _ hz.2.2.1) (i _ hz.2.2.2) (i _ hs.1) (i _ hs.2) w (fun W => sane_any W)
end Rt
end Go.Proofs.YtofcihnihpfljaaGreat
