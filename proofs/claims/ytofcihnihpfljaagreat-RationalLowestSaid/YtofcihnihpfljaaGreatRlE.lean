/-
  The law RationalLowest, with its fixed examples.
-/
import Derived.Test.YtofcihnihpfljaaGreatRlD
import Derived.Test.YtofcihnihpfljaaGreatRatSb
import Derived.Test.YtofcihnihpfljaaGreatRatOp
namespace Go.Proofs.YtofcihnihpfljaaGreat
set_option maxRecDepth 1000000
namespace Rt
open Go.RowKit Go.Proofs.YtofcihnihpfljaaGreat.Nm
theorem low_any (x0 x1 x2 x3 f : Int) (s : Bool) (hx : (Lit.int .i64 x0).wf = true ∧ (Lit.int .i64 x1).wf = true ∧ (Lit.int .i64 x2).wf = true ∧ (Lit.int .i64 x3).wf = true) (hf : (Lit.int .i64 f).wf = true) (w : World) :
    Calls Tryz.prog 9 #[.agg #[.int .i64 x0, .int .i64 x1, .int .i64 x2, .int .i64 x3], .int .i64 f, .bool s] w fun e w' => e = .returned (.bool true) ∧ Below w.heap.size w w' :=
  low_walk x0 x1 x2 x3 f s (Joins.in64_of_wf hx.1) (Joins.in64_of_wf hx.2.1) (Joins.in64_of_wf hx.2.2.1) (Joins.in64_of_wf hx.2.2.2) (Joins.in64_of_wf hf) w (fun W => sane_any W)
end Rt
end Go.Proofs.YtofcihnihpfljaaGreat
