/-
  The law RationalLimits, with its fixed examples.
-/
import Derived.Test.YtnljohcbpljplaaLimB
import Derived.Test.YtnljohcbpljplaaRatSb
import Derived.Lib.SmallJoins
namespace Go.Proofs.Ytnljohcbpljplaa
set_option maxRecDepth 1000000
namespace Rt
open Go.RowKit Go.Proofs.Ytnljohcbpljplaa.Nm
theorem limits_any (n m : Int) (hn : (Lit.int .i64 n).wf = true) (hm : (Lit.int .i64 m).wf = true) (w : World) :
    Calls Try.prog 3 #[.int .i64 n, .int .i64 m] w fun e w' => e = .returned (.bool true) ∧ Below w.heap.size w w' :=
  limits_walk n m (Joins.in64_of_wf hn) (Joins.in64_of_wf hm) w (fun W => sane_any W)
end Rt
end Go.Proofs.Ytnljohcbpljplaa
