/-
  The law RationalMachine, with its fixed examples.
-/
import Derived.Test.YtofcihnihpfljaaGreatMchB
import Derived.Test.YtofcihnihpfljaaGreatRatSb
import Derived.Lib.SmallJoins
namespace Go.Proofs.YtofcihnihpfljaaGreat
set_option maxRecDepth 1000000
namespace Rt
open Go.RowKit Go.Proofs.YtofcihnihpfljaaGreat.Nm
theorem mach_any (n d m c : Int) (hn : (Lit.int .i64 n).wf = true) (hd : (Lit.int .i64 d).wf = true) (hm : (Lit.int .i64 m).wf = true) (hc : (Lit.int .i64 c).wf = true) (w : World) :
    Calls Tryz.prog 5 #[.int .i64 n, .int .i64 d, .int .i64 m, .int .i64 c] w fun e w' => e = .returned (.bool true) ∧ Below w.heap.size w w' :=
  mach_walk n d m c (Joins.in64_of_wf hn) (Joins.in64_of_wf hd) (Joins.in64_of_wf hm) (Joins.in64_of_wf hc) w (fun W => sane_any W)
end Rt
end Go.Proofs.YtofcihnihpfljaaGreat
