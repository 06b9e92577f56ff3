/-
  Package enclosure: refusals: errors.Is of a refusal, codeOf, refuseIf.
-/
import Derived.Test.YtbfonkabmehlmaaGreatDoorRows
import Derived.WalkKit
import Derived.WalkLawsBesides
import Derived.LaidEql
import Derived.Stop.Asserts
import Derived.RowKitTokens
import Derived.Defers
import Derived.Recover
namespace Go.Proofs.YtbfonkabmehlmaaGreatDoor
set_option maxRecDepth 1000000
namespace En
open Go.RowKit Go.Extern.Stop Go.Stop Go.Extern

theorem isTypeOf (v : Value) (w : World) : (Extern.ReflectliteType.typeOf #[.iface 200 v]).run Tryz.prog w = .ok (.iface 186 (.agg #[.pointer (some ⟨2, 200, none⟩)])) w := by kernel_rfl
theorem isMethodComparable (v : Value) (n : Nat) (w : World) : (Go.method (n + 1) 186 v "Comparable").run Tryz.prog w = .ok (219, v) w := by kernel_rfl
theorem isComp : (Tryz.prog.info? 200).map (·.comparable) = some true := by kernel_rfl
theorem isSize : (Tryz.prog.info? 222).map (·.size) = some 1 := by kernel_rfl
theorem noIsE (v : Value) (xT : TypeId) (w : World) : (Instr.typeAssert (.iface 200 v) xT 188 true).run Tryz.prog w = .ok (.tuple #[.nilIface, .bool false]) w := run_typeAssert_lacksB Tryz.underlying188 (by kernel_rfl) (by kernel_rfl) v xT w
theorem isError (v : Value) (xT : TypeId) (w : World) : (Instr.typeAssert (.iface 200 v) xT 127 true).run Tryz.prog w = .ok (.tuple #[.iface 200 v, .bool true]) w := run_typeAssert_hasB Tryz.underlying127 (by kernel_rfl) v xT w
end En
end Go.Proofs.YtbfonkabmehlmaaGreatDoor
