/-
  Package enclosure: refusals: errors.Is of a refusal, codeOf, refuseIf.
-/
import Derived.Test.YtncgigpjdjpgmaaGreatDoorRows
import Derived.WalkKit
import Derived.WalkLawsBesides
import Derived.LaidEql
import Derived.Stop.Asserts
import Derived.RowKitTokens
import Derived.Defers
import Derived.Recover
namespace Go.Proofs.YtncgigpjdjpgmaaGreatDoor
set_option maxRecDepth 1000000
namespace En
open Go.RowKit Go.Extern.Stop Go.Stop Go.Extern

theorem isTypeOf (v : Value) (w : World) : (Extern.ReflectliteType.typeOf #[.iface 202 v]).run Tryz.prog w = .ok (.iface 188 (.agg #[.pointer (some ⟨2, 202, none⟩)])) w := by kernel_rfl
theorem isMethodComparable (v : Value) (n : Nat) (w : World) : (Go.method (n + 1) 188 v "Comparable").run Tryz.prog w = .ok (221, v) w := by kernel_rfl
theorem isComp : (Tryz.prog.info? 202).map (·.comparable) = some true := by kernel_rfl
theorem isSize : (Tryz.prog.info? 224).map (·.size) = some 1 := by kernel_rfl
theorem noIsE (v : Value) (xT : TypeId) (w : World) : (Instr.typeAssert (.iface 202 v) xT 190 true).run Tryz.prog w = .ok (.tuple #[.nilIface, .bool false]) w := run_typeAssert_lacksB Tryz.underlying190 (by kernel_rfl) (by kernel_rfl) v xT w
theorem isError (v : Value) (xT : TypeId) (w : World) : (Instr.typeAssert (.iface 202 v) xT 129 true).run Tryz.prog w = .ok (.tuple #[.iface 202 v, .bool true]) w := run_typeAssert_hasB Tryz.underlying129 (by kernel_rfl) v xT w
end En
end Go.Proofs.YtncgigpjdjpgmaaGreatDoor
