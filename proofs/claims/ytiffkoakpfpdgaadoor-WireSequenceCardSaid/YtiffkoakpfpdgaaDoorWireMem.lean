/-
  Memory: a string made into bytes, and back.
-/
import Derived.Test.YtiffkoakpfpdgaaDoorWireSmall
import Derived.Lib.SmallJoins
import Derived.Lib.SlBytesRow
import Derived.Lib.ConvBytes
namespace Go.Proofs.YtiffkoakpfpdgaaDoor
open Go.RowKit

theorem bytes_bytesWorld (w : World) (e : TypeId) (t : ByteArray) : Lib.Bytes (Lib.bytesWorld w e t) w.heap.size 0 t := fun i hi => by
  rw [Nat.zero_add, Lib.bytesWorld_cell w e t i hi]
  congr 3
  simp [List.getD, hi]
  rfl

/-- 'string([]byte(t))': the two conversions, one behind the other -/
theorem conv_round (t : ByteArray) (n : Nat) (hn : t.size = n) (w : World) : ∃ (W1 : World) (cap : Nat),
    Sem.run Tryd.prog (convert 9 38 (.string t)) w = .ok (.slice (some ⟨w.heap.size, 0, none⟩) n cap) W1 ∧
    Sem.run Tryd.prog (convert 38 9 (.slice (some ⟨w.heap.size, 0, none⟩) n cap)) W1 = .ok (.string t) W1 ∧ Below w.heap.size w W1 := by
  subst hn
  refine ⟨Lib.bytesWorld w 5 t, grownCap w t.size 0 5, Lib.run_convert_string_bytes w 9 38 5 t Tryd.underlying9 Tryd.underlying38 Tryd.underlying5, ?_, Joins.below_bytesWorld _ w 5 t (Nat.le_refl _)⟩
  exact Lib.run_convert_whole _ 38 5 9 Tryd.underlying38 Tryd.underlying5 Tryd.underlying9 w.heap.size 0 t (bytes_bytesWorld w 5 t) _

end Go.Proofs.YtiffkoakpfpdgaaDoor
