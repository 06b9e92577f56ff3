/-
  The reference: constants and the schedule of block.
-/
import Derived.Test.YtegkckpanajgjaaDoorDigRefX
import Derived.Test.YtegkckpanajgjaaDoorDigComp
namespace Go.Proofs.YtegkckpanajgjaaDoor
open Go.RowKit

theorem constants_ref (w : World) :
    Calls Tryd.prog 51 #[] w fun e w' => ∃ v, e = .returned v ∧ D4.NA w' v Sh.K ∧ Below w.heap.size w w' := by
  go_enter Tryd.func51, Tryd.ntmps51
  go_wp2
  go_ret
  exact ⟨_, rfl, ⟨_, 64, rfl, by decide, by unfold maxLen; omega, .inr ⟨_, 0, rfl, by rw [World.size_alloc]; omega, D4.RowAt.ua (RowAt.new w (u32s Sh.K) _)⟩⟩, (Below.refl _ _).alloc (Nat.le_refl _) _⟩
end Go.Proofs.YtegkckpanajgjaaDoor
