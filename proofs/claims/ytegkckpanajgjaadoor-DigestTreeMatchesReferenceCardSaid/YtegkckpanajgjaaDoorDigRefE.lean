/-
  The reference: Leaf, Node, Chain; the law DigestSumMatchesReference: its walk.
-/
import Derived.Test.YtegkckpanajgjaaDoorDigRefD
import Derived.Test.YtegkckpanajgjaaDoorDigTree
import Derived.Test.YtegkckpanajgjaaDoorDigAcc
import Derived.Lib.MinMax
namespace Go.Proofs.YtegkckpanajgjaaDoor
open Go.RowKit

set_option maxHeartbeats 400000 in
theorem Leaf_ref (s : ByteArray) (hs : s.size ≤ 80000) (w : World) :
    Calls Tryd.prog 15 #[.string s] w fun e w' => e = .returned (.string (leafB s)) ∧ Below w.heap.size w w' := by
  have c := fun W => Sum_ref (⟨#[0]⟩ ++ s) (by rw [ByteArray.size_append]; have : (⟨#[0]⟩ : ByteArray).size = 1 := rfl; omega) W
  go_enter Tryd.func15, Tryd.ntmps15
  go_wp2_with (go_at_call 13; refine (c _).mono ?_; rintro e w1 ⟨rfl, hB⟩)
  go_ret
  exact ⟨rfl, hB⟩
set_option maxHeartbeats 400000 in
theorem Node_ref (s r : ByteArray) (hs : s.size ≤ 40000) (hr : r.size ≤ 40000) (w : World) :
    Calls Tryd.prog 17 #[.string s, .string r] w fun e w' => e = .returned (.string (nodeB s r)) ∧ Below w.heap.size w w' := by
  have c := fun W => Sum_ref (⟨#[1]⟩ ++ s ++ r) (by rw [ByteArray.size_append, ByteArray.size_append]; have : (⟨#[1]⟩ : ByteArray).size = 1 := rfl; omega) W
  go_enter Tryd.func17, Tryd.ntmps17
  go_wp2_with (go_at_call 13; refine (c _).mono ?_; rintro e w1 ⟨rfl, hB⟩)
  go_ret
  exact ⟨rfl, hB⟩
set_option maxHeartbeats 400000 in
theorem Chain_ref (s r : ByteArray) (hs : s.size ≤ 40000) (hr : r.size ≤ 40000) (w : World) :
    Calls Tryd.prog 19 #[.string s, .string r] w fun e w' => e = .returned (.string (chainB s r)) ∧ Below w.heap.size w w' := by
  have c := fun W => Sum_ref (⟨#[2]⟩ ++ s ++ r) (by rw [ByteArray.size_append, ByteArray.size_append]; have : (⟨#[2]⟩ : ByteArray).size = 1 := rfl; omega) W
  go_enter Tryd.func19, Tryd.ntmps19
  go_wp2_with (go_at_call 13; refine (c _).mono ?_; rintro e w1 ⟨rfl, hB⟩)
  go_ret
  exact ⟨rfl, hB⟩
end Go.Proofs.YtegkckpanajgjaaDoor
