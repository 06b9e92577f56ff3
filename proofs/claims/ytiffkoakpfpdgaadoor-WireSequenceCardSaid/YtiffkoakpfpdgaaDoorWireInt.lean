/-
  The contract of Int: the integer that begins at an offset of a string.
-/
import Derived.Test.YtiffkoakpfpdgaaDoorWireJoin
import Derived.Lib.IndexBytes
namespace Go.Proofs.YtiffkoakpfpdgaaDoor
open Go.RowKit

def intVal (a : Nat) : Option (Int × Nat) → Value
  | none => .tuple #[.int .i64 0, .int .i64 0, .int .i64 10]
  | some (n, k) => .tuple #[.int .i64 n, .int .i64 ((a + k : Nat) : Int), .int .i64 0]

theorem int_some {n m : Int} {a k : Nat} (h : m = ((a + k : Nat) : Int)) : Ending.returned (.tuple #[.int .i64 n, .int .i64 m, .int .i64 0]) = .returned (intVal a (some (n, k))) := by subst h; rfl

theorem join_none (s : ByteArray) (w : World) (hs : s.size ≤ maxLen) (h : Wm.jn 9 s.data.toList = none) :
    Calls Tryd.prog 26 #[.string s] w fun e w' => e = .returned (.tuple #[.int .u64 0, .int .i64 0, .bool false]) ∧ w = w' := by
  have := join_any s w hs; rw [h] at this; exact this
theorem join_some (s : ByteArray) (w : World) (hs : s.size ≤ maxLen) (z k : Nat) (h : Wm.jn 9 s.data.toList = some (z, k)) :
    Calls Tryd.prog 26 #[.string s] w fun e w' => e = .returned (.tuple #[.int .u64 z, .int .i64 k, .bool true]) ∧ w = w' := by
  have := join_any s w hs; rw [h] at this; exact this

set_option maxRecDepth 100000 in
set_option maxHeartbeats 400000 in
theorem int_arg (s : ByteArray) (a : Int) (w : World) (ha : a < 0 ∨ (s.size : Int) < a) :
    Calls Tryd.prog 15 #[.string s, .int .i64 a] w fun e w' => e = .returned (.tuple #[.int .i64 0, .int .i64 0, .int .i64 2]) ∧ w = w' := by
  by_cases h : a < 0
  · clear ha
    go_enter Tryd.func15, Tryd.ntmps15
    go_wp2
    go_ret3
    exact ⟨rfl, rfl⟩
  · have h2 : (s.size : Int) < a := by omega
    clear ha
    go_enter Tryd.func15, Tryd.ntmps15
    go_wp2
    go_ret3
    exact ⟨rfl, rfl⟩

set_option maxRecDepth 100000 in
set_option maxHeartbeats 400000 in
theorem int_any (s : ByteArray) (a : Nat) (w : World) (hs : s.size ≤ maxLen) (ha : a ≤ s.size) :
    Calls Tryd.prog 15 #[.string s, .int .i64 a] w fun e w' => e = .returned (intVal a (Wm.decI (s.data.toList.drop a))) ∧ w = w' := by
  have hz : (s.extract a s.size).size ≤ maxLen := by
    rw [ByteArray.size_extract]; omega
  have hl : (s.data.toList.drop a).length = s.size - a := by rw [List.length_drop]; rfl
  cases hj : Wm.jn 9 (s.data.toList.drop a) with
  | none =>
    have hc := fun w => join_none (s.extract a s.size) w hz (by rw [Lib.extract_to_end]; exact hj)
    have HD : Hid (Wm.decI (s.data.toList.drop a) = none) := Lib.hid (by unfold Wm.decI; rw [hj])
    have HC := Lib.hid hc
    clear hj hc hl hz
    unfold maxLen at hs
    go_enter Tryd.func15, Tryd.ntmps15
    go_wp2_with (go_at_call 26; refine (HC.out _).mono ?_; rintro e w' ⟨rfl, rfl⟩)
    go_ret3
    exact ⟨by rw [HD.out]; rfl, rfl⟩
  | some p =>
    obtain ⟨z, k⟩ := p
    have hc := fun w => join_some (s.extract a s.size) w hz z k (by rw [Lib.extract_to_end]; exact hj)
    obtain ⟨b1, b2, b3, b4⟩ := Wm.jn_some _ _ _ _ hj
    have b5 : k ≤ s.size - a := by rw [← hl, ← b4, List.length_append, b2]; omega
    have hz9 : z < 9223372036854775808 := by omega
    have HC := Lib.hid hc
    have HJ := Lib.hid hj
    clear hj hc hl hz b1 b2 b4
    unfold maxLen at hs
    by_cases hm : z = 9223372036854775807
    · have HD : Hid (Wm.decI (s.data.toList.drop a) = none) := Lib.hid (by unfold Wm.decI; rw [HJ.out]; simp [hm])
      have hu : Wm.unzz z < -4611686018427387903 := by unfold Wm.unzz; omega
      clear hm
      go_enter Tryd.func15, Tryd.ntmps15
      go_wp2_with (first | (go_at_call 26; refine (HC.out _).mono ?_; rintro e w' ⟨rfl, rfl⟩) | (go_at_call 27; refine (unfold_any z hz9 _).mono ?_; rintro e w' ⟨rfl, rfl⟩))
      go_ret3
      exact ⟨by rw [HD.out]; rfl, rfl⟩
    · have HD : Hid (Wm.decI (s.data.toList.drop a) = some (Wm.unzz z, k)) := Lib.hid (by unfold Wm.decI; rw [HJ.out]; dsimp only; rw [if_neg hm])
      have hu : -4611686018427387903 ≤ Wm.unzz z := by unfold Wm.unzz; omega
      clear hm
      go_enter Tryd.func15, Tryd.ntmps15
      go_wp2_with (first | (go_at_call 26; refine (HC.out _).mono ?_; rintro e w' ⟨rfl, rfl⟩) | (go_at_call 27; refine (unfold_any z hz9 _).mono ?_; rintro e w' ⟨rfl, rfl⟩))
      go_ret3
      exact ⟨by rw [HD.out]; exact int_some (by omega), rfl⟩

end Go.Proofs.YtiffkoakpfpdgaaDoor
