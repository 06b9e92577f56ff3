/-
  The contract of String: the string that begins at an offset of a string.
-/
import Derived.Test.YtiffkoakpfpdgaaDoorWireInt
import Derived.Test.YtiffkoakpfpdgaaDoorWireMem
namespace Go.Proofs.YtiffkoakpfpdgaaDoor
open Go.RowKit

def strVal (a : Nat) : Option (List UInt8 × Nat) → Value
  | none => .tuple #[.string ⟨#[]⟩, .int .i64 0, .int .i64 10]
  | some (t, k) => .tuple #[.string ⟨t.toArray⟩, .int .i64 ((a + k : Nat) : Int), .int .i64 0]

theorem str_some {t : List UInt8} {m : Int} {a k : Nat} (h : m = ((a + k : Nat) : Int)) : Ending.returned (.tuple #[.string ⟨t.toArray⟩, .int .i64 m, .int .i64 0]) = .returned (strVal a (some (t, k))) := by subst h; rfl

theorem int_none' (s : ByteArray) (a : Nat) (w : World) (hs : s.size ≤ maxLen) (ha : a ≤ s.size) (h : Wm.decI (s.data.toList.drop a) = none) :
    Calls Tryd.prog 15 #[.string s, .int .i64 a] w fun e w' => e = .returned (.tuple #[.int .i64 0, .int .i64 0, .int .i64 10]) ∧ w = w' := by
  have := int_any s a w hs ha; rw [h] at this; exact this
theorem int_some' (s : ByteArray) (a : Nat) (w : World) (hs : s.size ≤ maxLen) (ha : a ≤ s.size) (n : Int) (k : Nat) (h : Wm.decI (s.data.toList.drop a) = some (n, k)) :
    Calls Tryd.prog 15 #[.string s, .int .i64 a] w fun e w' => e = .returned (.tuple #[.int .i64 n, .int .i64 ((a + k : Nat) : Int), .int .i64 0]) ∧ w = w' := by
  have := int_any s a w hs ha; rw [h] at this; exact this

set_option maxRecDepth 100000 in
set_option maxHeartbeats 400000 in
theorem str_arg (s : ByteArray) (a : Int) (w : World) (ha : a < 0 ∨ (s.size : Int) < a) :
    Calls Tryd.prog 17 #[.string s, .int .i64 a] w fun e w' => e = .returned (.tuple #[.string ⟨#[]⟩, .int .i64 0, .int .i64 2]) ∧ Below w.heap.size w w' := by
  have HA := Lib.hid ha; clear ha
  go_enter Tryd.func17, Tryd.ntmps17
  go_wp2_with (go_at_call 15; refine (int_arg s a _ HA.out).mono ?_; rintro e w' ⟨rfl, rfl⟩)
  go_ret3
  exact ⟨rfl, Below.refl _ _⟩

set_option maxRecDepth 100000 in
set_option maxHeartbeats 400000 in
theorem str_any (s : ByteArray) (a : Nat) (w : World) (hs : s.size ≤ maxLen) (ha : a ≤ s.size) :
    Calls Tryd.prog 17 #[.string s, .int .i64 a] w fun e w' => e = .returned (strVal a (Wm.decS (s.data.toList.drop a))) ∧ Below w.heap.size w w' := by
  cases hd : Wm.decI (s.data.toList.drop a) with
  | none =>
    have HS : Hid (Wm.decS (s.data.toList.drop a) = none) := Lib.hid (by unfold Wm.decS; rw [hd])
    have HC := Lib.hid (fun w => int_none' s a w hs ha hd)
    clear hd
    go_enter Tryd.func17, Tryd.ntmps17
    go_wp2_with (go_at_call 15; refine (HC.out _).mono ?_; rintro e w' ⟨rfl, rfl⟩)
    go_ret3
    exact ⟨by rw [HS.out]; rfl, Below.refl _ _⟩
  | some p =>
    obtain ⟨n, k⟩ := p
    have HC := Lib.hid (fun w => int_some' s a w hs ha n k hd)
    obtain ⟨r1, r2, -, -, r5, -, -⟩ := Wm.decI_some _ _ _ hd
    have hl : (s.data.toList.drop a).length = s.size - a := by rw [List.length_drop]; rfl
    have HD := Lib.hid hd
    rw [hl] at r5
    clear hd
    by_cases hc : n < 0 ∨ 65536 < n ∨ ((s.size - a - k : Nat) : Int) < n
    · have HS : Hid (Wm.decS (s.data.toList.drop a) = none) := Lib.hid (by unfold Wm.decS; rw [HD.out]; dsimp only; rw [hl, if_pos hc])
      clear hl
      unfold maxLen at hs
      unfold Wm.MX at r1 r2
      by_cases c1 : n < 0
      · clear hc
        go_enter Tryd.func17, Tryd.ntmps17
        go_wp2_with (go_at_call 15; refine (HC.out _).mono ?_; rintro e w' ⟨rfl, rfl⟩)
        go_ret3
        exact ⟨by rw [HS.out]; rfl, Below.refl _ _⟩
      · by_cases c2 : 65536 < n
        · clear hc
          go_enter Tryd.func17, Tryd.ntmps17
          go_wp2_with (go_at_call 15; refine (HC.out _).mono ?_; rintro e w' ⟨rfl, rfl⟩)
          go_ret3
          exact ⟨by rw [HS.out]; rfl, Below.refl _ _⟩
        · have c3 : ((s.size - a - k : Nat) : Int) < n := by omega
          clear hc
          go_enter Tryd.func17, Tryd.ntmps17
          go_wp2_with (go_at_call 15; refine (HC.out _).mono ?_; rintro e w' ⟨rfl, rfl⟩)
          go_ret3
          exact ⟨by rw [HS.out]; rfl, Below.refl _ _⟩
    · have HS : Hid (Wm.decS (s.data.toList.drop a) = some (((s.data.toList.drop a).drop k).take n.toNat, k + n.toNat)) := Lib.hid (by unfold Wm.decS; rw [HD.out]; dsimp only; rw [hl, if_neg hc])
      have c1 : 0 ≤ n := by omega
      have c2 : n ≤ 65536 := by omega
      have c3 : n ≤ ((s.size - a - k : Nat) : Int) := by omega
      clear hc hl HD
      obtain ⟨m, rfl⟩ := Int.eq_ofNat_of_zero_le c1
      obtain ⟨W1, cap, f1, f2, hB⟩ := conv_round (s.extract (a + k) (a + k + m)) m (by rw [ByteArray.size_extract]; omega) w
      have HT : Hid (s.extract (a + k) (a + k + m) = ⟨(((s.data.toList.drop a).drop k).take m).toArray⟩) := Lib.hid (by
        apply ByteArray.ext; apply Array.toList_inj.1
        rw [Lib.extract_data]; simp)
      unfold maxLen at hs
      go_enter Tryd.func17, Tryd.ntmps17
      go_wp2_with (go_at_call 15; refine (HC.out _).mono ?_; rintro e w' ⟨rfl, rfl⟩)
      go_ret3
      exact ⟨by rw [HS.out, HT.out]; exact str_some (by omega), hB⟩

end Go.Proofs.YtiffkoakpfpdgaaDoor
