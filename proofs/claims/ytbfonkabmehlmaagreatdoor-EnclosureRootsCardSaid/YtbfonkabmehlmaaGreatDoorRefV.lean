/-
  The two answers of each function, the code's and the reference's, side by side.
-/
import Derived.Test.YtbfonkabmehlmaaGreatDoorRefOp
import Derived.Test.YtbfonkabmehlmaaGreatDoorIntH
namespace Go.Proofs.YtbfonkabmehlmaaGreatDoor
set_option maxRecDepth 1000000
namespace N10
open Go.RowKit

/-- a call that answers one value -/
def Two (f : Nat) (args : Array Value) (v : Value) : Prop := ∀ W : World, Calls Tryz.prog f args W fun e W' => e = .returned v ∧ Below W.heap.size W W'
theorem Two.run {f : Nat} {args : Array Value} {v : Value} (h : Two f args v) (W : World) : Calls Tryz.prog f args W fun e W' => e = .returned v ∧ Below W.heap.size W W' := h W
theorem both (s t : ByteArray) : (∃ x y : Int, s = txt x ∧ t = txt y ∧ Fits x ∧ Fits y) ∨ (validB s = false ∨ validB t = false) := by
  cases h1 : validB s with
  | false => exact .inr (.inl rfl)
  | true =>
    cases h2 : validB t with
    | false => exact .inr (.inr rfl)
    | true =>
      obtain ⟨x, e1, f1⟩ := valid_is h1
      obtain ⟨y, e2, f2⟩ := valid_is h2
      exact .inl ⟨x, y, e1, e2, f1, f2⟩
theorem one (s : ByteArray) : (∃ x : Int, s = txt x ∧ Fits x) ∨ validB s = false := by
  cases h1 : validB s with
  | false => exact .inr rfl
  | true =>
    obtain ⟨x, e1, f1⟩ := valid_is h1
    exact .inl ⟨x, e1, f1⟩
theorem nb {s t : ByteArray} (h : validB s = false ∨ validB t = false) : (validB s && validB t) = false := by
  rcases h with h | h <;> rw [h] <;> simp
theorem pair_Add (s t : ByteArray) (hs : s.size ≤ 1000000) (ht : t.size ≤ 1000000) : ∃ (r : ByteArray) (k : Int), Two 70 #[.string s, .string t] (.tuple #[.string r, .int .i64 k]) ∧ Two 133 #[.string s, .string t] (.tuple #[.string r, .int .i64 k]) := by
  rcases both s t with ⟨x, y, rfl, rfl, hx, hy⟩ | h
  · obtain ⟨r, k, h⟩ := calcR_two (x + y)
    exact ⟨r, k, fun W => h ▸ Add_ok x y hx hy W, fun W => h ▸ Add_ref x y hx hy W⟩
  · exact ⟨_, _, fun W => Go.Proofs.YtbfonkabmehlmaaGreatDoor.Add_bad s t hs ht (nb h) W, fun W => Add_bad s t hs ht h W⟩
theorem pair_Sub (s t : ByteArray) (hs : s.size ≤ 1000000) (ht : t.size ≤ 1000000) : ∃ (r : ByteArray) (k : Int), Two 71 #[.string s, .string t] (.tuple #[.string r, .int .i64 k]) ∧ Two 46 #[.string s, .string t] (.tuple #[.string r, .int .i64 k]) := by
  rcases both s t with ⟨x, y, rfl, rfl, hx, hy⟩ | h
  · obtain ⟨r, k, h⟩ := calcR_two (x - y)
    exact ⟨r, k, fun W => h ▸ Sub_ok x y hx hy W, fun W => h ▸ Sub_ref x y hx hy W⟩
  · exact ⟨_, _, fun W => Go.Proofs.YtbfonkabmehlmaaGreatDoor.Sub_bad s t hs ht (nb h) W, fun W => Sub_bad s t hs ht h W⟩
theorem pair_Mul (s t : ByteArray) (hs : s.size ≤ 1000000) (ht : t.size ≤ 1000000) : ∃ (r : ByteArray) (k : Int), Two 75 #[.string s, .string t] (.tuple #[.string r, .int .i64 k]) ∧ Two 99 #[.string s, .string t] (.tuple #[.string r, .int .i64 k]) := by
  rcases both s t with ⟨x, y, rfl, rfl, hx, hy⟩ | h
  · obtain ⟨r, k, h⟩ := calcR_two (x * y)
    exact ⟨r, k, fun W => h ▸ Mul_ok x y hx hy W, fun W => h ▸ Mul_ref x y hx hy W⟩
  · exact ⟨_, _, fun W => Go.Proofs.YtbfonkabmehlmaaGreatDoor.Mul_bad s t hs ht (nb h) W, fun W => Mul_bad s t hs ht h W⟩
theorem pair_Div (s t : ByteArray) (hs : s.size ≤ 1000000) (ht : t.size ≤ 1000000) : ∃ (q r : ByteArray) (k : Int), Two 77 #[.string s, .string t] (.tuple #[.string q, .string r, .int .i64 k]) ∧ Two 98 #[.string s, .string t] (.tuple #[.string q, .string r, .int .i64 k]) := by
  rcases both s t with ⟨x, y, rfl, rfl, hx, hy⟩ | h
  · by_cases h0 : y = 0
    · subst h0
      exact ⟨_, _, _, fun W => Div_zero x hx W, fun W => Div_zeroR x hx W⟩
    · exact ⟨_, _, _, fun W => Div_ok x y hx hy h0 W, fun W => Div_ref x y hx hy h0 W⟩
  · exact ⟨_, _, _, fun W => Div_bad s t hs ht (nb h) W, fun W => Div_badR s t hs ht h W⟩
theorem fits_gcd (x y : Int) (hx : Fits x) (hy : Fits y) : Fits ((Nat.gcd x.natAbs y.natAbs : Nat) : Int) := by
  unfold Fits
  rw [Int.natAbs_natCast, decN_len]
  rcases Nat.eq_zero_or_pos x.natAbs with h | h
  · rw [h, Nat.gcd_zero_left]; exact fitsL hy
  · exact Nat.le_trans (natL_len_mono (Nat.gcd_le_left _ h)) (fitsL hx)
theorem pair_Gcd (s t : ByteArray) (hs : s.size ≤ 1000000) (ht : t.size ≤ 1000000) : ∃ (r : ByteArray) (k : Int), Two 118 #[.string s, .string t] (.tuple #[.string r, .int .i64 k]) ∧ Two 50 #[.string s, .string t] (.tuple #[.string r, .int .i64 k]) := by
  rcases both s t with ⟨x, y, rfl, rfl, hx, hy⟩ | h
  · exact ⟨_, _, fun W => calcR_fit (fits_gcd x y hx hy) ▸ Gcd_ok x y hx hy (gcd_any _ _ (by have := fits_len hx; omega) (by have := fits_len hy; omega)) W, fun W => Gcd_ref x y hx hy W⟩
  · exact ⟨_, _, fun W => Gcd_bad s t hs ht (nb h) W, fun W => Gcd_badR s t hs ht h W⟩
theorem pair_Valid (s : ByteArray) (hs : s.size ≤ 1000000) : ∃ b : Bool, Two 157 #[.string s] (.bool b) ∧ Two 48 #[.string s] (.bool b) :=
  ⟨_, fun W => (Valid_any s hs W).mono fun _ _ h => ⟨h.1, drawn_below h.2⟩, fun W => (Valid_ref s hs W).mono fun _ _ h => ⟨h.1, drawn_below h.2⟩⟩
theorem pair_Compare (s t : ByteArray) (hs : s.size ≤ 1000000) (ht : t.size ≤ 1000000) : ∃ k : Int, Two 76 #[.string s, .string t] (.int .i64 k) ∧ Two 49 #[.string s, .string t] (.int .i64 k) := by
  rcases both s t with ⟨x, y, rfl, rfl, hx, hy⟩ | h
  · exact ⟨_, fun W => Compare_ok x y hx hy W, fun W => Compare_ref x y hx hy W⟩
  · exact ⟨_, fun W => Go.Proofs.YtbfonkabmehlmaaGreatDoor.Compare_bad s t hs ht (nb h) W, fun W => Compare_bad s t hs ht h W⟩
end N10
end Go.Proofs.YtbfonkabmehlmaaGreatDoor
