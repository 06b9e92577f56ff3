/-
  The two answers of each function, the code's and the reference's, side by side.
-/
import Derived.Test.YteaecpmdooolkaaRefOp
import Derived.Test.YteaecpmdooolkaaIntTo
import Derived.Test.YteaecpmdooolkaaIntGcdF
import Derived.Test.YteaecpmdooolkaaIntRootF
import Derived.Test.YteaecpmdooolkaaIntSane
namespace Go.Proofs.Yteaecpmdooolkaa
namespace N10
open Go.RowKit

/-- a call that answers one value -/
def Two (f : Nat) (args : Array Value) (v : Value) : Prop := ∀ W : World, Calls Try.prog f args W fun e W' => e = .returned v ∧ Below W.heap.size W W'
theorem Two.run {f : Nat} {args : Array Value} {v : Value} (h : Two f args v) (W : World) : Calls Try.prog f args W fun e W' => e = .returned v ∧ Below W.heap.size W W' := h W
theorem both (s t : ByteArray) : (∃ x y : Int, s = txt x ∧ t = txt y ∧ Fits x ∧ Fits y) ∨ (validB s = false ∨ validB t = false) := by
  cases h1 : validB s with
  | false => exact .inr (.inl rfl)
  | true =>
    cases h2 : validB t with
    | false => exact .inr (.inr rfl)
    | true =>
      obtain ⟨x, e1, f1⟩ := valid_is h1
      obtain ⟨y, e2, f2⟩ := valid_is h2
      exact .inl ⟨x, y, e1, e2, f1, f2⟩
theorem one (s : ByteArray) : (∃ x : Int, s = txt x ∧ Fits x) ∨ validB s = false := by
  cases h1 : validB s with
  | false => exact .inr rfl
  | true =>
    obtain ⟨x, e1, f1⟩ := valid_is h1
    exact .inl ⟨x, e1, f1⟩
theorem nb {s t : ByteArray} (h : validB s = false ∨ validB t = false) : (validB s && validB t) = false := by
  rcases h with h | h <;> rw [h] <;> simp
theorem pair_Add (s t : ByteArray) (hs : s.size ≤ 1000000) (ht : t.size ≤ 1000000) : ∃ (r : ByteArray) (k : Int), Two 15 #[.string s, .string t] (.tuple #[.string r, .int .i64 k]) ∧ Two 16 #[.string s, .string t] (.tuple #[.string r, .int .i64 k]) := by
  rcases both s t with ⟨x, y, rfl, rfl, hx, hy⟩ | h
  · obtain ⟨r, k, h⟩ := calcR_two (x + y)
    exact ⟨r, k, fun W => h ▸ Add_ok x y hx hy W, fun W => h ▸ Add_ref x y hx hy W⟩
  · exact ⟨_, _, fun W => Go.Proofs.Yteaecpmdooolkaa.Add_bad s t hs ht (nb h) W, fun W => Add_bad s t hs ht h W⟩
theorem pair_Sub (s t : ByteArray) (hs : s.size ≤ 1000000) (ht : t.size ≤ 1000000) : ∃ (r : ByteArray) (k : Int), Two 17 #[.string s, .string t] (.tuple #[.string r, .int .i64 k]) ∧ Two 18 #[.string s, .string t] (.tuple #[.string r, .int .i64 k]) := by
  rcases both s t with ⟨x, y, rfl, rfl, hx, hy⟩ | h
  · obtain ⟨r, k, h⟩ := calcR_two (x - y)
    exact ⟨r, k, fun W => h ▸ Sub_ok x y hx hy W, fun W => h ▸ Sub_ref x y hx hy W⟩
  · exact ⟨_, _, fun W => Go.Proofs.Yteaecpmdooolkaa.Sub_bad s t hs ht (nb h) W, fun W => Sub_bad s t hs ht h W⟩
theorem pair_Mul (s t : ByteArray) (hs : s.size ≤ 1000000) (ht : t.size ≤ 1000000) : ∃ (r : ByteArray) (k : Int), Two 19 #[.string s, .string t] (.tuple #[.string r, .int .i64 k]) ∧ Two 20 #[.string s, .string t] (.tuple #[.string r, .int .i64 k]) := by
  rcases both s t with ⟨x, y, rfl, rfl, hx, hy⟩ | h
  · obtain ⟨r, k, h⟩ := calcR_two (x * y)
    exact ⟨r, k, fun W => h ▸ Mul_ok x y hx hy W, fun W => h ▸ Mul_ref x y hx hy W⟩
  · exact ⟨_, _, fun W => Go.Proofs.Yteaecpmdooolkaa.Mul_bad s t hs ht (nb h) W, fun W => Mul_bad s t hs ht h W⟩
theorem pair_Div (s t : ByteArray) (hs : s.size ≤ 1000000) (ht : t.size ≤ 1000000) : ∃ (q r : ByteArray) (k : Int), Two 21 #[.string s, .string t] (.tuple #[.string q, .string r, .int .i64 k]) ∧ Two 22 #[.string s, .string t] (.tuple #[.string q, .string r, .int .i64 k]) := by
  rcases both s t with ⟨x, y, rfl, rfl, hx, hy⟩ | h
  · by_cases h0 : y = 0
    · subst h0
      exact ⟨_, _, _, fun W => Div_zero x hx W, fun W => Div_zeroR x hx W⟩
    · exact ⟨_, _, _, fun W => Div_ok x y hx hy h0 W, fun W => Div_ref x y hx hy h0 W⟩
  · exact ⟨_, _, _, fun W => Div_bad s t hs ht (nb h) W, fun W => Div_badR s t hs ht h W⟩
theorem fits_gcd (x y : Int) (hx : Fits x) (hy : Fits y) : Fits ((Nat.gcd x.natAbs y.natAbs : Nat) : Int) := by
  unfold Fits
  rw [Int.natAbs_natCast, decN_len]
  rcases Nat.eq_zero_or_pos x.natAbs with h | h
  · rw [h, Nat.gcd_zero_left]; exact fitsL hy
  · exact Nat.le_trans (natL_len_mono (Nat.gcd_le_left _ h)) (fitsL hx)
set_option maxHeartbeats 400000 in
theorem Root_bad (s : ByteArray) (hs : s.size ≤ 1000000) (h : validB s = false) (w : World) :
    Calls Try.prog 25 #[.string s] w fun e w' => e = .returned (.tuple #[.string ⟨#[]⟩, .int .i64 30]) ∧ Below w.heap.size w w' := by
  have cp := fun W => parse_any s hs W
  rw [h] at cp
  go_enter Try.func25, Try.ntmps25
  go_wp2_with (go_at_call 54; refine (cp _).mono ?_; rintro e w1 ⟨b, p, n, c, rfl, hz1, hB1⟩)
  go_ret2
  exact ⟨rfl, hB1.alloc hB1.size _⟩
theorem pair_Gcd (s t : ByteArray) (hs : s.size ≤ 1000000) (ht : t.size ≤ 1000000) : ∃ (r : ByteArray) (k : Int), Two 23 #[.string s, .string t] (.tuple #[.string r, .int .i64 k]) ∧ Two 24 #[.string s, .string t] (.tuple #[.string r, .int .i64 k]) := by
  rcases both s t with ⟨x, y, rfl, rfl, hx, hy⟩ | h
  · exact ⟨_, _, fun W => calcR_fit (fits_gcd x y hx hy) ▸ Gcd_ok x y hx hy (gcd_any _ _ (by have := fits_len hx; omega) (by have := fits_len hy; omega)) W, fun W => Gcd_ref x y hx hy W⟩
  · exact ⟨_, _, fun W => Gcd_bad s t hs ht (nb h) W, fun W => Gcd_badR s t hs ht h W⟩
theorem pair_Root (s : ByteArray) (hs : s.size ≤ 1000000) : ∃ (r : ByteArray) (k : Int), Two 25 #[.string s] (.tuple #[.string r, .int .i64 k]) ∧ Two 26 #[.string s] (.tuple #[.string r, .int .i64 k]) := by
  rcases one s with ⟨x, rfl, hx⟩ | h
  · rcases Int.lt_or_le x 0 with h0 | h0
    · exact ⟨_, _, fun W => Root_neg x hx h0 W, fun W => Root_negR x hx h0 W⟩
    · exact ⟨_, _, fun W => Root_ok x hx h0 (root_any _ (by have := fits_len hx; omega)) W, fun W => Root_ref x hx h0 W⟩
  · exact ⟨_, _, fun W => Root_bad s hs h W, fun W => Root_badR s hs h W⟩
theorem pair_To (s : ByteArray) (hs : s.size ≤ 1000000) : ∃ (n k : Int), Two 27 #[.string s] (.tuple #[.int .i64 n, .int .i64 k]) ∧ Two 28 #[.string s] (.tuple #[.int .i64 n, .int .i64 k]) := by
  rcases one s with ⟨x, rfl, hx⟩ | h
  · rcases Int.lt_or_le x 0 with h0 | h0
    · rcases Int.lt_or_le x (-9223372036854775808) with h1 | h1
      · exact ⟨_, _, fun W => ToInt_bigN x hx h0 (by omega) W, fun W => ToInt_lowR x hx h1 W⟩
      · exact ⟨_, _, fun W => ToInt_okN x hx h0 h1 W, fun W => ToInt_negR x hx h0 h1 W⟩
    · rcases Int.lt_or_le 9223372036854775807 x with h1 | h1
      · exact ⟨_, _, fun W => ToInt_bigP x hx h0 (by omega) W, fun W => ToInt_highR x hx h1 W⟩
      · exact ⟨_, _, fun W => ToInt_okP x hx h0 h1 W, fun W => ToInt_posR x hx h0 h1 W⟩
  · exact ⟨_, _, fun W => ToInt_bad s hs h W, fun W => ToInt_badR s hs h W⟩
theorem pair_Valid (s : ByteArray) (hs : s.size ≤ 1000000) : ∃ b : Bool, Two 29 #[.string s] (.bool b) ∧ Two 30 #[.string s] (.bool b) :=
  ⟨_, fun W => (Valid_any s hs W).mono fun _ _ h => ⟨h.1, drawn_below h.2⟩, fun W => (Valid_ref s hs W).mono fun _ _ h => ⟨h.1, drawn_below h.2⟩⟩
theorem pair_Compare (s t : ByteArray) (hs : s.size ≤ 1000000) (ht : t.size ≤ 1000000) : ∃ k : Int, Two 31 #[.string s, .string t] (.int .i64 k) ∧ Two 32 #[.string s, .string t] (.int .i64 k) := by
  rcases both s t with ⟨x, y, rfl, rfl, hx, hy⟩ | h
  · exact ⟨_, fun W => Compare_ok x y hx hy W, fun W => Compare_ref x y hx hy W⟩
  · exact ⟨_, fun W => Go.Proofs.Yteaecpmdooolkaa.Compare_bad s t hs ht (nb h) W, fun W => Compare_bad s t hs ht h W⟩
theorem pair_From (n : Int) (h1 : -9223372036854775808 ≤ n) (h2 : n ≤ 9223372036854775807) : ∃ s : ByteArray, s.size ≤ 1000000 ∧ Two 33 #[.int .i64 n] (.string s) ∧ Two 14 #[.int .i64 n] (.string s) :=
  ⟨txt n, by have := txt_size (z := n) (by unfold Fits; rw [decN_len]; have := natL_word (n := n.natAbs) (by omega); omega); omega, fun W => FromInt_any n h1 h2 W, fun W => FromInt_ref n h1 h2 W⟩
end N10
end Go.Proofs.Yteaecpmdooolkaa
