/-
  The law IntegerLimits: its walk.
-/
import Derived.Test.YtnlekckmkofkiaaIntLawA
namespace Go.Proofs.Ytnlekckmkofkiaa
open Go.RowKit Nm

/-- so many nines -/
def N9 (k : Nat) : ByteArray := ba (List.replicate k 57)
theorem N9_size (k : Nat) : (N9 k).size = k := by rw [N9, ba_size, List.length_replicate]
theorem N9_succ (k : Nat) : N9 k ++ ⟨#[57]⟩ = N9 (k + 1) := by
  rw [N9, N9, List.replicate_succ', ba_append]; rfl
theorem decN_nines (m : Nat) : decN (10 ^ m - 1) = List.replicate m 57 := by
  induction m with
  | zero => rw [Nat.pow_zero, Nat.sub_self, decN_zero]; rfl
  | succ m ih =>
    have hp : 0 < 10 ^ m := Nat.pow_pos (by decide)
    rw [Nat.pow_succ, List.replicate_succ']
    rw [← ih]
    generalize 10 ^ m = P at *
    rw [decN_pos (by omega), show (P * 10 - 1) / 10 = P - 1 by omega, show 48 + (P * 10 - 1) % 10 = 57 by omega]
theorem decN_two (m : Nat) : decN (2 * 10 ^ m - 1) = 49 :: List.replicate m 57 := by
  induction m with
  | zero => decide +kernel
  | succ m ih =>
    have hp : 0 < 10 ^ m := Nat.pow_pos (by decide)
    rw [Nat.pow_succ, List.replicate_succ', ← List.cons_append, ← ih]
    generalize 10 ^ m = P at *
    rw [decN_pos (by omega), show (2 * (P * 10) - 1) / 10 = 2 * P - 1 by omega, show 48 + (2 * (P * 10) - 1) % 10 = 57 by omega]
theorem txt_nat {n : Nat} (h : n ≠ 0) : txt (n : Int) = ba (decN n) := by
  rw [txt, if_neg (by omega), if_neg (by omega), Int.natAbs_natCast]
theorem txt_natN {n : Nat} (h : n ≠ 0) : txt (-(n : Int)) = ⟨#[45]⟩ ++ ba (decN n) := by
  rw [txt, if_neg (by omega), if_pos (by omega), Int.natAbs_neg, Int.natAbs_natCast, show (45 :: decN n) = [45] ++ decN n from rfl, ba_append]; rfl
theorem pow_ne (m : Nat) (h : 1 ≤ m) : 10 ^ m - 1 ≠ 0 := by
  obtain ⟨k, rfl⟩ : ∃ k, m = k + 1 := ⟨m - 1, by omega⟩
  have hp : 0 < 10 ^ k := Nat.pow_pos (by decide)
  rw [Nat.pow_succ]; omega
theorem txt_nines (m : Nat) (h : 1 ≤ m) : txt ((10 ^ m - 1 : Nat) : Int) = N9 m := by rw [txt_nat (pow_ne m h), decN_nines]; rfl
theorem txt_ninesN (m : Nat) (h : 1 ≤ m) : txt (-((10 ^ m - 1 : Nat) : Int)) = ⟨#[45]⟩ ++ N9 m := by rw [txt_natN (pow_ne m h), decN_nines]; rfl
theorem two_ne (m : Nat) : 2 * 10 ^ m - 1 ≠ 0 := by have hp : 0 < 10 ^ m := Nat.pow_pos (by decide); omega
theorem txt_two (m : Nat) : txt ((2 * 10 ^ m - 1 : Nat) : Int) = ⟨#[49]⟩ ++ N9 m := by
  rw [txt_nat (two_ne m), decN_two, show (49 :: List.replicate m 57) = [49] ++ List.replicate m 57 from rfl, ba_append]; rfl
theorem fits_iff (z : Int) : Fits z ↔ z.natAbs < 10 ^ 200 := ⟨fits_lt, fun h => Bd.fits (t := 200) h (Nat.le_refl _)⟩

set_option maxHeartbeats 1000000 in
theorem nines_any (n : Nat) (hn : n ≤ 1000) (w : World) :
    Calls Try.prog 34 #[.int .i64 n] w fun e w' => e = .returned (.string (N9 n)) ∧ w' = w := by
  go_enter Try.func34, Try.ntmps34
  go_wp2
  go_loopw [3, 4] (fun s i wr => ∃ k : Nat, k ≤ n ∧ s = .string (N9 k) ∧ i = .int .i64 (k : Int) ∧ wr = w) (fun _ i _ => n - (intOf i).toNat)
  case atStart => exact ⟨0, Nat.zero_le _, by rw [N9]; rfl, rfl, rfl⟩
  case round =>
    obtain ⟨k, hk, rfl, rfl, rfl⟩ := hrel
    by_cases hgo : k < n
    · have hs := N9_size k
      have HS : Shut _ := ⟨N9_succ k⟩
      have h1s : (⟨#[57]⟩ : ByteArray).size = 1 := rfl
      generalize N9 k = s at *
      go_wp2
      exact ⟨⟨k + 1, by omega, by rw [HS.o], by go_num, trivial⟩, by simp [intOf]; omega⟩
    · obtain rfl : k = n := by omega
      go_wp2
      go_ret
      exact ⟨rfl, rfl⟩

set_option maxHeartbeats 1000000 in
theorem pick_any (c : Int) (h1 : -9223372036854775808 ≤ c) (h2 : c ≤ 9223372036854775807) (w : World) :
    Calls Try.prog 35 #[.int .i64 c, .int .i64 200] w fun e w' => ∃ k : Nat, k < 200 ∧ e = .returned (.int .i64 (k : Int)) ∧ w' = w := by
  have hw : ∀ x : Int, -9223372036854775808 ≤ x → x ≤ 9223372036854775807 → IntKind.i64.wrap x = x := fun x a b => by simp [IntKind.wrap, IntKind.signed, IntKind.bits]; omega
  by_cases hc : c < 0
  · have e1 := hw (c + 1) (by omega) (by omega)
    have e2 := hw (-(c + 1)) (by omega) (by omega)
    obtain ⟨k, hk⟩ : ∃ k : Nat, -(c + 1) = (k : Int) := ⟨(-(c + 1)).toNat, by omega⟩
    go_enter Try.func35, Try.ntmps35
    go_wp2
    go_ret
    exact ⟨k % 200, by omega, by congr 2, rfl⟩
  · obtain ⟨k, rfl⟩ := Int.eq_ofNat_of_zero_le (show 0 ≤ c by omega)
    go_enter Try.func35, Try.ntmps35
    go_wp2
    go_ret
    exact ⟨k % 200, by omega, by congr 2, rfl⟩
end Go.Proofs.Ytnlekckmkofkiaa
