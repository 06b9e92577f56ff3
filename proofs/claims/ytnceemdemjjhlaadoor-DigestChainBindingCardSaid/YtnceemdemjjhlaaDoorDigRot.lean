/-
  Contracts of the small functions of layer 2: rotated (both), split (three of them).
-/
import Derived.Test.YtnceemdemjjhlaaDoorDigMath
import Derived.BigQuiet
import Derived.BigRegion
namespace Go.Proofs.YtnceemdemjjhlaaDoor
open Go.RowKit

theorem ret_u32 {a b : Int} (h : a = b) : Ending.returned (.int .u32 a) = .returned (.int .u32 b) := by rw [h]
theorem ret_i64 {a b : Int} (h : a = b) : Ending.returned (.int .i64 a) = .returned (.int .i64 b) := by rw [h]
theorem below_drewN {B : Nat} {a w : World} (h : Below B a w) (n : Nat) : Below B a (w.drewN n) := h.trans ⟨rfl, rfl, rfl, Nat.le_refl _, fun _ _ => rfl⟩

theorem i_rot (x n : Nat) : bits .or .u32 ((x : Int) / 2 ^ n) (((x : Int) * 2 ^ (32 - n)) % 4294967296) = ((Sh.rot x n : Nat) : Int) := by
  have e1 : ((x : Int) / 2 ^ n) = ((x / 2 ^ n : Nat) : Int) := by rw [Int.natCast_ediv, Int.natCast_pow]; rfl
  have e2 : ((x : Int) * 2 ^ (32 - n)) % 4294967296 = ((x * 2 ^ (32 - n) % 4294967296 : Nat) : Int) := by rw [Int.natCast_emod, Int.natCast_mul, Int.natCast_pow]; rfl
  rw [e1, e2, i_or]; rfl

set_option maxHeartbeats 400000 in
theorem rotated_any (x n : Nat) (hn : n ≤ 32) (w : World) :
    Calls Tryd.prog 55 #[.int .u32 x, .int .i64 n] w fun e w' => e = .returned (.int .u32 (Sh.rot x n : Nat)) ∧ ∃ m, w' = w.drewN m := by
  have h1 := i_rot x n
  go_enter Tryd.func55, Tryd.ntmps55
  go_wp2
  go_region
  go_wp2
  go_ret
  exact ⟨rfl, 1, rfl⟩
set_option maxHeartbeats 400000 in
theorem rrotated_any (x n : Nat) (hn : n ≤ 32) (w : World) :
    Calls Tryd.prog 50 #[.int .u32 x, .int .i64 n] w fun e w' => e = .returned (.int .u32 (Sh.rot x n : Nat)) ∧ ∃ m, w' = w.drewN m := by
  have h1 := i_rot x n
  go_enter Tryd.func50, Tryd.ntmps50
  go_wp2
  go_region
  go_wp2
  go_ret
  exact ⟨rfl, 1, rfl⟩

theorem rotated_z (x : Nat) (z : Int) (h1 : 0 ≤ z) (h2 : z ≤ 32) (w : World) : Calls Tryd.prog 55 #[.int .u32 x, .int .i64 z] w fun e w' => e = .returned (.int .u32 (Sh.rot x z.toNat : Nat)) ∧ ∃ m, w' = w.drewN m := by
  have := rotated_any x z.toNat (by omega) w
  rwa [Int.toNat_of_nonneg h1] at this
theorem rrotated_z (x : Nat) (z : Int) (h1 : 0 ≤ z) (h2 : z ≤ 32) (w : World) : Calls Tryd.prog 50 #[.int .u32 x, .int .i64 z] w fun e w' => e = .returned (.int .u32 (Sh.rot x z.toNat : Nat)) ∧ ∃ m, w' = w.drewN m := by
  have := rrotated_any x z.toNat (by omega) w
  rwa [Int.toNat_of_nonneg h1] at this

/-- the greatest power of two that is less than n -/
def spl (n : Nat) : Nat := 2 ^ Nat.log2 (n - 1)
theorem spl_lt (n : Nat) (h : 2 ≤ n) : spl n < n := by
  have : 2 ^ Nat.log2 (n - 1) ≤ n - 1 := Nat.log2_self_le (by omega)
  unfold spl; omega
theorem spl_ge (n : Nat) (h : 2 ≤ n) : n ≤ 2 * spl n := by
  have : n - 1 < 2 ^ (Nat.log2 (n - 1) + 1) := Nat.lt_log2_self
  rw [Nat.pow_succ] at this; unfold spl; omega
theorem spl_pos (n : Nat) : 1 ≤ spl n := Nat.one_le_two_pow
theorem spl_of (n j : Nat) (h2 : 2 ≤ n) (h : 2 ^ j < n) (h' : n ≤ 2 * 2 ^ j) : 2 ^ j = spl n := by
  have : Nat.log2 (n - 1) = j := (Nat.log2_eq_iff (by omega)).2 ⟨by omega, by rw [Nat.pow_succ]; omega⟩
  rw [spl, this]

set_option maxHeartbeats 400000 in
theorem split_any (n : Nat) (h2 : 2 ≤ n) (hn : n ≤ 9223372036854775807) (w : World) :
    Calls Tryd.prog 52 #[.int .i64 n] w fun e w' => e = .returned (.int .i64 (spl n : Nat)) ∧ w = w' := by
  go_enter Tryd.func52, Tryd.ntmps52
  go_wp2
  go_loop [3] (fun r => ∃ j : Nat, 2 ^ j < n ∧ r = .int .i64 (2 ^ j : Nat)) (fun r => n - (intOf r).toNat)
  case atStart => exact ⟨0, by omega, rfl⟩
  case round =>
    obtain ⟨j, hj, rfl⟩ := hrel
    have HP : Hid (2 ^ (j + 1) = 2 * 2 ^ j) := Lib.hid (by rw [Nat.pow_succ]; omega)
    have HS := Lib.hid (spl_of n j h2 hj)
    have hp : 1 ≤ 2 ^ j := Nat.one_le_two_pow
    generalize hk : 2 ^ j = k at *
    have HK := Lib.hid hk; clear hk
    by_cases hlt : k < n - k
    · go_wp2
      go_round
      case rel => exact ⟨j + 1, by rw [HP.out]; omega, by rw [HP.out]; go_num⟩
      case measure => simp [intOf]; omega
    · go_wp2
      go_ret
      exact ⟨ret_i64 (by rw [HS.out (by omega)]), rfl⟩
set_option maxHeartbeats 400000 in
theorem lawleft_any (n : Nat) (h2 : 2 ≤ n) (hn : n ≤ 9223372036854775807) (w : World) :
    Calls Tryd.prog 35 #[.int .i64 n] w fun e w' => e = .returned (.int .i64 (spl n : Nat)) ∧ w = w' := by
  go_enter Tryd.func35, Tryd.ntmps35
  go_wp2
  go_loop [3] (fun r => ∃ j : Nat, 2 ^ j < n ∧ r = .int .i64 (2 ^ j : Nat)) (fun r => n - (intOf r).toNat)
  case atStart => exact ⟨0, by omega, rfl⟩
  case round =>
    obtain ⟨j, hj, rfl⟩ := hrel
    have HP : Hid (2 ^ (j + 1) = 2 * 2 ^ j) := Lib.hid (by rw [Nat.pow_succ]; omega)
    have HS := Lib.hid (spl_of n j h2 hj)
    have hp : 1 ≤ 2 ^ j := Nat.one_le_two_pow
    generalize hk : 2 ^ j = k at *
    have HK := Lib.hid hk; clear hk
    by_cases hlt : k < n - k
    · go_wp2
      go_round
      case rel => exact ⟨j + 1, by rw [HP.out]; omega, by rw [HP.out]; go_num⟩
      case measure => simp [intOf]; omega
    · go_wp2
      go_ret
      exact ⟨ret_i64 (by rw [HS.out (by omega)]), rfl⟩
set_option maxHeartbeats 400000 in
theorem rleft_any (n : Nat) (h2 : 2 ≤ n) (hn : n ≤ 9223372036854775807) (w : World) :
    Calls Tryd.prog 41 #[.int .i64 n] w fun e w' => e = .returned (.int .i64 (spl n : Nat)) ∧ w = w' := by
  go_enter Tryd.func41, Tryd.ntmps41
  go_wp2
  go_loop [3] (fun r => ∃ j : Nat, 2 ^ j < n ∧ r = .int .i64 (2 ^ j : Nat)) (fun r => n - (intOf r).toNat)
  case atStart => exact ⟨0, by omega, rfl⟩
  case round =>
    obtain ⟨j, hj, rfl⟩ := hrel
    have HP : Hid (2 ^ (j + 1) = 2 * 2 ^ j) := Lib.hid (by rw [Nat.pow_succ]; omega)
    have HS := Lib.hid (spl_of n j h2 hj)
    have hp : 1 ≤ 2 ^ j := Nat.one_le_two_pow
    generalize hk : 2 ^ j = k at *
    have HK := Lib.hid hk; clear hk
    by_cases hlt : k < n - k
    · go_wp2
      go_round
      case rel => exact ⟨j + 1, by rw [HP.out]; omega, by rw [HP.out]; go_num⟩
      case measure => simp [intOf]; omega
    · go_wp2
      go_ret
      exact ⟨ret_i64 (by rw [HS.out (by omega)]), rfl⟩
end Go.Proofs.YtnceemdemjjhlaaDoor
