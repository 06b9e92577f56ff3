/-
  The fixed examples: sane returns true.
-/
import Derived.Test.YteaecpmdooolkaaIntCalcD
namespace Go.Proofs.Yteaecpmdooolkaa
open Go.RowKit Nm

theorem t_999 : txt (999) = ⟨#[57, 57, 57]⟩ := by decide +kernel
theorem ft_999 : Fits (999) := by unfold Fits; decide +kernel
theorem t_1 : txt (1) = ⟨#[49]⟩ := by decide +kernel
theorem ft_1 : Fits (1) := by unfold Fits; decide +kernel
theorem t_1000 : txt (1000) = ⟨#[49, 48, 48, 48]⟩ := by decide +kernel
theorem ft_1000 : Fits (1000) := by unfold Fits; decide +kernel
theorem t_m999 : txt (-999) = ⟨#[45, 57, 57, 57]⟩ := by decide +kernel
theorem ft_m999 : Fits (-999) := by unfold Fits; decide +kernel
theorem t_m12 : txt (-12) = ⟨#[45, 49, 50]⟩ := by decide +kernel
theorem ft_m12 : Fits (-12) := by unfold Fits; decide +kernel
theorem t_12 : txt (12) = ⟨#[49, 50]⟩ := by decide +kernel
theorem ft_12 : Fits (12) := by unfold Fits; decide +kernel
theorem t_m144 : txt (-144) = ⟨#[45, 49, 52, 52]⟩ := by decide +kernel
theorem ft_m144 : Fits (-144) := by unfold Fits; decide +kernel
theorem t_m7 : txt (-7) = ⟨#[45, 55]⟩ := by decide +kernel
theorem ft_m7 : Fits (-7) := by unfold Fits; decide +kernel
theorem t_2 : txt (2) = ⟨#[50]⟩ := by decide +kernel
theorem ft_2 : Fits (2) := by unfold Fits; decide +kernel
theorem t_m4 : txt (-4) = ⟨#[45, 52]⟩ := by decide +kernel
theorem ft_m4 : Fits (-4) := by unfold Fits; decide +kernel
theorem t_m2 : txt (-2) = ⟨#[45, 50]⟩ := by decide +kernel
theorem ft_m2 : Fits (-2) := by unfold Fits; decide +kernel
theorem t_4 : txt (4) = ⟨#[52]⟩ := by decide +kernel
theorem ft_4 : Fits (4) := by unfold Fits; decide +kernel
theorem t_m18 : txt (-18) = ⟨#[45, 49, 56]⟩ := by decide +kernel
theorem ft_m18 : Fits (-18) := by unfold Fits; decide +kernel
theorem t_6 : txt (6) = ⟨#[54]⟩ := by decide +kernel
theorem ft_6 : Fits (6) := by unfold Fits; decide +kernel
theorem t_99 : txt (99) = ⟨#[57, 57]⟩ := by decide +kernel
theorem ft_99 : Fits (99) := by unfold Fits; decide +kernel
theorem t_9 : txt (9) = ⟨#[57]⟩ := by decide +kernel
theorem ft_9 : Fits (9) := by unfold Fits; decide +kernel
theorem t_m1 : txt (-1) = ⟨#[45, 49]⟩ := by decide +kernel
theorem ft_m1 : Fits (-1) := by unfold Fits; decide +kernel
theorem t_m8 : txt (-8) = ⟨#[45, 56]⟩ := by decide +kernel
theorem ft_m8 : Fits (-8) := by unfold Fits; decide +kernel
theorem t_0 : txt (0) = ⟨#[48]⟩ := by decide +kernel
theorem ft_0 : Fits (0) := by unfold Fits; decide +kernel
theorem e_1 (w : World) : Calls Try.prog 15 #[.string ⟨#[57, 57, 57]⟩, .string ⟨#[49]⟩] w fun e w' => e = .returned (.tuple #[.string ⟨#[49, 48, 48, 48]⟩, .int .i64 0]) ∧ Below w.heap.size w w' := by
  have := Add_ok (999) (1) ft_999 ft_1 w
  rw [show (999 + 1 : Int) = 1000 by decide, calcR_fit ft_1000, t_1000, t_999, t_1] at this
  exact this
theorem e_2 (w : World) : Calls Try.prog 17 #[.string ⟨#[49]⟩, .string ⟨#[49, 48, 48, 48]⟩] w fun e w' => e = .returned (.tuple #[.string ⟨#[45, 57, 57, 57]⟩, .int .i64 0]) ∧ Below w.heap.size w w' := by
  have := Sub_ok (1) (1000) ft_1 ft_1000 w
  rw [show (1 - 1000 : Int) = -999 by decide, calcR_fit ft_m999, t_m999, t_1, t_1000] at this
  exact this
theorem e_3 (w : World) : Calls Try.prog 19 #[.string ⟨#[45, 49, 50]⟩, .string ⟨#[49, 50]⟩] w fun e w' => e = .returned (.tuple #[.string ⟨#[45, 49, 52, 52]⟩, .int .i64 0]) ∧ Below w.heap.size w w' := by
  have := Mul_ok (-12) (12) ft_m12 ft_12 w
  rw [show (-12 * 12 : Int) = -144 by decide, calcR_fit ft_m144, t_m144, t_m12, t_12] at this
  exact this
theorem e_4 (w : World) : Calls Try.prog 21 #[.string ⟨#[45, 55]⟩, .string ⟨#[50]⟩] w fun e w' => e = .returned (.tuple #[.string ⟨#[45, 52]⟩, .string ⟨#[49]⟩, .int .i64 0]) ∧ Below w.heap.size w w' := by
  have := Div_ok (-7) (2) ft_m7 ft_2 (by decide) w
  rw [show txt ((-7) / (2)) = ⟨#[45, 52]⟩ from t_m4, show txt ((-7) % (2)) = ⟨#[49]⟩ from t_1, t_m7, t_2] at this
  exact this
theorem e_5 (w : World) : Calls Try.prog 21 #[.string ⟨#[45, 55]⟩, .string ⟨#[45, 50]⟩] w fun e w' => e = .returned (.tuple #[.string ⟨#[52]⟩, .string ⟨#[49]⟩, .int .i64 0]) ∧ Below w.heap.size w w' := by
  have := Div_ok (-7) (-2) ft_m7 ft_m2 (by decide) w
  rw [show txt ((-7) / (-2)) = ⟨#[52]⟩ from t_4, show txt ((-7) % (-2)) = ⟨#[49]⟩ from t_1, t_m7, t_m2] at this
  exact this
theorem e_6 (w : World) : Calls Try.prog 23 #[.string ⟨#[49, 50]⟩, .string ⟨#[45, 49, 56]⟩] w fun e w' => e = .returned (.tuple #[.string ⟨#[54]⟩, .int .i64 0]) ∧ Below w.heap.size w w' := by
  have := Gcd_ok (12) (-18) ft_12 ft_m18 (gcd_small _ _ (by decide) (by decide)) w
  rw [show (((Nat.gcd (12 : Int).natAbs (-18 : Int).natAbs : Nat) : Int) : Int) = 6 by decide, calcR_fit ft_6, t_6, t_12, t_m18] at this
  exact this
theorem e_7 (w : World) : Calls Try.prog 25 #[.string ⟨#[57, 57]⟩] w fun e w' => e = .returned (.tuple #[.string ⟨#[57]⟩, .int .i64 0]) ∧ Below w.heap.size w w' := by
  have := Root_ok 99 ft_99 (by decide) (root_small _ (by decide)) w
  rw [show txt ((sqr (99 : Int).natAbs : Nat) : Int) = ⟨#[57]⟩ by rw [show sqr (99 : Int).natAbs = 9 by decide +kernel]; exact t_9, t_99] at this
  exact this
theorem e_8 (w : World) : Calls Try.prog 25 #[.string ⟨#[45, 49]⟩] w fun e w' => e = .returned (.tuple #[.string ⟨#[]⟩, .int .i64 30]) ∧ Below w.heap.size w w' := by
  have := Root_neg (-1) ft_m1 (by decide) w
  rw [t_m1] at this
  exact this
theorem e_9 (w : World) : Calls Try.prog 15 #[.string ⟨#[48, 48, 55]⟩, .string ⟨#[49]⟩] w fun e w' => e = .returned (.tuple #[.string ⟨#[]⟩, .int .i64 30]) ∧ Below w.heap.size w w' :=
  Add_bad ⟨#[48, 48, 55]⟩ ⟨#[49]⟩ (by decide) (by decide) (by decide +kernel) w
theorem e_10 (w : World) : Calls Try.prog 29 #[.string ⟨#[45, 55]⟩] w fun e w' => e = .returned (.bool true) ∧ Below w.heap.size w w' := by
  refine (Valid_any ⟨#[45, 55]⟩ (by decide) w).mono ?_
  rintro e w1 ⟨rfl, m, rfl⟩
  exact ⟨by rw [show validB ⟨#[45, 55]⟩ = true by decide +kernel], below_drewN (Below.refl _ _) m⟩
theorem e_11 (w : World) : Calls Try.prog 29 #[.string ⟨#[45, 48]⟩] w fun e w' => e = .returned (.bool false) ∧ Below w.heap.size w w' := by
  refine (Valid_any ⟨#[45, 48]⟩ (by decide) w).mono ?_
  rintro e w1 ⟨rfl, m, rfl⟩
  exact ⟨by rw [show validB ⟨#[45, 48]⟩ = false by decide +kernel], below_drewN (Below.refl _ _) m⟩
theorem e_12 (w : World) : Calls Try.prog 29 #[.string ⟨#[]⟩] w fun e w' => e = .returned (.bool false) ∧ Below w.heap.size w w' := by
  refine (Valid_any ⟨#[]⟩ (by decide) w).mono ?_
  rintro e w1 ⟨rfl, m, rfl⟩
  exact ⟨by rw [show validB ⟨#[]⟩ = false by decide +kernel], below_drewN (Below.refl _ _) m⟩
theorem e_13 (w : World) : Calls Try.prog 31 #[.string ⟨#[45, 56]⟩, .string ⟨#[45, 55]⟩] w fun e w' => e = .returned (.int .i64 (-1)) ∧ Below w.heap.size w w' := by
  have := Compare_ok (-8) (-7) ft_m8 ft_m7 w
  rw [t_m8, t_m7] at this
  exact this

set_option maxRecDepth 100000 in
set_option maxHeartbeats 1000000 in
theorem sane_any (w : World) :
    Calls Try.prog 12 #[] w fun e w' => e = .returned (.bool true) ∧ Below w.heap.size w w' := by
  go_enter Try.func12, Try.ntmps12
  go_wp2_with fail
  refine (e_1 _).mono ?_
  rintro e w1 ⟨rfl, hB1⟩
  have hb1 := hB1
  clear hB1
  go_wp2_with fail
  refine (e_2 _).mono ?_
  rintro e w2 ⟨rfl, hB2⟩
  have hb2 := hb1.trans (hB2.mono hb1.size)
  clear hb1 hB2
  go_wp2_with fail
  refine (e_3 _).mono ?_
  rintro e w3 ⟨rfl, hB3⟩
  have hb3 := hb2.trans (hB3.mono hb2.size)
  clear hb2 hB3
  go_wp2_with fail
  refine (e_4 _).mono ?_
  rintro e w4 ⟨rfl, hB4⟩
  have hb4 := hb3.trans (hB4.mono hb3.size)
  clear hb3 hB4
  go_wp2_with fail
  refine (e_5 _).mono ?_
  rintro e w5 ⟨rfl, hB5⟩
  have hb5 := hb4.trans (hB5.mono hb4.size)
  clear hb4 hB5
  go_wp2_with fail
  refine (e_6 _).mono ?_
  rintro e w6 ⟨rfl, hB6⟩
  have hb6 := hb5.trans (hB6.mono hb5.size)
  clear hb5 hB6
  go_wp2_with fail
  refine (e_7 _).mono ?_
  rintro e w7 ⟨rfl, hB7⟩
  have hb7 := hb6.trans (hB7.mono hb6.size)
  clear hb6 hB7
  go_wp2_with fail
  refine (e_8 _).mono ?_
  rintro e w8 ⟨rfl, hB8⟩
  have hb8 := hb7.trans (hB8.mono hb7.size)
  clear hb7 hB8
  go_wp2_with fail
  refine (e_9 _).mono ?_
  rintro e w9 ⟨rfl, hB9⟩
  have hb9 := hb8.trans (hB9.mono hb8.size)
  clear hb8 hB9
  go_wp2_with fail
  refine (e_10 _).mono ?_
  rintro e w10 ⟨rfl, hB10⟩
  have hb10 := hb9.trans (hB10.mono hb9.size)
  clear hb9 hB10
  go_wp2_with fail
  refine (e_11 _).mono ?_
  rintro e w11 ⟨rfl, hB11⟩
  have hb11 := hb10.trans (hB11.mono hb10.size)
  clear hb10 hB11
  go_wp2_with fail
  refine (e_12 _).mono ?_
  rintro e w12 ⟨rfl, hB12⟩
  have hb12 := hb11.trans (hB12.mono hb11.size)
  clear hb11 hB12
  go_wp2_with fail
  refine (e_13 _).mono ?_
  rintro e w13 ⟨rfl, hB13⟩
  have hb13 := hb12.trans (hB13.mono hb12.size)
  clear hb12 hB13
  go_wp2
  go_ret
  exact ⟨rfl, hb13⟩
end Go.Proofs.Yteaecpmdooolkaa
