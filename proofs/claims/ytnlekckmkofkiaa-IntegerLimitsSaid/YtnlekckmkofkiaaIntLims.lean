/-
  The law IntegerLimits: its walk.
-/
import Derived.Test.YtnlekckmkofkiaaIntNines
import Derived.Lib.SmallJoins
namespace Go.Proofs.Ytnlekckmkofkiaa
open Go.RowKit Nm

def CAddB (s t : ByteArray) : Prop := ∀ w : World, Calls Try.prog 15 #[.string s, .string t] w fun e w' => e = .returned (.tuple #[.string ⟨#[]⟩, .int .i64 30]) ∧ Below w.heap.size w w'
def CSubB (s t : ByteArray) : Prop := ∀ w : World, Calls Try.prog 17 #[.string s, .string t] w fun e w' => e = .returned (.tuple #[.string ⟨#[]⟩, .int .i64 30]) ∧ Below w.heap.size w w'
def CMulB (s t : ByteArray) : Prop := ∀ w : World, Calls Try.prog 19 #[.string s, .string t] w fun e w' => e = .returned (.tuple #[.string ⟨#[]⟩, .int .i64 30]) ∧ Below w.heap.size w w'
theorem cAddB (x y : Int) (hx : Fits x) (hy : Fits y) (hf : ¬ Fits (x + y)) : CAddB (txt x) (txt y) := fun w => by
  have := Add_ok x y hx hy w
  rwa [calcR_not hf] at this
theorem cSubB (x y : Int) (hx : Fits x) (hy : Fits y) (hf : ¬ Fits (x - y)) : CSubB (txt x) (txt y) := fun w => by
  have := Sub_ok x y hx hy w
  rwa [calcR_not hf] at this
theorem cMulB (x y : Int) (hx : Fits x) (hy : Fits y) (hf : ¬ Fits (x * y)) : CMulB (txt x) (txt y) := fun w => by
  have := Mul_ok x y hx hy w
  rwa [calcR_not hf] at this

theorem fits_nines (m : Nat) (h : m ≤ 200) : Fits ((10 ^ m - 1 : Nat) : Int) := by
  have hp : 0 < 10 ^ m := Nat.pow_pos (by decide)
  refine Bd.fits (t := m) ?_ h
  unfold Bd; rw [Int.natAbs_natCast]; omega
theorem fits_ninesN (m : Nat) (h : m ≤ 200) : Fits (-((10 ^ m - 1 : Nat) : Int)) := by
  have := fits_nines m h
  unfold Fits at *; rwa [Int.natAbs_neg]
theorem fits_two (m : Nat) (h : m < 200) : Fits ((2 * 10 ^ m - 1 : Nat) : Int) := by
  have hp : 0 < 10 ^ m := Nat.pow_pos (by decide)
  refine Bd.fits (t := m + 1) ?_ (by omega)
  unfold Bd; rw [Int.natAbs_natCast, Nat.pow_succ]; omega
theorem fits_pow (m : Nat) (h : m < 200) : Fits ((10 ^ m : Nat) : Int) := by
  have hp : 0 < 10 ^ m := Nat.pow_pos (by decide)
  refine Bd.fits (t := m + 1) ?_ (by omega)
  unfold Bd; rw [Int.natAbs_natCast, Nat.pow_succ]; omega

theorem wf_i64 {n : Int} (h : (Lit.int .i64 n).wf = true) : -9223372036854775808 ≤ n ∧ n ≤ 9223372036854775807 := Joins.in64_of_wf h
/-- the greatest integer and a small one -/
theorem lim_sum (x : Int) (hx : Bd x 5) : (cmpZ x 0 = 1 ∧ CAddB (N9 200) (txt x) ∧ CSubB (⟨#[45]⟩ ++ N9 200) (txt x)) ∨ ((cmpZ x 0 = 0 ∨ cmpZ x 0 = -1) ∧ ∃ s d, CAdd (N9 200) (txt x) s ∧ CSub (⟨#[45]⟩ ++ N9 200) (txt x) d) := by
  have fx := hx.fits (by decide)
  have fm := fits_nines 200 (Nat.le_refl _)
  have fn := fits_ninesN 200 (Nat.le_refl _)
  have e1 := txt_nines 200 (by decide)
  have e2 := txt_ninesN 200 (by decide)
  have hP : (10 : Nat) ^ 5 ≤ 10 ^ 200 := Nat.pow_le_pow_right (by decide) (by decide)
  rw [show (10 : Nat) ^ 5 = 100000 by decide] at hP
  have hp0 : 0 < (10 : Nat) ^ 200 := Nat.pow_pos (by decide)
  have hx5 : x.natAbs < 100000 := hx
  have hB1 := fits_iff (((10 ^ 200 - 1 : Nat) : Int) + x)
  have hB2 := fits_iff (-((10 ^ 200 - 1 : Nat) : Int) - x)
  have hyes : x ≤ 0 → Fits (((10 ^ 200 - 1 : Nat) : Int) + x) ∧ Fits (-((10 ^ 200 - 1 : Nat) : Int) - x) := fun h => by
    rw [hB1, hB2]
    clear hB1 hB2 e1 e2 fm fn hx fx
    generalize (10 : Nat) ^ 200 = P at *
    omega
  have hno : 0 < x → ¬ Fits (((10 ^ 200 - 1 : Nat) : Int) + x) ∧ ¬ Fits (-((10 ^ 200 - 1 : Nat) : Int) - x) := fun h => by
    rw [hB1, hB2]
    clear hB1 hB2 e1 e2 fm fn hx fx
    generalize (10 : Nat) ^ 200 = P at *
    omega
  have a1 := cAdd ((10 ^ 200 - 1 : Nat) : Int) x fm fx
  have a2 := cSub (-((10 ^ 200 - 1 : Nat) : Int)) x fn fx
  have b1 := cAddB ((10 ^ 200 - 1 : Nat) : Int) x fm fx
  have b2 := cSubB (-((10 ^ 200 - 1 : Nat) : Int)) x fn fx
  rw [e1] at a1 b1
  rw [e2] at a2 b2
  rcases cmpZ_cases x 0 with h | h | h
  · exact .inr ⟨.inr h.1, _, _, a1 (hyes (by omega)).1, a2 (hyes (by omega)).2⟩
  · exact .inr ⟨.inl h.1, _, _, a1 (hyes (by omega)).1, a2 (hyes (by omega)).2⟩
  · exact .inl ⟨h.1, b1 (hno h.2.2).1, b2 (hno h.2.2).2⟩
/-- a power of ten, as it is made -/
theorem lim_one (m : Nat) (h : m < 200) : (m = 0 ∧ CAddB (N9 m) ⟨#[49]⟩ ∧ CAdd ⟨#[48]⟩ ⟨#[49]⟩ (txt ((10 ^ m : Nat) : Int))) ∨ (m ≠ 0 ∧ CAdd (N9 m) ⟨#[49]⟩ (txt ((10 ^ m : Nat) : Int))) := by
  by_cases h0 : m = 0
  · subst h0
    refine .inl ⟨rfl, ?_, ?_⟩
    · intro w
      exact Add_bad _ _ (by decide) (by decide) (by decide +kernel) w
    · have := cAdd 0 1 ft_0 ft_1 ft_1
      rw [t_0, t_1] at this
      rw [Nat.pow_zero]
      exact this
  · refine .inr ⟨h0, ?_⟩
    have hp : 0 < 10 ^ m := Nat.pow_pos (by decide)
    have e : ((10 ^ m - 1 : Nat) : Int) + 1 = ((10 ^ m : Nat) : Int) := by omega
    have := cAdd ((10 ^ m - 1 : Nat) : Int) 1 (fits_nines m (by omega)) ft_1 (by rw [e]; exact fits_pow m h)
    rw [e, t_1, txt_nines m (by omega)] at this
    exact this
/-- the product -/
theorem lim_prod (m n : Nat) (hm : m < 200) (hn : n < 200) : (m + n < 200 ∧ ∃ p, CMul (txt ((10 ^ m : Nat) : Int)) (⟨#[49]⟩ ++ N9 n) p ∧ p.size = m + n + 1) ∨ (¬ m + n < 200 ∧ CMulB (txt ((10 ^ m : Nat) : Int)) (⟨#[49]⟩ ++ N9 n)) := by
  have hpm : 0 < 10 ^ m := Nat.pow_pos (by decide)
  have hpn : 0 < 10 ^ n := Nat.pow_pos (by decide)
  rw [← txt_two n]
  have hprod : ((10 ^ m : Nat) : Int) * ((2 * 10 ^ n - 1 : Nat) : Int) = ((10 ^ m * (2 * 10 ^ n - 1) : Nat) : Int) := by rw [Int.natCast_mul]
  have hlo : 10 ^ (m + n) ≤ 10 ^ m * (2 * 10 ^ n - 1) := by rw [Nat.pow_add]; exact Nat.mul_le_mul_left _ (by omega)
  have hhi : 10 ^ m * (2 * 10 ^ n - 1) < 10 ^ (m + n + 1) := by
    rw [Nat.pow_succ, Nat.pow_add, Nat.mul_assoc]
    exact Nat.mul_lt_mul_of_pos_left (by omega) hpm
  by_cases h : m + n < 200
  · have hb : Bd ((10 ^ m * (2 * 10 ^ n - 1) : Nat) : Int) (m + n + 1) := by unfold Bd; rw [Int.natAbs_natCast]; exact hhi
    refine .inl ⟨h, txt ((10 ^ m * (2 * 10 ^ n - 1) : Nat) : Int), ?_, ?_⟩
    · have := cMul ((10 ^ m : Nat) : Int) ((2 * 10 ^ n - 1 : Nat) : Int) (fits_pow m hm) (fits_two n hn) (by rw [hprod]; exact hb.fits (by omega))
      rw [hprod] at this
      exact this
    · have hv : 10 ^ m * (2 * 10 ^ n - 1) ≠ 0 := by have : 0 < 10 ^ (m + n) := Nat.pow_pos (by decide); omega
      rw [txt_nat hv, ba_size]
      have h1 := decN_len_le hhi
      have h2 := decN_lt (10 ^ m * (2 * 10 ^ n - 1))
      have h3 := (Nat.pow_lt_pow_iff_right (by decide : 1 < 10)).1 (Nat.lt_of_le_of_lt hlo h2)
      omega
  · refine .inr ⟨h, cMulB _ _ (fits_pow m hm) (fits_two n hn) (fun hf => ?_)⟩
    rw [hprod] at hf
    have := fits_lt hf
    rw [Int.natAbs_natCast] at this
    have h3 := (Nat.pow_lt_pow_iff_right (by decide : 1 < 10)).1 (Nat.lt_of_le_of_lt hlo this)
    omega
theorem lim_val : CVal (N9 200 ++ ⟨#[57]⟩) false ∧ CVal (⟨#[45]⟩ ++ N9 200) true := by
  rw [N9_succ]
  constructor
  · have := cVal (N9 201) (by rw [N9_size]; omega)
    rwa [show validB (N9 201) = false by decide +kernel] at this
  · have h := valid_txt _ (fits_ninesN 200 (Nat.le_refl _))
    rw [txt_ninesN 200 (by decide)] at h
    have := cVal (⟨#[45]⟩ ++ N9 200) (by rw [ByteArray.size_append, N9_size]; decide)
    rwa [h] at this

set_option maxRecDepth 100000 in
set_option maxHeartbeats 4000000 in
theorem limits_any (a : ByteArray) (m : Int) (n : Int) (ha : a.size ≤ maxLen) (hm : (Lit.int .i64 m).wf = true) (hn : (Lit.int .i64 n).wf = true) (w : World) :
    Calls Try.prog 11 #[.string a, .int .i64 m, .int .i64 n] w fun e w' => e = .returned (.bool true) ∧ Below w.heap.size w w' := by
  have ma := fun W => made_any a 5 (by decide) ha W
  have wm := wf_i64 hm
  have wn := wf_i64 hn
  have cm := fun W => pick_any m wm.1 wm.2 W
  have cn := fun W => pick_any n wn.1 wn.2 W
  clear ha hm hn wm wn
  go_enter Try.func11, Try.ntmps11
  go_wp2_with fail
  refine (sane_any _).mono ?_
  rintro e w1 ⟨rfl, hb1⟩
  go_wp2_with fail
  refine (ma _).mono ?_
  rintro e w2 ⟨x, rfl, hx, hB⟩
  have hb2 := hb1.trans (hB.mono hb1.size)
  clear hB hb1
  have hS := lim_sum x (.of hx)
  have hX : CCmp (txt x) ⟨#[48]⟩ (cmpZ x 0) := by
    have := cCmp x 0 (Bd.fits (.of hx) (by decide)) ft_0
    rwa [t_0] at this
  obtain ⟨hV1, hV2⟩ := lim_val
  have c9 := fun W => nines_any 200 (by decide) W
  have hms := N9_size 200
  generalize N9 200 = most at *
  generalize txt x = sx at *
  generalize cmpZ x 0 = k at *
  have hls : (⟨#[45]⟩ : ByteArray).size = 1 := rfl
  have hls2 : (⟨#[49]⟩ : ByteArray).size = 1 := rfl
  have hls3 : (⟨#[57]⟩ : ByteArray).size = 1 := rfl
  have HS : Shut _ := ⟨hS⟩
  have HX : Shut _ := ⟨hX⟩
  have HV1 : Shut _ := ⟨hV1⟩
  have HV2 : Shut _ := ⟨hV2⟩
  clear hS hX hV1 hV2 hx ma
  go_wp2_with fail
  refine (c9 _).mono ?_
  rintro e w3 ⟨rfl, rfl⟩
  rcases HS.o with ⟨rfl, hA, hD⟩ | ⟨hk, s1, d1, hA, hD⟩
  · go_wp2_with fail
    refine (hA _).mono ?_
    rintro e v3 ⟨rfl, hB⟩
    have hb3 := hb2.trans (hB.mono hb2.size)
    clear hB hb2
    go_wp2_with fail
    refine (hD _).mono ?_
    rintro e v4 ⟨rfl, hB⟩
    have hb4 := hb3.trans (hB.mono hb3.size)
    clear hB hb3
    clear hA hD HS
    go_wp2_with fail
    refine (cm _).mono ?_
    rintro e w8 ⟨i, hi, rfl, rfl⟩
    go_wp2_with fail
    refine (cn _).mono ?_
    rintro e w9 ⟨l, hl, rfl, rfl⟩
    have cnm := fun W => nines_any i (by omega) W
    have cnn := fun W => nines_any l (by omega) W
    have hO := lim_one i hi
    have hP := lim_prod i l hi hl
    have z1 := N9_size i
    have z2 := N9_size l
    generalize txt ((10 ^ i : Nat) : Int) = one at *
    generalize N9 i = nm at *
    generalize N9 l = nn at *
    go_wp2_with fail
    refine (cnm _).mono ?_
    rintro e w10 ⟨rfl, rfl⟩
    rcases hO with ⟨hi0, h1, h2⟩ | ⟨hi0, h1⟩
    · subst hi0
      have H1 : Shut _ := ⟨h1⟩
      have H2 : Shut _ := ⟨h2⟩
      rcases hP with ⟨hsm, pr, hP, hps⟩ | ⟨hsm, hP⟩
      · have HP : Shut _ := ⟨hP⟩
        clear hP h1 h2
        have hsi : (l : Int) < 200 := by omega
        have hps2 : pr.size = l + 1 := by omega
        clear hps
        go_wp2_with fail
        refine (H1.o _).mono ?_
        rintro e v11 ⟨rfl, hB⟩
        have hb5 := hb4.trans (hB.mono hb4.size)
        clear hB hb4
        go_wp2_with fail
        refine (H2.o _).mono ?_
        rintro e v12 ⟨rfl, hB⟩
        have hb6 := hb5.trans (hB.mono hb5.size)
        clear hB hb5
        go_wp2_with fail
        refine (cnn _).mono ?_
        rintro e w20 ⟨rfl, rfl⟩
        go_wp2_with fail
        refine (HP.o _).mono ?_
        rintro e v21 ⟨rfl, hB⟩
        have hb7 := hb6.trans (hB.mono hb6.size)
        clear hB hb6
        go_wp2_with fail
        refine (HX.o _).mono ?_
        rintro e v22 ⟨rfl, hB⟩
        have hb8 := hb7.trans (hB.mono hb7.size)
        clear hB hb7
        go_wp2_with fail
        refine (HV1.o _).mono ?_
        rintro e v23 ⟨rfl, hB⟩
        have hb9 := hb8.trans (hB.mono hb8.size)
        clear hB hb8
        go_wp2_with fail
        refine (HV2.o _).mono ?_
        rintro e v24 ⟨rfl, hB⟩
        have hb10 := hb9.trans (hB.mono hb9.size)
        clear hB hb9
        go_wp2
        go_ret
        exact ⟨rfl, hb10⟩
      · exact absurd hl (by omega)
    · have hi1 : ¬ ((i : Int) = 0) := by omega
      have H1 : Shut _ := ⟨h1⟩
      rcases hP with ⟨hsm, pr, hP, hps⟩ | ⟨hsm, hP⟩
      · have HP : Shut _ := ⟨hP⟩
        clear hP h1
        have hsi : ((i : Int) + (l : Int) < 200) := by omega
        go_wp2_with fail
        refine (H1.o _).mono ?_
        rintro e v11 ⟨rfl, hB⟩
        have hb5 := hb4.trans (hB.mono hb4.size)
        clear hB hb4
        go_wp2_with fail
        refine (cnn _).mono ?_
        rintro e w20 ⟨rfl, rfl⟩
        go_wp2_with fail
        refine (HP.o _).mono ?_
        rintro e v21 ⟨rfl, hB⟩
        have hb6 := hb5.trans (hB.mono hb5.size)
        clear hB hb5
        go_wp2_with fail
        refine (HX.o _).mono ?_
        rintro e v22 ⟨rfl, hB⟩
        have hb7 := hb6.trans (hB.mono hb6.size)
        clear hB hb6
        go_wp2_with fail
        refine (HV1.o _).mono ?_
        rintro e v23 ⟨rfl, hB⟩
        have hb8 := hb7.trans (hB.mono hb7.size)
        clear hB hb7
        go_wp2_with fail
        refine (HV2.o _).mono ?_
        rintro e v24 ⟨rfl, hB⟩
        have hb9 := hb8.trans (hB.mono hb8.size)
        clear hB hb8
        go_wp2
        go_ret
        exact ⟨rfl, hb9⟩
      · have HP : Shut _ := ⟨hP⟩
        clear hP h1
        have hsi : ¬ ((i : Int) + (l : Int) < 200) := by omega
        have hsj : (200 : Int) ≤ (i : Int) + (l : Int) := by omega
        go_wp2_with fail
        refine (H1.o _).mono ?_
        rintro e v11 ⟨rfl, hB⟩
        have hb5 := hb4.trans (hB.mono hb4.size)
        clear hB hb4
        go_wp2_with fail
        refine (cnn _).mono ?_
        rintro e w20 ⟨rfl, rfl⟩
        go_wp2_with fail
        refine (HP.o _).mono ?_
        rintro e v21 ⟨rfl, hB⟩
        have hb6 := hb5.trans (hB.mono hb5.size)
        clear hB hb5
        go_wp2_with fail
        refine (HX.o _).mono ?_
        rintro e v22 ⟨rfl, hB⟩
        have hb7 := hb6.trans (hB.mono hb6.size)
        clear hB hb6
        go_wp2_with fail
        refine (HV1.o _).mono ?_
        rintro e v23 ⟨rfl, hB⟩
        have hb8 := hb7.trans (hB.mono hb7.size)
        clear hB hb7
        go_wp2_with fail
        refine (HV2.o _).mono ?_
        rintro e v24 ⟨rfl, hB⟩
        have hb9 := hb8.trans (hB.mono hb8.size)
        clear hB hb8
        go_wp2
        go_ret
        exact ⟨rfl, hb9⟩
  · rcases hk with rfl | rfl
    · go_wp2_with fail
      refine (hA _).mono ?_
      rintro e v3 ⟨rfl, hB⟩
      have hb3 := hb2.trans (hB.mono hb2.size)
      clear hB hb2
      go_wp2_with fail
      refine (hD _).mono ?_
      rintro e v4 ⟨rfl, hB⟩
      have hb4 := hb3.trans (hB.mono hb3.size)
      clear hB hb3
      clear hA hD HS
      go_wp2_with fail
      refine (cm _).mono ?_
      rintro e w8 ⟨i, hi, rfl, rfl⟩
      go_wp2_with fail
      refine (cn _).mono ?_
      rintro e w9 ⟨l, hl, rfl, rfl⟩
      have cnm := fun W => nines_any i (by omega) W
      have cnn := fun W => nines_any l (by omega) W
      have hO := lim_one i hi
      have hP := lim_prod i l hi hl
      have z1 := N9_size i
      have z2 := N9_size l
      generalize txt ((10 ^ i : Nat) : Int) = one at *
      generalize N9 i = nm at *
      generalize N9 l = nn at *
      go_wp2_with fail
      refine (cnm _).mono ?_
      rintro e w10 ⟨rfl, rfl⟩
      rcases hO with ⟨hi0, h1, h2⟩ | ⟨hi0, h1⟩
      · subst hi0
        have H1 : Shut _ := ⟨h1⟩
        have H2 : Shut _ := ⟨h2⟩
        rcases hP with ⟨hsm, pr, hP, hps⟩ | ⟨hsm, hP⟩
        · have HP : Shut _ := ⟨hP⟩
          clear hP h1 h2
          have hsi : (l : Int) < 200 := by omega
          have hps2 : pr.size = l + 1 := by omega
          clear hps
          go_wp2_with fail
          refine (H1.o _).mono ?_
          rintro e v11 ⟨rfl, hB⟩
          have hb5 := hb4.trans (hB.mono hb4.size)
          clear hB hb4
          go_wp2_with fail
          refine (H2.o _).mono ?_
          rintro e v12 ⟨rfl, hB⟩
          have hb6 := hb5.trans (hB.mono hb5.size)
          clear hB hb5
          go_wp2_with fail
          refine (cnn _).mono ?_
          rintro e w20 ⟨rfl, rfl⟩
          go_wp2_with fail
          refine (HP.o _).mono ?_
          rintro e v21 ⟨rfl, hB⟩
          have hb7 := hb6.trans (hB.mono hb6.size)
          clear hB hb6
          go_wp2_with fail
          refine (HX.o _).mono ?_
          rintro e v22 ⟨rfl, hB⟩
          have hb8 := hb7.trans (hB.mono hb7.size)
          clear hB hb7
          go_wp2_with fail
          refine (HV1.o _).mono ?_
          rintro e v23 ⟨rfl, hB⟩
          have hb9 := hb8.trans (hB.mono hb8.size)
          clear hB hb8
          go_wp2_with fail
          refine (HV2.o _).mono ?_
          rintro e v24 ⟨rfl, hB⟩
          have hb10 := hb9.trans (hB.mono hb9.size)
          clear hB hb9
          go_wp2
          go_ret
          exact ⟨rfl, hb10⟩
        · exact absurd hl (by omega)
      · have hi1 : ¬ ((i : Int) = 0) := by omega
        have H1 : Shut _ := ⟨h1⟩
        rcases hP with ⟨hsm, pr, hP, hps⟩ | ⟨hsm, hP⟩
        · have HP : Shut _ := ⟨hP⟩
          clear hP h1
          have hsi : ((i : Int) + (l : Int) < 200) := by omega
          go_wp2_with fail
          refine (H1.o _).mono ?_
          rintro e v11 ⟨rfl, hB⟩
          have hb5 := hb4.trans (hB.mono hb4.size)
          clear hB hb4
          go_wp2_with fail
          refine (cnn _).mono ?_
          rintro e w20 ⟨rfl, rfl⟩
          go_wp2_with fail
          refine (HP.o _).mono ?_
          rintro e v21 ⟨rfl, hB⟩
          have hb6 := hb5.trans (hB.mono hb5.size)
          clear hB hb5
          go_wp2_with fail
          refine (HX.o _).mono ?_
          rintro e v22 ⟨rfl, hB⟩
          have hb7 := hb6.trans (hB.mono hb6.size)
          clear hB hb6
          go_wp2_with fail
          refine (HV1.o _).mono ?_
          rintro e v23 ⟨rfl, hB⟩
          have hb8 := hb7.trans (hB.mono hb7.size)
          clear hB hb7
          go_wp2_with fail
          refine (HV2.o _).mono ?_
          rintro e v24 ⟨rfl, hB⟩
          have hb9 := hb8.trans (hB.mono hb8.size)
          clear hB hb8
          go_wp2
          go_ret
          exact ⟨rfl, hb9⟩
        · have HP : Shut _ := ⟨hP⟩
          clear hP h1
          have hsi : ¬ ((i : Int) + (l : Int) < 200) := by omega
          have hsj : (200 : Int) ≤ (i : Int) + (l : Int) := by omega
          go_wp2_with fail
          refine (H1.o _).mono ?_
          rintro e v11 ⟨rfl, hB⟩
          have hb5 := hb4.trans (hB.mono hb4.size)
          clear hB hb4
          go_wp2_with fail
          refine (cnn _).mono ?_
          rintro e w20 ⟨rfl, rfl⟩
          go_wp2_with fail
          refine (HP.o _).mono ?_
          rintro e v21 ⟨rfl, hB⟩
          have hb6 := hb5.trans (hB.mono hb5.size)
          clear hB hb5
          go_wp2_with fail
          refine (HX.o _).mono ?_
          rintro e v22 ⟨rfl, hB⟩
          have hb7 := hb6.trans (hB.mono hb6.size)
          clear hB hb6
          go_wp2_with fail
          refine (HV1.o _).mono ?_
          rintro e v23 ⟨rfl, hB⟩
          have hb8 := hb7.trans (hB.mono hb7.size)
          clear hB hb7
          go_wp2_with fail
          refine (HV2.o _).mono ?_
          rintro e v24 ⟨rfl, hB⟩
          have hb9 := hb8.trans (hB.mono hb8.size)
          clear hB hb8
          go_wp2
          go_ret
          exact ⟨rfl, hb9⟩
    · go_wp2_with fail
      refine (hA _).mono ?_
      rintro e v3 ⟨rfl, hB⟩
      have hb3 := hb2.trans (hB.mono hb2.size)
      clear hB hb2
      go_wp2_with fail
      refine (hD _).mono ?_
      rintro e v4 ⟨rfl, hB⟩
      have hb4 := hb3.trans (hB.mono hb3.size)
      clear hB hb3
      clear hA hD HS
      go_wp2_with fail
      refine (cm _).mono ?_
      rintro e w8 ⟨i, hi, rfl, rfl⟩
      go_wp2_with fail
      refine (cn _).mono ?_
      rintro e w9 ⟨l, hl, rfl, rfl⟩
      have cnm := fun W => nines_any i (by omega) W
      have cnn := fun W => nines_any l (by omega) W
      have hO := lim_one i hi
      have hP := lim_prod i l hi hl
      have z1 := N9_size i
      have z2 := N9_size l
      generalize txt ((10 ^ i : Nat) : Int) = one at *
      generalize N9 i = nm at *
      generalize N9 l = nn at *
      go_wp2_with fail
      refine (cnm _).mono ?_
      rintro e w10 ⟨rfl, rfl⟩
      rcases hO with ⟨hi0, h1, h2⟩ | ⟨hi0, h1⟩
      · subst hi0
        have H1 : Shut _ := ⟨h1⟩
        have H2 : Shut _ := ⟨h2⟩
        rcases hP with ⟨hsm, pr, hP, hps⟩ | ⟨hsm, hP⟩
        · have HP : Shut _ := ⟨hP⟩
          clear hP h1 h2
          have hsi : (l : Int) < 200 := by omega
          have hps2 : pr.size = l + 1 := by omega
          clear hps
          go_wp2_with fail
          refine (H1.o _).mono ?_
          rintro e v11 ⟨rfl, hB⟩
          have hb5 := hb4.trans (hB.mono hb4.size)
          clear hB hb4
          go_wp2_with fail
          refine (H2.o _).mono ?_
          rintro e v12 ⟨rfl, hB⟩
          have hb6 := hb5.trans (hB.mono hb5.size)
          clear hB hb5
          go_wp2_with fail
          refine (cnn _).mono ?_
          rintro e w20 ⟨rfl, rfl⟩
          go_wp2_with fail
          refine (HP.o _).mono ?_
          rintro e v21 ⟨rfl, hB⟩
          have hb7 := hb6.trans (hB.mono hb6.size)
          clear hB hb6
          go_wp2_with fail
          refine (HX.o _).mono ?_
          rintro e v22 ⟨rfl, hB⟩
          have hb8 := hb7.trans (hB.mono hb7.size)
          clear hB hb7
          go_wp2_with fail
          refine (HV1.o _).mono ?_
          rintro e v23 ⟨rfl, hB⟩
          have hb9 := hb8.trans (hB.mono hb8.size)
          clear hB hb8
          go_wp2_with fail
          refine (HV2.o _).mono ?_
          rintro e v24 ⟨rfl, hB⟩
          have hb10 := hb9.trans (hB.mono hb9.size)
          clear hB hb9
          go_wp2
          go_ret
          exact ⟨rfl, hb10⟩
        · exact absurd hl (by omega)
      · have hi1 : ¬ ((i : Int) = 0) := by omega
        have H1 : Shut _ := ⟨h1⟩
        rcases hP with ⟨hsm, pr, hP, hps⟩ | ⟨hsm, hP⟩
        · have HP : Shut _ := ⟨hP⟩
          clear hP h1
          have hsi : ((i : Int) + (l : Int) < 200) := by omega
          go_wp2_with fail
          refine (H1.o _).mono ?_
          rintro e v11 ⟨rfl, hB⟩
          have hb5 := hb4.trans (hB.mono hb4.size)
          clear hB hb4
          go_wp2_with fail
          refine (cnn _).mono ?_
          rintro e w20 ⟨rfl, rfl⟩
          go_wp2_with fail
          refine (HP.o _).mono ?_
          rintro e v21 ⟨rfl, hB⟩
          have hb6 := hb5.trans (hB.mono hb5.size)
          clear hB hb5
          go_wp2_with fail
          refine (HX.o _).mono ?_
          rintro e v22 ⟨rfl, hB⟩
          have hb7 := hb6.trans (hB.mono hb6.size)
          clear hB hb6
          go_wp2_with fail
          refine (HV1.o _).mono ?_
          rintro e v23 ⟨rfl, hB⟩
          have hb8 := hb7.trans (hB.mono hb7.size)
          clear hB hb7
          go_wp2_with fail
          refine (HV2.o _).mono ?_
          rintro e v24 ⟨rfl, hB⟩
          have hb9 := hb8.trans (hB.mono hb8.size)
          clear hB hb8
          go_wp2
          go_ret
          exact ⟨rfl, hb9⟩
        · have HP : Shut _ := ⟨hP⟩
          clear hP h1
          have hsi : ¬ ((i : Int) + (l : Int) < 200) := by omega
          have hsj : (200 : Int) ≤ (i : Int) + (l : Int) := by omega
          go_wp2_with fail
          refine (H1.o _).mono ?_
          rintro e v11 ⟨rfl, hB⟩
          have hb5 := hb4.trans (hB.mono hb4.size)
          clear hB hb4
          go_wp2_with fail
          refine (cnn _).mono ?_
          rintro e w20 ⟨rfl, rfl⟩
          go_wp2_with fail
          refine (HP.o _).mono ?_
          rintro e v21 ⟨rfl, hB⟩
          have hb6 := hb5.trans (hB.mono hb5.size)
          clear hB hb5
          go_wp2_with fail
          refine (HX.o _).mono ?_
          rintro e v22 ⟨rfl, hB⟩
          have hb7 := hb6.trans (hB.mono hb6.size)
          clear hB hb6
          go_wp2_with fail
          refine (HV1.o _).mono ?_
          rintro e v23 ⟨rfl, hB⟩
          have hb8 := hb7.trans (hB.mono hb7.size)
          clear hB hb7
          go_wp2_with fail
          refine (HV2.o _).mono ?_
          rintro e v24 ⟨rfl, hB⟩
          have hb9 := hb8.trans (hB.mono hb8.size)
          clear hB hb8
          go_wp2
          go_ret
          exact ⟨rfl, hb9⟩
end Go.Proofs.Ytnlekckmkofkiaa
