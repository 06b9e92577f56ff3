/-
  The law IntegerCommon: its walk.
-/
import Derived.Test.YtnlekckmkofkiaaIntGcdF
import Derived.Test.YtnlekckmkofkiaaIntDivd
namespace Go.Proofs.Ytnlekckmkofkiaa
open Go.RowKit Nm

def CGcd (s t r : ByteArray) : Prop := ∀ w : World, Calls Try.prog 23 #[.string s, .string t] w fun e w' => e = .returned (.tuple #[.string r, .int .i64 0]) ∧ Below w.heap.size w w'
theorem fits_gcd2 {x y : Int} (hx : Fits x) (hy : Fits y) : Fits ((Int.gcd x y : Nat) : Int) := by
  rcases Nat.eq_zero_or_pos x.natAbs with h | h
  · have e : Int.gcd x y = y.natAbs := by rw [Int.gcd, h, Nat.gcd_zero_left]
    rw [e]; unfold Fits at *; rwa [Int.natAbs_natCast]
  · have h1 : Int.gcd x y ≤ x.natAbs := Nat.gcd_le_left _ h
    have h2 := fits_lt hx
    exact (Bd.fits (t := 200) (by unfold Bd; rw [Int.natAbs_natCast]; omega) (Nat.le_refl _))
theorem cGcd (x y : Int) (hx : Fits x) (hy : Fits y) : CGcd (txt x) (txt y) (txt ((Int.gcd x y : Nat) : Int)) := fun w => by
  have h1 := fits_len hx
  have h2 := fits_len hy
  have := Gcd_ok x y hx hy (gcd_any _ _ (by omega) (by omega)) w
  rw [show calcR ((Nat.gcd x.natAbs y.natAbs : Nat) : Int) = _ from calcR_fit (fits_gcd2 hx hy)] at this
  exact this
def CommonF (sx sy sz g p q xz yz al gz : ByteArray) (k : Int) : Prop :=
  CDiv sx g p ⟨#[48]⟩ ∧ CDiv sy g q ⟨#[48]⟩ ∧ CGcd p q ⟨#[49]⟩ ∧ CMul sx sz xz ∧ CMul sy sz yz ∧ CGcd xz yz al ∧ CMul g sz gz ∧ CCmp gz ⟨#[48]⟩ k ∧ ((k = -1 ∧ CSub ⟨#[48]⟩ gz al) ∨ ((k = 0 ∨ k = 1) ∧ gz = al))
theorem Bd.gcd {x y : Int} {t : Nat} (hx : Bd x t) (hy : Bd y t) : Bd ((Int.gcd x y : Nat) : Int) t := by
  unfold Bd at *
  rw [Int.natAbs_natCast]
  rcases Nat.eq_zero_or_pos x.natAbs with h | h
  · have e : Int.gcd x y = y.natAbs := by rw [Int.gcd, h, Nat.gcd_zero_left]
    rwa [e]
  · exact Nat.lt_of_le_of_lt (Nat.gcd_le_left _ h) hx
theorem common_facts (x y z : Int) (hx : Bd x 40) (hy : Bd y 40) (hz : Bd z 40) (h0 : x ≠ 0 ∨ y ≠ 0) : CommonF (txt x) (txt y) (txt z) (txt ((Int.gcd x y : Nat) : Int)) (txt (x / (Int.gcd x y : Nat))) (txt (y / (Int.gcd x y : Nat))) (txt (x * z)) (txt (y * z)) (txt ((Int.gcd (x * z) (y * z) : Nat) : Int)) (txt ((Int.gcd x y : Nat) * z)) (cmpZ ((Int.gcd x y : Nat) * z) 0) := by
  have hg0 : Int.gcd x y ≠ 0 := by
    intro h
    rw [Int.gcd_eq_zero_iff] at h
    omega
  have hgi : ((Int.gcd x y : Nat) : Int) ≠ 0 := by omega
  have bg := hx.gcd hy
  have d1 : ((Int.gcd x y : Nat) : Int) ∣ x := Int.gcd_dvd_left x y
  have d2 : ((Int.gcd x y : Nat) : Int) ∣ y := Int.gcd_dvd_right x y
  have hcop : Int.gcd (x / (Int.gcd x y : Nat)) (y / (Int.gcd x y : Nat)) = 1 := Int.gcd_ediv_gcd_ediv_gcd (by omega)
  have hall : Int.gcd (x * z) (y * z) = Int.gcd x y * z.natAbs := Int.gcd_mul_right x z y
  have fx := hx.fits (by decide)
  have fy := hy.fits (by decide)
  have fz := hz.fits (by decide)
  have fg := bg.fits (by decide)
  have fp : Fits (x / (Int.gcd x y : Nat)) := by
    refine Bd.fits (t := 41) ?_ (by decide)
    have h1 := (div_le x _ hgi).1
    unfold Bd at *; rw [Nat.pow_succ]; have hp : 0 < 10 ^ 40 := Nat.pow_pos (by decide); generalize 10 ^ 40 = P at *; omega
  have fq : Fits (y / (Int.gcd x y : Nat)) := by
    refine Bd.fits (t := 41) ?_ (by decide)
    have h1 := (div_le y _ hgi).1
    unfold Bd at *; rw [Nat.pow_succ]; have hp : 0 < 10 ^ 40 := Nat.pow_pos (by decide); generalize 10 ^ 40 = P at *; omega
  have fxz := (hx.mul hz).fits (by decide)
  have fyz := (hy.mul hz).fits (by decide)
  have bgz := bg.mul hz
  have fgz := bgz.fits (by decide)
  have a1 := cDiv x _ fx fg hgi
  rw [Int.emod_eq_zero_of_dvd d1, t_0] at a1
  have a2 := cDiv y _ fy fg hgi
  rw [Int.emod_eq_zero_of_dvd d2, t_0] at a2
  have a3 := cGcd _ _ fp fq
  rw [hcop] at a3
  have t1 : txt ((1 : Nat) : Int) = ⟨#[49]⟩ := t_1
  rw [t1] at a3
  have a4 := cCmp _ 0 fgz ft_0
  rw [t_0] at a4
  refine ⟨a1, a2, a3, cMul x z fx fz fxz, cMul y z fy fz fyz, cGcd _ _ fxz fyz, cMul _ z fg fz fgz, a4, ?_⟩
  rw [hall]
  generalize Int.gcd x y = G at *
  have hcast : ((G * z.natAbs : Nat) : Int) = (G : Int) * (z.natAbs : Int) := Int.natCast_mul _ _
  rcases cmpZ_cases ((G : Int) * z) 0 with h | h | h
  · left
    refine ⟨h.1, ?_⟩
    have hz0 : z < 0 := by
      rcases Int.lt_or_le z 0 with h9 | h9
      · exact h9
      · have := Int.mul_nonneg (show (0 : Int) ≤ G by omega) h9; omega
    have e : 0 - (G : Int) * z = ((G * z.natAbs : Nat) : Int) := by
      rw [hcast, show (z.natAbs : Int) = -z by omega, Int.mul_neg]; omega
    have := cSub 0 ((G : Int) * z) ft_0 fgz (by rw [Int.zero_sub]; exact bgz.neg.fits (by decide))
    rw [e, t_0] at this
    exact this
  · right
    refine ⟨.inl h.1, ?_⟩
    have : z = 0 := by rcases Int.mul_eq_zero.1 h.2.2 with h9 | h9; exact absurd h9 hgi; exact h9
    subst this
    rw [Int.mul_zero]; rfl
  · right
    refine ⟨.inr h.1, ?_⟩
    have hz0 : 0 ≤ z := by
      rcases Int.lt_or_le z 0 with h9 | h9
      · have := Int.mul_nonneg (show (0 : Int) ≤ G by omega) (show 0 ≤ -z by omega)
        rw [Int.mul_neg] at this; omega
      · exact h9
    rw [hcast, show (z.natAbs : Int) = z by omega]

set_option maxRecDepth 100000 in
set_option maxHeartbeats 4000000 in
theorem common_any (a : ByteArray) (b : ByteArray) (c : ByteArray) (ha : a.size ≤ maxLen) (hb : b.size ≤ maxLen) (hc : c.size ≤ maxLen) (w : World) :
    Calls Try.prog 8 #[.string a, .string b, .string c] w fun e w' => e = .returned (.bool true) ∧ Below w.heap.size w w' := by
  have ma := fun W => made_any a 40 (by decide) ha W
  have mb := fun W => made_any b 40 (by decide) hb W
  have mc := fun W => made_any c 40 (by decide) hc W
  clear ha hb hc
  go_enter Try.func8, Try.ntmps8
  go_wp2_with fail
  refine (sane_any _).mono ?_
  rintro e w1 ⟨rfl, hb1⟩
  go_wp2_with fail
  refine (ma _).mono ?_
  rintro e w2 ⟨x, rfl, hx, hB⟩
  have hb2 := hb1.trans (hB.mono hb1.size)
  clear hB hb1
  go_wp2_with fail
  refine (mb _).mono ?_
  rintro e w3 ⟨y, rfl, hy, hB⟩
  have hb3 := hb2.trans (hB.mono hb2.size)
  clear hB hb2
  go_wp2_with fail
  refine (mc _).mono ?_
  rintro e w4 ⟨z, rfl, hz, hB⟩
  have hb4 := hb3.trans (hB.mono hb3.size)
  clear hB hb3
  have bx := Bd.of hx
  have byy := Bd.of hy
  have bz := Bd.of hz
  have hG := cGcd x y (bx.fits (by decide)) (byy.fits (by decide))
  have hG2 := cGcd y x (byy.fits (by decide)) (bx.fits (by decide))
  rw [Int.gcd_comm y x] at hG2
  have hM : (cmpZ ((Int.gcd x y : Nat) : Int) 0 = 0 ∨ cmpZ ((Int.gcd x y : Nat) : Int) 0 = 1) ∧ CCmp (txt ((Int.gcd x y : Nat) : Int)) ⟨#[48]⟩ (cmpZ ((Int.gcd x y : Nat) : Int) 0) := by
    refine ⟨?_, ?_⟩
    · rcases cmpZ_cases ((Int.gcd x y : Nat) : Int) 0 with h | h | h
      · omega
      · exact .inl h.1
      · exact .inr h.1
    · have := cCmp _ 0 ((bx.gcd byy).fits (by decide)) ft_0
      rwa [t_0] at this
  have hC := common_facts x y z bx byy bz
  have hZ : ∀ u : Int, u ≠ 0 → ((txt u).toList == [48]) = false := fun u hu => by
    have := txt_ne hu
    rw [t_0, show (⟨#[48]⟩ : ByteArray).toList = [48] by decide +kernel] at this
    exact this
  have hcase : (x = 0 ∧ y = 0 ∧ txt x = ⟨#[48]⟩ ∧ txt y = ⟨#[48]⟩ ∧ txt ((Int.gcd x y : Nat) : Int) = ⟨#[48]⟩) ∨ ((x ≠ 0 ∨ y ≠ 0) ∧ ((txt x).toList == [48]) = false) ∨ ((x ≠ 0 ∨ y ≠ 0) ∧ txt x = ⟨#[48]⟩ ∧ ((txt y).toList == [48]) = false) := by
    by_cases h1 : x = 0
    · by_cases h2 : y = 0
      · subst h1; subst h2; exact .inl ⟨rfl, rfl, t_0, t_0, t_0⟩
      · exact .inr (.inr ⟨.inr h2, by rw [h1, t_0], hZ y h2⟩)
    · exact .inr (.inl ⟨.inl h1, hZ x h1⟩)
  have HG : Shut _ := ⟨hG⟩
  have HG2 : Shut _ := ⟨hG2⟩
  have HC : Shut _ := ⟨hC⟩
  obtain ⟨hm, hM⟩ := hM
  have HM : Shut _ := ⟨hM⟩
  clear hG hG2 hC hM hZ bx byy bz hx hy hz ma mb mc
  generalize txt ((Int.gcd x y : Nat) : Int) = g at *
  generalize txt (x / (Int.gcd x y : Nat)) = p at *
  generalize txt (y / (Int.gcd x y : Nat)) = q at *
  generalize txt (x * z) = xz at *
  generalize txt (y * z) = yz at *
  generalize txt ((Int.gcd (x * z) (y * z) : Nat) : Int) = al at *
  generalize txt ((Int.gcd x y : Nat) * z) = gz at *
  generalize cmpZ ((Int.gcd x y : Nat) * z) 0 = k at *
  generalize cmpZ ((Int.gcd x y : Nat) : Int) 0 = m at *
  generalize txt x = sx at *
  generalize txt y = sy at *
  generalize txt z = sz at *
  go_wp2_with fail
  refine (HG.o _).mono ?_
  rintro e w5 ⟨rfl, hB⟩
  have hb5 := hb4.trans (hB.mono hb4.size)
  clear hB hb4
  go_wp2_with fail
  refine (HG2.o _).mono ?_
  rintro e w6 ⟨rfl, hB⟩
  have hb6 := hb5.trans (hB.mono hb5.size)
  clear hB hb5
  have hM := HM.o
  clear HM
  have HM : Shut (CCmp g ⟨#[48]⟩ m) := ⟨hM⟩
  clear hM
  rcases hm with rfl | rfl
  · go_wp2_with fail
    refine (HM.o _).mono ?_
    rintro e w7 ⟨rfl, hB⟩
    have hb7 := hb6.trans (hB.mono hb6.size)
    clear hB hb6
    rcases hcase with ⟨hx0, hy0, rfl, rfl, rfl⟩ | ⟨h0, hq⟩ | ⟨h0, rfl, hq⟩
    · clear hx0 hy0 HC
      go_wp2
      go_ret
      exact ⟨rfl, hb7⟩
    · have HF : Shut _ := ⟨HC.o h0⟩
      have HK : Shut _ := ⟨HF.o.2.2.2.2.2.2.2.2⟩
      clear h0 HC
      go_wp2_with fail
      refine (HF.o.1 _).mono ?_
      rintro e w8 ⟨rfl, hB⟩
      have hb8 := hb7.trans (hB.mono hb7.size)
      clear hB hb7
      go_wp2_with fail
      refine (HF.o.2.1 _).mono ?_
      rintro e w9 ⟨rfl, hB⟩
      have hb9 := hb8.trans (hB.mono hb8.size)
      clear hB hb8
      go_wp2_with fail
      refine (HF.o.2.2.1 _).mono ?_
      rintro e w10 ⟨rfl, hB⟩
      have hb10 := hb9.trans (hB.mono hb9.size)
      clear hB hb9
      go_wp2_with fail
      refine (HF.o.2.2.2.1 _).mono ?_
      rintro e w11 ⟨rfl, hB⟩
      have hb11 := hb10.trans (hB.mono hb10.size)
      clear hB hb10
      go_wp2_with fail
      refine (HF.o.2.2.2.2.1 _).mono ?_
      rintro e w12 ⟨rfl, hB⟩
      have hb12 := hb11.trans (hB.mono hb11.size)
      clear hB hb11
      go_wp2_with fail
      refine (HF.o.2.2.2.2.2.1 _).mono ?_
      rintro e w13 ⟨rfl, hB⟩
      have hb13 := hb12.trans (hB.mono hb12.size)
      clear hB hb12
      go_wp2_with fail
      refine (HF.o.2.2.2.2.2.2.1 _).mono ?_
      rintro e w14 ⟨rfl, hB⟩
      have hb14 := hb13.trans (hB.mono hb13.size)
      clear hB hb13
      rcases HK.o with ⟨rfl, hs⟩ | ⟨rfl | rfl, rfl⟩
      · have HS : Shut _ := ⟨hs⟩
        clear hs HK
        go_wp2_with fail
        refine (HF.o.2.2.2.2.2.2.2.1 _).mono ?_
        rintro e w15 ⟨rfl, hB⟩
        have hb15 := hb14.trans (hB.mono hb14.size)
        clear hB hb14
        go_wp2_with fail
        refine (HS.o _).mono ?_
        rintro e w16 ⟨rfl, hB⟩
        have hb16 := hb15.trans (hB.mono hb15.size)
        clear hB hb15
        go_wp2
        go_ret
        exact ⟨rfl, hb16⟩
      · clear HK
        go_wp2_with fail
        refine (HF.o.2.2.2.2.2.2.2.1 _).mono ?_
        rintro e w15 ⟨rfl, hB⟩
        have hb15 := hb14.trans (hB.mono hb14.size)
        clear hB hb14
        go_wp2
        go_ret
        exact ⟨rfl, hb15⟩
      · clear HK
        go_wp2_with fail
        refine (HF.o.2.2.2.2.2.2.2.1 _).mono ?_
        rintro e w15 ⟨rfl, hB⟩
        have hb15 := hb14.trans (hB.mono hb14.size)
        clear hB hb14
        go_wp2
        go_ret
        exact ⟨rfl, hb15⟩
    · have HF : Shut _ := ⟨HC.o h0⟩
      have HK : Shut _ := ⟨HF.o.2.2.2.2.2.2.2.2⟩
      clear h0 HC
      go_wp2_with fail
      refine (HF.o.1 _).mono ?_
      rintro e w8 ⟨rfl, hB⟩
      have hb8 := hb7.trans (hB.mono hb7.size)
      clear hB hb7
      go_wp2_with fail
      refine (HF.o.2.1 _).mono ?_
      rintro e w9 ⟨rfl, hB⟩
      have hb9 := hb8.trans (hB.mono hb8.size)
      clear hB hb8
      go_wp2_with fail
      refine (HF.o.2.2.1 _).mono ?_
      rintro e w10 ⟨rfl, hB⟩
      have hb10 := hb9.trans (hB.mono hb9.size)
      clear hB hb9
      go_wp2_with fail
      refine (HF.o.2.2.2.1 _).mono ?_
      rintro e w11 ⟨rfl, hB⟩
      have hb11 := hb10.trans (hB.mono hb10.size)
      clear hB hb10
      go_wp2_with fail
      refine (HF.o.2.2.2.2.1 _).mono ?_
      rintro e w12 ⟨rfl, hB⟩
      have hb12 := hb11.trans (hB.mono hb11.size)
      clear hB hb11
      go_wp2_with fail
      refine (HF.o.2.2.2.2.2.1 _).mono ?_
      rintro e w13 ⟨rfl, hB⟩
      have hb13 := hb12.trans (hB.mono hb12.size)
      clear hB hb12
      go_wp2_with fail
      refine (HF.o.2.2.2.2.2.2.1 _).mono ?_
      rintro e w14 ⟨rfl, hB⟩
      have hb14 := hb13.trans (hB.mono hb13.size)
      clear hB hb13
      rcases HK.o with ⟨rfl, hs⟩ | ⟨rfl | rfl, rfl⟩
      · have HS : Shut _ := ⟨hs⟩
        clear hs HK
        go_wp2_with fail
        refine (HF.o.2.2.2.2.2.2.2.1 _).mono ?_
        rintro e w15 ⟨rfl, hB⟩
        have hb15 := hb14.trans (hB.mono hb14.size)
        clear hB hb14
        go_wp2_with fail
        refine (HS.o _).mono ?_
        rintro e w16 ⟨rfl, hB⟩
        have hb16 := hb15.trans (hB.mono hb15.size)
        clear hB hb15
        go_wp2
        go_ret
        exact ⟨rfl, hb16⟩
      · clear HK
        go_wp2_with fail
        refine (HF.o.2.2.2.2.2.2.2.1 _).mono ?_
        rintro e w15 ⟨rfl, hB⟩
        have hb15 := hb14.trans (hB.mono hb14.size)
        clear hB hb14
        go_wp2
        go_ret
        exact ⟨rfl, hb15⟩
      · clear HK
        go_wp2_with fail
        refine (HF.o.2.2.2.2.2.2.2.1 _).mono ?_
        rintro e w15 ⟨rfl, hB⟩
        have hb15 := hb14.trans (hB.mono hb14.size)
        clear hB hb14
        go_wp2
        go_ret
        exact ⟨rfl, hb15⟩
  · go_wp2_with fail
    refine (HM.o _).mono ?_
    rintro e w7 ⟨rfl, hB⟩
    have hb7 := hb6.trans (hB.mono hb6.size)
    clear hB hb6
    rcases hcase with ⟨hx0, hy0, rfl, rfl, rfl⟩ | ⟨h0, hq⟩ | ⟨h0, rfl, hq⟩
    · clear hx0 hy0 HC
      go_wp2
      go_ret
      exact ⟨rfl, hb7⟩
    · have HF : Shut _ := ⟨HC.o h0⟩
      have HK : Shut _ := ⟨HF.o.2.2.2.2.2.2.2.2⟩
      clear h0 HC
      go_wp2_with fail
      refine (HF.o.1 _).mono ?_
      rintro e w8 ⟨rfl, hB⟩
      have hb8 := hb7.trans (hB.mono hb7.size)
      clear hB hb7
      go_wp2_with fail
      refine (HF.o.2.1 _).mono ?_
      rintro e w9 ⟨rfl, hB⟩
      have hb9 := hb8.trans (hB.mono hb8.size)
      clear hB hb8
      go_wp2_with fail
      refine (HF.o.2.2.1 _).mono ?_
      rintro e w10 ⟨rfl, hB⟩
      have hb10 := hb9.trans (hB.mono hb9.size)
      clear hB hb9
      go_wp2_with fail
      refine (HF.o.2.2.2.1 _).mono ?_
      rintro e w11 ⟨rfl, hB⟩
      have hb11 := hb10.trans (hB.mono hb10.size)
      clear hB hb10
      go_wp2_with fail
      refine (HF.o.2.2.2.2.1 _).mono ?_
      rintro e w12 ⟨rfl, hB⟩
      have hb12 := hb11.trans (hB.mono hb11.size)
      clear hB hb11
      go_wp2_with fail
      refine (HF.o.2.2.2.2.2.1 _).mono ?_
      rintro e w13 ⟨rfl, hB⟩
      have hb13 := hb12.trans (hB.mono hb12.size)
      clear hB hb12
      go_wp2_with fail
      refine (HF.o.2.2.2.2.2.2.1 _).mono ?_
      rintro e w14 ⟨rfl, hB⟩
      have hb14 := hb13.trans (hB.mono hb13.size)
      clear hB hb13
      rcases HK.o with ⟨rfl, hs⟩ | ⟨rfl | rfl, rfl⟩
      · have HS : Shut _ := ⟨hs⟩
        clear hs HK
        go_wp2_with fail
        refine (HF.o.2.2.2.2.2.2.2.1 _).mono ?_
        rintro e w15 ⟨rfl, hB⟩
        have hb15 := hb14.trans (hB.mono hb14.size)
        clear hB hb14
        go_wp2_with fail
        refine (HS.o _).mono ?_
        rintro e w16 ⟨rfl, hB⟩
        have hb16 := hb15.trans (hB.mono hb15.size)
        clear hB hb15
        go_wp2
        go_ret
        exact ⟨rfl, hb16⟩
      · clear HK
        go_wp2_with fail
        refine (HF.o.2.2.2.2.2.2.2.1 _).mono ?_
        rintro e w15 ⟨rfl, hB⟩
        have hb15 := hb14.trans (hB.mono hb14.size)
        clear hB hb14
        go_wp2
        go_ret
        exact ⟨rfl, hb15⟩
      · clear HK
        go_wp2_with fail
        refine (HF.o.2.2.2.2.2.2.2.1 _).mono ?_
        rintro e w15 ⟨rfl, hB⟩
        have hb15 := hb14.trans (hB.mono hb14.size)
        clear hB hb14
        go_wp2
        go_ret
        exact ⟨rfl, hb15⟩
    · have HF : Shut _ := ⟨HC.o h0⟩
      have HK : Shut _ := ⟨HF.o.2.2.2.2.2.2.2.2⟩
      clear h0 HC
      go_wp2_with fail
      refine (HF.o.1 _).mono ?_
      rintro e w8 ⟨rfl, hB⟩
      have hb8 := hb7.trans (hB.mono hb7.size)
      clear hB hb7
      go_wp2_with fail
      refine (HF.o.2.1 _).mono ?_
      rintro e w9 ⟨rfl, hB⟩
      have hb9 := hb8.trans (hB.mono hb8.size)
      clear hB hb8
      go_wp2_with fail
      refine (HF.o.2.2.1 _).mono ?_
      rintro e w10 ⟨rfl, hB⟩
      have hb10 := hb9.trans (hB.mono hb9.size)
      clear hB hb9
      go_wp2_with fail
      refine (HF.o.2.2.2.1 _).mono ?_
      rintro e w11 ⟨rfl, hB⟩
      have hb11 := hb10.trans (hB.mono hb10.size)
      clear hB hb10
      go_wp2_with fail
      refine (HF.o.2.2.2.2.1 _).mono ?_
      rintro e w12 ⟨rfl, hB⟩
      have hb12 := hb11.trans (hB.mono hb11.size)
      clear hB hb11
      go_wp2_with fail
      refine (HF.o.2.2.2.2.2.1 _).mono ?_
      rintro e w13 ⟨rfl, hB⟩
      have hb13 := hb12.trans (hB.mono hb12.size)
      clear hB hb12
      go_wp2_with fail
      refine (HF.o.2.2.2.2.2.2.1 _).mono ?_
      rintro e w14 ⟨rfl, hB⟩
      have hb14 := hb13.trans (hB.mono hb13.size)
      clear hB hb13
      rcases HK.o with ⟨rfl, hs⟩ | ⟨rfl | rfl, rfl⟩
      · have HS : Shut _ := ⟨hs⟩
        clear hs HK
        go_wp2_with fail
        refine (HF.o.2.2.2.2.2.2.2.1 _).mono ?_
        rintro e w15 ⟨rfl, hB⟩
        have hb15 := hb14.trans (hB.mono hb14.size)
        clear hB hb14
        go_wp2_with fail
        refine (HS.o _).mono ?_
        rintro e w16 ⟨rfl, hB⟩
        have hb16 := hb15.trans (hB.mono hb15.size)
        clear hB hb15
        go_wp2
        go_ret
        exact ⟨rfl, hb16⟩
      · clear HK
        go_wp2_with fail
        refine (HF.o.2.2.2.2.2.2.2.1 _).mono ?_
        rintro e w15 ⟨rfl, hB⟩
        have hb15 := hb14.trans (hB.mono hb14.size)
        clear hB hb14
        go_wp2
        go_ret
        exact ⟨rfl, hb15⟩
      · clear HK
        go_wp2_with fail
        refine (HF.o.2.2.2.2.2.2.2.1 _).mono ?_
        rintro e w15 ⟨rfl, hB⟩
        have hb15 := hb14.trans (hB.mono hb14.size)
        clear hB hb14
        go_wp2
        go_ret
        exact ⟨rfl, hb15⟩
end Go.Proofs.Ytnlekckmkofkiaa
