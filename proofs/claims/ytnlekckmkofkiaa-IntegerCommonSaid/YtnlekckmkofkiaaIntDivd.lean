/-
  The law IntegerDivided: its walk.
-/
import Derived.Test.YtnlekckmkofkiaaIntLawA
namespace Go.Proofs.Ytnlekckmkofkiaa
open Go.RowKit Nm

def DivF (sx sy q r p pr n : ByteArray) (k m : Int) : Prop :=
  CDiv sx sy q r ∧ CMul q sy p ∧ CAdd p r sx ∧ CMul sy ⟨#[49]⟩ sy ∧ CCmp sy ⟨#[48]⟩ k ∧ CSub ⟨#[48]⟩ sy n ∧ CMul sx sy pr ∧ CDiv pr sy sx ⟨#[48]⟩ ∧ CCmp r ⟨#[48]⟩ m ∧ CVal r true ∧ ((k = 1 ∧ CCmp r sy (-1)) ∨ (k = -1 ∧ CCmp r n (-1))) ∧ (m = 0 ∨ m = 1)
theorem Bd.le {x y : Int} {t : Nat} (h : Bd x t) (hl : y.natAbs ≤ x.natAbs) : Bd y t := Nat.lt_of_le_of_lt hl h
theorem Bd.neg {x : Int} {t : Nat} (h : Bd x t) : Bd (-x) t := by unfold Bd at *; rwa [Int.natAbs_neg]
theorem div_facts (x y : Int) (hx : Bd x 90) (hy : Bd y 60) (h0 : y ≠ 0) : DivF (txt x) (txt y) (txt (x / y)) (txt (x % y)) (txt (x / y * y)) (txt (x * y)) (txt (-y)) (cmpZ y 0) (cmpZ (x % y) 0) := by
  have fx := hx.fits (by decide)
  have fy := hy.fits (by decide)
  have hdl := div_le x y h0
  have br : Bd (x % y) 60 := hy.le hdl.2
  have hid : x / y * y + x % y = x := by rw [Int.mul_comm]; exact Int.mul_ediv_add_emod x y
  have bq : Bd (x / y) 91 := by
    have h1 := hdl.1
    unfold Bd at *; rw [Nat.pow_succ]; have hp : 0 < 10 ^ 90 := Nat.pow_pos (by decide); generalize 10 ^ 90 = P at *; omega
  have bp : Bd (x / y * y) 91 := by
    have e : x / y * y = x - x % y := by omega
    rw [e]
    exact hx.sub (br.up (by decide))
  have bm := hx.mul hy
  have fq := bq.fits (by decide)
  have fr := br.fits (by decide)
  have fp := bp.fits (by decide)
  have fm := bm.fits (by decide)
  have fn := hy.neg.fits (by decide)
  have a1 := cAdd (x / y * y) (x % y) fp fr (by rw [hid]; exact fx)
  rw [hid] at a1
  have a2 := cMul y 1 fy ft_1 (by rw [Int.mul_one]; exact fy)
  rw [Int.mul_one, t_1] at a2
  have a3 := cCmp y 0 fy ft_0
  rw [t_0] at a3
  have a4 := cSub 0 y ft_0 fy (by rw [Int.zero_sub]; exact fn)
  rw [Int.zero_sub, t_0] at a4
  have a5 := cDiv (x * y) y fm fy h0
  rw [Int.mul_ediv_cancel x h0, Int.mul_emod_left, t_0] at a5
  have a6 := cCmp (x % y) 0 fr ft_0
  rw [t_0] at a6
  have a7 := cVal (txt (x % y)) (by have := txt_size fr; omega)
  rw [valid_txt _ fr] at a7
  have hn := Int.emod_nonneg x h0
  have hlt := Int.emod_lt x h0
  refine ⟨cDiv x y fx fy h0, cMul _ y fq fy fp, a1, a2, a3, a4, cMul x y fx fy fm, a5, a6, a7, ?_, ?_⟩
  · rcases cmpZ_cases y 0 with h | h | h
    · right
      refine ⟨h.1, ?_⟩
      have := cCmp (x % y) (-y) fr fn
      rw [show cmpZ (x % y) (-y) = -1 by rw [cmpZ, if_pos (by omega)]] at this
      exact this
    · exact absurd h.2.2 h0
    · left
      refine ⟨h.1, ?_⟩
      have := cCmp (x % y) y fr fy
      rw [show cmpZ (x % y) y = -1 by rw [cmpZ, if_pos (by omega)]] at this
      exact this
  · rcases cmpZ_cases (x % y) 0 with h | h | h
    · omega
    · exact .inl h.1
    · exact .inr h.1
theorem div0_fact (x : Int) (hx : Bd x 90) : CDivZ (txt x) ⟨#[48]⟩ := fun w => by
  have := Div_zero x (hx.fits (by decide)) w
  rwa [t_0] at this

set_option maxRecDepth 100000 in
set_option maxHeartbeats 4000000 in
theorem divided_any (a : ByteArray) (b : ByteArray) (ha : a.size ≤ maxLen) (hb : b.size ≤ maxLen) (w : World) :
    Calls Try.prog 7 #[.string a, .string b] w fun e w' => e = .returned (.bool true) ∧ Below w.heap.size w w' := by
  have ma := fun W => made_any a 90 (by decide) ha W
  have mb := fun W => made_any b 60 (by decide) hb W
  clear ha hb
  go_enter Try.func7, Try.ntmps7
  go_wp2_with fail
  refine (sane_any _).mono ?_
  rintro e w1 ⟨rfl, hb1⟩
  go_wp2_with fail
  refine (ma _).mono ?_
  rintro e w2 ⟨x, rfl, hx, hB⟩
  have hb2 := hb1.trans (hB.mono hb1.size)
  clear hB hb1
  go_wp2_with fail
  refine (mb _).mono ?_
  rintro e w3 ⟨y, rfl, hy, hB⟩
  have hb3 := hb2.trans (hB.mono hb2.size)
  clear hB hb2
  by_cases h0 : y = 0
  · subst h0
    have HR : Shut _ := ⟨div0_fact x (.of hx)⟩
    rw [t_0]
    clear hx hy ma mb
    generalize txt x = sx at *
    go_wp2_with fail
    refine (HR.o _).mono ?_
    rintro e w4 ⟨rfl, hB⟩
    have hb4 := hb3.trans (hB.mono hb3.size)
    clear hB hb3
    go_wp2
    go_ret
    exact ⟨rfl, hb4⟩
  · have hR := div_facts x y (.of hx) (.of hy) h0
    have hq : ((txt y).toList == [48]) = false := by
      have := txt_ne h0
      rw [t_0, show (⟨#[48]⟩ : ByteArray).toList = [48] by decide +kernel] at this
      exact this
    clear h0 hx hy ma mb
    generalize txt (x / y * y) = p at *
    generalize txt (x / y) = q at *
    generalize txt (x % y) = r at *
    generalize txt (x * y) = pr at *
    generalize txt (-y) = n at *
    generalize txt x = sx at *
    generalize txt y = sy at *
    generalize cmpZ y 0 = k at *
    generalize cmpZ (x % y) 0 = m at *
    have HR : Shut _ := ⟨hR⟩
    have hk := hR.2.2.2.2.2.2.2.2.2.2.1
    have hm := hR.2.2.2.2.2.2.2.2.2.2.2
    clear hR
    go_wp2_with fail
    refine (HR.o.1 _).mono ?_
    rintro e w4 ⟨rfl, hB⟩
    have hb4 := hb3.trans (hB.mono hb3.size)
    clear hB hb3
    go_wp2_with fail
    refine (HR.o.2.1 _).mono ?_
    rintro e w5 ⟨rfl, hB⟩
    have hb5 := hb4.trans (hB.mono hb4.size)
    clear hB hb4
    go_wp2_with fail
    refine (HR.o.2.2.1 _).mono ?_
    rintro e w6 ⟨rfl, hB⟩
    have hb6 := hb5.trans (hB.mono hb5.size)
    clear hB hb5
    go_wp2_with fail
    refine (HR.o.2.2.2.1 _).mono ?_
    rintro e w7 ⟨rfl, hB⟩
    have hb7 := hb6.trans (hB.mono hb6.size)
    clear hB hb6
    clear hq
    rcases hk with ⟨rfl, hk⟩ | ⟨rfl, hk⟩
    all_goals have HK : Shut _ := ⟨hk⟩
    all_goals clear hk
    · go_wp2_with fail
      refine (HR.o.2.2.2.2.1 _).mono ?_
      rintro e w8 ⟨rfl, hB⟩
      have hb8 := hb7.trans (hB.mono hb7.size)
      clear hB hb7
      go_wp2_with fail
      refine (HR.o.2.2.2.2.2.2.1 _).mono ?_
      rintro e w9 ⟨rfl, hB⟩
      have hb9 := hb8.trans (hB.mono hb8.size)
      clear hB hb8
      go_wp2_with fail
      refine (HR.o.2.2.2.2.2.2.2.1 _).mono ?_
      rintro e w10 ⟨rfl, hB⟩
      have hb10 := hb9.trans (hB.mono hb9.size)
      clear hB hb9
      rcases hm with rfl | rfl
      · go_wp2_with fail
        refine (HR.o.2.2.2.2.2.2.2.2.1 _).mono ?_
        rintro e w11 ⟨rfl, hB⟩
        have hb11 := hb10.trans (hB.mono hb10.size)
        clear hB hb10
        go_wp2_with fail
        refine (HK.o _).mono ?_
        rintro e w12 ⟨rfl, hB⟩
        have hb12 := hb11.trans (hB.mono hb11.size)
        clear hB hb11
        go_wp2_with fail
        refine (HR.o.2.2.2.2.2.2.2.2.2.1 _).mono ?_
        rintro e w13 ⟨rfl, hB⟩
        have hb13 := hb12.trans (hB.mono hb12.size)
        clear hB hb12
        go_wp2
        go_ret
        exact ⟨rfl, hb13⟩
      · go_wp2_with fail
        refine (HR.o.2.2.2.2.2.2.2.2.1 _).mono ?_
        rintro e w11 ⟨rfl, hB⟩
        have hb11 := hb10.trans (hB.mono hb10.size)
        clear hB hb10
        go_wp2_with fail
        refine (HK.o _).mono ?_
        rintro e w12 ⟨rfl, hB⟩
        have hb12 := hb11.trans (hB.mono hb11.size)
        clear hB hb11
        go_wp2_with fail
        refine (HR.o.2.2.2.2.2.2.2.2.2.1 _).mono ?_
        rintro e w13 ⟨rfl, hB⟩
        have hb13 := hb12.trans (hB.mono hb12.size)
        clear hB hb12
        go_wp2
        go_ret
        exact ⟨rfl, hb13⟩
    · go_wp2_with fail
      refine (HR.o.2.2.2.2.1 _).mono ?_
      rintro e w8 ⟨rfl, hB⟩
      have hb8 := hb7.trans (hB.mono hb7.size)
      clear hB hb7
      go_wp2_with fail
      refine (HR.o.2.2.2.2.2.1 _).mono ?_
      rintro e w9 ⟨rfl, hB⟩
      have hb9 := hb8.trans (hB.mono hb8.size)
      clear hB hb8
      go_wp2_with fail
      refine (HR.o.2.2.2.2.2.2.1 _).mono ?_
      rintro e w10 ⟨rfl, hB⟩
      have hb10 := hb9.trans (hB.mono hb9.size)
      clear hB hb9
      go_wp2_with fail
      refine (HR.o.2.2.2.2.2.2.2.1 _).mono ?_
      rintro e w11 ⟨rfl, hB⟩
      have hb11 := hb10.trans (hB.mono hb10.size)
      clear hB hb10
      rcases hm with rfl | rfl
      · go_wp2_with fail
        refine (HR.o.2.2.2.2.2.2.2.2.1 _).mono ?_
        rintro e w12 ⟨rfl, hB⟩
        have hb12 := hb11.trans (hB.mono hb11.size)
        clear hB hb11
        go_wp2_with fail
        refine (HK.o _).mono ?_
        rintro e w13 ⟨rfl, hB⟩
        have hb13 := hb12.trans (hB.mono hb12.size)
        clear hB hb12
        go_wp2_with fail
        refine (HR.o.2.2.2.2.2.2.2.2.2.1 _).mono ?_
        rintro e w14 ⟨rfl, hB⟩
        have hb14 := hb13.trans (hB.mono hb13.size)
        clear hB hb13
        go_wp2
        go_ret
        exact ⟨rfl, hb14⟩
      · go_wp2_with fail
        refine (HR.o.2.2.2.2.2.2.2.2.1 _).mono ?_
        rintro e w12 ⟨rfl, hB⟩
        have hb12 := hb11.trans (hB.mono hb11.size)
        clear hB hb11
        go_wp2_with fail
        refine (HK.o _).mono ?_
        rintro e w13 ⟨rfl, hB⟩
        have hb13 := hb12.trans (hB.mono hb12.size)
        clear hB hb12
        go_wp2_with fail
        refine (HR.o.2.2.2.2.2.2.2.2.2.1 _).mono ?_
        rintro e w14 ⟨rfl, hB⟩
        have hb14 := hb13.trans (hB.mono hb13.size)
        clear hB hb13
        go_wp2
        go_ret
        exact ⟨rfl, hb14⟩
end Go.Proofs.Ytnlekckmkofkiaa
