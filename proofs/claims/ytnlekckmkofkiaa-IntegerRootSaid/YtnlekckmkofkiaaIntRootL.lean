/-
  The law IntegerRoot: its walk.
-/
import Derived.Test.YtnlekckmkofkiaaIntRootF
import Derived.Test.YtnlekckmkofkiaaIntLawA
namespace Go.Proofs.Ytnlekckmkofkiaa
open Go.RowKit Nm

def CRoot (s r : ByteArray) : Prop := ∀ w : World, Calls Try.prog 25 #[.string s] w fun e w' => e = .returned (.tuple #[.string r, .int .i64 0]) ∧ Below w.heap.size w w'
def CRootB (s : ByteArray) : Prop := ∀ w : World, Calls Try.prog 25 #[.string s] w fun e w' => e = .returned (.tuple #[.string ⟨#[]⟩, .int .i64 30]) ∧ Below w.heap.size w w'
theorem cRoot (z : Int) (hz : Fits z) (h0 : 0 ≤ z) : CRoot (txt z) (txt ((sqr z.natAbs : Nat) : Int)) := fun w => Root_ok z hz h0 (root_any _ (by have := fits_len hz; omega)) w
theorem sqr_sq (n : Nat) : sqr (n * n) = n := by
  obtain ⟨h1, h2⟩ := sqr_spec (n * n)
  have h3 := (sqr_le (n := n * n) (f := n)).1 (Nat.le_refl _)
  rcases Nat.lt_or_ge n (sqr (n * n)) with h | h
  · have := Nat.mul_le_mul h h
    simp only [Nat.succ_eq_add_one] at this
    have e : (n + 1) * (n + 1) = n * n + 2 * n + 1 := by grind
    omega
  · omega
def RootN (sx sq sz : ByteArray) : Prop := CRootB sx ∧ CMul sx sx sq ∧ CRoot sq sz ∧ CAdd sz sx ⟨#[48]⟩ ∧ CCmp sx ⟨#[48]⟩ (-1) ∧ (sz.toList == sx.toList) = false
def RootP (sx sq r b low next high : ByteArray) (k m : Int) : Prop := CRoot sx r ∧ CMul sx sx sq ∧ CRoot sq sx ∧ CAdd sx sx b ∧ CCmp sx ⟨#[48]⟩ k ∧ CMul r r low ∧ CAdd r ⟨#[49]⟩ next ∧ CMul next next high ∧ CCmp low sx m ∧ CCmp high sx 1 ∧ (k = 0 ∨ k = 1) ∧ (m = -1 ∨ m = 0)
theorem root_neg_facts (x : Int) (hx : Bd x 80) (h : x < 0) : ∃ sq sz, RootN (txt x) sq sz := by
  have fx := hx.fits (by decide)
  have bq := hx.mul hx
  have fq := bq.fits (by decide)
  have hq0 : 0 ≤ x * x := by have := Int.mul_pos_of_neg_of_neg h h; omega
  have hs : ((sqr (x * x).natAbs : Nat) : Int) = -x := by rw [Int.natAbs_mul, sqr_sq]; omega
  have a1 := cRoot (x * x) fq hq0
  rw [hs] at a1
  have fn : Fits (-x) := by unfold Fits at *; rwa [Int.natAbs_neg]
  have a2 := cAdd (-x) x fn fx (by rw [Int.add_left_neg]; exact ft_0)
  rw [Int.add_left_neg, t_0] at a2
  have a3 := cCmp x 0 fx ft_0
  rw [t_0, show cmpZ x 0 = -1 by rw [cmpZ, if_pos h]] at a3
  exact ⟨_, _, fun w => Root_neg x fx h w, cMul x x fx fx fq, a1, a2, a3, txt_ne (by omega)⟩
theorem root_pos_facts (x : Int) (hx : Bd x 80) (h : 0 ≤ x) : ∃ sq r b low next high k m, RootP (txt x) sq r b low next high k m := by
  have fx := hx.fits (by decide)
  have fq := (hx.mul hx).fits (by decide)
  have hs : ((sqr (x * x).natAbs : Nat) : Int) = x := by rw [Int.natAbs_mul, sqr_sq]; omega
  have a1 := cRoot (x * x) fq (Int.mul_nonneg h h)
  rw [hs] at a1
  have fb := (hx.add hx).fits (by decide)
  have a3 := cCmp x 0 fx ft_0
  rw [t_0] at a3
  obtain ⟨h1, h2⟩ := sqr_spec x.natAbs
  have hle : sqr x.natAbs ≤ x.natAbs := by
    rcases Nat.eq_zero_or_pos (sqr x.natAbs) with h9 | h9
    · omega
    · have := Nat.le_mul_of_pos_left (sqr x.natAbs) h9; omega
  have br : Bd ((sqr x.natAbs : Nat) : Int) 80 := by
    unfold Bd at *; rw [Int.natAbs_natCast]; omega
  have bn := br.add (show Bd 1 80 by unfold Bd; exact Nat.one_lt_pow (by decide) (by decide))
  have fr := br.fits (by decide)
  have fn := bn.fits (by decide)
  have fl := (br.mul br).fits (by decide)
  have fh := (bn.mul bn).fits (by decide)
  have a4 := cRoot x fx h
  have e1 : (((sqr x.natAbs : Nat) : Int)) * ((sqr x.natAbs : Nat) : Int) = ((sqr x.natAbs * sqr x.natAbs : Nat) : Int) := by rw [Int.natCast_mul]
  have e2 : (((sqr x.natAbs : Nat) : Int) + 1) * (((sqr x.natAbs : Nat) : Int) + 1) = (((sqr x.natAbs + 1) * (sqr x.natAbs + 1) : Nat) : Int) := by rw [Int.natCast_mul]; rfl
  have a5 := cCmp _ x fl fx
  have a6 := cCmp _ x fh fx
  rw [show cmpZ ((((sqr x.natAbs : Nat) : Int) + 1) * (((sqr x.natAbs : Nat) : Int) + 1)) x = 1 by rw [e2, cmpZ, if_neg (by omega), if_neg (by omega)]] at a6
  have a7 := cAdd _ 1 fr ft_1 fn
  rw [t_1] at a7
  refine ⟨_, _, _, _, _, _, _, _, a4, cMul x x fx fx fq, a1, cAdd x x fx fx fb, a3, cMul _ _ fr fr fl, a7, cMul _ _ fn fn fh, a5, a6, ?_, ?_⟩
  · rcases cmpZ_cases x 0 with h9 | h9 | h9
    · omega
    · exact .inl h9.1
    · exact .inr h9.1
  · rcases cmpZ_cases (((sqr x.natAbs : Nat) : Int) * ((sqr x.natAbs : Nat) : Int)) x with h9 | h9 | h9
    · exact .inl h9.1
    · exact .inr h9.1
    · rw [e1] at h9; omega

set_option maxRecDepth 100000 in
set_option maxHeartbeats 4000000 in
theorem rootLaw_any (a : ByteArray) (ha : a.size ≤ maxLen) (w : World) :
    Calls Try.prog 9 #[.string a] w fun e w' => e = .returned (.bool true) ∧ Below w.heap.size w w' := by
  have ma := fun W => made_any a 80 (by decide) ha W
  clear ha
  go_enter Try.func9, Try.ntmps9
  go_wp2_with fail
  refine (sane_any _).mono ?_
  rintro e w1 ⟨rfl, hb1⟩
  go_wp2_with fail
  refine (ma _).mono ?_
  rintro e w2 ⟨x, rfl, hx, hB⟩
  have hb2 := hb1.trans (hB.mono hb1.size)
  clear hB hb1
  have bx := Bd.of hx
  clear hx ma
  rcases Int.lt_or_le x 0 with h | h
  · obtain ⟨sq, sz, hR⟩ := root_neg_facts x bx h
    have HR : Shut _ := ⟨hR⟩
    have hne := hR.2.2.2.2.2
    clear hR bx h
    generalize txt x = sx at *
    go_wp2_with fail
    refine (HR.o.1 _).mono ?_
    rintro e w3 ⟨rfl, hB⟩
    have hb3 := hb2.trans (hB.mono hb2.size)
    clear hB hb2
    go_wp2_with fail
    refine (HR.o.2.1 _).mono ?_
    rintro e w4 ⟨rfl, hB⟩
    have hb4 := hb3.trans (hB.mono hb3.size)
    clear hB hb3
    go_wp2_with fail
    refine (HR.o.2.2.1 _).mono ?_
    rintro e w5 ⟨rfl, hB⟩
    have hb5 := hb4.trans (hB.mono hb4.size)
    clear hB hb4
    go_wp2_with fail
    refine (HR.o.2.2.2.1 _).mono ?_
    rintro e w6 ⟨rfl, hB⟩
    have hb6 := hb5.trans (hB.mono hb5.size)
    clear hB hb5
    go_wp2_with fail
    refine (HR.o.2.2.2.2.1 _).mono ?_
    rintro e w7 ⟨rfl, hB⟩
    have hb7 := hb6.trans (hB.mono hb6.size)
    clear hB hb6
    go_wp2
    go_ret
    exact ⟨rfl, hb7⟩
  · obtain ⟨sq, r, b, low, next, high, k, m, hR⟩ := root_pos_facts x bx h
    have HR : Shut _ := ⟨hR⟩
    have hk := hR.2.2.2.2.2.2.2.2.2.2.1
    have hm := hR.2.2.2.2.2.2.2.2.2.2.2
    clear hR bx h
    generalize txt x = sx at *
    go_wp2_with fail
    refine (HR.o.1 _).mono ?_
    rintro e w3 ⟨rfl, hB⟩
    have hb3 := hb2.trans (hB.mono hb2.size)
    clear hB hb2
    go_wp2_with fail
    refine (HR.o.2.1 _).mono ?_
    rintro e w4 ⟨rfl, hB⟩
    have hb4 := hb3.trans (hB.mono hb3.size)
    clear hB hb3
    go_wp2_with fail
    refine (HR.o.2.2.1 _).mono ?_
    rintro e w5 ⟨rfl, hB⟩
    have hb5 := hb4.trans (hB.mono hb4.size)
    clear hB hb4
    go_wp2_with fail
    refine (HR.o.2.2.2.1 _).mono ?_
    rintro e w6 ⟨rfl, hB⟩
    have hb6 := hb5.trans (hB.mono hb5.size)
    clear hB hb5
    rcases hk with rfl | rfl <;> rcases hm with rfl | rfl
    · go_wp2_with fail
      refine (HR.o.2.2.2.2.1 _).mono ?_
      rintro e w7 ⟨rfl, hB⟩
      have hb7 := hb6.trans (hB.mono hb6.size)
      clear hB hb6
      go_wp2_with fail
      refine (HR.o.2.2.2.2.2.1 _).mono ?_
      rintro e w8 ⟨rfl, hB⟩
      have hb8 := hb7.trans (hB.mono hb7.size)
      clear hB hb7
      go_wp2_with fail
      refine (HR.o.2.2.2.2.2.2.1 _).mono ?_
      rintro e w9 ⟨rfl, hB⟩
      have hb9 := hb8.trans (hB.mono hb8.size)
      clear hB hb8
      go_wp2_with fail
      refine (HR.o.2.2.2.2.2.2.2.1 _).mono ?_
      rintro e w10 ⟨rfl, hB⟩
      have hb10 := hb9.trans (hB.mono hb9.size)
      clear hB hb9
      go_wp2_with fail
      refine (HR.o.2.2.2.2.2.2.2.2.1 _).mono ?_
      rintro e w11 ⟨rfl, hB⟩
      have hb11 := hb10.trans (hB.mono hb10.size)
      clear hB hb10
      go_wp2_with fail
      refine (HR.o.2.2.2.2.2.2.2.2.2.1 _).mono ?_
      rintro e w12 ⟨rfl, hB⟩
      have hb12 := hb11.trans (hB.mono hb11.size)
      clear hB hb11
      go_wp2
      go_ret
      exact ⟨rfl, hb12⟩
    · go_wp2_with fail
      refine (HR.o.2.2.2.2.1 _).mono ?_
      rintro e w7 ⟨rfl, hB⟩
      have hb7 := hb6.trans (hB.mono hb6.size)
      clear hB hb6
      go_wp2_with fail
      refine (HR.o.2.2.2.2.2.1 _).mono ?_
      rintro e w8 ⟨rfl, hB⟩
      have hb8 := hb7.trans (hB.mono hb7.size)
      clear hB hb7
      go_wp2_with fail
      refine (HR.o.2.2.2.2.2.2.1 _).mono ?_
      rintro e w9 ⟨rfl, hB⟩
      have hb9 := hb8.trans (hB.mono hb8.size)
      clear hB hb8
      go_wp2_with fail
      refine (HR.o.2.2.2.2.2.2.2.1 _).mono ?_
      rintro e w10 ⟨rfl, hB⟩
      have hb10 := hb9.trans (hB.mono hb9.size)
      clear hB hb9
      go_wp2_with fail
      refine (HR.o.2.2.2.2.2.2.2.2.1 _).mono ?_
      rintro e w11 ⟨rfl, hB⟩
      have hb11 := hb10.trans (hB.mono hb10.size)
      clear hB hb10
      go_wp2_with fail
      refine (HR.o.2.2.2.2.2.2.2.2.2.1 _).mono ?_
      rintro e w12 ⟨rfl, hB⟩
      have hb12 := hb11.trans (hB.mono hb11.size)
      clear hB hb11
      go_wp2
      go_ret
      exact ⟨rfl, hb12⟩
    · go_wp2_with fail
      refine (HR.o.2.2.2.2.1 _).mono ?_
      rintro e w7 ⟨rfl, hB⟩
      have hb7 := hb6.trans (hB.mono hb6.size)
      clear hB hb6
      go_wp2_with fail
      refine (HR.o.2.2.2.2.2.1 _).mono ?_
      rintro e w8 ⟨rfl, hB⟩
      have hb8 := hb7.trans (hB.mono hb7.size)
      clear hB hb7
      go_wp2_with fail
      refine (HR.o.2.2.2.2.2.2.1 _).mono ?_
      rintro e w9 ⟨rfl, hB⟩
      have hb9 := hb8.trans (hB.mono hb8.size)
      clear hB hb8
      go_wp2_with fail
      refine (HR.o.2.2.2.2.2.2.2.1 _).mono ?_
      rintro e w10 ⟨rfl, hB⟩
      have hb10 := hb9.trans (hB.mono hb9.size)
      clear hB hb9
      go_wp2_with fail
      refine (HR.o.2.2.2.2.2.2.2.2.1 _).mono ?_
      rintro e w11 ⟨rfl, hB⟩
      have hb11 := hb10.trans (hB.mono hb10.size)
      clear hB hb10
      go_wp2_with fail
      refine (HR.o.2.2.2.2.2.2.2.2.2.1 _).mono ?_
      rintro e w12 ⟨rfl, hB⟩
      have hb12 := hb11.trans (hB.mono hb11.size)
      clear hB hb11
      go_wp2
      go_ret
      exact ⟨rfl, hb12⟩
    · go_wp2_with fail
      refine (HR.o.2.2.2.2.1 _).mono ?_
      rintro e w7 ⟨rfl, hB⟩
      have hb7 := hb6.trans (hB.mono hb6.size)
      clear hB hb6
      go_wp2_with fail
      refine (HR.o.2.2.2.2.2.1 _).mono ?_
      rintro e w8 ⟨rfl, hB⟩
      have hb8 := hb7.trans (hB.mono hb7.size)
      clear hB hb7
      go_wp2_with fail
      refine (HR.o.2.2.2.2.2.2.1 _).mono ?_
      rintro e w9 ⟨rfl, hB⟩
      have hb9 := hb8.trans (hB.mono hb8.size)
      clear hB hb8
      go_wp2_with fail
      refine (HR.o.2.2.2.2.2.2.2.1 _).mono ?_
      rintro e w10 ⟨rfl, hB⟩
      have hb10 := hb9.trans (hB.mono hb9.size)
      clear hB hb9
      go_wp2_with fail
      refine (HR.o.2.2.2.2.2.2.2.2.1 _).mono ?_
      rintro e w11 ⟨rfl, hB⟩
      have hb11 := hb10.trans (hB.mono hb10.size)
      clear hB hb10
      go_wp2_with fail
      refine (HR.o.2.2.2.2.2.2.2.2.2.1 _).mono ?_
      rintro e w12 ⟨rfl, hB⟩
      have hb12 := hb11.trans (hB.mono hb11.size)
      clear hB hb11
      go_wp2
      go_ret
      exact ⟨rfl, hb12⟩
end Go.Proofs.Ytnlekckmkofkiaa
