/-
  The law IntegerMachine: its walk.
-/
import Derived.Test.YtnlekckmkofkiaaIntText
import Derived.Test.YtnlekckmkofkiaaIntDivd
namespace Go.Proofs.Ytnlekckmkofkiaa
open Go.RowKit Nm

theorem int32_wf {n : Int} (h : (Lit.int .i32 n).wf = true) : -2147483648 ≤ n ∧ n ≤ 2147483647 := by
  simp only [Lit.wf, IntKind.min, IntKind.max, IntKind.signed, IntKind.bits, Bool.and_eq_true, decide_eq_true_eq, if_true] at h
  omega
theorem prod_bound {x y : Int} (hx : -2147483648 ≤ x ∧ x ≤ 2147483647) (hy : -2147483648 ≤ y ∧ y ≤ 2147483647) : -4611686018427387904 ≤ x * y ∧ x * y ≤ 4611686018427387904 := by
  have h1 : (x * y).natAbs ≤ 2147483648 * 2147483648 := by rw [Int.natAbs_mul]; exact Nat.mul_le_mul (by omega) (by omega)
  omega
theorem tdiv_cases (x y : Int) (h0 : y ≠ 0) : (0 ≤ x.tmod y ∧ x.tdiv y = x / y ∧ x.tmod y = x % y) ∨ (x.tmod y < 0 ∧ 0 < y ∧ x.tdiv y - 1 = x / y ∧ x.tmod y + y = x % y) ∨ (x.tmod y < 0 ∧ y < 0 ∧ x.tdiv y + 1 = x / y ∧ x.tmod y - y = x % y) := by
  have e1 := Int.mul_tdiv_add_tmod x y
  have hb : (x.tmod y).natAbs < y.natAbs := by
    rw [Int.natAbs_tmod]; exact Nat.mod_lt _ (by omega)
  generalize x.tdiv y = Q at *
  generalize x.tmod y = T at *
  have key : ∀ q r : Int, y * q + r = x → 0 ≤ r → r < y.natAbs → q = x / y ∧ r = x % y := fun q r h1 h2 h3 => by
    rcases Int.lt_or_gt_of_ne h0 with hy | hy
    · have h4 : (-y) * (-q) + r = x := by rw [Int.neg_mul_neg]; exact h1
      have := (Int.ediv_emod_unique (show 0 < -y by omega) (a := x) (r := r) (q := -q)).2 ⟨by omega, h2, by omega⟩
      rw [Int.ediv_neg, Int.emod_neg] at this
      omega
    · have := (Int.ediv_emod_unique hy (a := x) (r := r) (q := q)).2 ⟨by omega, h2, by omega⟩
      omega
  by_cases hT : 0 ≤ T
  · left
    have := key Q T e1 hT (by omega)
    omega
  · rcases Int.lt_or_gt_of_ne h0 with hy | hy
    · right; right
      have := key (Q + 1) (T - y) (by rw [Int.mul_add, Int.mul_one]; omega) (by omega) (by omega)
      omega
    · right; left
      have := key (Q - 1) (T + y) (by rw [Int.mul_sub, Int.mul_one]; omega) (by omega) (by omega)
      omega

theorem tdiv_bound (x y : Int) (hx : -2147483648 ≤ x ∧ x ≤ 2147483647) (hy : -2147483648 ≤ y ∧ y ≤ 2147483647) (h0 : y ≠ 0) : -2147483648 ≤ x.tdiv y ∧ x.tdiv y ≤ 2147483648 ∧ -2147483648 ≤ x.tmod y ∧ x.tmod y ≤ 2147483648 := by
  have h1 : (x.tdiv y).natAbs ≤ x.natAbs := by rw [Int.natAbs_tdiv]; exact Nat.div_le_self _ _
  have h2 : (x.tmod y).natAbs ≤ x.natAbs := by rw [Int.natAbs_tmod]; exact Nat.mod_le _ _
  have _ := hy
  have _ := h0
  omega
theorem mach_div (x y : Int) (hx : -2147483648 ≤ x ∧ x ≤ 2147483647) (hy : -2147483648 ≤ y ∧ y ≤ 2147483647) : (y = 0 ∧ CDivZ (txt x) (txt y)) ∨ (y ≠ 0 ∧ CDiv (txt x) (txt y) (txt (x / y)) (txt (x % y)) ∧
    ((¬ x.tmod y < 0 ∧ CFrom (x.tdiv y) (txt (x / y)) ∧ CFrom (x.tmod y) (txt (x % y))) ∨ (x.tmod y < 0 ∧ 0 < y ∧ ¬ x.tmod y + y < 0 ∧ CFrom (x.tdiv y - 1) (txt (x / y)) ∧ CFrom (x.tmod y + y) (txt (x % y))) ∨ (x.tmod y < 0 ∧ y < 0 ∧ ¬ 0 < y ∧ CFrom (x.tdiv y + 1) (txt (x / y)) ∧ CFrom (x.tmod y - y) (txt (x % y))))) := by
  have fx := fits_word x (by omega) (by omega)
  have fy := fits_word y (by omega) (by omega)
  by_cases h0 : y = 0
  · refine .inl ⟨h0, fun w => ?_⟩
    subst h0
    exact Div_zero x fx w
  · refine .inr ⟨h0, cDiv x y fx fy h0, ?_⟩
    have hb := tdiv_bound x y hx hy h0
    have hm := Int.emod_nonneg x h0
    rcases tdiv_cases x y h0 with ⟨h1, h2, h3⟩ | ⟨h1, h2, h3, h4⟩ | ⟨h1, h2, h3, h4⟩
    · refine .inl ⟨by omega, ?_, ?_⟩
      · rw [← h2]; exact cFrom _ (by omega) (by omega)
      · rw [← h3]; exact cFrom _ (by omega) (by omega)
    · refine .inr (.inl ⟨h1, h2, by omega, ?_, ?_⟩)
      · rw [← h3]; exact cFrom _ (by omega) (by omega)
      · rw [← h4]; exact cFrom _ (by omega) (by omega)
    · refine .inr (.inr ⟨h1, h2, by omega, ?_, ?_⟩)
      · rw [← h3]; exact cFrom _ (by omega) (by omega)
      · rw [← h4]; exact cFrom _ (by omega) (by omega)
def MachF (x y : Int) (s t s1 d1 p1 : ByteArray) (k : Int) : Prop :=
  CFrom x s ∧ CFrom y t ∧ CTo s x 0 ∧ CAdd s t s1 ∧ CSub s t d1 ∧ CMul s t p1 ∧ CFrom (x + y) s1 ∧ CFrom (x - y) d1 ∧ CFrom (x * y) p1 ∧ CCmp s t k
theorem mach_facts (x y : Int) (hx : -2147483648 ≤ x ∧ x ≤ 2147483647) (hy : -2147483648 ≤ y ∧ y ≤ 2147483647) : MachF x y (txt x) (txt y) (txt (x + y)) (txt (x - y)) (txt (x * y)) (cmpZ x y) := by
  have hp := prod_bound hx hy
  have fx := fits_word x (by omega) (by omega)
  have fy := fits_word y (by omega) (by omega)
  exact ⟨cFrom x (by omega) (by omega), cFrom y (by omega) (by omega), cTo x fx (by omega) (by omega), cAdd x y fx fy (fits_word _ (by omega) (by omega)), cSub x y fx fy (fits_word _ (by omega) (by omega)), cMul x y fx fy (fits_word _ (by omega) (by omega)), cFrom _ (by omega) (by omega), cFrom _ (by omega) (by omega), cFrom _ (by omega) (by omega), cCmp x y fx fy⟩

set_option maxRecDepth 100000 in
set_option maxHeartbeats 4000000 in
theorem machine_any (x : Int) (y : Int) (hx : (Lit.int .i32 x).wf = true) (hy : (Lit.int .i32 y).wf = true) (w : World) :
    Calls Try.prog 4 #[.int .i32 x, .int .i32 y] w fun e w' => e = .returned (.bool true) ∧ Below w.heap.size w w' := by
  have wx := int32_wf hx
  have wy := int32_wf hy
  have fx := fits_word x (by omega) (by omega)
  have fy := fits_word y (by omega) (by omega)
  have hp := prod_bound wx wy
  have hR := mach_facts x y wx wy
  have hk : (x < y ∧ cmpZ x y = -1) ∨ (x = y ∧ cmpZ x y = 0) ∨ (y < x ∧ cmpZ x y = 1) := by
    rcases cmpZ_cases x y with h | h | h
    · exact .inl ⟨h.2.2, h.1⟩
    · exact .inr (.inl ⟨h.2.2, h.1⟩)
    · exact .inr (.inr ⟨h.2.2, h.1⟩)
  have HR : Shut _ := ⟨hR⟩
  have HK : Shut _ := ⟨hk⟩
  clear hx hy hR hk
  generalize hs : txt x = s at *
  generalize ht : txt y = t at *
  generalize txt (x + y) = s1 at *
  generalize txt (x - y) = d1 at *
  generalize txt (x * y) = p1 at *
  go_enter Try.func4, Try.ntmps4
  go_wp2_with fail
  refine (sane_any _).mono ?_
  rintro e w1 ⟨rfl, hb1⟩
  go_wp2_with fail
  refine (HR.o.1 _).mono ?_
  rintro e w2 ⟨rfl, hB⟩
  have hb2 := hb1.trans (hB.mono hb1.size)
  clear hB hb1
  go_wp2_with fail
  refine (HR.o.2.1 _).mono ?_
  rintro e w3 ⟨rfl, hB⟩
  have hb3 := hb2.trans (hB.mono hb2.size)
  clear hB hb2
  go_wp2_with fail
  refine (HR.o.2.2.1 _).mono ?_
  rintro e w4 ⟨rfl, hB⟩
  have hb4 := hb3.trans (hB.mono hb3.size)
  clear hB hb3
  go_wp2_with fail
  refine (HR.o.2.2.2.1 _).mono ?_
  rintro e w5 ⟨rfl, hB⟩
  have hb5 := hb4.trans (hB.mono hb4.size)
  clear hB hb4
  go_wp2_with fail
  refine (HR.o.2.2.2.2.1 _).mono ?_
  rintro e w6 ⟨rfl, hB⟩
  have hb6 := hb5.trans (hB.mono hb5.size)
  clear hB hb5
  go_wp2_with fail
  refine (HR.o.2.2.2.2.2.1 _).mono ?_
  rintro e w7 ⟨rfl, hB⟩
  have hb7 := hb6.trans (hB.mono hb6.size)
  clear hB hb6
  go_wp2_with fail
  refine (HR.o.2.2.2.2.2.2.1 _).mono ?_
  rintro e w8 ⟨rfl, hB⟩
  have hb8 := hb7.trans (hB.mono hb7.size)
  clear hB hb7
  go_wp2_with fail
  refine (HR.o.2.2.2.2.2.2.2.1 _).mono ?_
  rintro e w9 ⟨rfl, hB⟩
  have hb9 := hb8.trans (hB.mono hb8.size)
  clear hB hb8
  go_wp2_with fail
  refine (HR.o.2.2.2.2.2.2.2.2.1 _).mono ?_
  rintro e w10 ⟨rfl, hB⟩
  have hb10 := hb9.trans (hB.mono hb9.size)
  clear hB hb9
  have HD : Shut _ := ⟨mach_div x y wx wy⟩
  rw [hs, ht] at HD
  have htd : y ≠ 0 → -2147483648 ≤ x.tdiv y ∧ x.tdiv y ≤ 2147483648 ∧ -2147483648 ≤ x.tmod y ∧ x.tmod y ≤ 2147483648 := fun h => tdiv_bound x y wx wy h
  have h0t := t_0
  clear hs ht
  generalize txt (x / y) = sq at *
  generalize txt (x % y) = sr at *
  generalize cmpZ x y = k at *
  rcases HK.o with ⟨hxy, rfl⟩ | ⟨hxy, rfl⟩ | ⟨hxy, rfl⟩
  · go_wp2_with fail
    refine (HR.o.2.2.2.2.2.2.2.2.2 _).mono ?_
    rintro e w11 ⟨rfl, hB⟩
    have hb11 := hb10.trans (hB.mono hb10.size)
    clear hB hb10
    rcases HD.o with ⟨h0, hz⟩ | ⟨h0, hd, hc⟩
    · subst h0
      have HZ : Shut _ := ⟨hz⟩
      clear hz HD
      go_wp2_with fail
      refine (HZ.o _).mono ?_
      rintro e w12 ⟨rfl, hB⟩
      have hb12 := hb11.trans (hB.mono hb11.size)
      clear hB hb11
      go_wp2
      go_ret
      exact ⟨rfl, hb12⟩
    · obtain ⟨td1, td2, td3, td4⟩ := htd h0
      have HDD : Shut _ := ⟨hd⟩
      clear hd htd
      go_wp2_with fail
      refine (HDD.o _).mono ?_
      rintro e w12 ⟨rfl, hB⟩
      have hb12 := hb11.trans (hB.mono hb11.size)
      clear hB hb11
      rcases hc with ⟨g1, g2, g3⟩ | ⟨g1, g4, g5, g2, g3⟩ | ⟨g1, g4, g5, g2, g3⟩
      · have G2 : Shut _ := ⟨g2⟩
        have G3 : Shut _ := ⟨g3⟩
        clear g2 g3
        go_wp2_with fail
        refine (G2.o _).mono ?_
        rintro e w13 ⟨rfl, hB⟩
        have hb13 := hb12.trans (hB.mono hb12.size)
        clear hB hb12
        go_wp2_with fail
        refine (G3.o _).mono ?_
        rintro e w14 ⟨rfl, hB⟩
        have hb14 := hb13.trans (hB.mono hb13.size)
        clear hB hb13
        go_wp2
        go_ret
        exact ⟨rfl, hb14⟩
      · have G2 : Shut _ := ⟨g2⟩
        have G3 : Shut _ := ⟨g3⟩
        clear g2 g3
        go_wp2_with fail
        refine (G2.o _).mono ?_
        rintro e w13 ⟨rfl, hB⟩
        have hb13 := hb12.trans (hB.mono hb12.size)
        clear hB hb12
        go_wp2_with fail
        refine (G3.o _).mono ?_
        rintro e w14 ⟨rfl, hB⟩
        have hb14 := hb13.trans (hB.mono hb13.size)
        clear hB hb13
        go_wp2
        go_ret
        exact ⟨rfl, hb14⟩
      · have G2 : Shut _ := ⟨g2⟩
        have G3 : Shut _ := ⟨g3⟩
        clear g2 g3
        go_wp2_with fail
        refine (G2.o _).mono ?_
        rintro e w13 ⟨rfl, hB⟩
        have hb13 := hb12.trans (hB.mono hb12.size)
        clear hB hb12
        go_wp2_with fail
        refine (G3.o _).mono ?_
        rintro e w14 ⟨rfl, hB⟩
        have hb14 := hb13.trans (hB.mono hb13.size)
        clear hB hb13
        go_wp2
        go_ret
        exact ⟨rfl, hb14⟩
  · have HXY : Shut _ := ⟨hxy⟩
    have hne : ¬ x < y := by omega
    have hne2 : ¬ y < x := by omega
    clear hxy
    go_wp2_with fail
    refine (HR.o.2.2.2.2.2.2.2.2.2 _).mono ?_
    rintro e w11 ⟨rfl, hB⟩
    have hb11 := hb10.trans (hB.mono hb10.size)
    clear hB hb10
    rcases HD.o with ⟨h0, hz⟩ | ⟨h0, hd, hc⟩
    · subst h0
      have HZ : Shut _ := ⟨hz⟩
      clear hz HD
      go_wp2_with fail
      refine (HZ.o _).mono ?_
      rintro e w12 ⟨rfl, hB⟩
      have hb12 := hb11.trans (hB.mono hb11.size)
      clear hB hb11
      go_wp2
      go_ret
      exact ⟨rfl, hb12⟩
    · obtain ⟨td1, td2, td3, td4⟩ := htd h0
      have HDD : Shut _ := ⟨hd⟩
      clear hd htd
      go_wp2_with fail
      refine (HDD.o _).mono ?_
      rintro e w12 ⟨rfl, hB⟩
      have hb12 := hb11.trans (hB.mono hb11.size)
      clear hB hb11
      rcases hc with ⟨g1, g2, g3⟩ | ⟨g1, g4, g5, g2, g3⟩ | ⟨g1, g4, g5, g2, g3⟩
      · have G2 : Shut _ := ⟨g2⟩
        have G3 : Shut _ := ⟨g3⟩
        clear g2 g3
        go_wp2_with fail
        refine (G2.o _).mono ?_
        rintro e w13 ⟨rfl, hB⟩
        have hb13 := hb12.trans (hB.mono hb12.size)
        clear hB hb12
        go_wp2_with fail
        refine (G3.o _).mono ?_
        rintro e w14 ⟨rfl, hB⟩
        have hb14 := hb13.trans (hB.mono hb13.size)
        clear hB hb13
        go_wp2
        go_ret
        exact ⟨rfl, hb14⟩
      · rw [← HXY.o, Int.tmod_self] at g1
        exact absurd g1 (by decide)
      · rw [← HXY.o, Int.tmod_self] at g1
        exact absurd g1 (by decide)
  · go_wp2_with fail
    refine (HR.o.2.2.2.2.2.2.2.2.2 _).mono ?_
    rintro e w11 ⟨rfl, hB⟩
    have hb11 := hb10.trans (hB.mono hb10.size)
    clear hB hb10
    rcases HD.o with ⟨h0, hz⟩ | ⟨h0, hd, hc⟩
    · subst h0
      have HZ : Shut _ := ⟨hz⟩
      clear hz HD
      go_wp2_with fail
      refine (HZ.o _).mono ?_
      rintro e w12 ⟨rfl, hB⟩
      have hb12 := hb11.trans (hB.mono hb11.size)
      clear hB hb11
      go_wp2
      go_ret
      exact ⟨rfl, hb12⟩
    · obtain ⟨td1, td2, td3, td4⟩ := htd h0
      have HDD : Shut _ := ⟨hd⟩
      clear hd htd
      go_wp2_with fail
      refine (HDD.o _).mono ?_
      rintro e w12 ⟨rfl, hB⟩
      have hb12 := hb11.trans (hB.mono hb11.size)
      clear hB hb11
      rcases hc with ⟨g1, g2, g3⟩ | ⟨g1, g4, g5, g2, g3⟩ | ⟨g1, g4, g5, g2, g3⟩
      · have G2 : Shut _ := ⟨g2⟩
        have G3 : Shut _ := ⟨g3⟩
        clear g2 g3
        go_wp2_with fail
        refine (G2.o _).mono ?_
        rintro e w13 ⟨rfl, hB⟩
        have hb13 := hb12.trans (hB.mono hb12.size)
        clear hB hb12
        go_wp2_with fail
        refine (G3.o _).mono ?_
        rintro e w14 ⟨rfl, hB⟩
        have hb14 := hb13.trans (hB.mono hb13.size)
        clear hB hb13
        go_wp2
        go_ret
        exact ⟨rfl, hb14⟩
      · have := Int.tmod_nonneg y (show 0 ≤ x by omega)
        omega
      · have G2 : Shut _ := ⟨g2⟩
        have G3 : Shut _ := ⟨g3⟩
        clear g2 g3
        go_wp2_with fail
        refine (G2.o _).mono ?_
        rintro e w13 ⟨rfl, hB⟩
        have hb13 := hb12.trans (hB.mono hb12.size)
        clear hB hb12
        go_wp2_with fail
        refine (G3.o _).mono ?_
        rintro e w14 ⟨rfl, hB⟩
        have hb14 := hb13.trans (hB.mono hb13.size)
        clear hB hb13
        go_wp2
        go_ret
        exact ⟨rfl, hb14⟩
end Go.Proofs.Ytnlekckmkofkiaa
