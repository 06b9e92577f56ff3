/-
  The law RationalMachine: small numbers.
-/
import Derived.Test.YtofcihnihpfljaaGreatRatPk
import Derived.Test.YtofcihnihpfljaaGreatRefOp
namespace Go.Proofs.YtofcihnihpfljaaGreat
set_option maxRecDepth 1000000
namespace Rt
open Go.RowKit Go.Proofs.YtofcihnihpfljaaGreat.Nm

theorem ToInt_any (z : Int) (hz : Fits z) (h1 : -9223372036854775808 ≤ z) (h2 : z ≤ 9223372036854775807) (w : World) :
    Calls Tryz.prog 36 #[.string (txt z)] w fun e w' => e = .returned (.tuple #[.int .i64 z, .int .i64 0]) ∧ Below w.heap.size w w' := by
  by_cases h : 0 ≤ z
  · exact N10.ToInt_posR z hz h h2 w
  · exact N10.ToInt_negR z hz (by omega) h1 w
theorem fits_bd {z : Int} {k : Nat} (h : z.natAbs ≤ k) (hk : k < 10 ^ 200) : Fits z := fits_small (Nat.lt_of_le_of_lt h hk)
theorem fits_9 {z : Int} (h : z.natAbs ≤ 30000 * 30000) : Fits z := fits_bd (k := 900000000) h (by decide)
theorem fits_18 {z : Int} (h : z.natAbs ≤ 1800000000) : Fits z := fits_bd h (by decide)
theorem div_bds {x y : Int} (h0 : y ≠ 0) : (Rat.divInt x y).num.natAbs ≤ x.natAbs ∧ (Rat.divInt x y).den ≤ y.natAbs := by
  rw [Rat.num_divInt, Rat.den_divInt, if_neg h0]
  refine ⟨Nat.le_trans (Int.natAbs_ediv_le_natAbs _ _) ?_, Nat.div_le_self _ _⟩
  rw [Int.natAbs_mul]
  rcases Int.lt_trichotomy y 0 with h | h | h
  · rw [Int.sign_eq_neg_one_of_neg h]; simp
  · omega
  · rw [Int.sign_eq_one_of_pos h]; simp
theorem div_cross {x y : Int} (h0 : y ≠ 0) : (Rat.divInt x y).num * y = x * ((Rat.divInt x y).den : Int) := by
  have h := Rat.num_divInt_den (Rat.divInt x y)
  exact (Rat.divInt_eq_divInt_iff (den_ne _) h0).1 h
/-- what the law asks of one operation: two strings, the numbers that they should be -/
structure OpF (s t : ByteArray) (x y : Int) : Prop where
  ex : ∃ N D : Int, (∀ W : World, Calls Tryz.prog 36 #[.string s] W fun e w' => e = .returned (.tuple #[.int .i64 N, .int .i64 0]) ∧ Below W.heap.size W w') ∧
    (∀ W : World, Calls Tryz.prog 36 #[.string t] W fun e w' => e = .returned (.tuple #[.int .i64 D, .int .i64 0]) ∧ Below W.heap.size W w') ∧
    (∀ W : World, Calls Tryz.prog 28 #[.agg #[.string s, .string t]] W fun e w' => e = .returned (.bool true) ∧ Below W.heap.size W w') ∧
    1 ≤ D ∧ N * y = x * D ∧ -2000000000000000000 ≤ N * y ∧ N * y ≤ 2000000000000000000
theorem prod_bd {a b : Int} {A B : Nat} (ha : a.natAbs ≤ A) (hb : b.natAbs ≤ B) : (a * b).natAbs ≤ A * B := by
  rw [Int.natAbs_mul]; exact Nat.mul_le_mul ha hb
theorem opF_of {q : Rat} {x y : Int} (hq : q = Rat.divInt x y) (h0 : y ≠ 0) (hx : x.natAbs ≤ 1800000000) (hy : y.natAbs ≤ 900000000) : OpF (txt q.num) (txt (q.den : Int)) x y := by
  subst hq
  obtain ⟨b1, b2⟩ := div_bds (x := x) h0
  have hc := div_cross (x := x) h0
  generalize hqq : Rat.divInt x y = q at *
  have f1 : Fits q.num := fits_bd (Nat.le_trans b1 hx) (by decide)
  have f2 : Fits (q.den : Int) := fits_bd (k := 900000000) (by omega) (by decide)
  have hp := prod_bd (Nat.le_trans b1 hx) hy
  have hd := q.den_pos
  refine ⟨q.num, q.den, fun W => ToInt_any _ f1 (by omega) (by omega) W, fun W => ToInt_any _ f2 (by omega) (by omega) W, fun W => Valid_q ⟨f1, f2⟩ W, by omega, hc, ?_, ?_⟩
  · generalize q.num * y = z at *; omega
  · generalize q.num * y = z at *; omega
theorem cmpZ_scale {k x y : Int} (hk : 0 < k) : cmpZ (k * x) (k * y) = cmpZ x y := by
  have h1 : k * x < k * y ↔ x < y := ⟨fun h => Int.lt_of_mul_lt_mul_left h (Int.le_of_lt hk), fun h => Int.mul_lt_mul_of_pos_left h hk⟩
  have h2 : k * x = k * y ↔ x = y := ⟨fun h => Int.eq_of_mul_eq_mul_left (by omega) h, fun h => by rw [h]⟩
  unfold cmpZ
  by_cases a : x < y
  · rw [if_pos a, if_pos (h1.2 a)]
  · by_cases b : x = y
    · rw [if_neg a, if_neg (fun h => a (h1.1 h)), if_pos b, if_pos (h2.2 b)]
    · rw [if_neg a, if_neg (fun h => a (h1.1 h)), if_neg b, if_neg (fun h => b (h2.1 h))]
theorem pos_mul {a b : Int} (ha : 0 < a) (hb : 0 < b) : 0 < a * b := Int.mul_pos ha hb
theorem cmpQ_div {n d m c : Int} (hd : 0 < d) (hc : 0 < c) : cmpQ (Rat.divInt n d) (Rat.divInt m c) = cmpZ (n * c) (m * d) := by
  have e1 := div_cross (x := n) (y := d) (by omega)
  have e2 := div_cross (x := m) (y := c) (by omega)
  have p1 : 0 < ((Rat.divInt n d).den : Int) := by have := (Rat.divInt n d).den_pos; omega
  have p2 : 0 < ((Rat.divInt m c).den : Int) := by have := (Rat.divInt m c).den_pos; omega
  rw [cmpQ]
  generalize (Rat.divInt n d).num = a at *
  generalize (Rat.divInt m c).num = b at *
  generalize ((Rat.divInt n d).den : Int) = u at *
  generalize ((Rat.divInt m c).den : Int) = v at *
  rw [← cmpZ_scale (pos_mul hd hc) (x := a * v), ← cmpZ_scale (pos_mul p1 p2) (x := n * c)]
  congr 1
  · have : d * c * (a * v) = (a * d) * (c * v) := by grind
    rw [this, e1]; grind
  · have : d * c * (b * u) = (b * c) * (d * u) := by grind
    rw [this, e2]; grind
theorem txtQ_bR {o : Option Rat} {q : Rat} (h : o = some q) : bR (o.map txtQ) = .tuple #[.agg #[.string (txt q.num), .string (txt (q.den : Int))], .int .i64 0] := by
  rw [h]; rfl
theorem bR_none {o : Option Rat} (h : o = none) : bR (o.map txtQ) = .tuple #[.agg #[.string ⟨#[]⟩, .string ⟨#[]⟩], .int .i64 40] := by
  rw [h]; rfl
/-- what the law asks of four small numbers -/
theorem mach_facts (n d m c : Int) (hn : n.natAbs ≤ 30000) (hd : 1 ≤ d ∧ d ≤ 30000) (hm : m.natAbs ≤ 30000) (hc : 1 ≤ c ∧ c ≤ 30000) :
    ∃ sa ta sb tb n1 d1 n2 d2 n3 d3 n4 d4 : ByteArray, ∃ c4 : Int,
    (∀ W : World, Calls Tryz.prog 30 #[.int .i64 n, .int .i64 d] W fun e w' => e = .returned (.tuple #[.agg #[.string sa, .string ta], .int .i64 0]) ∧ Below W.heap.size W w') ∧
    (∀ W : World, Calls Tryz.prog 30 #[.int .i64 m, .int .i64 c] W fun e w' => e = .returned (.tuple #[.agg #[.string sb, .string tb], .int .i64 0]) ∧ Below W.heap.size W w') ∧
    (∀ W : World, Calls Tryz.prog 14 #[.agg #[.string sa, .string ta], .agg #[.string sb, .string tb]] W fun e w' => e = .returned (.tuple #[.agg #[.string n1, .string d1, .string n2, .string d2, .string n3, .string d3, .string n4, .string d4], .agg #[.int .i64 0, .int .i64 0, .int .i64 0, .int .i64 c4]]) ∧ Below W.heap.size W w') ∧
    (∀ W : World, Calls Tryz.prog 19 #[.agg #[.string sa, .string ta], .agg #[.string sb, .string tb]] W fun e w' => e = .returned (.int .i64 (cmpZ (n * c) (m * d))) ∧ Below W.heap.size W w') ∧
    OpF n1 d1 (n * c + m * d) (d * c) ∧ OpF n2 d2 (n * c - m * d) (d * c) ∧ OpF n3 d3 (n * m) (d * c) ∧
    ((m = 0 ∧ c4 = 40 ∧ n4 = ⟨#[]⟩ ∧ d4 = ⟨#[]⟩) ∨ (m ≠ 0 ∧ c4 = 0 ∧ OpF n4 d4 (n * c) (d * m))) := by
  have cA := fun W => Of_all n d (by omega) (by omega) (by omega) (by omega) W
  have cB := fun W => Of_all m c (by omega) (by omega) (by omega) (by omega) W
  have d0 : d ≠ 0 := by omega
  have c0 : c ≠ 0 := by omega
  have fn : Fits n := fits_bd hn (by decide)
  have fd : Fits d := fits_bd (k := 30000) (by omega) (by decide)
  have fm : Fits m := fits_bd hm (by decide)
  have fc : Fits c := fits_bd (k := 30000) (by omega) (by decide)
  obtain ⟨p, hp⟩ : ∃ p, p = Rat.divInt n d := ⟨_, rfl⟩
  obtain ⟨q, hq⟩ : ∃ q, q = Rat.divInt m c := ⟨_, rfl⟩
  have Fp : FitQ p := hp ▸ FitQ.div fn fd d0
  have Fq : FitQ q := hq ▸ FitQ.div fm fc c0
  obtain ⟨b1, b2⟩ := div_bds (x := n) d0
  obtain ⟨b3, b4⟩ := div_bds (x := m) c0
  rw [← hp] at b1 b2
  rw [← hq] at b3 b4
  have bn : p.num.natAbs ≤ 30000 := by omega
  have bd : (p.den : Int).natAbs ≤ 30000 := by omega
  have bm : q.num.natAbs ≤ 30000 := by omega
  have bc : (q.den : Int).natAbs ≤ 30000 := by omega
  have k1 := prod_bd bn bc
  have k2 := prod_bd bm bd
  have k3 := prod_bd bd bc
  have k4 := prod_bd bn bm
  have k5 := prod_bd bd bm
  have ks : (p.num * q.den + q.num * p.den).natAbs ≤ 1800000000 := by
    generalize p.num * q.den = x at *
    generalize q.num * p.den = y at *
    omega
  have kd : (p.num * q.den - q.num * p.den).natAbs ≤ 1800000000 := by
    generalize p.num * q.den = x at *
    generalize q.num * p.den = y at *
    omega
  have eA : addQ p q = some (p + q) := by rw [addQ, if_pos ⟨fits_9 k1, fits_9 k2, fits_18 ks, fits_9 k3⟩]
  have eS : subQ p q = some (p - q) := by rw [subQ, if_pos ⟨fits_9 k1, fits_9 k2, fits_18 kd, fits_9 k3⟩]
  have eM : mulQ p q = some (p * q) := by rw [mulQ, if_pos ⟨fits_9 k4, fits_9 k3⟩]
  have bn' : d.natAbs ≤ 30000 := by omega
  have bc' : c.natAbs ≤ 30000 := by omega
  have j1 := prod_bd hn bc'
  have j2 := prod_bd hm bn'
  have j3 := prod_bd bn' bc'
  have j4 := prod_bd hn hm
  have j5 := prod_bd bn' hm
  have j6 : (n * c + m * d).natAbs ≤ 1800000000 := by
    generalize n * c = x at *
    generalize m * d = y at *
    omega
  have j7 : (n * c - m * d).natAbs ≤ 1800000000 := by
    generalize n * c = x at *
    generalize m * d = y at *
    omega
  have dc0 : d * c ≠ 0 := Int.mul_ne_zero d0 c0
  have hA : OpF (txt (p + q).num) (txt ((p + q).den : Int)) (n * c + m * d) (d * c) := opF_of (by rw [hp, hq, Rat.divInt_add_divInt _ _ d0 c0]) dc0 j6 (by omega)
  have hS : OpF (txt (p - q).num) (txt ((p - q).den : Int)) (n * c - m * d) (d * c) := opF_of (by rw [hp, hq, Rat.divInt_sub_divInt _ _ d0 c0]) dc0 j7 (by omega)
  have hM : OpF (txt (p * q).num) (txt ((p * q).den : Int)) (n * m) (d * c) := opF_of (by rw [hp, hq, Rat.divInt_mul_divInt]) dc0 (by omega) (by omega)
  have oA := addR_q Fp Fq
  have oS := subR_q Fp Fq
  have oM := mulR_q Fp Fq
  have oD := divR_q Fp Fq
  have rA : bR (redR (txt n) (txt d)) = .tuple #[.agg #[.string (txt p.num), .string (txt (p.den : Int))], .int .i64 0] := by rw [red_q fn fd d0, ← hp]; rfl
  have rB : bR (redR (txt m) (txt c)) = .tuple #[.agg #[.string (txt q.num), .string (txt (q.den : Int))], .int .i64 0] := by rw [red_q fm fc c0, ← hq]; rfl
  rw [rA] at cA
  rw [rB] at cB
  have cC := fun W => Compare_small Fp Fq (fits_9 k1) (fits_9 k2) W
  have hcm : cmpQ p q = cmpZ (n * c) (m * d) := by rw [hp, hq]; exact cmpQ_div (by omega) (by omega)
  rw [hcm] at cC
  have q1 : bR (sumR opAdd (txt p.num) (txt (p.den : Int)) (txt q.num) (txt (q.den : Int))) = .tuple #[.agg #[.string (txt (p + q).num), .string (txt ((p + q).den : Int))], .int .i64 0] := by rw [oA]; exact txtQ_bR eA
  have q2 : bR (sumR opSub (txt p.num) (txt (p.den : Int)) (txt q.num) (txt (q.den : Int))) = .tuple #[.agg #[.string (txt (p - q).num), .string (txt ((p - q).den : Int))], .int .i64 0] := by rw [oS]; exact txtQ_bR eS
  have q3 : bR (mulR (txt p.num) (txt (p.den : Int)) (txt q.num) (txt (q.den : Int))) = .tuple #[.agg #[.string (txt (p * q).num), .string (txt ((p * q).den : Int))], .int .i64 0] := by rw [oM]; exact txtQ_bR eM
  by_cases hm0 : m = 0
  · have hq0 : q = 0 := by rw [hq, hm0, Rat.zero_divInt]
    have eD : divQ p q = none := by rw [divQ, if_neg (fun h => h.2.2 hq0)]
    have q4 : bR (divR (txt p.num) (txt (p.den : Int)) (txt q.num) (txt (q.den : Int))) = .tuple #[.agg #[.string ⟨#[]⟩, .string ⟨#[]⟩], .int .i64 40] := by rw [oD]; exact bR_none eD
    have cF := fun W => four_any _ _ _ _ Fp.size.1 Fp.size.2 Fq.size.1 Fq.size.2 _ _ _ _ _ _ _ _ _ _ _ _ q1 q2 q3 q4 W
    refine ⟨txt p.num, txt (p.den : Int), txt q.num, txt (q.den : Int), txt (p + q).num, txt ((p + q).den : Int), txt (p - q).num, txt ((p - q).den : Int), txt (p * q).num, txt ((p * q).den : Int), ⟨#[]⟩, ⟨#[]⟩, 40, cA, cB, ?_, cC, hA, hS, hM, .inl ⟨hm0, rfl, rfl, rfl⟩⟩
    exact cF
  · have hq0 : q ≠ 0 := by
      intro h
      have hx := div_cross (x := m) c0
      rw [← hq, h] at hx
      simp at hx
      exact hm0 hx.symm
    have eD : divQ p q = some (p / q) := by rw [divQ, if_pos ⟨fits_9 k1, fits_9 k5, hq0⟩]
    have q4 : bR (divR (txt p.num) (txt (p.den : Int)) (txt q.num) (txt (q.den : Int))) = .tuple #[.agg #[.string (txt (p / q).num), .string (txt ((p / q).den : Int))], .int .i64 0] := by rw [oD]; exact txtQ_bR eD
    have hD : OpF (txt (p / q).num) (txt ((p / q).den : Int)) (n * c) (d * m) := opF_of (by rw [hp, hq, Rat.div_def, Rat.inv_divInt, Rat.divInt_mul_divInt]) (Int.mul_ne_zero d0 hm0) (by omega) (by omega)
    have cF := fun W => four_any _ _ _ _ Fp.size.1 Fp.size.2 Fq.size.1 Fq.size.2 _ _ _ _ _ _ _ _ _ _ _ _ q1 q2 q3 q4 W
    refine ⟨txt p.num, txt (p.den : Int), txt q.num, txt (q.den : Int), txt (p + q).num, txt ((p + q).den : Int), txt (p - q).num, txt ((p - q).den : Int), txt (p * q).num, txt ((p * q).den : Int), txt (p / q).num, txt ((p / q).den : Int), 0, cA, cB, ?_, cC, hA, hS, hM, .inr ⟨hm0, rfl, hD⟩⟩
    exact cF
end Rt
end Go.Proofs.YtofcihnihpfljaaGreat
