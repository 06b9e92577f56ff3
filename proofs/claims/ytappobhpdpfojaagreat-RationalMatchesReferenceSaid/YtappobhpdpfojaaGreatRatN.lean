/-
  What the operations answer, by fractions.
-/
import Derived.Test.YtappobhpdpfojaaGreatRatJ
namespace Go.Proofs.YtappobhpdpfojaaGreat
set_option maxRecDepth 1000000
namespace Rt
open Go.RowKit Go.Proofs.YtappobhpdpfojaaGreat.Nm

def txtQ (q : Rat) : ByteArray × ByteArray := (txt q.num, txt (q.den : Int))
theorem txtQ_inj {p q : Rat} (h : txtQ p = txtQ q) : p = q := by
  injection h with h1 h2
  have e1 := txt_inj h1
  have e2 := txt_inj h2
  exact Rat.ext e1 (by omega)
theorem FitQ.size {q : Rat} (h : FitQ q) : (txt q.num).size ≤ 1000000 ∧ (txt (q.den : Int)).size ≤ 1000000 := ⟨txt_size6 h.1, txt_size6 h.2⟩
theorem den_ne (q : Rat) : (q.den : Int) ≠ 0 := by have := q.den_pos; omega
theorem qsOk_two {p q : Rat} (hp : FitQ p) (hq : FitQ q) : qsOk [(txt p.num, txt (p.den : Int)), (txt q.num, txt (q.den : Int))] = true := by
  simp [qsOk, qOf_txt hp, qOf_txt hq]
theorem qsOk_one {p : Rat} (hp : FitQ p) : qsOk [(txt p.num, txt (p.den : Int))] = true := by simp [qsOk, qOf_txt hp]
theorem red_q {x y : Int} (hx : Fits x) (hy : Fits y) (h0 : y ≠ 0) : redR (txt x) (txt y) = some (txtQ (Rat.divInt x y)) := red_eq hx hy h0
theorem red_q0 {x y : Int} (hy : Fits y) (h0 : y = 0) : redR (txt x) (txt y) = none := by
  subst h0; exact red_zero (zOf_txt hy)
theorem opMul_txt {x y : Int} (hx : Fits x) (hy : Fits y) : opMul (txt x) (txt y) = fitO (x * y) := by rw [opMul, op2_txt hx hy]; rfl
theorem opAdd_txt {x y : Int} (hx : Fits x) (hy : Fits y) : opAdd (txt x) (txt y) = fitO (x + y) := by rw [opAdd, op2_txt hx hy]; rfl
theorem opSub_txt {x y : Int} (hx : Fits x) (hy : Fits y) : opSub (txt x) (txt y) = fitO (x - y) := by rw [opSub, op2_txt hx hy]; rfl
open Classical in
/-- where a product and another fit -/
noncomputable def mulQ (p q : Rat) : Option Rat := if Fits (p.num * q.num) ∧ Fits ((p.den : Int) * q.den) then some (p * q) else none
open Classical in
noncomputable def divQ (p q : Rat) : Option Rat := if Fits (p.num * q.den) ∧ Fits ((p.den : Int) * q.num) ∧ q ≠ 0 then some (p / q) else none
open Classical in
noncomputable def addQ (p q : Rat) : Option Rat := if Fits (p.num * q.den) ∧ Fits (q.num * p.den) ∧ Fits (p.num * q.den + q.num * p.den) ∧ Fits ((p.den : Int) * q.den) then some (p + q) else none
open Classical in
noncomputable def subQ (p q : Rat) : Option Rat := if Fits (p.num * q.den) ∧ Fits (q.num * p.den) ∧ Fits (p.num * q.den - q.num * p.den) ∧ Fits ((p.den : Int) * q.den) then some (p - q) else none
theorem mul_dens (p q : Rat) : ((p.den : Int) * q.den) ≠ 0 := Int.mul_ne_zero (den_ne p) (den_ne q)
theorem mul_rat (p q : Rat) : Rat.divInt (p.num * q.num) ((p.den : Int) * q.den) = p * q := by
  rw [← Rat.divInt_mul_divInt, Rat.num_divInt_den, Rat.num_divInt_den]
theorem add_rat (p q : Rat) : Rat.divInt (p.num * q.den + q.num * p.den) ((p.den : Int) * q.den) = p + q := by
  rw [← Rat.divInt_add_divInt _ _ (den_ne p) (den_ne q), Rat.num_divInt_den, Rat.num_divInt_den]
theorem sub_rat (p q : Rat) : Rat.divInt (p.num * q.den - q.num * p.den) ((p.den : Int) * q.den) = p - q := by
  rw [← Rat.divInt_sub_divInt _ _ (den_ne p) (den_ne q), Rat.num_divInt_den, Rat.num_divInt_den]
theorem div_rat (p q : Rat) : Rat.divInt (p.num * q.den) ((p.den : Int) * q.num) = p / q := by
  rw [← Rat.divInt_mul_divInt, Rat.num_divInt_den, ← Rat.inv_divInt, Rat.num_divInt_den]; rfl
theorem mulR_q {p q : Rat} (hp : FitQ p) (hq : FitQ q) : mulR (txt p.num) (txt (p.den : Int)) (txt q.num) (txt (q.den : Int)) = (mulQ p q).map txtQ := by
  rw [mulR, qsOk_two hp hq, if_pos rfl, opMul_txt hp.1 hq.1, opMul_txt hp.2 hq.2, mulQ]
  by_cases h1 : Fits (p.num * q.num)
  · by_cases h2 : Fits ((p.den : Int) * q.den)
    · rw [if_pos ⟨h1, h2⟩, fitO_pos h1, fitO_pos h2, Option.bind_some, Option.bind_some, red_q h1 h2 (mul_dens p q), mul_rat]; rfl
    · rw [if_neg (fun h => h2 h.2), fitO_pos h1, fitO_neg h2]; rfl
  · rw [if_neg (fun h => h1 h.1), fitO_neg h1]; rfl
theorem divR_q {p q : Rat} (hp : FitQ p) (hq : FitQ q) : divR (txt p.num) (txt (p.den : Int)) (txt q.num) (txt (q.den : Int)) = (divQ p q).map txtQ := by
  rw [divR, qsOk_two hp hq, if_pos rfl, opMul_txt hp.1 hq.2, opMul_txt hp.2 hq.1, divQ]
  by_cases h1 : Fits (p.num * q.den)
  · by_cases h2 : Fits ((p.den : Int) * q.num)
    · rw [fitO_pos h1, fitO_pos h2, Option.bind_some, Option.bind_some]
      by_cases h3 : q = 0
      · rw [if_neg (fun h => h.2.2 h3), red_q0 h2 (by rw [h3]; simp)]; rfl
      · rw [if_pos ⟨h1, h2, h3⟩, red_q h1 h2 (Int.mul_ne_zero (den_ne p) (fun h => h3 (Rat.num_eq_zero.1 h))), div_rat]; rfl
    · rw [if_neg (fun h => h2 h.2.1), fitO_pos h1, fitO_neg h2]; rfl
  · rw [if_neg (fun h => h1 h.1), fitO_neg h1]; rfl
theorem addR_q {p q : Rat} (hp : FitQ p) (hq : FitQ q) : sumR opAdd (txt p.num) (txt (p.den : Int)) (txt q.num) (txt (q.den : Int)) = (addQ p q).map txtQ := by
  rw [sumR, qsOk_two hp hq, if_pos rfl, opMul_txt hp.1 hq.2, opMul_txt hq.1 hp.2, opMul_txt hp.2 hq.2, addQ]
  by_cases h1 : Fits (p.num * q.den)
  · by_cases h2 : Fits (q.num * p.den)
    · rw [fitO_pos h1, fitO_pos h2, Option.bind_some, Option.bind_some, opAdd_txt h1 h2]
      by_cases h3 : Fits (p.num * q.den + q.num * p.den)
      · rw [fitO_pos h3, Option.bind_some]
        by_cases h4 : Fits ((p.den : Int) * q.den)
        · rw [if_pos ⟨h1, h2, h3, h4⟩, fitO_pos h4, Option.bind_some, red_q h3 h4 (mul_dens p q), add_rat]; rfl
        · rw [if_neg (fun h => h4 h.2.2.2), fitO_neg h4]; rfl
      · rw [if_neg (fun h => h3 h.2.2.1), fitO_neg h3]; rfl
    · rw [if_neg (fun h => h2 h.2.1), fitO_pos h1, fitO_neg h2]; rfl
  · rw [if_neg (fun h => h1 h.1), fitO_neg h1]; rfl
theorem subR_q {p q : Rat} (hp : FitQ p) (hq : FitQ q) : sumR opSub (txt p.num) (txt (p.den : Int)) (txt q.num) (txt (q.den : Int)) = (subQ p q).map txtQ := by
  rw [sumR, qsOk_two hp hq, if_pos rfl, opMul_txt hp.1 hq.2, opMul_txt hq.1 hp.2, opMul_txt hp.2 hq.2, subQ]
  by_cases h1 : Fits (p.num * q.den)
  · by_cases h2 : Fits (q.num * p.den)
    · rw [fitO_pos h1, fitO_pos h2, Option.bind_some, Option.bind_some, opSub_txt h1 h2]
      by_cases h3 : Fits (p.num * q.den - q.num * p.den)
      · rw [fitO_pos h3, Option.bind_some]
        by_cases h4 : Fits ((p.den : Int) * q.den)
        · rw [if_pos ⟨h1, h2, h3, h4⟩, fitO_pos h4, Option.bind_some, red_q h3 h4 (mul_dens p q), sub_rat]; rfl
        · rw [if_neg (fun h => h4 h.2.2.2), fitO_neg h4]; rfl
      · rw [if_neg (fun h => h3 h.2.2.1), fitO_neg h3]; rfl
    · rw [if_neg (fun h => h2 h.2.1), fitO_pos h1, fitO_neg h2]; rfl
  · rw [if_neg (fun h => h1 h.1), fitO_neg h1]; rfl
open Classical in
noncomputable def downQ (p : Rat) (c : Nat) : Option Rat := if Fits (p.num * 10 ^ c) then some (Rat.divInt (p.num * 10 ^ c / p.den) (10 ^ c)) else none
theorem pow_ne (c : Nat) : ((10 : Int) ^ c) ≠ 0 := Int.pow_ne_zero (by decide)
theorem downR_q {p : Rat} (hp : FitQ p) (c : Nat) (hc : c ≤ 30) : downR (txt p.num) (txt (p.den : Int)) c = (downQ p c).map txtQ := by
  rw [downR, if_pos ⟨by omega, by omega⟩, Int.toNat_natCast, rndR, qsOk_one hp, if_pos rfl, opMul_txt hp.1 (pow_fits c hc), downQ]
  by_cases h1 : Fits (p.num * 10 ^ c)
  · rw [if_pos h1, fitO_pos h1, Option.bind_some, opFloor, op2_txt h1 hp.2, if_neg (den_ne p), Option.bind_some, fitO_pos (fits_ediv h1), Option.bind_some, red_q (fits_ediv h1) (pow_fits c hc) (pow_ne c)]; rfl
  · rw [if_neg h1, fitO_neg h1]; rfl
/-- the quotient, rounded up -/
def upI (x y : Int) : Int := if x % y = 0 then x / y else x / y + 1
open Classical in
noncomputable def upQ (p : Rat) (c : Nat) : Option Rat := if Fits (p.num * 10 ^ c) ∧ Fits (upI (p.num * 10 ^ c) p.den) then some (Rat.divInt (upI (p.num * 10 ^ c) p.den) (10 ^ c)) else none
theorem upR_q {p : Rat} (hp : FitQ p) (c : Nat) (hc : c ≤ 30) : upR (txt p.num) (txt (p.den : Int)) c = (upQ p c).map txtQ := by
  rw [upR, if_pos ⟨by omega, by omega⟩, Int.toNat_natCast, rndR, qsOk_one hp, if_pos rfl, opMul_txt hp.1 (pow_fits c hc), upQ]
  by_cases h1 : Fits (p.num * 10 ^ c)
  · rw [fitO_pos h1, Option.bind_some, opCeil, op2_txt h1 hp.2, if_neg (den_ne p), Option.bind_some]
    show ((fitO (upI (p.num * 10 ^ c) p.den)).bind _) = _
    by_cases h2 : Fits (upI (p.num * 10 ^ c) p.den)
    · rw [if_pos ⟨h1, h2⟩, fitO_pos h2, Option.bind_some, red_q h2 (pow_fits c hc) (pow_ne c)]; rfl
    · rw [if_neg (fun h => h2 h.2), fitO_neg h2]; rfl
  · rw [if_neg (fun h => h1 h.1), fitO_neg h1]; rfl
/-- what is not a fraction gives none -/
theorem qsOk_bad2 {s t u v : ByteArray} (h : qOf s t = none ∨ qOf u v = none) : qsOk [(s, t), (u, v)] = false := by
  rcases h with h | h <;> simp [qsOk, h]
theorem FitQ.mulQ {p q r : Rat} (h : mulQ p q = some r) : FitQ r := by
  rw [Rt.mulQ] at h
  split at h
  · rename_i hc
    injection h with h
    rw [← h, ← mul_rat]; exact FitQ.div hc.1 hc.2 (mul_dens p q)
  · cases h
theorem FitQ.divQ {p q r : Rat} (h : divQ p q = some r) : FitQ r := by
  rw [Rt.divQ] at h
  split at h
  · rename_i hc
    injection h with h
    rw [← h, ← div_rat]; exact FitQ.div hc.1 hc.2.1 (Int.mul_ne_zero (den_ne p) (fun h => hc.2.2 (Rat.num_eq_zero.1 h)))
  · cases h
theorem FitQ.addQ {p q r : Rat} (h : addQ p q = some r) : FitQ r := by
  rw [Rt.addQ] at h
  split at h
  · rename_i hc
    injection h with h
    rw [← h, ← add_rat]; exact FitQ.div hc.2.2.1 hc.2.2.2 (mul_dens p q)
  · cases h
theorem FitQ.subQ {p q r : Rat} (h : subQ p q = some r) : FitQ r := by
  rw [Rt.subQ] at h
  split at h
  · rename_i hc
    injection h with h
    rw [← h, ← sub_rat]; exact FitQ.div hc.2.2.1 hc.2.2.2 (mul_dens p q)
  · cases h
end Rt
end Go.Proofs.YtappobhpdpfojaaGreat
