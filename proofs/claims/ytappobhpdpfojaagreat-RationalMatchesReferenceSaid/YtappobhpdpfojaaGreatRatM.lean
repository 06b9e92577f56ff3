/-
  Fractions: the number of a text, the fraction of two texts, what reducing makes.
-/
import Derived.Test.YtappobhpdpfojaaGreatIntJ
namespace Go.Proofs.YtappobhpdpfojaaGreat
set_option maxRecDepth 1000000
namespace Rt
open Go.RowKit Nm

open Classical in
/-- the number that a string is the text of -/
noncomputable def zOf (s : ByteArray) : Option Int := if h : ∃ z, Fits z ∧ s = txt z then some (Classical.choose h) else none
theorem zOf_txt {z : Int} (h : Fits z) : zOf (txt z) = some z := by
  have hx : ∃ y, Fits y ∧ txt z = txt y := ⟨z, h, rfl⟩
  rw [zOf, dif_pos hx]
  exact congrArg some (txt_inj (Classical.choose_spec hx).2).symm
theorem zOf_some {s : ByteArray} {z : Int} (h : zOf s = some z) : s = txt z ∧ Fits z := by
  rw [zOf] at h
  split at h
  · rename_i hx
    injection h with h
    subst h
    exact ⟨(Classical.choose_spec hx).2, (Classical.choose_spec hx).1⟩
  · cases h
theorem zOf_none {s : ByteArray} (h : zOf s = none) : validB s = false := by
  cases hv : validB s with
  | false => rfl
  | true =>
    obtain ⟨z, rfl, hf⟩ := valid_is hv
    rw [zOf_txt hf] at h
    cases h
theorem zOf_bad {s : ByteArray} (h : validB s = false) : zOf s = none := by
  cases hz : zOf s with
  | none => rfl
  | some z =>
    obtain ⟨rfl, hf⟩ := zOf_some hz
    rw [valid_txt z hf] at h
    cases h
open Classical in
noncomputable def fitO (z : Int) : Option ByteArray := if Fits z then some (txt z) else none
theorem fitO_pos {z : Int} (h : Fits z) : fitO z = some (txt z) := if_pos h
theorem fitO_neg {z : Int} (h : ¬ Fits z) : fitO z = none := if_neg h
noncomputable def op2 (f : Int → Int → Option Int) (s t : ByteArray) : Option ByteArray := (zOf s).bind fun x => (zOf t).bind fun y => (f x y).bind fitO
theorem op2_txt {f : Int → Int → Option Int} {x y : Int} (hx : Fits x) (hy : Fits y) : op2 f (txt x) (txt y) = (f x y).bind fitO := by
  rw [op2, zOf_txt hx, zOf_txt hy]; rfl
theorem op2_bad {f : Int → Int → Option Int} {s t : ByteArray} (h : (validB s && validB t) = false) : op2 f s t = none := by
  rw [op2]
  cases hs : zOf s with
  | none => rfl
  | some x =>
    cases ht : zOf t with
    | none => rfl
    | some y =>
      obtain ⟨rfl, hx⟩ := zOf_some hs
      obtain ⟨rfl, hy⟩ := zOf_some ht
      rw [valid_txt x hx, valid_txt y hy] at h
      cases h
theorem fits_small {z : Int} (h : z.natAbs < 10 ^ 200) : Fits z := by
  rw [Fits]
  exact decN_len_le h
theorem fits_of_le {x y : Int} (hx : Fits x) (h : y.natAbs ≤ x.natAbs) : Fits y := fits_small (Nat.lt_of_le_of_lt h (fits_lt hx))
theorem fits0 : Fits 0 := fits_small (by decide)
theorem fits1 : Fits 1 := fits_small (by decide)
theorem txt_size6 {z : Int} (h : Fits z) : (txt z).size ≤ 1000000 := Nat.le_trans (txt_size h) (by decide)
theorem zOf_size {s : ByteArray} {z : Int} (h : zOf s = some z) : s.size ≤ 1000000 := by
  obtain ⟨rfl, hf⟩ := zOf_some h
  exact txt_size6 hf
theorem op2_size {f : Int → Int → Option Int} {s t v : ByteArray} (h : op2 f s t = some v) : v.size ≤ 1000000 := by
  rw [op2] at h
  cases hs : zOf s with
  | none => rw [hs] at h; cases h
  | some x =>
    cases ht : zOf t with
    | none => rw [hs, ht] at h; cases h
    | some y =>
      rw [hs, ht] at h
      cases hf : f x y with
      | none => simp [hf] at h
      | some z =>
        simp only [Option.bind_some, hf, fitO] at h
        split at h
        · rename_i hz
          injection h with h
          subst h
          exact txt_size6 hz
        · cases h
noncomputable def opAdd := op2 fun x y => some (x + y)
noncomputable def opSub := op2 fun x y => some (x - y)
noncomputable def opMul := op2 fun x y => some (x * y)
noncomputable def opGcd := op2 fun x y => some ((Nat.gcd x.natAbs y.natAbs : Nat) : Int)
noncomputable def opFloor := op2 fun x y => if y = 0 then none else some (x / y)
noncomputable def opCeil := op2 fun x y => if y = 0 then none else some (if x % y = 0 then x / y else x / y + 1)
noncomputable def opSign (s t : ByteArray) : Option ByteArray := (zOf t).bind fun y => if y = 0 then none else if 0 < y then some s else opSub (txt 0) s
/-- what the last four steps make of a fraction's texts -/
noncomputable def redR (s t : ByteArray) : Option (ByteArray × ByteArray) :=
  (opGcd s t).bind fun d => (opSign d t).bind fun e => (opFloor s e).bind fun n => (opFloor t e).map fun m => (n, m)

theorem gcd_dvdI (x y : Int) : ((Nat.gcd x.natAbs y.natAbs : Nat) : Int) ∣ x ∧ ((Nat.gcd x.natAbs y.natAbs : Nat) : Int) ∣ y :=
  ⟨Int.ofNat_dvd_left.2 (Nat.gcd_dvd_left _ _), Int.ofNat_dvd_left.2 (Nat.gcd_dvd_right _ _)⟩
theorem fits_gcdO {x y : Int} (hy : Fits y) (h0 : y ≠ 0) : Fits ((Nat.gcd x.natAbs y.natAbs : Nat) : Int) :=
  fits_of_le hy (by rw [Int.natAbs_natCast]; exact Nat.gcd_le_right _ (by omega))
theorem fits_neg {x : Int} (h : Fits x) : Fits (-x) := fits_of_le h (by rw [Int.natAbs_neg]; exact Nat.le_refl _)
theorem fits_ediv {x y : Int} (hx : Fits x) : Fits (x / y) := fits_of_le hx (Int.natAbs_ediv_le_natAbs x y)

theorem red_eq {x y : Int} (hx : Fits x) (hy : Fits y) (h0 : y ≠ 0) : redR (txt x) (txt y) = some (txt (Rat.divInt x y).num, txt ((Rat.divInt x y).den : Int)) := by
  have hg := fits_gcdO (x := x) hy h0
  have hp : 0 < Nat.gcd x.natAbs y.natAbs := Nat.gcd_pos_of_pos_right _ (by omega)
  obtain ⟨d1, d2⟩ := gcd_dvdI x y
  have e0 : y.gcd x = Nat.gcd x.natAbs y.natAbs := by rw [Int.gcd, Nat.gcd_comm]
  rw [redR, opGcd, op2_txt hx hy, Option.bind_some, fitO_pos hg, Option.bind_some, opSign, zOf_txt hy, Option.bind_some, if_neg h0, Rat.num_divInt, Rat.den_divInt, if_neg h0, e0]
  generalize Nat.gcd x.natAbs y.natAbs = g at *
  by_cases hy0 : 0 < y
  · rw [if_pos hy0, Option.bind_some, opFloor, op2_txt hx hg, if_neg (by omega), Option.bind_some, fitO_pos (fits_ediv hx), Option.bind_some, op2_txt hy hg, if_neg (by omega), Option.bind_some, fitO_pos (fits_ediv hy), Option.map_some]
    rw [Int.sign_eq_one_of_pos hy0, Int.one_mul]
    have e1 : ((y.natAbs / g : Nat) : Int) = y / g := by
      rw [Int.natCast_ediv, Int.natAbs_of_nonneg (by omega)]
    rw [e1]
  · rw [if_neg hy0, opSub, op2_txt fits0 hg, Option.bind_some, Int.zero_sub, fitO_pos (fits_neg hg), Option.bind_some, opFloor, op2_txt hx (fits_neg hg), if_neg (by omega), Option.bind_some, fitO_pos (fits_ediv hx), Option.bind_some, op2_txt hy (fits_neg hg), if_neg (by omega), Option.bind_some, fitO_pos (fits_ediv hy), Option.map_some]
    rw [Int.sign_eq_neg_one_of_neg (by omega), Int.ediv_neg, Int.ediv_neg, Int.neg_mul, Int.one_mul, Int.neg_ediv_of_dvd d1]
    have e1 : ((y.natAbs / g : Nat) : Int) = -(y / g) := by
      rw [Int.natCast_ediv, ← Int.neg_ediv_of_dvd d2]
      congr 1
      omega
    rw [e1]
theorem red_zero {s t : ByteArray} (h : zOf t = some 0) : redR s t = none := by
  have : ∀ d, opSign d t = none := fun d => by rw [opSign, h]; rfl
  rw [redR]
  cases opGcd s t with
  | none => rfl
  | some d => rw [Option.bind_some, this]; rfl
theorem red_bad {s t : ByteArray} (h : (validB s && validB t) = false) : redR s t = none := by
  rw [redR, opGcd, op2_bad h]; rfl

/-- the fraction that two strings are the texts of -/
noncomputable def qOf (s t : ByteArray) : Option Rat := (zOf s).bind fun x => (zOf t).bind fun y => if 0 < y ∧ Nat.gcd x.natAbs y.natAbs = 1 then some (Rat.divInt x y) else none
def FitQ (q : Rat) : Prop := Fits q.num ∧ Fits (q.den : Int)
theorem rat_red (q : Rat) : Nat.gcd q.num.natAbs q.den = 1 := q.reduced
theorem qOf_txt {q : Rat} (h : FitQ q) : qOf (txt q.num) (txt (q.den : Int)) = some q := by
  rw [qOf, zOf_txt h.1, zOf_txt h.2, Option.bind_some, Option.bind_some, if_pos, Rat.num_divInt_den]
  refine ⟨?_, ?_⟩
  · have := q.den_pos; omega
  · rw [Int.natAbs_natCast]; exact rat_red q
theorem divInt_parts {x y : Int} (h : 0 < y) (hg : Nat.gcd x.natAbs y.natAbs = 1) : (Rat.divInt x y).num = x ∧ ((Rat.divInt x y).den : Int) = y := by
  have e0 : y.gcd x = 1 := by rw [Int.gcd, Nat.gcd_comm]; exact hg
  rw [Rat.num_divInt, Rat.den_divInt, if_neg (by omega), e0, Int.sign_eq_one_of_pos h]
  refine ⟨by simp, ?_⟩
  rw [Nat.div_one, Int.natAbs_of_nonneg (by omega)]
theorem qOf_some {s t : ByteArray} {q : Rat} (h : qOf s t = some q) : s = txt q.num ∧ t = txt (q.den : Int) ∧ FitQ q := by
  rw [qOf] at h
  cases hs : zOf s with
  | none => rw [hs] at h; cases h
  | some x =>
    cases ht : zOf t with
    | none => rw [hs, ht] at h; cases h
    | some y =>
      rw [hs, ht, Option.bind_some, Option.bind_some] at h
      split at h
      · rename_i hc
        injection h with h
        obtain ⟨e1, e2⟩ := divInt_parts hc.1 hc.2
        obtain ⟨rfl, hx⟩ := zOf_some hs
        obtain ⟨rfl, hy⟩ := zOf_some ht
        subst h
        rw [FitQ, e1, e2]
        exact ⟨rfl, rfl, hx, hy⟩
      · cases h
theorem FitQ.div {x y : Int} (hx : Fits x) (hy : Fits y) (h0 : y ≠ 0) : FitQ (Rat.divInt x y) := by
  rw [FitQ, Rat.num_divInt, Rat.den_divInt, if_neg h0]
  refine ⟨fits_of_le hx (Nat.le_trans (Int.natAbs_ediv_le_natAbs _ _) ?_), fits_of_le hy ?_⟩
  · rw [Int.natAbs_mul]
    rcases Int.lt_trichotomy y 0 with h | h | h
    · rw [Int.sign_eq_neg_one_of_neg h]; simp
    · omega
    · rw [Int.sign_eq_one_of_pos h]; simp
  · rw [Int.natAbs_natCast]; exact Nat.div_le_self _ _
end Rt
end Go.Proofs.YtappobhpdpfojaaGreat
