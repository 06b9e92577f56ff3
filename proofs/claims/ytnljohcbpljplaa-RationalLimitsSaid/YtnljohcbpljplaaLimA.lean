/-
  The law RationalLimits: powers of ten.
-/
import Derived.Test.YtnljohcbpljplaaRatYb
namespace Go.Proofs.Ytnljohcbpljplaa
set_option maxRecDepth 1000000
namespace Rt
open Go.RowKit Go.Proofs.Ytnljohcbpljplaa.Nm

theorem pow_pos10 (k : Nat) : 0 < 10 ^ k := Nat.pow_pos (by decide)
theorem fits_pow {k : Nat} : Fits (((10 ^ k : Nat)) : Int) ↔ k < 200 := by
  constructor
  · intro h
    have h1 := fits_lt h
    rw [Int.natAbs_natCast] at h1
    exact (Nat.pow_lt_pow_iff_right (by decide)).1 h1
  · intro h
    refine fits_small ?_
    rw [Int.natAbs_natCast]
    exact (Nat.pow_lt_pow_iff_right (by decide)).2 h
theorem fits_pow1 {k : Nat} : Fits (((10 ^ k + 1 : Nat)) : Int) ↔ k < 200 := by
  have hp : ∀ k, 10 ^ (k + 1) = 10 * 10 ^ k := fun k => by rw [Nat.pow_succ]; omega
  constructor
  · intro h
    have h1 := fits_lt h
    rw [Int.natAbs_natCast] at h1
    exact (Nat.pow_lt_pow_iff_right (by decide)).1 (Nat.lt_of_le_of_lt (Nat.le_succ _) h1)
  · intro h
    refine fits_small ?_
    rw [Int.natAbs_natCast]
    have h1 : 10 ^ (k + 1) ≤ 10 ^ 200 := Nat.pow_le_pow_right (by decide) h
    rw [hp] at h1
    have := pow_pos10 k
    omega
/-- ten to the power k, written out -/
def T10 (k : Nat) : ByteArray := txt ((10 ^ k : Nat) : Int)
theorem T10_zero : T10 0 = ⟨#[49]⟩ := by decide +kernel
theorem T10_succ (k : Nat) : T10 k ++ ⟨#[48]⟩ = T10 (k + 1) := by
  have h0 : ∀ k, txt ((10 ^ k : Nat) : Int) = ba (decN (10 ^ k)) := fun k => by
    have := pow_pos10 k
    rw [txt, if_neg (by omega), if_neg (by omega), Int.natAbs_natCast]
  have hd : decN (10 ^ (k + 1)) = decN (10 ^ k) ++ [48] := by
    have h1 := pow_pos10 k
    have h2 : 10 ^ (k + 1) = 10 ^ k * 10 := Nat.pow_succ ..
    rw [decN_pos (by omega), h2, Nat.mul_div_cancel _ (by decide), Nat.mul_mod_left]
  rw [T10, T10, h0, h0, hd, ba_append]; rfl
theorem T10_size (k : Nat) : (T10 k).size = k + 1 := by
  induction k with
  | zero => rw [T10_zero]; rfl
  | succ k ih => rw [← T10_succ, ByteArray.size_append, ih]; rfl

/-- the fraction that ten to the power k is -/
def P10 (k : Nat) : Rat := (((10 ^ k : Nat) : Int) : Rat)
theorem P10_num (k : Nat) : (P10 k).num = ((10 ^ k : Nat) : Int) := rfl
theorem P10_den (k : Nat) : (P10 k).den = 1 := rfl
theorem fitP {k : Nat} (h : k < 200) : FitQ (P10 k) := ⟨fits_pow.2 h, fits1⟩
theorem rqP (k : Nat) : rq (P10 k) = .agg #[.string (T10 k), .string ⟨#[49]⟩] := by
  rw [rq, rv, P10_num, P10_den, show txt ((1 : Nat) : Int) = ⟨#[49]⟩ from txt_1]; rfl
/-- its reciprocal -/
def S10 (k : Nat) : Rat := (P10 k)⁻¹
theorem S10_num (k : Nat) : (S10 k).num = 1 := by
  rw [S10, Rat.num_inv, P10_num, P10_den, Int.sign_eq_one_of_pos (by have := pow_pos10 k; omega)]; rfl
theorem S10_den (k : Nat) : ((S10 k).den : Int) = ((10 ^ k : Nat) : Int) := by
  have := pow_pos10 k
  rw [S10, Rat.den_inv, P10_num, if_neg (by omega), Int.natAbs_natCast]
theorem fitS {k : Nat} (h : k < 200) : FitQ (S10 k) := ⟨by rw [S10_num]; exact fits1, by rw [S10_den]; exact fits_pow.2 h⟩
theorem rqS (k : Nat) : rq (S10 k) = .agg #[.string ⟨#[49]⟩, .string (T10 k)] := by
  rw [rq, rv, S10_num, S10_den, txt_1]; rfl
theorem mul_pow (n m : Nat) : ((10 ^ n : Nat) : Int) * ((10 ^ m : Nat) : Int) = ((10 ^ (n + m) : Nat) : Int) := by rw [Nat.pow_add, Int.natCast_mul]
theorem mulP (n m : Nat) : mulQ (P10 n) (P10 m) = if n + m < 200 then some (P10 n * P10 m) else none := by
  rw [mulQ, P10_num, P10_num, P10_den, P10_den, mul_pow]
  by_cases h : n + m < 200
  · rw [if_pos h, if_pos ⟨fits_pow.2 h, fits1⟩]
  · rw [if_neg h, if_neg (fun hc => h (fits_pow.1 hc.1))]
theorem divP {m : Nat} (h : m < 200) : divQ (P10 0) (P10 m) = some (S10 m) := by
  have hp := pow_pos10 m
  rw [divQ, P10_num, P10_num, P10_den, P10_den, if_pos]
  · congr 1
    rw [Rat.div_def]
    exact Rat.one_mul _
  · refine ⟨fits1, ?_, fun e => ?_⟩
    · rw [show ((1 : Nat) : Int) * ((10 ^ m : Nat) : Int) = ((10 ^ m : Nat) : Int) from Int.one_mul _]; exact fits_pow.2 h
    · have := congrArg Rat.num e
      rw [P10_num] at this
      have h0 : (0 : Rat).num = 0 := rfl
      omega
theorem addP {n m : Nat} (hm : m < 200) : addQ (P10 n) (S10 m) = if n + m < 200 then some (P10 n + S10 m) else none := by
  rw [addQ, P10_num, P10_den, S10_num, S10_den, mul_pow]
  by_cases h : n + m < 200
  · have h4 : Fits (((1 : Nat) : Int) * ((10 ^ m : Nat) : Int)) := by rw [show ((1 : Nat) : Int) * ((10 ^ m : Nat) : Int) = ((10 ^ m : Nat) : Int) from Int.one_mul _]; exact fits_pow.2 hm
    rw [if_pos h, if_pos ⟨fits_pow.2 h, fits1, fits_pow1.2 h, h4⟩]
  · rw [if_neg h, if_neg (fun hc => h (fits_pow.1 hc.1))]
theorem cmpP (n m : Nat) : cmpQ (P10 n) (P10 m) = if n < m then -1 else if n = m then 0 else 1 := by
  rw [cmpQ, P10_num, P10_num, P10_den, P10_den, show ((1 : Nat) : Int) = 1 from rfl, Int.mul_one, Int.mul_one, cmpZ]
  have h1 : (10 ^ n < 10 ^ m) ↔ n < m := Nat.pow_lt_pow_iff_right (by decide)
  have h2 : (10 ^ m < 10 ^ n) ↔ m < n := Nat.pow_lt_pow_iff_right (by decide)
  generalize 10 ^ n = a at *
  generalize 10 ^ m = b at *
  split <;> split <;> (try split) <;> (try split) <;> omega
theorem cmpS10 (n m : Nat) : cmpQ (P10 n) (S10 m) = if n = 0 ∧ m = 0 then 0 else 1 := by
  rw [cmpQ, P10_num, P10_den, S10_num, S10_den, mul_pow, show ((1 : Nat) : Int) = 1 from rfl, Int.mul_one, cmpZ]
  have h1 : (10 ^ 0 < 10 ^ (n + m)) ↔ 0 < n + m := Nat.pow_lt_pow_iff_right (by decide)
  rw [Nat.pow_zero] at h1
  have h0 := pow_pos10 (n + m)
  generalize 10 ^ (n + m) = a at *
  split <;> split <;> (try split) <;> (try split) <;> omega

theorem Mul_rq {p q : Rat} (hp : FitQ p) (hq : FitQ q) (W : World) : Calls Try.prog 7 #[rq p, rq q] W fun e w' => e = .returned (bR ((mulQ p q).map txtQ)) ∧ Below W.heap.size W w' := by
  have := Mul_all _ _ _ _ hp.size.1 hp.size.2 hq.size.1 hq.size.2 W
  rwa [mulR_q hp hq] at this
theorem Div_rq {p q : Rat} (hp : FitQ p) (hq : FitQ q) (W : World) : Calls Try.prog 8 #[rq p, rq q] W fun e w' => e = .returned (bR ((divQ p q).map txtQ)) ∧ Below W.heap.size W w' := by
  have := Div_all _ _ _ _ hp.size.1 hp.size.2 hq.size.1 hq.size.2 W
  rwa [divR_q hp hq] at this
theorem Add_rq {p q : Rat} (hp : FitQ p) (hq : FitQ q) (W : World) : Calls Try.prog 9 #[rq p, rq q] W fun e w' => e = .returned (bR ((addQ p q).map txtQ)) ∧ Below W.heap.size W w' := by
  have := Add_all _ _ _ _ hp.size.1 hp.size.2 hq.size.1 hq.size.2 W
  rwa [addR_q hp hq] at this
/-- what the law asks of two powers -/
theorem lim_facts (n m : Nat) (hn : n < 200) (hm : m < 200) : ∃ (z1 z2 a1 a2 : ByteArray) (eM eA : Int),
    (∀ W : World, Calls Try.prog 7 #[.agg #[.string (T10 n), .string ⟨#[49]⟩], .agg #[.string (T10 m), .string ⟨#[49]⟩]] W fun e w' => e = .returned (.tuple #[.agg #[.string z1, .string z2], .int .i64 eM]) ∧ Below W.heap.size W w') ∧
    (∀ W : World, Calls Try.prog 8 #[.agg #[.string ⟨#[49]⟩, .string ⟨#[49]⟩], .agg #[.string (T10 m), .string ⟨#[49]⟩]] W fun e w' => e = .returned (.tuple #[.agg #[.string ⟨#[49]⟩, .string (T10 m)], .int .i64 0]) ∧ Below W.heap.size W w') ∧
    (∀ W : World, Calls Try.prog 9 #[.agg #[.string (T10 n), .string ⟨#[49]⟩], .agg #[.string ⟨#[49]⟩, .string (T10 m)]] W fun e w' => e = .returned (.tuple #[.agg #[.string a1, .string a2], .int .i64 eA]) ∧ Below W.heap.size W w') ∧
    (∀ W : World, Calls Try.prog 10 #[.agg #[.string (T10 n), .string ⟨#[49]⟩], .agg #[.string (T10 m), .string ⟨#[49]⟩]] W fun e w' => e = .returned (.int .i64 (if n < m then -1 else if n = m then 0 else 1)) ∧ Below W.heap.size W w') ∧
    (∀ W : World, Calls Try.prog 10 #[.agg #[.string (T10 n), .string ⟨#[49]⟩], .agg #[.string ⟨#[49]⟩, .string (T10 m)]] W fun e w' => e = .returned (.int .i64 (if n = 0 ∧ m = 0 then 0 else 1)) ∧ Below W.heap.size W w') ∧
    ((n + m < 200 ∧ eM = 0 ∧ eA = 0) ∨ (¬ n + m < 200 ∧ eM = 40 ∧ eA = 40 ∧ z1 = ⟨#[]⟩ ∧ z2 = ⟨#[]⟩)) := by
  have fn := fitP hn
  have fm := fitP hm
  have fs := fitS hm
  have f0 := fitP (k := 0) (by decide)
  have e0 : rq (P10 0) = .agg #[.string ⟨#[49]⟩, .string ⟨#[49]⟩] := by rw [rqP, T10_zero]
  have cM := fun W => Mul_rq fn fm W
  have cD := fun W => Div_rq f0 fm W
  have cA := fun W => Add_rq fn fs W
  have cC : ∀ W : World, _ := fun W => Compare_small fn fm (by rw [P10_num, P10_den, show ((1 : Nat) : Int) = 1 from rfl, Int.mul_one]; exact fits_pow.2 hn) (by rw [P10_num, P10_den, show ((1 : Nat) : Int) = 1 from rfl, Int.mul_one]; exact fits_pow.2 hm) W
  rw [divP hm] at cD
  rw [mulP] at cM
  rw [addP hm] at cA
  rw [cmpP] at cC
  rw [rqP, rqP] at cM cC
  rw [rqP, rqS] at cA
  rw [e0, rqP] at cD
  have hD : bR (Option.map txtQ (some (S10 m))) = .tuple #[.agg #[.string ⟨#[49]⟩, .string (T10 m)], .int .i64 0] := by
    show bR (some (txtQ (S10 m))) = _
    rw [show txtQ (S10 m) = (⟨#[49]⟩, T10 m) from by rw [txtQ, S10_num, S10_den, txt_1]; rfl]; rfl
  rw [hD] at cD
  by_cases h : n + m < 200
  · rw [if_pos h] at cM cA
    refine ⟨_, _, _, _, 0, 0, cM, cD, cA, cC, fun W => ?_, .inl ⟨h, rfl, rfl⟩⟩
    have := Compare_small fn fs (by rw [P10_num, S10_den, mul_pow]; exact fits_pow.2 h) (by rw [S10_num, P10_den]; exact fits1) W
    rwa [cmpS10, rqP, rqS] at this
  · rw [if_neg h] at cM cA
    refine ⟨_, _, ⟨#[]⟩, ⟨#[]⟩, 40, 40, cM, cD, cA, cC, fun W => ?_, .inr ⟨h, rfl, rfl, rfl, rfl⟩⟩
    rw [if_neg (by omega)]
    have hq2 : (S10 m).num / ((S10 m).den : Int) = 0 := by
      rw [S10_num, S10_den]
      have h1 : 10 ^ 1 ≤ 10 ^ m := Nat.pow_le_pow_right (by decide) (by omega)
      exact Int.ediv_eq_zero_of_lt (by decide) (by omega)
    have hq1 : (P10 n).num / ((P10 n).den : Int) = ((10 ^ n : Nat) : Int) := by
      rw [P10_num, P10_den]; exact Int.ediv_one _
    have hp := pow_pos10 n
    have := Compare_wholeQ fn fs (by rw [P10_num, S10_den, mul_pow]; exact fun hc => h (fits_pow.1 hc)) (by rw [hq1, hq2]; omega) W
    rw [hq1, hq2, rqP, rqS, cmpZ, if_neg (by omega), if_neg (by omega)] at this
    exact this
theorem lstep {w w' : World} {o : Obj} (h : Below (w.alloc o).heap.size (w.alloc o) w') : Below w.heap.size w w' ∧ w'.heap[w.heap.size]? = some o :=
  ⟨((Below.refl w.heap.size w).alloc (Nat.le_refl _) o).trans (h.mono (by simp)), (h.block w.heap.size (by simp)).trans (World.alloc_heap_new w o)⟩
theorem lundrew {B : Nat} {w w' : World} (h : Below B w.drew w') : Below B w w' := ⟨h.os, h.tape, h.output, h.size, h.block⟩
theorem lkeep {w w' : World} {b : Nat} {o : Obj} (h : w.heap[b]? = some o) (hB : Below w.heap.size w w') : w'.heap[b]? = some o := (hB.block b (lt_of_block h)).trans h
theorem set_old (w : World) (b : Nat) (u v x y : Value) (h0 : w.cell? ⟨b, 0, none⟩ = some x) (h1 : w.cell? ⟨b, 1, none⟩ = some y) :
    Rim (fun k => k = b) w ((w.setCell ⟨b, 0, none⟩ u).setCell ⟨b, 1, none⟩ v) ∧ ((w.setCell ⟨b, 0, none⟩ u).setCell ⟨b, 1, none⟩ v).cell? ⟨b, 0, none⟩ = some u ∧ ((w.setCell ⟨b, 0, none⟩ u).setCell ⟨b, 1, none⟩ v).cell? ⟨b, 1, none⟩ = some v ∧ b < ((w.setCell ⟨b, 0, none⟩ u).setCell ⟨b, 1, none⟩ v).heap.size := by
  have hc := cell_two w b u v x y h0 h1
  exact ⟨(Rim.set (bs := fun k => k = b) w ⟨b, 0, none⟩ u rfl).trans (Rim.set _ ⟨b, 1, none⟩ v rfl), hc.1, hc.2, World.block_lt_of_cell? _ ⟨b, 0, none⟩ hc.1⟩
theorem set_new (w : World) (u v : Value) (T : TypeId) : Rim (fun k => k = w.heap.size) w (w.alloc (.cells #[u, v] T)) ∧ (w.alloc (.cells #[u, v] T)).cell? ⟨w.heap.size, 0, none⟩ = some u ∧ (w.alloc (.cells #[u, v] T)).cell? ⟨w.heap.size, 1, none⟩ = some v ∧ w.heap.size < (w.alloc (.cells #[u, v] T)).heap.size :=
  ⟨Rim.of_below ((Below.refl w.heap.size w).alloc (Nat.le_refl _) _), new1 w u v T, new2 w u v T, by simp⟩
end Rt
end Go.Proofs.Ytnljohcbpljplaa
