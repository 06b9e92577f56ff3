/-
  Order, grid.
-/
import Derived.Test.YtbfonkabmehlmaaGreatDoorQz
namespace Go.Proofs.YtbfonkabmehlmaaGreatDoor
set_option maxRecDepth 1000000
namespace Rt
open Go.RowKit Go.Proofs.YtbfonkabmehlmaaGreatDoor.Nm
open N10 (Two)

theorem cmpQ_lt {p q : Rat} (h : p < q) : cmpQ p q = -1 := by rw [cmpQ, cmpZ, if_pos ((Rat.lt_iff p q).1 h)]
theorem cmpQ_gt {p q : Rat} (h : q < p) : cmpQ p q = 1 := by
  have := (Rat.lt_iff q p).1 h
  rw [cmpQ, cmpZ, if_neg (by omega), if_neg (by omega)]
theorem rat_tri (p q : Rat) : p < q ∨ p = q ∨ q < p := by
  by_cases h : p < q
  · exact .inl h
  · have h1 := Rat.not_lt.1 h
    by_cases h2 : q < p
    · exact .inr (.inr h2)
    · exact .inr (.inl (Rat.le_antisymm (Rat.not_lt.1 h2) h1))
theorem rat_asymm {p q : Rat} (h : p < q) : ¬ q < p := fun h2 => Rat.not_le.2 h2 (Rat.le_iff_lt_or_eq.2 (.inl h))
/-- the sign of the order, and what it says -/
theorem cmpQ_ways (p q : Rat) : (cmpQ p q = -1 ∧ p < q) ∨ (cmpQ p q = 0 ∧ p = q) ∨ (cmpQ p q = 1 ∧ q < p) := by
  rcases rat_tri p q with h | h | h
  · exact .inl ⟨cmpQ_lt h, h⟩
  · exact .inr (.inl ⟨by rw [h, cmpQ_same], h⟩)
  · exact .inr (.inr ⟨cmpQ_gt h, h⟩)
theorem cmpQ_swap (p q : Rat) : cmpQ q p = -cmpQ p q := by
  rcases cmpQ_ways p q with ⟨h, hl⟩ | ⟨h, rfl⟩ | ⟨h, hl⟩
  · rw [h, cmpQ_gt hl]; rfl
  · rw [h]; rfl
  · rw [h, cmpQ_lt hl]
theorem cmpQ_mono {p q r s : Rat} (h1 : p < q → r < s) (h2 : p = q → r = s) (h3 : q < p → s < r) : cmpQ r s = cmpQ p q := by
  rcases cmpQ_ways p q with ⟨h, hl⟩ | ⟨h, hl⟩ | ⟨h, hl⟩
  · rw [h, cmpQ_lt (h1 hl)]
  · rw [h, h2 hl, cmpQ_same]
  · rw [h, cmpQ_gt (h3 hl)]
theorem cmpQ_add (p q t : Rat) : cmpQ (p + t) (q + t) = cmpQ p q := cmpQ_mono (fun h => Rat.add_lt_add_right.2 h) (fun h => by rw [h]) (fun h => Rat.add_lt_add_right.2 h)
theorem cmpQ_sub (p q : Rat) : cmpQ (p - q) 0 = cmpQ p q := by
  have e : (0 : Rat) = q - q := by rw [Rat.sub_eq_add_neg, Rat.add_neg_cancel]
  rw [e, Rat.sub_eq_add_neg, Rat.sub_eq_add_neg]
  exact cmpQ_add p q (-q)
theorem neg_mul_lt {p q t : Rat} (h : p < q) (ht : t < 0) : q * t < p * t := by
  have h0 : 0 < -t := by
    have := Rat.neg_lt_neg ht
    rwa [Rat.neg_zero] at this
  have h1 := Rat.mul_lt_mul_of_pos_right h h0
  rw [Rat.mul_neg, Rat.mul_neg] at h1
  exact Rat.neg_lt_neg_iff.1 h1
theorem cmpQ_mul (p q t : Rat) : cmpQ (p * t) (q * t) = cmpQ p q * cmpQ t 0 := by
  rcases cmpQ_ways t 0 with ⟨h, hl⟩ | ⟨h, rfl⟩ | ⟨h, hl⟩
  · rw [h, show cmpQ p q * -1 = cmpQ q p by rw [cmpQ_swap p q]; omega]
    exact cmpQ_mono (fun x => neg_mul_lt x hl) (fun x => by rw [x]) (fun x => neg_mul_lt x hl)
  · rw [h, Rat.mul_zero, Rat.mul_zero, cmpQ_same, Int.mul_zero]
  · rw [h, Int.mul_one]
    exact cmpQ_mono (fun x => Rat.mul_lt_mul_of_pos_right x hl) (fun x => by rw [x]) (fun x => Rat.mul_lt_mul_of_pos_right x hl)
theorem cmp_in3 (p q : Rat) : cmpQ p q = -1 ∨ cmpQ p q = 0 ∨ cmpQ p q = 1 := by
  rcases cmpQ_ways p q with h | h | h
  · exact .inl h.1
  · exact .inr (.inl h.1)
  · exact .inr (.inr h.1)
theorem cmp_eq0 {p q : Rat} (h : cmpQ p q = 0) : p = q := by
  rcases cmpQ_ways p q with ⟨h1, _⟩ | ⟨_, h2⟩ | ⟨h1, _⟩
  · omega
  · exact h2
  · omega
theorem cmp_le {p q : Rat} : cmpQ p q ≤ 0 ↔ p ≤ q := by
  rcases cmpQ_ways p q with ⟨h, hl⟩ | ⟨h, rfl⟩ | ⟨h, hl⟩
  · exact ⟨fun _ => Rat.le_iff_lt_or_eq.2 (.inl hl), fun _ => by omega⟩
  · exact ⟨fun _ => Rat.le_refl, fun _ => by omega⟩
  · exact ⟨fun x => by omega, fun x => absurd hl (Rat.not_lt.2 x)⟩
theorem cmp_lt0 {p q : Rat} : cmpQ p q < 0 ↔ p < q := by
  rcases cmpQ_ways p q with ⟨h, hl⟩ | ⟨h, rfl⟩ | ⟨h, hl⟩
  · exact ⟨fun _ => hl, fun _ => by omega⟩
  · exact ⟨fun x => by omega, fun x => absurd x Rat.lt_irrefl⟩
  · exact ⟨fun x => by omega, fun x => absurd hl (rat_asymm x)⟩
theorem cmp_trans1 {p q r : Rat} (h1 : cmpQ p q ≤ 0) (h2 : cmpQ q r ≤ 0) : cmpQ p r ≤ 0 := cmp_le.2 (Rat.le_trans (cmp_le.1 h1) (cmp_le.1 h2))
theorem cmp_trans2 {p q r : Rat} (h1 : cmpQ p q ≤ 0) (h2 : cmpQ q r < 0) : cmpQ p r < 0 := by
  refine cmp_lt0.2 ?_
  have a := cmp_le.1 h1
  have b := cmp_lt0.1 h2
  refine Rat.not_le.1 fun h => ?_
  exact Rat.not_le.2 b (Rat.le_trans h a)
def CmC (o1 o2 : Option Rat) (k : Int) : Prop := ∀ W : World, Calls Tryz.prog 32 #[.agg #[.string (sn o1), .string (sd o1)], .agg #[.string (sn o2), .string (sd o2)]] W fun e W' => e = .returned (.int .i64 k) ∧ Below W.heap.size W W'
theorem CmC.run {o1 o2 : Option Rat} {k : Int} (h : CmC o1 o2 k) (W : World) : Calls Tryz.prog 32 #[.agg #[.string (sn o1), .string (sd o1)], .agg #[.string (sn o2), .string (sd o2)]] W fun e W' => e = .returned (.int .i64 k) ∧ Below W.heap.size W W' := h W
def CmZ (o : Option Rat) (k : Int) : Prop := ∀ W : World, Calls Tryz.prog 32 #[.agg #[.string (sn o), .string (sd o)], .agg #[.string ⟨#[48]⟩, .string ⟨#[49]⟩]] W fun e W' => e = .returned (.int .i64 k) ∧ Below W.heap.size W W'
theorem CmZ.run {o : Option Rat} {k : Int} (h : CmZ o k) (W : World) : Calls Tryz.prog 32 #[.agg #[.string (sn o), .string (sd o)], .agg #[.string ⟨#[48]⟩, .string ⟨#[49]⟩]] W fun e W' => e = .returned (.int .i64 k) ∧ Below W.heap.size W W' := h W
theorem cmC_q {p q : Rat} (hp : FitQ p) (hq : FitQ q) : CmC (some p) (some q) (cmpQ p q) := fun W => Compare_q hp hq W
theorem fitQ0 : FitQ 0 := ⟨fits0, fits1⟩
theorem cmZ_q {p : Rat} (hp : FitQ p) : CmZ (some p) (cmpQ p 0) := fun W => by
  have := Compare_q hp fitQ0 W
  rw [show rq 0 = .agg #[.string ⟨#[48]⟩, .string ⟨#[49]⟩] from by
    rw [rq, rv, show (0 : Rat).num = 0 from rfl, show (((0 : Rat).den : Nat) : Int) = 1 from rfl, txt_0, txt_1]] at this
  exact this
/-- what the law asks of three fractions and a small one -/
theorem order_facts (a b c t : Option Rat) (ha : InO a) (hb : InO b) (hc : InO c) (ht : InO t) :
    ∃ (ab bc ac ct : Int) (d p q p2 q2 : Option Rat),
    CmC a b ab ∧ CmC b c bc ∧ CmC a c ac ∧ CmC b a (-ab) ∧ CmC a a 0 ∧ CmZ t ct ∧
    OpCl 29 a b d ∧ OpCl 28 a t p ∧ OpCl 28 b t q ∧ OpCl 30 a t p2 ∧ OpCl 30 b t q2 ∧
    (ab = -1 ∨ ab = 0 ∨ ab = 1) ∧ (bc = -1 ∨ bc = 0 ∨ bc = 1) ∧ (ct = -1 ∨ ct = 0 ∨ ct = 1) ∧
    (ab = 0 → a = b) ∧ (ab ≠ 0 → ¬ ((sn a).toList = (sn b).toList ∧ (sd a).toList = (sd b).toList)) ∧
    (ab ≤ 0 → bc ≤ 0 → ac ≤ 0) ∧ (ab ≤ 0 → bc < 0 → ac < 0) ∧
    (cd d = 0 → CmZ d ab) ∧ (cd p = 0 → cd q = 0 → CmC p q ab) ∧ (cd p2 = 0 → cd q2 = 0 → CmC p2 q2 (ab * ct)) := by
  have fa := ha.fit
  have fb := hb.fit
  have ft := ht.fit
  obtain ⟨A, rfl, hA⟩ := ha.ex
  obtain ⟨B, rfl, hB⟩ := hb.ex
  obtain ⟨C, rfl, hC⟩ := hc.ex
  obtain ⟨T, rfl, hT⟩ := ht.ex
  have inj : ∀ a b : ByteArray, a.toList = b.toList → a = b := fun a b h => by
    have := str_eq a b
    rw [h] at this
    simpa using this.symm
  have hba := cmC_q hB hA
  rw [cmpQ_swap A B] at hba
  have haa := cmC_q hA hA
  rw [cmpQ_same] at haa
  refine ⟨cmpQ A B, cmpQ B C, cmpQ A C, cmpQ T 0, _, _, _, _, _, cmC_q hA hB, cmC_q hB hC, cmC_q hA hC, hba, haa, cmZ_q hT, subO fa fb, addO fa ft, addO fb ft, mulO fa ft, mulO fb ft, cmp_in3 A B, cmp_in3 B C, cmp_in3 T 0, fun h => by rw [cmp_eq0 h], ?_, cmp_trans1, cmp_trans2, ?_, ?_, ?_⟩
  · intro hne ⟨e1, e2⟩
    have : A = B := txtQ_inj (Prod.ext (inj _ _ e1) (inj _ _ e2))
    exact hne (by rw [this, cmpQ_same])
  · intro h
    obtain ⟨x, hx⟩ := cd_some h
    rw [hx, ← cmpQ_sub A B, ← subQ_eq (p := A) (q := B) hx]
    exact cmZ_q (FitQ.subQ (p := A) (q := B) hx)
  · intro h1 h2
    obtain ⟨x, hx⟩ := cd_some h1
    obtain ⟨y, hy⟩ := cd_some h2
    rw [hx, hy, ← cmpQ_add A B T, ← addQ_eq (p := A) (q := T) hx, ← addQ_eq (p := B) (q := T) hy]
    exact cmC_q (FitQ.addQ (p := A) (q := T) hx) (FitQ.addQ (p := B) (q := T) hy)
  · intro h1 h2
    obtain ⟨x, hx⟩ := cd_some h1
    obtain ⟨y, hy⟩ := cd_some h2
    rw [hx, hy, ← cmpQ_mul A B T, ← mulQ_eq (p := A) (q := T) hx, ← mulQ_eq (p := B) (q := T) hy]
    exact cmC_q (FitQ.mulQ (p := A) (q := T) hx) (FitQ.mulQ (p := B) (q := T) hy)
end Rt
end Go.Proofs.YtbfonkabmehlmaaGreatDoor
namespace Go.Proofs.YtbfonkabmehlmaaGreatDoor
set_option maxRecDepth 1000000
namespace Rt
open Go.RowKit Go.Proofs.YtbfonkabmehlmaaGreatDoor.Nm
open N10 (Two)

/-- ten to the power k, written out -/
def T10 (k : Nat) : ByteArray := txt ((10 ^ k : Nat) : Int)
theorem T10_zero : T10 0 = ⟨#[49]⟩ := by decide +kernel
theorem T10_succ (k : Nat) : T10 k ++ ⟨#[48]⟩ = T10 (k + 1) := by
  have hp : ∀ k, 0 < 10 ^ k := fun k => Nat.pow_pos (by decide)
  have h0 : ∀ k, txt ((10 ^ k : Nat) : Int) = ba (decN (10 ^ k)) := fun k => by
    have := hp k
    rw [txt, if_neg (by omega), if_neg (by omega), Int.natAbs_natCast]
  have hd : decN (10 ^ (k + 1)) = decN (10 ^ k) ++ [48] := by
    have h1 := hp k
    have h2 : 10 ^ (k + 1) = 10 ^ k * 10 := Nat.pow_succ ..
    rw [decN_pos (by omega), h2, Nat.mul_div_cancel _ (by decide), Nat.mul_mod_left]
  rw [T10, T10, h0, h0, hd, ba_append]; rfl
theorem T10_size (k : Nat) : (T10 k).size = k + 1 := by
  induction k with
  | zero => rw [T10_zero]; rfl
  | succ k ih => rw [← T10_succ, ByteArray.size_append, ih]; rfl
theorem cmpZ_scale {k x y : Int} (hk : 0 < k) : cmpZ (k * x) (k * y) = cmpZ x y := by
  have h1 : k * x < k * y ↔ x < y := ⟨fun h => Int.lt_of_mul_lt_mul_left h (Int.le_of_lt hk), fun h => Int.mul_lt_mul_of_pos_left h hk⟩
  have h2 : k * x = k * y ↔ x = y := ⟨fun h => Int.eq_of_mul_eq_mul_left (by omega) h, fun h => by rw [h]⟩
  unfold cmpZ
  by_cases a : x < y
  · rw [if_pos a, if_pos (h1.2 a)]
  · by_cases b : x = y
    · rw [if_neg a, if_neg (fun h => a (h1.1 h)), if_pos b, if_pos (h2.2 b)]
    · rw [if_neg a, if_neg (fun h => a (h1.1 h)), if_neg b, if_neg (fun h => b (h2.1 h))]
theorem div_cross {x y : Int} (h0 : y ≠ 0) : (Rat.divInt x y).num * y = x * ((Rat.divInt x y).den : Int) := by
  have h := Rat.num_divInt_den (Rat.divInt x y)
  exact (Rat.divInt_eq_divInt_iff (den_ne _) h0).1 h
theorem cmpQ_div {n d m c : Int} (hd : 0 < d) (hc : 0 < c) : cmpQ (Rat.divInt n d) (Rat.divInt m c) = cmpZ (n * c) (m * d) := by
  have e1 := div_cross (x := n) (y := d) (by omega)
  have e2 := div_cross (x := m) (y := c) (by omega)
  have p1 : 0 < ((Rat.divInt n d).den : Int) := by have := (Rat.divInt n d).den_pos; omega
  have p2 : 0 < ((Rat.divInt m c).den : Int) := by have := (Rat.divInt m c).den_pos; omega
  rw [cmpQ]
  generalize (Rat.divInt n d).num = a at *
  generalize (Rat.divInt m c).num = b at *
  generalize ((Rat.divInt n d).den : Int) = u at *
  generalize ((Rat.divInt m c).den : Int) = v at *
  rw [← cmpZ_scale (Int.mul_pos hd hc) (x := a * v), ← cmpZ_scale (Int.mul_pos p1 p2) (x := n * c)]
  congr 1
  · have : d * c * (a * v) = (a * d) * (c * v) := by grind
    rw [this, e1]; grind
  · have : d * c * (b * u) = (b * c) * (d * u) := by grind
    rw [this, e2]; grind
theorem upI_neg (x y : Int) (hy : 0 < y) : upI x y = -((-x) / y) := by
  have e := Int.mul_ediv_add_emod x y
  have l1 := Int.emod_nonneg x (show y ≠ 0 by omega)
  have l2 := Int.emod_lt_of_pos x hy
  rw [upI]
  generalize x / y = m at *
  generalize x % y = s at *
  by_cases h : s = 0
  · rw [if_pos h]
    have : -x = y * (-m) := by rw [Int.mul_neg]; omega
    rw [this, Int.mul_ediv_cancel_left _ (by omega)]; omega
  · rw [if_neg h]
    have hu : (-x) / y = -m - 1 ∧ (-x) % y = y - s := (Int.ediv_emod_unique hy).2 ⟨by rw [Int.mul_sub, Int.mul_neg]; omega, by omega, by omega⟩
    rw [hu.1]; omega
theorem upI_natAbs (x y : Int) (hy : 0 < y) : (upI x y).natAbs ≤ x.natAbs := by
  rw [upI_neg x y hy, Int.natAbs_neg]
  exact Nat.le_trans (Int.natAbs_ediv_le_natAbs _ _) (by rw [Int.natAbs_neg]; exact Nat.le_refl _)
theorem fits_pr {x y : Int} {i j : Nat} (hx : x.natAbs ≤ 10 ^ i) (hy : y.natAbs ≤ 10 ^ j) (h : i + j < 200) : Fits (x * y) := by
  refine fits_small ?_
  rw [Int.natAbs_mul]
  exact Nat.lt_of_le_of_lt (Nat.le_trans (Nat.mul_le_mul hx hy) (by rw [← Nat.pow_add]; exact Nat.le_refl _)) (Nat.pow_lt_pow_right (by decide) h)
theorem div_bds {x y : Int} (h0 : y ≠ 0) : (Rat.divInt x y).num.natAbs ≤ x.natAbs ∧ (Rat.divInt x y).den ≤ y.natAbs := by
  rw [Rat.num_divInt, Rat.den_divInt, if_neg h0]
  refine ⟨Nat.le_trans (Int.natAbs_ediv_le_natAbs _ _) ?_, Nat.div_le_self _ _⟩
  rw [Int.natAbs_mul]
  rcases Int.lt_trichotomy y 0 with h | h | h
  · rw [Int.sign_eq_neg_one_of_neg h]; simp
  · omega
  · rw [Int.sign_eq_one_of_pos h]; simp
/-- a number on the grid is rounded to itself -/
theorem grid_self (m : Int) (c : Nat) (hc : c ≤ 30) (hm : m.natAbs ≤ 10 ^ 130) : downQ (Rat.divInt m (10 ^ c)) c = some (Rat.divInt m (10 ^ c)) ∧ upQ (Rat.divInt m (10 ^ c)) c = some (Rat.divInt m (10 ^ c)) := by
  have hP : ((10 : Int) ^ c) ≠ 0 := pow_ne c
  have hb := div_bds (x := m) hP
  have hx := div_cross (x := m) hP
  have hPb : ((10 : Int) ^ c).natAbs ≤ 10 ^ 30 := by
    rw [Int.natAbs_pow]; exact Nat.pow_le_pow_right (by decide) hc
  have f1 : Fits ((Rat.divInt m (10 ^ c)).num * 10 ^ c) := fits_pr (i := 130) (j := 30) (Nat.le_trans hb.1 hm) hPb (by decide)
  have hd := (Rat.divInt m (10 ^ c)).den_pos
  have hmf : Fits m := fits_small (Nat.lt_of_le_of_lt hm (Nat.pow_lt_pow_right (by decide) (by decide)))
  constructor
  · rw [downQ, if_pos f1, hx, Int.mul_ediv_cancel _ (by omega)]
  · have hu : upI (m * ((Rat.divInt m (10 ^ c)).den : Int)) ((Rat.divInt m (10 ^ c)).den : Int) = m := by
      rw [upI, if_pos (Int.mul_emod_left _ _), Int.mul_ediv_cancel _ (by omega)]
    rw [upQ, hx, hu, if_pos ⟨by rw [← hx]; exact f1, hmf⟩]
end Rt
end Go.Proofs.YtbfonkabmehlmaaGreatDoor
namespace Go.Proofs.YtbfonkabmehlmaaGreatDoor
set_option maxRecDepth 1000000
namespace Rt
open Go.RowKit Go.Proofs.YtbfonkabmehlmaaGreatDoor.Nm
open N10 (Two)

theorem subQ0 {q : Rat} (h : FitQ q) : subQ 0 q = some (-q) := by
  have h1 : Fits ((0 : Rat).num * q.den) := by rw [show (0 : Rat).num = 0 from rfl, Int.zero_mul]; exact fits0
  have h2 : q.num * (((0 : Rat).den : Nat) : Int) = q.num := Int.mul_one _
  rw [subQ, if_pos]
  · rw [Rat.sub_eq_add_neg, Rat.zero_add]
  · refine ⟨h1, by rw [h2]; exact h.1, ?_, ?_⟩
    · rw [h2, show (0 : Rat).num * (q.den : Int) = 0 by rw [show (0 : Rat).num = 0 from rfl, Int.zero_mul], Int.zero_sub]; exact fits_neg h.1
    · rw [show (((0 : Rat).den : Nat) : Int) = 1 from rfl, Int.one_mul]; exact h.2
theorem fit_neg {q : Rat} (h : FitQ q) : FitQ (-q) := ⟨by rw [Rat.neg_num]; exact fits_neg h.1, by rw [Rat.neg_den]; exact h.2⟩
theorem rq0 : rq 0 = .agg #[.string ⟨#[48]⟩, .string ⟨#[49]⟩] := by
  rw [rq, rv, show (0 : Rat).num = 0 from rfl, show (((0 : Rat).den : Nat) : Int) = 1 from rfl, txt_0, txt_1]
theorem downO {q r : Rat} {c : Nat} (hq : FitQ q) (hc : c ≤ 30) (h : downQ q c = some r) : Two 96 #[rq q, .int .i64 (c : Int)] (.tuple #[.agg #[.string (txt r.num), .string (txt (r.den : Int))], .int .i64 0]) := fun W => by
  have := Down_all (txt q.num) (txt (q.den : Int)) hq.size.1 hq.size.2 (c : Int) W
  rw [downR_q hq c hc, h] at this
  exact this
theorem upO {q r : Rat} {c : Nat} (hq : FitQ q) (hc : c ≤ 30) (h : upQ q c = some r) : Two 97 #[rq q, .int .i64 (c : Int)] (.tuple #[.agg #[.string (txt r.num), .string (txt (r.den : Int))], .int .i64 0]) := fun W => by
  have := Up_all (txt q.num) (txt (q.den : Int)) hq.size.1 hq.size.2 (c : Int) W
  rw [upR_q hq c hc, h] at this
  exact this
end Rt
end Go.Proofs.YtbfonkabmehlmaaGreatDoor
namespace Go.Proofs.YtbfonkabmehlmaaGreatDoor
set_option maxRecDepth 1000000
namespace Rt
open Go.RowKit Go.Proofs.YtbfonkabmehlmaaGreatDoor.Nm
open N10 (Two)

theorem T10_int (c : Nat) : T10 c = txt ((10 : Int) ^ c) := by
  rw [T10]; congr 1
theorem pow_big (c : Nat) (hc : c ≤ 30) : ((10 : Int) ^ c).natAbs ≤ 10 ^ 30 ∧ 0 < (10 : Int) ^ c := by
  refine ⟨?_, Int.pow_pos (by decide)⟩
  rw [Int.natAbs_pow]; exact Nat.pow_le_pow_right (by decide) hc
theorem divInt_P1 {P : Int} (hP : 0 < P) : (Rat.divInt 1 P).num = 1 ∧ ((Rat.divInt 1 P).den : Int) = P := by
  rw [Rat.num_divInt, Rat.den_divInt, if_neg (by omega), Int.sign_eq_one_of_pos hP, Int.gcd_one]
  refine ⟨rfl, ?_⟩
  rw [Nat.div_one]; omega
theorem grid_mul (k : Int) {P : Int} (hP : 0 < P) : Rat.divInt k P * (P : Rat) = (k : Rat) := by
  have e1 : ((P : Int) : Rat) = Rat.divInt P 1 := (Rat.num_divInt_den (P : Rat)).symm
  have e2 : ((k : Int) : Rat) = Rat.divInt k 1 := (Rat.num_divInt_den (k : Rat)).symm
  rw [e1, e2, Rat.divInt_mul_divInt, Int.mul_comm P 1, Rat.divInt_mul_right (by omega)]
theorem grid_sub (u k : Int) {P : Int} (hP : 0 < P) : Rat.divInt u P - Rat.divInt k P = Rat.divInt (u - k) P := by
  rw [Rat.divInt_sub_divInt _ _ (by omega) (by omega), ← Int.sub_mul, Rat.divInt_mul_right (by omega)]
end Rt
end Go.Proofs.YtbfonkabmehlmaaGreatDoor
