/-
  The order of fractions; the facts of the law RationalOrder.
-/
import Derived.Test.YtofcihnihpfljaaGreatQz
namespace Go.Proofs.YtofcihnihpfljaaGreat
set_option maxRecDepth 1000000
namespace Rt
open Go.RowKit Go.Proofs.YtofcihnihpfljaaGreat.Nm
open N10 (Two)

theorem cmpQ_lt {p q : Rat} (h : p < q) : cmpQ p q = -1 := by rw [cmpQ, cmpZ, if_pos ((Rat.lt_iff p q).1 h)]
theorem cmpQ_gt {p q : Rat} (h : q < p) : cmpQ p q = 1 := by
  have := (Rat.lt_iff q p).1 h
  rw [cmpQ, cmpZ, if_neg (by omega), if_neg (by omega)]
theorem rat_tri (p q : Rat) : p < q ∨ p = q ∨ q < p := by
  by_cases h : p < q
  · exact .inl h
  · have h1 := Rat.not_lt.1 h
    by_cases h2 : q < p
    · exact .inr (.inr h2)
    · exact .inr (.inl (Rat.le_antisymm (Rat.not_lt.1 h2) h1))
theorem rat_asymm {p q : Rat} (h : p < q) : ¬ q < p := fun h2 => Rat.not_le.2 h2 (Rat.le_iff_lt_or_eq.2 (.inl h))
/-- the sign of the order, and what it says -/
theorem cmpQ_ways (p q : Rat) : (cmpQ p q = -1 ∧ p < q) ∨ (cmpQ p q = 0 ∧ p = q) ∨ (cmpQ p q = 1 ∧ q < p) := by
  rcases rat_tri p q with h | h | h
  · exact .inl ⟨cmpQ_lt h, h⟩
  · exact .inr (.inl ⟨by rw [h, cmpQ_same], h⟩)
  · exact .inr (.inr ⟨cmpQ_gt h, h⟩)
theorem cmpQ_swap (p q : Rat) : cmpQ q p = -cmpQ p q := by
  rcases cmpQ_ways p q with ⟨h, hl⟩ | ⟨h, rfl⟩ | ⟨h, hl⟩
  · rw [h, cmpQ_gt hl]; rfl
  · rw [h]; rfl
  · rw [h, cmpQ_lt hl]
theorem cmpQ_mono {p q r s : Rat} (h1 : p < q → r < s) (h2 : p = q → r = s) (h3 : q < p → s < r) : cmpQ r s = cmpQ p q := by
  rcases cmpQ_ways p q with ⟨h, hl⟩ | ⟨h, hl⟩ | ⟨h, hl⟩
  · rw [h, cmpQ_lt (h1 hl)]
  · rw [h, h2 hl, cmpQ_same]
  · rw [h, cmpQ_gt (h3 hl)]
theorem cmpQ_add (p q t : Rat) : cmpQ (p + t) (q + t) = cmpQ p q := cmpQ_mono (fun h => Rat.add_lt_add_right.2 h) (fun h => by rw [h]) (fun h => Rat.add_lt_add_right.2 h)
theorem cmpQ_sub (p q : Rat) : cmpQ (p - q) 0 = cmpQ p q := by
  have e : (0 : Rat) = q - q := by rw [Rat.sub_eq_add_neg, Rat.add_neg_cancel]
  rw [e, Rat.sub_eq_add_neg, Rat.sub_eq_add_neg]
  exact cmpQ_add p q (-q)
theorem neg_mul_lt {p q t : Rat} (h : p < q) (ht : t < 0) : q * t < p * t := by
  have h0 : 0 < -t := by
    have := Rat.neg_lt_neg ht
    rwa [Rat.neg_zero] at this
  have h1 := Rat.mul_lt_mul_of_pos_right h h0
  rw [Rat.mul_neg, Rat.mul_neg] at h1
  exact Rat.neg_lt_neg_iff.1 h1
theorem cmpQ_mul (p q t : Rat) : cmpQ (p * t) (q * t) = cmpQ p q * cmpQ t 0 := by
  rcases cmpQ_ways t 0 with ⟨h, hl⟩ | ⟨h, rfl⟩ | ⟨h, hl⟩
  · rw [h, show cmpQ p q * -1 = cmpQ q p by rw [cmpQ_swap p q]; omega]
    exact cmpQ_mono (fun x => neg_mul_lt x hl) (fun x => by rw [x]) (fun x => neg_mul_lt x hl)
  · rw [h, Rat.mul_zero, Rat.mul_zero, cmpQ_same, Int.mul_zero]
  · rw [h, Int.mul_one]
    exact cmpQ_mono (fun x => Rat.mul_lt_mul_of_pos_right x hl) (fun x => by rw [x]) (fun x => Rat.mul_lt_mul_of_pos_right x hl)
theorem cmp_in3 (p q : Rat) : cmpQ p q = -1 ∨ cmpQ p q = 0 ∨ cmpQ p q = 1 := by
  rcases cmpQ_ways p q with h | h | h
  · exact .inl h.1
  · exact .inr (.inl h.1)
  · exact .inr (.inr h.1)
theorem cmp_eq0 {p q : Rat} (h : cmpQ p q = 0) : p = q := by
  rcases cmpQ_ways p q with ⟨h1, _⟩ | ⟨_, h2⟩ | ⟨h1, _⟩
  · omega
  · exact h2
  · omega
theorem cmp_le {p q : Rat} : cmpQ p q ≤ 0 ↔ p ≤ q := by
  rcases cmpQ_ways p q with ⟨h, hl⟩ | ⟨h, rfl⟩ | ⟨h, hl⟩
  · exact ⟨fun _ => Rat.le_iff_lt_or_eq.2 (.inl hl), fun _ => by omega⟩
  · exact ⟨fun _ => Rat.le_refl, fun _ => by omega⟩
  · exact ⟨fun x => by omega, fun x => absurd hl (Rat.not_lt.2 x)⟩
theorem cmp_lt0 {p q : Rat} : cmpQ p q < 0 ↔ p < q := by
  rcases cmpQ_ways p q with ⟨h, hl⟩ | ⟨h, rfl⟩ | ⟨h, hl⟩
  · exact ⟨fun _ => hl, fun _ => by omega⟩
  · exact ⟨fun x => by omega, fun x => absurd x Rat.lt_irrefl⟩
  · exact ⟨fun x => by omega, fun x => absurd hl (rat_asymm x)⟩
theorem cmp_trans1 {p q r : Rat} (h1 : cmpQ p q ≤ 0) (h2 : cmpQ q r ≤ 0) : cmpQ p r ≤ 0 := cmp_le.2 (Rat.le_trans (cmp_le.1 h1) (cmp_le.1 h2))
theorem cmp_trans2 {p q r : Rat} (h1 : cmpQ p q ≤ 0) (h2 : cmpQ q r < 0) : cmpQ p r < 0 := by
  refine cmp_lt0.2 ?_
  have a := cmp_le.1 h1
  have b := cmp_lt0.1 h2
  refine Rat.not_le.1 fun h => ?_
  exact Rat.not_le.2 b (Rat.le_trans h a)
def CmC (o1 o2 : Option Rat) (k : Int) : Prop := ∀ W : World, Calls Tryz.prog 19 #[.agg #[.string (sn o1), .string (sd o1)], .agg #[.string (sn o2), .string (sd o2)]] W fun e W' => e = .returned (.int .i64 k) ∧ Below W.heap.size W W'
theorem CmC.run {o1 o2 : Option Rat} {k : Int} (h : CmC o1 o2 k) (W : World) : Calls Tryz.prog 19 #[.agg #[.string (sn o1), .string (sd o1)], .agg #[.string (sn o2), .string (sd o2)]] W fun e W' => e = .returned (.int .i64 k) ∧ Below W.heap.size W W' := h W
def CmZ (o : Option Rat) (k : Int) : Prop := ∀ W : World, Calls Tryz.prog 19 #[.agg #[.string (sn o), .string (sd o)], .agg #[.string ⟨#[48]⟩, .string ⟨#[49]⟩]] W fun e W' => e = .returned (.int .i64 k) ∧ Below W.heap.size W W'
theorem CmZ.run {o : Option Rat} {k : Int} (h : CmZ o k) (W : World) : Calls Tryz.prog 19 #[.agg #[.string (sn o), .string (sd o)], .agg #[.string ⟨#[48]⟩, .string ⟨#[49]⟩]] W fun e W' => e = .returned (.int .i64 k) ∧ Below W.heap.size W W' := h W
theorem cmC_q {p q : Rat} (hp : FitQ p) (hq : FitQ q) : CmC (some p) (some q) (cmpQ p q) := fun W => Compare_q hp hq W
theorem fitQ0 : FitQ 0 := ⟨fits0, fits1⟩
theorem cmZ_q {p : Rat} (hp : FitQ p) : CmZ (some p) (cmpQ p 0) := fun W => by
  have := Compare_q hp fitQ0 W
  rw [show rq 0 = .agg #[.string ⟨#[48]⟩, .string ⟨#[49]⟩] from by
    rw [rq, rv, show (0 : Rat).num = 0 from rfl, show (((0 : Rat).den : Nat) : Int) = 1 from rfl, txt_0, txt_1]] at this
  exact this
/-- what the law asks of three fractions and a small one -/
theorem order_facts (a b c t : Option Rat) (ha : InO a) (hb : InO b) (hc : InO c) (ht : InO t) :
    ∃ (ab bc ac ct : Int) (d p q p2 q2 : Option Rat),
    CmC a b ab ∧ CmC b c bc ∧ CmC a c ac ∧ CmC b a (-ab) ∧ CmC a a 0 ∧ CmZ t ct ∧
    OpCl 39 a b d ∧ OpCl 37 a t p ∧ OpCl 37 b t q ∧ OpCl 38 a t p2 ∧ OpCl 38 b t q2 ∧
    (ab = -1 ∨ ab = 0 ∨ ab = 1) ∧ (bc = -1 ∨ bc = 0 ∨ bc = 1) ∧ (ct = -1 ∨ ct = 0 ∨ ct = 1) ∧
    (ab = 0 → a = b) ∧ (ab ≠ 0 → ¬ ((sn a).toList = (sn b).toList ∧ (sd a).toList = (sd b).toList)) ∧
    (ab ≤ 0 → bc ≤ 0 → ac ≤ 0) ∧ (ab ≤ 0 → bc < 0 → ac < 0) ∧
    (cd d = 0 → CmZ d ab) ∧ (cd p = 0 → cd q = 0 → CmC p q ab) ∧ (cd p2 = 0 → cd q2 = 0 → CmC p2 q2 (ab * ct)) := by
  have fa := ha.fit
  have fb := hb.fit
  have ft := ht.fit
  obtain ⟨A, rfl, hA⟩ := ha.ex
  obtain ⟨B, rfl, hB⟩ := hb.ex
  obtain ⟨C, rfl, hC⟩ := hc.ex
  obtain ⟨T, rfl, hT⟩ := ht.ex
  have inj : ∀ a b : ByteArray, a.toList = b.toList → a = b := fun a b h => by
    have := str_eq a b
    rw [h] at this
    simpa using this.symm
  have hba := cmC_q hB hA
  rw [cmpQ_swap A B] at hba
  have haa := cmC_q hA hA
  rw [cmpQ_same] at haa
  refine ⟨cmpQ A B, cmpQ B C, cmpQ A C, cmpQ T 0, _, _, _, _, _, cmC_q hA hB, cmC_q hB hC, cmC_q hA hC, hba, haa, cmZ_q hT, subO fa fb, addO fa ft, addO fb ft, mulO fa ft, mulO fb ft, cmp_in3 A B, cmp_in3 B C, cmp_in3 T 0, fun h => by rw [cmp_eq0 h], ?_, cmp_trans1, cmp_trans2, ?_, ?_, ?_⟩
  · intro hne ⟨e1, e2⟩
    have : A = B := txtQ_inj (Prod.ext (inj _ _ e1) (inj _ _ e2))
    exact hne (by rw [this, cmpQ_same])
  · intro h
    obtain ⟨x, hx⟩ := cd_some h
    rw [hx, ← cmpQ_sub A B, ← subQ_eq (p := A) (q := B) hx]
    exact cmZ_q (FitQ.subQ (p := A) (q := B) hx)
  · intro h1 h2
    obtain ⟨x, hx⟩ := cd_some h1
    obtain ⟨y, hy⟩ := cd_some h2
    rw [hx, hy, ← cmpQ_add A B T, ← addQ_eq (p := A) (q := T) hx, ← addQ_eq (p := B) (q := T) hy]
    exact cmC_q (FitQ.addQ (p := A) (q := T) hx) (FitQ.addQ (p := B) (q := T) hy)
  · intro h1 h2
    obtain ⟨x, hx⟩ := cd_some h1
    obtain ⟨y, hy⟩ := cd_some h2
    rw [hx, hy, ← cmpQ_mul A B T, ← mulQ_eq (p := A) (q := T) hx, ← mulQ_eq (p := B) (q := T) hy]
    exact cmC_q (FitQ.mulQ (p := A) (q := T) hx) (FitQ.mulQ (p := B) (q := T) hy)
end Rt
end Go.Proofs.YtofcihnihpfljaaGreat
