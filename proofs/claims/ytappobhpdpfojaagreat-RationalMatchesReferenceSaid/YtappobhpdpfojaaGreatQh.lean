/-
  The order of fractions; the facts of the laws RationalOrder and RationalGrid.
-/
import Derived.Test.YtappobhpdpfojaaGreatQz
namespace Go.Proofs.YtappobhpdpfojaaGreat
set_option maxRecDepth 1000000
namespace Rt
open Go.RowKit Go.Proofs.YtappobhpdpfojaaGreat.Nm
open N10 (Two)

theorem cmpQ_lt {p q : Rat} (h : p < q) : cmpQ p q = -1 := by rw [cmpQ, cmpZ, if_pos ((Rat.lt_iff p q).1 h)]
theorem cmpQ_gt {p q : Rat} (h : q < p) : cmpQ p q = 1 := by
  have := (Rat.lt_iff q p).1 h
  rw [cmpQ, cmpZ, if_neg (by omega), if_neg (by omega)]
theorem rat_tri (p q : Rat) : p < q ∨ p = q ∨ q < p := by
  by_cases h : p < q
  · exact .inl h
  · have h1 := Rat.not_lt.1 h
    by_cases h2 : q < p
    · exact .inr (.inr h2)
    · exact .inr (.inl (Rat.le_antisymm (Rat.not_lt.1 h2) h1))
theorem rat_asymm {p q : Rat} (h : p < q) : ¬ q < p := fun h2 => Rat.not_le.2 h2 (Rat.le_iff_lt_or_eq.2 (.inl h))
/-- the sign of the order, and what it says -/
theorem cmpQ_ways (p q : Rat) : (cmpQ p q = -1 ∧ p < q) ∨ (cmpQ p q = 0 ∧ p = q) ∨ (cmpQ p q = 1 ∧ q < p) := by
  rcases rat_tri p q with h | h | h
  · exact .inl ⟨cmpQ_lt h, h⟩
  · exact .inr (.inl ⟨by rw [h, cmpQ_same], h⟩)
  · exact .inr (.inr ⟨cmpQ_gt h, h⟩)
theorem cmpQ_swap (p q : Rat) : cmpQ q p = -cmpQ p q := by
  rcases cmpQ_ways p q with ⟨h, hl⟩ | ⟨h, rfl⟩ | ⟨h, hl⟩
  · rw [h, cmpQ_gt hl]; rfl
  · rw [h]; rfl
  · rw [h, cmpQ_lt hl]
theorem cmpQ_mono {p q r s : Rat} (h1 : p < q → r < s) (h2 : p = q → r = s) (h3 : q < p → s < r) : cmpQ r s = cmpQ p q := by
  rcases cmpQ_ways p q with ⟨h, hl⟩ | ⟨h, hl⟩ | ⟨h, hl⟩
  · rw [h, cmpQ_lt (h1 hl)]
  · rw [h, h2 hl, cmpQ_same]
  · rw [h, cmpQ_gt (h3 hl)]
theorem cmpQ_add (p q t : Rat) : cmpQ (p + t) (q + t) = cmpQ p q := cmpQ_mono (fun h => Rat.add_lt_add_right.2 h) (fun h => by rw [h]) (fun h => Rat.add_lt_add_right.2 h)
theorem cmpQ_sub (p q : Rat) : cmpQ (p - q) 0 = cmpQ p q := by
  have e : (0 : Rat) = q - q := by rw [Rat.sub_eq_add_neg, Rat.add_neg_cancel]
  rw [e, Rat.sub_eq_add_neg, Rat.sub_eq_add_neg]
  exact cmpQ_add p q (-q)
theorem neg_mul_lt {p q t : Rat} (h : p < q) (ht : t < 0) : q * t < p * t := by
  have h0 : 0 < -t := by
    have := Rat.neg_lt_neg ht
    rwa [Rat.neg_zero] at this
  have h1 := Rat.mul_lt_mul_of_pos_right h h0
  rw [Rat.mul_neg, Rat.mul_neg] at h1
  exact Rat.neg_lt_neg_iff.1 h1
theorem cmpQ_mul (p q t : Rat) : cmpQ (p * t) (q * t) = cmpQ p q * cmpQ t 0 := by
  rcases cmpQ_ways t 0 with ⟨h, hl⟩ | ⟨h, rfl⟩ | ⟨h, hl⟩
  · rw [h, show cmpQ p q * -1 = cmpQ q p by rw [cmpQ_swap p q]; omega]
    exact cmpQ_mono (fun x => neg_mul_lt x hl) (fun x => by rw [x]) (fun x => neg_mul_lt x hl)
  · rw [h, Rat.mul_zero, Rat.mul_zero, cmpQ_same, Int.mul_zero]
  · rw [h, Int.mul_one]
    exact cmpQ_mono (fun x => Rat.mul_lt_mul_of_pos_right x hl) (fun x => by rw [x]) (fun x => Rat.mul_lt_mul_of_pos_right x hl)
theorem cmp_in3 (p q : Rat) : cmpQ p q = -1 ∨ cmpQ p q = 0 ∨ cmpQ p q = 1 := by
  rcases cmpQ_ways p q with h | h | h
  · exact .inl h.1
  · exact .inr (.inl h.1)
  · exact .inr (.inr h.1)
theorem cmp_eq0 {p q : Rat} (h : cmpQ p q = 0) : p = q := by
  rcases cmpQ_ways p q with ⟨h1, _⟩ | ⟨_, h2⟩ | ⟨h1, _⟩
  · omega
  · exact h2
  · omega
theorem cmp_le {p q : Rat} : cmpQ p q ≤ 0 ↔ p ≤ q := by
  rcases cmpQ_ways p q with ⟨h, hl⟩ | ⟨h, rfl⟩ | ⟨h, hl⟩
  · exact ⟨fun _ => Rat.le_iff_lt_or_eq.2 (.inl hl), fun _ => by omega⟩
  · exact ⟨fun _ => Rat.le_refl, fun _ => by omega⟩
  · exact ⟨fun x => by omega, fun x => absurd hl (Rat.not_lt.2 x)⟩
theorem cmp_lt0 {p q : Rat} : cmpQ p q < 0 ↔ p < q := by
  rcases cmpQ_ways p q with ⟨h, hl⟩ | ⟨h, rfl⟩ | ⟨h, hl⟩
  · exact ⟨fun _ => hl, fun _ => by omega⟩
  · exact ⟨fun x => by omega, fun x => absurd x Rat.lt_irrefl⟩
  · exact ⟨fun x => by omega, fun x => absurd hl (rat_asymm x)⟩
theorem cmp_trans1 {p q r : Rat} (h1 : cmpQ p q ≤ 0) (h2 : cmpQ q r ≤ 0) : cmpQ p r ≤ 0 := cmp_le.2 (Rat.le_trans (cmp_le.1 h1) (cmp_le.1 h2))
theorem cmp_trans2 {p q r : Rat} (h1 : cmpQ p q ≤ 0) (h2 : cmpQ q r < 0) : cmpQ p r < 0 := by
  refine cmp_lt0.2 ?_
  have a := cmp_le.1 h1
  have b := cmp_lt0.1 h2
  refine Rat.not_le.1 fun h => ?_
  exact Rat.not_le.2 b (Rat.le_trans h a)
def CmC (o1 o2 : Option Rat) (k : Int) : Prop := ∀ W : World, Calls Tryz.prog 19 #[.agg #[.string (sn o1), .string (sd o1)], .agg #[.string (sn o2), .string (sd o2)]] W fun e W' => e = .returned (.int .i64 k) ∧ Below W.heap.size W W'
theorem CmC.run {o1 o2 : Option Rat} {k : Int} (h : CmC o1 o2 k) (W : World) : Calls Tryz.prog 19 #[.agg #[.string (sn o1), .string (sd o1)], .agg #[.string (sn o2), .string (sd o2)]] W fun e W' => e = .returned (.int .i64 k) ∧ Below W.heap.size W W' := h W
def CmZ (o : Option Rat) (k : Int) : Prop := ∀ W : World, Calls Tryz.prog 19 #[.agg #[.string (sn o), .string (sd o)], .agg #[.string ⟨#[48]⟩, .string ⟨#[49]⟩]] W fun e W' => e = .returned (.int .i64 k) ∧ Below W.heap.size W W'
theorem CmZ.run {o : Option Rat} {k : Int} (h : CmZ o k) (W : World) : Calls Tryz.prog 19 #[.agg #[.string (sn o), .string (sd o)], .agg #[.string ⟨#[48]⟩, .string ⟨#[49]⟩]] W fun e W' => e = .returned (.int .i64 k) ∧ Below W.heap.size W W' := h W
theorem cmC_q {p q : Rat} (hp : FitQ p) (hq : FitQ q) : CmC (some p) (some q) (cmpQ p q) := fun W => Compare_q hp hq W
theorem fitQ0 : FitQ 0 := ⟨fits0, fits1⟩
theorem cmZ_q {p : Rat} (hp : FitQ p) : CmZ (some p) (cmpQ p 0) := fun W => by
  have := Compare_q hp fitQ0 W
  rw [show rq 0 = .agg #[.string ⟨#[48]⟩, .string ⟨#[49]⟩] from by
    rw [rq, rv, show (0 : Rat).num = 0 from rfl, show (((0 : Rat).den : Nat) : Int) = 1 from rfl, txt_0, txt_1]] at this
  exact this
/-- what the law asks of three fractions and a small one -/
theorem order_facts (a b c t : Option Rat) (ha : InO a) (hb : InO b) (hc : InO c) (ht : InO t) :
    ∃ (ab bc ac ct : Int) (d p q p2 q2 : Option Rat),
    CmC a b ab ∧ CmC b c bc ∧ CmC a c ac ∧ CmC b a (-ab) ∧ CmC a a 0 ∧ CmZ t ct ∧
    OpCl 39 a b d ∧ OpCl 37 a t p ∧ OpCl 37 b t q ∧ OpCl 38 a t p2 ∧ OpCl 38 b t q2 ∧
    (ab = -1 ∨ ab = 0 ∨ ab = 1) ∧ (bc = -1 ∨ bc = 0 ∨ bc = 1) ∧ (ct = -1 ∨ ct = 0 ∨ ct = 1) ∧
    (ab = 0 → a = b) ∧ (ab ≠ 0 → ¬ ((sn a).toList = (sn b).toList ∧ (sd a).toList = (sd b).toList)) ∧
    (ab ≤ 0 → bc ≤ 0 → ac ≤ 0) ∧ (ab ≤ 0 → bc < 0 → ac < 0) ∧
    (cd d = 0 → CmZ d ab) ∧ (cd p = 0 → cd q = 0 → CmC p q ab) ∧ (cd p2 = 0 → cd q2 = 0 → CmC p2 q2 (ab * ct)) := by
  have fa := ha.fit
  have fb := hb.fit
  have ft := ht.fit
  obtain ⟨A, rfl, hA⟩ := ha.ex
  obtain ⟨B, rfl, hB⟩ := hb.ex
  obtain ⟨C, rfl, hC⟩ := hc.ex
  obtain ⟨T, rfl, hT⟩ := ht.ex
  have inj : ∀ a b : ByteArray, a.toList = b.toList → a = b := fun a b h => by
    have := str_eq a b
    rw [h] at this
    simpa using this.symm
  have hba := cmC_q hB hA
  rw [cmpQ_swap A B] at hba
  have haa := cmC_q hA hA
  rw [cmpQ_same] at haa
  refine ⟨cmpQ A B, cmpQ B C, cmpQ A C, cmpQ T 0, _, _, _, _, _, cmC_q hA hB, cmC_q hB hC, cmC_q hA hC, hba, haa, cmZ_q hT, subO fa fb, addO fa ft, addO fb ft, mulO fa ft, mulO fb ft, cmp_in3 A B, cmp_in3 B C, cmp_in3 T 0, fun h => by rw [cmp_eq0 h], ?_, cmp_trans1, cmp_trans2, ?_, ?_, ?_⟩
  · intro hne ⟨e1, e2⟩
    have : A = B := txtQ_inj (Prod.ext (inj _ _ e1) (inj _ _ e2))
    exact hne (by rw [this, cmpQ_same])
  · intro h
    obtain ⟨x, hx⟩ := cd_some h
    rw [hx, ← cmpQ_sub A B, ← subQ_eq (p := A) (q := B) hx]
    exact cmZ_q (FitQ.subQ (p := A) (q := B) hx)
  · intro h1 h2
    obtain ⟨x, hx⟩ := cd_some h1
    obtain ⟨y, hy⟩ := cd_some h2
    rw [hx, hy, ← cmpQ_add A B T, ← addQ_eq (p := A) (q := T) hx, ← addQ_eq (p := B) (q := T) hy]
    exact cmC_q (FitQ.addQ (p := A) (q := T) hx) (FitQ.addQ (p := B) (q := T) hy)
  · intro h1 h2
    obtain ⟨x, hx⟩ := cd_some h1
    obtain ⟨y, hy⟩ := cd_some h2
    rw [hx, hy, ← cmpQ_mul A B T, ← mulQ_eq (p := A) (q := T) hx, ← mulQ_eq (p := B) (q := T) hy]
    exact cmC_q (FitQ.mulQ (p := A) (q := T) hx) (FitQ.mulQ (p := B) (q := T) hy)
end Rt
end Go.Proofs.YtappobhpdpfojaaGreat
namespace Go.Proofs.YtappobhpdpfojaaGreat
set_option maxRecDepth 1000000
namespace Rt
open Go.RowKit Go.Proofs.YtappobhpdpfojaaGreat.Nm
open N10 (Two)

/-- ten to the power k, written out -/
def T10 (k : Nat) : ByteArray := txt ((10 ^ k : Nat) : Int)
theorem T10_zero : T10 0 = ⟨#[49]⟩ := by decide +kernel
theorem T10_succ (k : Nat) : T10 k ++ ⟨#[48]⟩ = T10 (k + 1) := by
  have hp : ∀ k, 0 < 10 ^ k := fun k => Nat.pow_pos (by decide)
  have h0 : ∀ k, txt ((10 ^ k : Nat) : Int) = ba (decN (10 ^ k)) := fun k => by
    have := hp k
    rw [txt, if_neg (by omega), if_neg (by omega), Int.natAbs_natCast]
  have hd : decN (10 ^ (k + 1)) = decN (10 ^ k) ++ [48] := by
    have h1 := hp k
    have h2 : 10 ^ (k + 1) = 10 ^ k * 10 := Nat.pow_succ ..
    rw [decN_pos (by omega), h2, Nat.mul_div_cancel _ (by decide), Nat.mul_mod_left]
  rw [T10, T10, h0, h0, hd, ba_append]; rfl
theorem T10_size (k : Nat) : (T10 k).size = k + 1 := by
  induction k with
  | zero => rw [T10_zero]; rfl
  | succ k ih => rw [← T10_succ, ByteArray.size_append, ih]; rfl
theorem cmpZ_scale {k x y : Int} (hk : 0 < k) : cmpZ (k * x) (k * y) = cmpZ x y := by
  have h1 : k * x < k * y ↔ x < y := ⟨fun h => Int.lt_of_mul_lt_mul_left h (Int.le_of_lt hk), fun h => Int.mul_lt_mul_of_pos_left h hk⟩
  have h2 : k * x = k * y ↔ x = y := ⟨fun h => Int.eq_of_mul_eq_mul_left (by omega) h, fun h => by rw [h]⟩
  unfold cmpZ
  by_cases a : x < y
  · rw [if_pos a, if_pos (h1.2 a)]
  · by_cases b : x = y
    · rw [if_neg a, if_neg (fun h => a (h1.1 h)), if_pos b, if_pos (h2.2 b)]
    · rw [if_neg a, if_neg (fun h => a (h1.1 h)), if_neg b, if_neg (fun h => b (h2.1 h))]
theorem div_cross {x y : Int} (h0 : y ≠ 0) : (Rat.divInt x y).num * y = x * ((Rat.divInt x y).den : Int) := by
  have h := Rat.num_divInt_den (Rat.divInt x y)
  exact (Rat.divInt_eq_divInt_iff (den_ne _) h0).1 h
theorem cmpQ_div {n d m c : Int} (hd : 0 < d) (hc : 0 < c) : cmpQ (Rat.divInt n d) (Rat.divInt m c) = cmpZ (n * c) (m * d) := by
  have e1 := div_cross (x := n) (y := d) (by omega)
  have e2 := div_cross (x := m) (y := c) (by omega)
  have p1 : 0 < ((Rat.divInt n d).den : Int) := by have := (Rat.divInt n d).den_pos; omega
  have p2 : 0 < ((Rat.divInt m c).den : Int) := by have := (Rat.divInt m c).den_pos; omega
  rw [cmpQ]
  generalize (Rat.divInt n d).num = a at *
  generalize (Rat.divInt m c).num = b at *
  generalize ((Rat.divInt n d).den : Int) = u at *
  generalize ((Rat.divInt m c).den : Int) = v at *
  rw [← cmpZ_scale (Int.mul_pos hd hc) (x := a * v), ← cmpZ_scale (Int.mul_pos p1 p2) (x := n * c)]
  congr 1
  · have : d * c * (a * v) = (a * d) * (c * v) := by grind
    rw [this, e1]; grind
  · have : d * c * (b * u) = (b * c) * (d * u) := by grind
    rw [this, e2]; grind
theorem upI_neg (x y : Int) (hy : 0 < y) : upI x y = -((-x) / y) := by
  have e := Int.mul_ediv_add_emod x y
  have l1 := Int.emod_nonneg x (show y ≠ 0 by omega)
  have l2 := Int.emod_lt_of_pos x hy
  rw [upI]
  generalize x / y = m at *
  generalize x % y = s at *
  by_cases h : s = 0
  · rw [if_pos h]
    have : -x = y * (-m) := by rw [Int.mul_neg]; omega
    rw [this, Int.mul_ediv_cancel_left _ (by omega)]; omega
  · rw [if_neg h]
    have hu : (-x) / y = -m - 1 ∧ (-x) % y = y - s := (Int.ediv_emod_unique hy).2 ⟨by rw [Int.mul_sub, Int.mul_neg]; omega, by omega, by omega⟩
    rw [hu.1]; omega
theorem upI_natAbs (x y : Int) (hy : 0 < y) : (upI x y).natAbs ≤ x.natAbs := by
  rw [upI_neg x y hy, Int.natAbs_neg]
  exact Nat.le_trans (Int.natAbs_ediv_le_natAbs _ _) (by rw [Int.natAbs_neg]; exact Nat.le_refl _)
theorem fits_pr {x y : Int} {i j : Nat} (hx : x.natAbs ≤ 10 ^ i) (hy : y.natAbs ≤ 10 ^ j) (h : i + j < 200) : Fits (x * y) := by
  refine fits_small ?_
  rw [Int.natAbs_mul]
  exact Nat.lt_of_le_of_lt (Nat.le_trans (Nat.mul_le_mul hx hy) (by rw [← Nat.pow_add]; exact Nat.le_refl _)) (Nat.pow_lt_pow_right (by decide) h)
theorem div_bds {x y : Int} (h0 : y ≠ 0) : (Rat.divInt x y).num.natAbs ≤ x.natAbs ∧ (Rat.divInt x y).den ≤ y.natAbs := by
  rw [Rat.num_divInt, Rat.den_divInt, if_neg h0]
  refine ⟨Nat.le_trans (Int.natAbs_ediv_le_natAbs _ _) ?_, Nat.div_le_self _ _⟩
  rw [Int.natAbs_mul]
  rcases Int.lt_trichotomy y 0 with h | h | h
  · rw [Int.sign_eq_neg_one_of_neg h]; simp
  · omega
  · rw [Int.sign_eq_one_of_pos h]; simp
/-- a number on the grid is rounded to itself -/
theorem grid_self (m : Int) (c : Nat) (hc : c ≤ 30) (hm : m.natAbs ≤ 10 ^ 130) : downQ (Rat.divInt m (10 ^ c)) c = some (Rat.divInt m (10 ^ c)) ∧ upQ (Rat.divInt m (10 ^ c)) c = some (Rat.divInt m (10 ^ c)) := by
  have hP : ((10 : Int) ^ c) ≠ 0 := pow_ne c
  have hb := div_bds (x := m) hP
  have hx := div_cross (x := m) hP
  have hPb : ((10 : Int) ^ c).natAbs ≤ 10 ^ 30 := by
    rw [Int.natAbs_pow]; exact Nat.pow_le_pow_right (by decide) hc
  have f1 : Fits ((Rat.divInt m (10 ^ c)).num * 10 ^ c) := fits_pr (i := 130) (j := 30) (Nat.le_trans hb.1 hm) hPb (by decide)
  have hd := (Rat.divInt m (10 ^ c)).den_pos
  have hmf : Fits m := fits_small (Nat.lt_of_le_of_lt hm (Nat.pow_lt_pow_right (by decide) (by decide)))
  constructor
  · rw [downQ, if_pos f1, hx, Int.mul_ediv_cancel _ (by omega)]
  · have hu : upI (m * ((Rat.divInt m (10 ^ c)).den : Int)) ((Rat.divInt m (10 ^ c)).den : Int) = m := by
      rw [upI, if_pos (Int.mul_emod_left _ _), Int.mul_ediv_cancel _ (by omega)]
    rw [upQ, hx, hu, if_pos ⟨by rw [← hx]; exact f1, hmf⟩]
end Rt
end Go.Proofs.YtappobhpdpfojaaGreat
namespace Go.Proofs.YtappobhpdpfojaaGreat
set_option maxRecDepth 1000000
namespace Rt
open Go.RowKit Go.Proofs.YtappobhpdpfojaaGreat.Nm
open N10 (Two)

set_option maxHeartbeats 2000000 in
theorem minus_walk (s t n d : ByteArray) (hS : Two 39 #[.agg #[.string ⟨#[48]⟩, .string ⟨#[49]⟩], .agg #[.string s, .string t]] (.tuple #[.agg #[.string n, .string d], .int .i64 0])) (w : World) :
    Calls Tryz.prog 41 #[.agg #[.string s, .string t]] w fun e w' => e = .returned (.agg #[.string n, .string d]) ∧ Below w.heap.size w w' := by
  go_enter Tryz.func41, Tryz.ntmps41
  have hx0 := res_old w (.cells #[.string s, .string t] 23) (.cells #[.string ⟨#[]⟩, .string ⟨#[]⟩] 23)
  have hr0 := res_two w (.cells #[.string s, .string t] 23) (.cells #[.string ⟨#[]⟩, .string ⟨#[]⟩] 23)
  have hu0 := ((Below.refl w.heap.size w).alloc (Nat.le_refl _) (.cells #[.string s, .string t] 23)).alloc (by simp) (.cells #[.string ⟨#[]⟩, .string ⟨#[]⟩] 23)
  go_wp2_with fail
  generalize ((w.alloc (.cells #[.string s, .string t] 23)).alloc (.cells #[.string ⟨#[]⟩, .string ⟨#[]⟩] 23)) = W0 at *
  have HU : Shut _ := ⟨hu0⟩
  have hbl := lt_of_block hr0
  obtain ⟨b, hb⟩ : ∃ b, b = w.heap.size := ⟨_, rfl⟩
  have HBW : Shut (w.heap.size ≤ b + 1) := ⟨by omega⟩
  rw [← hb] at hx0 hr0 hbl
  rw [← hb]
  clear hb hu0
  have f1 : b ≠ W0.heap.size := by omega
  have f2 : W0.heap.size ≠ b := by omega
  have f3 : b + 1 ≠ W0.heap.size := by omega
  have x0' := lcell hx0 0 (v := .string s) rfl
  have x1' := lcell hx0 1 (v := .string t) rfl
  go_region_held3 (fun X => X.cell? ⟨b, 0, none⟩ = some (.string s) ∧ X.cell? ⟨b, 1, none⟩ = some (.string t)) (go_keep) (first | (go_at_call 40; go_loud (refine (lis_any _ _ _).mono ?_); rintro e w1 ⟨rfl, hI⟩; first | (have t1 : Below W0.heap.size W0 w1 := lundrew hI; have y0 := lcell (lkeep hx0 t1) 0 (v := .string s) rfl; have y1 := lcell (lkeep hx0 t1) 1 (v := .string t) rfl; have l1 := t1.size; have f4 : b ≠ w1.heap.size := (by omega); have f5 : w1.heap.size ≠ b := (by omega); have f6 : b + 1 ≠ w1.heap.size := (by omega)) | (have t1 : Below W0.heap.size W0 w1 := (lstep (lundrew hI)).1; have ns := (lstep (lundrew hI)).2; have y0 := lcell (lkeep hx0 t1) 0 (v := .string s) rfl; have y1 := lcell (lkeep hx0 t1) 1 (v := .string t) rfl; have l1 := t1.size)) | (go_at_call 39; go_loud (refine (hS.run _).mono ?_); rintro e w3 ⟨rfl, hB3⟩; first | (have t3 : Below W0.heap.size W0 w3 := t1.trans (hB3.mono t1.size); have ns' := lkeep ns hB3; obtain ⟨s0, s1, s2, s3⟩ := cell_box ns'; have z0 := lcell (lkeep hx0 t3) 0 (v := .string s) rfl; have z1 := lcell (lkeep hx0 t3) 1 (v := .string t) rfl) | (have t3 : Below W0.heap.size W0 w3 := t1.trans (hB3.mono t1.size); have z0 := lcell (lkeep hx0 t3) 0 (v := .string s) rfl; have z1 := lcell (lkeep hx0 t3) 1 (v := .string t) rfl) | (have t3 : Below W0.heap.size W0 w3 := t1.trans ((lstep hB3).1.mono t1.size); have ns' := (lstep hB3).2; obtain ⟨s0, s1, s2, s3⟩ := cell_box ns'; have z0 := lcell (lkeep hx0 t3) 0 (v := .string s) rfl; have z1 := lcell (lkeep hx0 t3) 1 (v := .string t) rfl)) | fail)
  · have nr3 := lkeep hr0 t3
    have HU3 : Shut (Below w.heap.size w w3) := ⟨HU.o.trans (t3.mono HU.o.size)⟩
    have hY := t3.size
    have hlt := lt_of_block nr3
    have r0 := lcell nr3 0 (v := .string ⟨#[]⟩) rfl
    have r1 := lcell nr3 1 (v := .string ⟨#[]⟩) rfl
    have g0 := lfree nr3 0
    have g1 := lfree nr3 1
    have k0 := cell_past w3 (b + 1) (.string n) (.string d) _ _ r0 r1 (.cells #[.string n, .string d] 23)
    have HU4 : Shut _ := ⟨((HU3.o.setCell (p := ⟨b + 1, 0, none⟩) HBW.o (.string n)).setCell (p := ⟨b + 1, 1, none⟩) HBW.o (.string d)).alloc (Nat.le_trans HU3.o.size (by simp)) (.cells #[.string n, .string d] 23)⟩
    clear hB3 hI x0' x1' y0 y1 z0 z1 t1 t3 HU
    go_wp2_with fail
    refine bodyPost_ret (v := .agg #[.string n, .string d]) (by simp [results, Tryz.results41, go_sem, k0.1, k0.2]) rfl ⟨rfl, HU4.o⟩
  · have hk := cell_two w3 w1.heap.size (.string n) (.string d) _ _ s0 s1
    have nr3 := lkeep hr0 t3
    have HU3 : Shut (Below w.heap.size w w3) := ⟨HU.o.trans (t3.mono HU.o.size)⟩
    have hY := t3.size
    have nr4 : ((w3.setCell ⟨w1.heap.size, 0, none⟩ (.string n)).setCell ⟨w1.heap.size, 1, none⟩ (.string d)).heap[b + 1]? = _ := (Below.heap_setCell _ _ _ _ (by exact f6)).trans ((Below.heap_setCell _ _ _ _ (by exact f6)).trans nr3)
    have HU4 : Shut (Below w.heap.size w ((w3.setCell ⟨w1.heap.size, 0, none⟩ (.string n)).setCell ⟨w1.heap.size, 1, none⟩ (.string d))) := ⟨(HU3.o.setCell (p := ⟨w1.heap.size, 0, none⟩) (by show _ ≤ w1.heap.size; have := HBW.o; omega) (.string n)).setCell (p := ⟨w1.heap.size, 1, none⟩) (by show _ ≤ w1.heap.size; have := HBW.o; omega) (.string d)⟩
    obtain ⟨hk0, hk1⟩ := hk
    clear s0 s1 s2 s3 ns' nr3 y0 y1 z0 z1 HU3 hY x0' x1' hB3 hI
    generalize ((w3.setCell ⟨w1.heap.size, 0, none⟩ (.string n)).setCell ⟨w1.heap.size, 1, none⟩ (.string d)) = V at *
    have hlt := lt_of_block nr4
    have r0 := lcell nr4 0 (v := .string ⟨#[]⟩) rfl
    have r1 := lcell nr4 1 (v := .string ⟨#[]⟩) rfl
    have g0 := lfree nr4 0
    have g1 := lfree nr4 1
    have k0 := cell_two V (b + 1) (.string n) (.string d) _ _ r0 r1
    go_wp2_with fail
    refine bodyPost_ret (v := .agg #[.string n, .string d]) (by simp [results, Tryz.results41, go_sem, k0.1, k0.2]) rfl ⟨rfl, (HU4.o.setCell (by exact HBW.o) _).setCell (by exact HBW.o) _⟩
  · have hk := cell_two w3 W0.heap.size (.string n) (.string d) _ _ s0 s1
    have nr3 := lkeep hr0 t3
    have HU3 : Shut (Below w.heap.size w w3) := ⟨HU.o.trans (t3.mono HU.o.size)⟩
    have hY := t3.size
    have nr4 : ((w3.setCell ⟨W0.heap.size, 0, none⟩ (.string n)).setCell ⟨W0.heap.size, 1, none⟩ (.string d)).heap[b + 1]? = _ := (Below.heap_setCell _ _ _ _ (by exact f3)).trans ((Below.heap_setCell _ _ _ _ (by exact f3)).trans nr3)
    have HU4 : Shut (Below w.heap.size w ((w3.setCell ⟨W0.heap.size, 0, none⟩ (.string n)).setCell ⟨W0.heap.size, 1, none⟩ (.string d))) := ⟨(HU3.o.setCell (p := ⟨W0.heap.size, 0, none⟩) (by show _ ≤ W0.heap.size; have := HBW.o; omega) (.string n)).setCell (p := ⟨W0.heap.size, 1, none⟩) (by show _ ≤ W0.heap.size; have := HBW.o; omega) (.string d)⟩
    obtain ⟨hk0, hk1⟩ := hk
    clear s0 s1 s2 s3 ns' nr3 y0 y1 z0 z1 HU3 hY x0' x1' hB3 hI
    generalize ((w3.setCell ⟨W0.heap.size, 0, none⟩ (.string n)).setCell ⟨W0.heap.size, 1, none⟩ (.string d)) = V at *
    have hlt := lt_of_block nr4
    have r0 := lcell nr4 0 (v := .string ⟨#[]⟩) rfl
    have r1 := lcell nr4 1 (v := .string ⟨#[]⟩) rfl
    have g0 := lfree nr4 0
    have g1 := lfree nr4 1
    have k0 := cell_two V (b + 1) (.string n) (.string d) _ _ r0 r1
    go_wp2_with fail
    refine bodyPost_ret (v := .agg #[.string n, .string d]) (by simp [results, Tryz.results41, go_sem, k0.1, k0.2]) rfl ⟨rfl, (HU4.o.setCell (by exact HBW.o) _).setCell (by exact HBW.o) _⟩
theorem subQ0 {q : Rat} (h : FitQ q) : subQ 0 q = some (-q) := by
  have h1 : Fits ((0 : Rat).num * q.den) := by rw [show (0 : Rat).num = 0 from rfl, Int.zero_mul]; exact fits0
  have h2 : q.num * (((0 : Rat).den : Nat) : Int) = q.num := Int.mul_one _
  rw [subQ, if_pos]
  · rw [Rat.sub_eq_add_neg, Rat.zero_add]
  · refine ⟨h1, by rw [h2]; exact h.1, ?_, ?_⟩
    · rw [h2, show (0 : Rat).num * (q.den : Int) = 0 by rw [show (0 : Rat).num = 0 from rfl, Int.zero_mul], Int.zero_sub]; exact fits_neg h.1
    · rw [show (((0 : Rat).den : Nat) : Int) = 1 from rfl, Int.one_mul]; exact h.2
theorem fit_neg {q : Rat} (h : FitQ q) : FitQ (-q) := ⟨by rw [Rat.neg_num]; exact fits_neg h.1, by rw [Rat.neg_den]; exact h.2⟩
theorem rq0 : rq 0 = .agg #[.string ⟨#[48]⟩, .string ⟨#[49]⟩] := by
  rw [rq, rv, show (0 : Rat).num = 0 from rfl, show (((0 : Rat).den : Nat) : Int) = 1 from rfl, txt_0, txt_1]
theorem minus_q {q : Rat} (h : FitQ q) : Two 41 #[rq q] (rq (-q)) := fun W => by
  refine minus_walk _ _ _ _ ?_ W
  have := subO (.some fitQ0) (.some h)
  rw [show lift2 subQ (some 0) (some q) = some (-q) from subQ0 h] at this
  intro V
  have := this V
  rw [show vO (some 0) = .agg #[.string ⟨#[48]⟩, .string ⟨#[49]⟩] from rq0] at this
  exact this
theorem downO {q r : Rat} {c : Nat} (hq : FitQ q) (hc : c ≤ 30) (h : downQ q c = some r) : Two 22 #[rq q, .int .i64 (c : Int)] (.tuple #[.agg #[.string (txt r.num), .string (txt (r.den : Int))], .int .i64 0]) := fun W => by
  have := Down_all (txt q.num) (txt (q.den : Int)) hq.size.1 hq.size.2 (c : Int) W
  rw [downR_q hq c hc, h] at this
  exact this
theorem upO {q r : Rat} {c : Nat} (hq : FitQ q) (hc : c ≤ 30) (h : upQ q c = some r) : Two 24 #[rq q, .int .i64 (c : Int)] (.tuple #[.agg #[.string (txt r.num), .string (txt (r.den : Int))], .int .i64 0]) := fun W => by
  have := Up_all (txt q.num) (txt (q.den : Int)) hq.size.1 hq.size.2 (c : Int) W
  rw [upR_q hq c hc, h] at this
  exact this
end Rt
end Go.Proofs.YtappobhpdpfojaaGreat
namespace Go.Proofs.YtappobhpdpfojaaGreat
set_option maxRecDepth 1000000
namespace Rt
open Go.RowKit Go.Proofs.YtappobhpdpfojaaGreat.Nm
open N10 (Two)

theorem T10_int (c : Nat) : T10 c = txt ((10 : Int) ^ c) := by
  rw [T10]; congr 1
theorem pow_big (c : Nat) (hc : c ≤ 30) : ((10 : Int) ^ c).natAbs ≤ 10 ^ 30 ∧ 0 < (10 : Int) ^ c := by
  refine ⟨?_, Int.pow_pos (by decide)⟩
  rw [Int.natAbs_pow]; exact Nat.pow_le_pow_right (by decide) hc
theorem divInt_P1 {P : Int} (hP : 0 < P) : (Rat.divInt 1 P).num = 1 ∧ ((Rat.divInt 1 P).den : Int) = P := by
  rw [Rat.num_divInt, Rat.den_divInt, if_neg (by omega), Int.sign_eq_one_of_pos hP, Int.gcd_one]
  refine ⟨rfl, ?_⟩
  rw [Nat.div_one]; omega
theorem grid_mul (k : Int) {P : Int} (hP : 0 < P) : Rat.divInt k P * (P : Rat) = (k : Rat) := by
  have e1 : ((P : Int) : Rat) = Rat.divInt P 1 := (Rat.num_divInt_den (P : Rat)).symm
  have e2 : ((k : Int) : Rat) = Rat.divInt k 1 := (Rat.num_divInt_den (k : Rat)).symm
  rw [e1, e2, Rat.divInt_mul_divInt, Int.mul_comm P 1, Rat.divInt_mul_right (by omega)]
theorem grid_sub (u k : Int) {P : Int} (hP : 0 < P) : Rat.divInt u P - Rat.divInt k P = Rat.divInt (u - k) P := by
  rw [Rat.divInt_sub_divInt _ _ (by omega) (by omega), ← Int.sub_mul, Rat.divInt_mul_right (by omega)]
set_option maxHeartbeats 2000000 in
/-- what the law asks of a fraction and a number of places -/
theorem grid_facts (q : Rat) (hq : LongQ q) (c : Nat) (hc : c ≤ 30) : ∃ an ad bn bd mn md en ed kn wn wd : ByteArray, ∃ ca cb : Int,
    Two 22 #[.agg #[.string (txt q.num), .string (txt (q.den : Int))], .int .i64 (c : Int)] (.tuple #[.agg #[.string an, .string ad], .int .i64 0]) ∧
    Two 24 #[.agg #[.string (txt q.num), .string (txt (q.den : Int))], .int .i64 (c : Int)] (.tuple #[.agg #[.string bn, .string bd], .int .i64 0]) ∧
    Two 41 #[.agg #[.string (txt q.num), .string (txt (q.den : Int))]] (.agg #[.string mn, .string md]) ∧
    Two 22 #[.agg #[.string mn, .string md], .int .i64 (c : Int)] (.tuple #[.agg #[.string en, .string ed], .int .i64 0]) ∧
    Two 41 #[.agg #[.string en, .string ed]] (.agg #[.string bn, .string bd]) ∧
    Two 19 #[.agg #[.string an, .string ad], .agg #[.string (txt q.num), .string (txt (q.den : Int))]] (.int .i64 ca) ∧
    Two 19 #[.agg #[.string bn, .string bd], .agg #[.string (txt q.num), .string (txt (q.den : Int))]] (.int .i64 cb) ∧
    Two 22 #[.agg #[.string bn, .string bd], .int .i64 (c : Int)] (.tuple #[.agg #[.string bn, .string bd], .int .i64 0]) ∧
    Two 24 #[.agg #[.string an, .string ad], .int .i64 (c : Int)] (.tuple #[.agg #[.string an, .string ad], .int .i64 0]) ∧
    Two 38 #[.agg #[.string an, .string ad], .agg #[.string (T10 c), .string ⟨#[49]⟩]] (.tuple #[.agg #[.string kn, .string ⟨#[49]⟩], .int .i64 0]) ∧
    Two 39 #[.agg #[.string bn, .string bd], .agg #[.string an, .string ad]] (.tuple #[.agg #[.string wn, .string wd], .int .i64 0]) ∧
    ((ca = 0 ∧ cb = 0 ∧ wn = ⟨#[48]⟩ ∧ wd = ⟨#[49]⟩) ∨ (ca = -1 ∧ cb = 1 ∧ wn = ⟨#[49]⟩ ∧ wd = T10 c)) := by
  have fq := hq.fit
  obtain ⟨hPb, hP⟩ := pow_big c hc
  have hD : 0 < (q.den : Int) := by have := q.den_pos; omega
  have hXb : (q.num * 10 ^ c).natAbs ≤ 10 ^ 130 := by
    rw [Int.natAbs_mul]
    exact Nat.le_trans (Nat.mul_le_mul (Nat.le_of_lt hq.num) hPb) (by rw [← Nat.pow_add]; exact Nat.le_refl _)
  have big : ∀ {z : Int}, z.natAbs ≤ 10 ^ 130 → Fits z := fun h => fits_small (Nat.lt_of_le_of_lt h (Nat.pow_lt_pow_right (by decide) (by decide)))
  have fX := big hXb
  have hkb : (q.num * 10 ^ c / (q.den : Int)).natAbs ≤ 10 ^ 130 := Nat.le_trans (Int.natAbs_ediv_le_natAbs _ _) hXb
  have hub : (upI (q.num * 10 ^ c) (q.den : Int)).natAbs ≤ 10 ^ 130 := Nat.le_trans (upI_natAbs _ _ hD) hXb
  have fk := big hkb
  have fu := big hub
  have fP := pow_fits c hc
  obtain ⟨k, hk⟩ : ∃ k, k = q.num * 10 ^ c / (q.den : Int) := ⟨_, rfl⟩
  obtain ⟨u, hu⟩ : ∃ u, u = upI (q.num * 10 ^ c) (q.den : Int) := ⟨_, rfl⟩
  have e1 : downQ q c = some (Rat.divInt k (10 ^ c)) := by rw [downQ, if_pos fX, hk]
  have e2 : upQ q c = some (Rat.divInt u (10 ^ c)) := by rw [upQ, if_pos ⟨fX, fu⟩, hu]
  rw [← hk] at hkb fk
  rw [← hu] at hub fu
  have Fa : FitQ (Rat.divInt k (10 ^ c)) := FitQ.div fk fP (by omega)
  have Fb : FitQ (Rat.divInt u (10 ^ c)) := FitQ.div fu fP (by omega)
  have Fm := fit_neg fq
  have fX2 : Fits ((-q).num * 10 ^ c) := by rw [Rat.neg_num, Int.neg_mul]; exact fits_neg fX
  have e3 : downQ (-q) c = some (Rat.divInt (-u) (10 ^ c)) := by
    rw [downQ, if_pos fX2, Rat.neg_num, Rat.neg_den, Int.neg_mul, hu, upI_neg _ _ hD, Int.neg_neg]
  have Fe : FitQ (Rat.divInt (-u) (10 ^ c)) := FitQ.div (fits_neg fu) fP (by omega)
  have e4 : -(Rat.divInt (-u) (10 ^ c)) = Rat.divInt u (10 ^ c) := by rw [Rat.neg_divInt, Int.neg_neg]
  have m2 := minus_q Fe
  rw [e4] at m2
  have sa := grid_self k c hc hkb
  have sb := grid_self u c hc hub
  have ba := div_bds (x := k) (y := 10 ^ c) (by omega)
  have bb := div_bds (x := u) (y := 10 ^ c) (by omega)
  have nP : ((10 : Int) ^ c).natAbs ≤ 10 ^ 30 := hPb
  have x1 : mulQ (Rat.divInt k (10 ^ c)) (((10 : Int) ^ c : Int) : Rat) = some ((k : Int) : Rat) := by
    rw [mulQ, Rat.num_intCast, Rat.den_intCast, if_pos, grid_mul k hP]
    exact ⟨fits_pr (i := 130) (j := 30) (Nat.le_trans ba.1 hkb) hPb (by decide), by rw [show (((1 : Nat)) : Int) = 1 from rfl, Int.mul_one]; exact Fa.2⟩
  have FP : FitQ (((10 : Int) ^ c : Int) : Rat) := ⟨by rw [Rat.num_intCast]; exact fP, by rw [Rat.den_intCast]; exact fits1⟩
  have X1 := mulO (.some Fa) (.some FP)
  rw [show lift2 mulQ (some (Rat.divInt k (10 ^ c))) (some (((10 : Int) ^ c : Int) : Rat)) = some ((k : Int) : Rat) from x1] at X1
  have dA : ((Rat.divInt k (10 ^ c)).den : Int).natAbs ≤ 10 ^ 30 := by rw [Int.natAbs_natCast]; exact Nat.le_trans ba.2 hPb
  have dB : ((Rat.divInt u (10 ^ c)).den : Int).natAbs ≤ 10 ^ 30 := by rw [Int.natAbs_natCast]; exact Nat.le_trans bb.2 hPb
  have p1 := fits_pr (i := 130) (j := 30) (Nat.le_trans bb.1 hub) dA (by decide)
  have p2 := fits_pr (i := 130) (j := 30) (Nat.le_trans ba.1 hkb) dB (by decide)
  have p4 := fits_pr (i := 30) (j := 30) dB dA (by decide)
  have p3 : Fits ((Rat.divInt u (10 ^ c)).num * ((Rat.divInt k (10 ^ c)).den : Int) - (Rat.divInt k (10 ^ c)).num * ((Rat.divInt u (10 ^ c)).den : Int)) := by
    have b1 : ((Rat.divInt u (10 ^ c)).num * ((Rat.divInt k (10 ^ c)).den : Int)).natAbs ≤ 10 ^ 160 := by
      rw [Int.natAbs_mul]; exact Nat.le_trans (Nat.mul_le_mul (Nat.le_trans bb.1 hub) dA) (by rw [← Nat.pow_add]; exact Nat.le_refl _)
    have b2 : ((Rat.divInt k (10 ^ c)).num * ((Rat.divInt u (10 ^ c)).den : Int)).natAbs ≤ 10 ^ 160 := by
      rw [Int.natAbs_mul]; exact Nat.le_trans (Nat.mul_le_mul (Nat.le_trans ba.1 hkb) dB) (by rw [← Nat.pow_add]; exact Nat.le_refl _)
    refine fits_small (Nat.lt_of_le_of_lt (Int.natAbs_sub_le _ _) (Nat.lt_of_le_of_lt (Nat.add_le_add b1 b2) (by decide)))
  have s1 : subQ (Rat.divInt u (10 ^ c)) (Rat.divInt k (10 ^ c)) = some (Rat.divInt (u - k) (10 ^ c)) := by
    rw [subQ, if_pos ⟨p1, p2, p3, p4⟩, grid_sub u k hP]
  have S1 := subO (.some Fb) (.some Fa)
  rw [show lift2 subQ (some (Rat.divInt u (10 ^ c))) (some (Rat.divInt k (10 ^ c))) = some (Rat.divInt (u - k) (10 ^ c)) from s1] at S1
  have hr : q = Rat.divInt q.num q.den := (Rat.num_divInt_den q).symm
  have c1 : cmpQ (Rat.divInt k (10 ^ c)) q = cmpZ (k * q.den) (q.num * 10 ^ c) := by
    conv => lhs; rw [hr]
    exact cmpQ_div hP hD
  have c2 : cmpQ (Rat.divInt u (10 ^ c)) q = cmpZ (u * q.den) (q.num * 10 ^ c) := by
    conv => lhs; rw [hr]
    exact cmpQ_div hP hD
  have hX1 : sn (some ((k : Int) : Rat)) = txt k ∧ sd (some ((k : Int) : Rat)) = ⟨#[49]⟩ := ⟨rfl, txt_1⟩
  have hT : sn (some (((10 : Int) ^ c : Int) : Rat)) = T10 c ∧ sd (some (((10 : Int) ^ c : Int) : Rat)) = ⟨#[49]⟩ := ⟨(T10_int c).symm, txt_1⟩
  rw [vO, vO, resO, hX1.1, hX1.2, hT.1, hT.2] at X1
  refine ⟨_, _, _, _, _, _, _, _, _, _, _, _, _, downO fq hc e1, upO fq hc e2, minus_q fq, downO Fm hc e3, m2, fun W => Compare_q Fa fq W, fun W => Compare_q Fb fq W, downO Fb hc sb.1, upO Fa hc sa.2, X1, S1, ?_⟩
  have hdm := Int.mul_ediv_add_emod (q.num * 10 ^ c) (q.den : Int)
  have l1 := Int.emod_nonneg (q.num * 10 ^ c) (show (q.den : Int) ≠ 0 by omega)
  rw [c1, c2, hk, hu, upI]
  generalize q.num * 10 ^ c = X at *
  by_cases hs : X % (q.den : Int) = 0
  · refine .inl ?_
    rw [if_pos hs]
    rw [hs] at hdm
    have hx : X / (q.den : Int) * q.den = X := by rw [Int.mul_comm]; omega
    have h0 : X / (q.den : Int) - X / (q.den : Int) = 0 := by omega
    rw [hx, cmpZ, if_neg (by omega), if_pos rfl, h0, Rat.zero_divInt]
    exact ⟨rfl, rfl, txt_0, txt_1⟩
  · refine .inr ?_
    rw [if_neg hs]
    have hx : X / (q.den : Int) * q.den < X := by rw [Int.mul_comm]; omega
    have l2 := Int.emod_lt_of_pos X hD
    have hy : X < (X / (q.den : Int) + 1) * q.den := by rw [Int.add_mul, Int.one_mul, Int.mul_comm]; omega
    have h1 : X / (q.den : Int) + 1 - X / (q.den : Int) = 1 := by omega
    have hp := divInt_P1 hP
    rw [h1]
    refine ⟨by rw [cmpZ, if_pos hx], by rw [cmpZ, if_neg (by omega), if_neg (by omega)], ?_, ?_⟩
    · show txt (Rat.divInt 1 (10 ^ c)).num = _
      rw [hp.1, txt_1]
    · show txt ((Rat.divInt 1 (10 ^ c)).den : Int) = _
      rw [hp.2, T10_int]
end Rt
end Go.Proofs.YtappobhpdpfojaaGreat
