/-
  PROVED: EnclosureRoots: the roots of an interval contain every root of what it contains, and are as near as the places say: one step inwards, the squares are on the other side; an interval that reaches below 0 has none. Every argument reads afterwards as it read before. Conditions: those of the given row and card: the variable enclosure.errRefused holds what the program's text lays (tied by the card); linux/amd64.
-/
import Derived.Test.YtbfonkabmehlmaaGreatDoorNt4
import Derived.Test.YtbfonkabmehlmaaGreatDoorMd8
import Derived.Deep.DeepCutAuto
import Derived.Deep.RegionHeld3
import Derived.Deep.RegionWith
import Derived.Test.YtbfonkabmehlmaaGreatDoorCards
import Derived.Test.YtbfonkabmehlmaaGreatDoorTie
import Derived.Test.YtbfonkabmehlmaaGreatDoorRatOp
import Derived.ProofKit
import Derived.OpenShut
import Derived.Deep.DeepHandedRow
import Derived.Lib.SmallJoins
import Derived.Stop.LaidErr
namespace Go.Proofs.YtbfonkabmehlmaaGreatDoor
set_option maxRecDepth 1000000
namespace En
open Go.RowKit Go.Extern.Stop Go.Stop Go.Extern
open Go.Proofs.YtbfonkabmehlmaaGreatDoor.Nm Go.Proofs.YtbfonkabmehlmaaGreatDoor.Rt
theorem sq_le_of {t p : Rat} (hp : 0 ≤ p) (h : t * t ≤ p * p) : t ≤ p := by
  refine Rat.not_lt.1 (fun h1 => ?_)
  have ht : 0 < t := le_lt hp h1
  have a := Rat.mul_le_mul_of_nonneg_left (Rat.le_of_lt h1) hp
  have b := Rat.mul_lt_mul_of_pos_right h1 ht
  exact Rat.not_lt.2 h (le_lt a b)
theorem sq_mono {p q : Rat} (hp : 0 ≤ p) (h : p ≤ q) : p * p ≤ q * q := Rat.le_trans (Rat.mul_le_mul_of_nonneg_left h hp) (Rat.mul_le_mul_of_nonneg_right h (Rat.le_trans hp h))
def rtQ (r : Rat) (c : Nat) : Rat := Rat.divInt ((rtN r c : Nat) : Int) (10 ^ c)
def urQ (r : Rat) (c : Nat) : Rat := Rat.divInt (upN r c) (10 ^ c)
theorem grid_sq (k : Int) (c : Nat) : Rat.divInt k (10 ^ c) * Rat.divInt k (10 ^ c) = Rat.divInt (k * k) (10 ^ c * 10 ^ c) := Rat.divInt_mul_divInt _ _
theorem grid_add (k m : Int) (c : Nat) : Rat.divInt k (10 ^ c) + Rat.divInt m (10 ^ c) = Rat.divInt (k + m) (10 ^ c) := by
  have hP : (0 : Int) < 10 ^ c := Int.pow_pos (by decide)
  rw [Rat.divInt_add_divInt _ _ (by omega) (by omega), ← Int.add_mul, Rat.divInt_mul_right (by omega)]
theorem pp_pos (c : Nat) : (0 : Int) < 10 ^ c * 10 ^ c := Int.mul_pos (Int.pow_pos (by decide)) (Int.pow_pos (by decide))
theorem xN_eq (r : Rat) (c : Nat) : r.num * (10 ^ c * 10 ^ c) = xN r c := by rw [xN, Int.mul_assoc]
theorem rtQ_le {r : Rat} (h : 0 ≤ r.num) (c : Nat) : rtQ r c * rtQ r c ≤ r := by
  rw [rtQ, grid_sq]
  conv => rhs; rw [as_div r]
  exact le_of_cmpZ (pp_pos c) (den_posI r) (by rw [xN_eq]; exact (rt_spec h c).1)
theorem rtQ_lt {r : Rat} (h : 0 ≤ r.num) (c : Nat) : r < (rtQ r c + unitQ c) * (rtQ r c + unitQ c) := by
  rw [rtQ, unitQ, grid_add, grid_sq]
  conv => lhs; rw [as_div r]
  exact lt_of_cmpZ (den_posI r) (pp_pos c) (by rw [xN_eq]; exact (rt_spec h c).2)
theorem urQ_ge {r : Rat} (h : 0 ≤ r.num) (c : Nat) : r ≤ urQ r c * urQ r c := by
  rw [urQ, grid_sq]
  conv => lhs; rw [as_div r]
  exact le_of_cmpZ (den_posI r) (pp_pos c) (by rw [xN_eq]; exact (up_spec h c).2.1)
theorem urQ_lt {r : Rat} (h : 0 ≤ r.num) (c : Nat) : urQ r c - unitQ c < 0 ∨ (urQ r c - unitQ c) * (urQ r c - unitQ c) < r := by
  rw [urQ, unitQ, grid_sub _ _ (Int.pow_pos (by decide))]
  rcases (up_spec h c).2.2 with e | e
  · left
    rw [e, show (0 : Rat) = Rat.divInt 0 1 by decide]
    exact lt_of_cmpZ (Int.pow_pos (by decide)) (by decide) (by rw [Int.zero_mul]; decide)
  · right
    rw [grid_sq]
    conv => rhs; rw [as_div r]
    exact lt_of_cmpZ (pp_pos c) (den_posI r) (by rw [xN_eq]; exact e)
theorem rtQ_nonneg (r : Rat) (c : Nat) : 0 ≤ rtQ r c := (Rat.divInt_nonneg_iff_of_pos_right (Int.pow_pos (by decide))).2 (by omega)
theorem urQ_nonneg {r : Rat} (h : 0 ≤ r.num) (c : Nat) : 0 ≤ urQ r c := (Rat.divInt_nonneg_iff_of_pos_right (Int.pow_pos (by decide))).2 (up_spec h c).1
theorem rt_small {r : Rat} (h : 0 ≤ r.num) {n d : Nat} (b : BQ n d r) {c : Nat} (hc : c ≤ 12) : rtN r c ≤ n * 10 ^ 12 * 10 ^ 12 := by
  have h1 := (rt_spec h c).1
  have h2 := abs_mul_le (abs_mul_le b.num (pow_le12 hc)) (pow_le12 hc)
  have h3 : xN r c ≤ ((n * 10 ^ 12 * 10 ^ 12 : Nat) : Int) := by
    have : (xN r c).natAbs ≤ n * 10 ^ 12 * 10 ^ 12 := h2
    generalize n * 10 ^ 12 * 10 ^ 12 = B at *
    omega
  have h4 : ((rtN r c : Nat) : Int) * ((rtN r c : Nat) : Int) ≤ ((rtN r c : Nat) : Int) * ((rtN r c : Nat) : Int) * (r.den : Int) := by
    have := Int.mul_le_mul_of_nonneg_left (show (1 : Int) ≤ r.den by have := den_posI r; omega) (Int.mul_nonneg (show (0 : Int) ≤ ((rtN r c : Nat) : Int) by omega) (show (0 : Int) ≤ ((rtN r c : Nat) : Int) by omega))
    rwa [Int.mul_one] at this
  have h5 : ((rtN r c * rtN r c : Nat) : Int) ≤ ((n * 10 ^ 12 * 10 ^ 12 : Nat) : Int) := by rw [Int.natCast_mul]; exact Int.le_trans h4 (Int.le_trans h1 h3)
  have h6 : rtN r c ≤ rtN r c * rtN r c := Nat.le_mul_self _
  generalize rtN r c * rtN r c = A at *
  generalize n * 10 ^ 12 * 10 ^ 12 = B at *
  omega
theorem pow_abs12 {c : Nat} (hc : c ≤ 12) : ((10 : Int) ^ c).natAbs ≤ 10 ^ 12 := pow_le12 hc
theorem rtQ_bq {r : Rat} (h : 0 ≤ r.num) {n d : Nat} (b : BQ n d r) {c : Nat} (hc : c ≤ 12) : BQ (n * 10 ^ 12 * 10 ^ 12) (10 ^ 12) (rtQ r c) :=
  .of_div (Int.ne_of_gt (Int.pow_pos (by decide))) (by rw [Int.natAbs_natCast]; exact rt_small h b hc) (pow_le12 hc)
theorem urQ_bq {r : Rat} (h : 0 ≤ r.num) {n d : Nat} (b : BQ n d r) {c : Nat} (hc : c ≤ 12) : BQ (n * 10 ^ 12 * 10 ^ 12 + 1) (10 ^ 12) (urQ r c) := by
  refine .of_div (Int.ne_of_gt (Int.pow_pos (by decide))) ?_ (pow_le12 hc)
  have h1 := rt_small h b hc
  rw [upN]
  generalize n * 10 ^ 12 * 10 ^ 12 = B at *
  split <;> omega
theorem unit_bq {c : Nat} (hc : c ≤ 12) : BQ 1 (10 ^ 12) (unitQ c) := .of_div (Int.ne_of_gt (Int.pow_pos (by decide))) (by decide) (pow_le12 hc)
theorem bq_fitsN {n d : Nat} {p : Rat} (s : BQ n d p) (hn : n * 10 ^ 12 * 10 ^ 12 < 10 ^ 200) {c : Nat} (hc : c ≤ 12) : Fits (p.num * 10 ^ c) ∧ Fits (p.num * 10 ^ c * 10 ^ c) := by
  have h1 := abs_mul_le s.num (pow_le12 hc)
  have h2 := abs_mul_le h1 (pow_le12 hc)
  exact ⟨fits_lt10 (Nat.le_trans h1 (Nat.le_mul_of_pos_right _ (by decide))) hn, fits_lt10 h2 hn⟩
/-- the square's roots contain what lies between -/
theorem root_in (a : Addr) {p q r : Rat} (sp : SmallQ p) (sq : SmallQ q) (h0 : 0 ≤ p) (hr : BQ 1000000000000 100000000 r) (h1 : p ≤ r) (h2 : r ≤ q) {c : Nat} (hc : (c : Int) < 13) : ∃ (l0 l1 g0 g1 m0 m1 m2 m3 : ByteArray),
    Ret 30 #[.agg #[.string (txt p.num), .string (txt (p.den : Int))], .agg #[.string (txt p.num), .string (txt (p.den : Int))]] (.tuple #[.agg #[.string l0, .string l1], .int .i64 0]) ∧
    Ret 30 #[.agg #[.string (txt q.num), .string (txt (q.den : Int))], .agg #[.string (txt q.num), .string (txt (q.den : Int))]] (.tuple #[.agg #[.string g0, .string g1], .int .i64 0]) ∧
    LC a 34 #[.agg #[.string l0, .string l1, .string g0, .string g1], .int .i64 (c : Int)] (.tuple #[.agg #[.string m0, .string m1, .string m2, .string m3], .int .i64 0]) ∧
    Ret 24 #[.agg #[.string m0, .string m1, .string m2, .string m3], .agg #[.string (txt r.num), .string (txt (r.den : Int))]] (.bool true) := by
  have hq0 : 0 ≤ q := Rat.le_trans h0 (Rat.le_trans h1 h2)
  have bp := (SmallQ.bq sp).mul (SmallQ.bq sp)
  have bq := (SmallQ.bq sq).mul (SmallQ.bq sq)
  have np : 0 ≤ (p * p).num := num_of (Rat.mul_nonneg h0 h0)
  have nq : 0 ≤ (q * q).num := num_of (Rat.mul_nonneg hq0 hq0)
  have fp := bq_fitsN bp (by decide) (c := c) (by omega)
  have fq := bq_fitsN bq (by decide) (c := c) (by omega)
  have A := mulO (.some sp.fit) (.some sp.fit)
  rw [show lift2 mulQ (some p) (some p) = some (p * p) from mulQ_b (SmallQ.bq sp) (SmallQ.bq sp) (by decide) (by decide)] at A
  have B := mulO (.some sq.fit) (.some sq.fit)
  rw [show lift2 mulQ (some q) (some q) = some (q * q) from mulQ_b (SmallQ.bq sq) (SmallQ.bq sq) (by decide) (by decide)] at B
  have C := Sqrt_I a (bp.fit (by decide) (by decide)) (bq.fit (by decide) (by decide)) (sq_mono h0 (Rat.le_trans h1 h2)) np nq (c := c) (by omega) fp.1 fp.2 fq.1 fq.2
  have f1 := (rtQ_bq np bp (c := c) (by omega)).fit (by decide) (by decide)
  have f2 := (urQ_bq nq bq (c := c) (by omega)).fit (by decide) (by decide)
  have D := Contains_q f1 f2 (hr.fit (by decide) (by decide))
  rw [decide_eq_true (show rtQ (p * p) c ≤ r ∧ r ≤ urQ (q * q) c from ⟨Rat.le_trans (sq_le_of h0 (rtQ_le np c)) h1, Rat.le_trans h2 (sq_le_of (urQ_nonneg nq c) (urQ_ge nq c))⟩)] at D
  exact ⟨_, _, _, _, _, _, _, _, A, B, C, D⟩
/-- the ends of a root, one step inwards -/
theorem root_near (a : Addr) {p q : Rat} (sp : SmallQ p) (sq : SmallQ q) (o : p ≤ q) {c : Nat} (hc : (c : Int) < 13) : ∃ (m0 m1 m2 m3 : ByteArray) (f kz : Int),
    LC a 34 #[.agg #[.string (txt p.num), .string (txt (p.den : Int)), .string (txt q.num), .string (txt (q.den : Int))], .int .i64 (c : Int)] (.tuple #[.agg #[.string m0, .string m1, .string m2, .string m3], .int .i64 f]) ∧
    Ret 32 #[.agg #[.string (txt p.num), .string (txt (p.den : Int))], .agg #[.string ⟨#[48]⟩, .string ⟨#[49]⟩]] (.int .i64 kz) ∧
    ((kz < 0 ∧ f = 50) ∨ (0 ≤ kz ∧ f = 0 ∧ ∃ (i0 i1 o0 o1 x0 x1 y0 y1 u0 u1 v0 v1 : ByteArray) (k1 k2 k3 k4 k5 : Int),
      Ret 28 #[.agg #[.string m0, .string m1], .agg #[.string (txt (unitQ c).num), .string (txt ((unitQ c).den : Int))]] (.tuple #[.agg #[.string i0, .string i1], .int .i64 0]) ∧
      Ret 29 #[.agg #[.string m2, .string m3], .agg #[.string (txt (unitQ c).num), .string (txt ((unitQ c).den : Int))]] (.tuple #[.agg #[.string o0, .string o1], .int .i64 0]) ∧
      Ret 30 #[.agg #[.string m0, .string m1], .agg #[.string m0, .string m1]] (.tuple #[.agg #[.string x0, .string x1], .int .i64 0]) ∧
      Ret 30 #[.agg #[.string i0, .string i1], .agg #[.string i0, .string i1]] (.tuple #[.agg #[.string y0, .string y1], .int .i64 0]) ∧
      Ret 30 #[.agg #[.string m2, .string m3], .agg #[.string m2, .string m3]] (.tuple #[.agg #[.string u0, .string u1], .int .i64 0]) ∧
      Ret 30 #[.agg #[.string o0, .string o1], .agg #[.string o0, .string o1]] (.tuple #[.agg #[.string v0, .string v1], .int .i64 0]) ∧
      Ret 32 #[.agg #[.string x0, .string x1], .agg #[.string (txt p.num), .string (txt (p.den : Int))]] (.int .i64 k1) ∧ k1 ≤ 0 ∧
      Ret 32 #[.agg #[.string y0, .string y1], .agg #[.string (txt p.num), .string (txt (p.den : Int))]] (.int .i64 k2) ∧ 0 < k2 ∧
      Ret 32 #[.agg #[.string u0, .string u1], .agg #[.string (txt q.num), .string (txt (q.den : Int))]] (.int .i64 k3) ∧ 0 ≤ k3 ∧
      Ret 32 #[.agg #[.string o0, .string o1], .agg #[.string ⟨#[48]⟩, .string ⟨#[49]⟩]] (.int .i64 k4) ∧
      Ret 32 #[.agg #[.string v0, .string v1], .agg #[.string (txt q.num), .string (txt (q.den : Int))]] (.int .i64 k5) ∧ (k4 < 0 ∨ (0 ≤ k4 ∧ k5 < 0)))) := by
  have f0 : FitQ 0 := ⟨fits_small (by decide), fits_small (by decide)⟩
  have hz : Ret 32 #[.agg #[.string (txt p.num), .string (txt (p.den : Int))], .agg #[.string ⟨#[48]⟩, .string ⟨#[49]⟩]] (.int .i64 (cmpQ p 0)) := by rw [← rq0]; exact fun W => Compare_q sp.fit f0 W
  have fp := bq_fitsN (SmallQ.bq sp) (by decide) (c := c) (by omega)
  have fq := bq_fitsN (SmallQ.bq sq) (by decide) (c := c) (by omega)
  by_cases hp : p.num < 0
  · have C := Sqrt_neg a sp.fit sq.fit o hp (c := c) (by omega) fp.1 fp.2 fq.1 fq.2
    refine ⟨_, _, _, _, _, _, C, hz, .inl ⟨?_, rfl⟩⟩
    have := mt (cmp_ge p 0).1 (fun h => by have := num_of h; omega)
    omega
  · have np : 0 ≤ p.num := by omega
    have hp0 : 0 ≤ p := Rat.num_nonneg.1 np
    have nq : 0 ≤ q.num := num_of (Rat.le_trans hp0 o)
    have C := Sqrt_I a sp.fit sq.fit o np nq (c := c) (by omega) fp.1 fp.2 fq.1 fq.2
    have bT := rtQ_bq np (SmallQ.bq sp) (c := c) (by omega)
    have bU := urQ_bq nq (SmallQ.bq sq) (c := c) (by omega)
    have b1 := unit_bq (c := c) (by omega)
    have bI := bT.add b1
    have bO := bU.sub b1
    have fT := bT.fit (by decide) (by decide)
    have fU := bU.fit (by decide) (by decide)
    have f1 := b1.fit (by decide) (by decide)
    have fI := bI.fit (by decide) (by decide)
    have fO := bO.fit (by decide) (by decide)
    have A := addO (.some fT) (.some f1)
    rw [show lift2 addQ (some (rtQ p c)) (some (unitQ c)) = some (rtQ p c + unitQ c) from addQ_b bT b1 (by decide) (by decide)] at A
    have B := subO (.some fU) (.some f1)
    rw [show lift2 subQ (some (urQ q c)) (some (unitQ c)) = some (urQ q c - unitQ c) from subQ_b bU b1 (by decide) (by decide)] at B
    have D1 := mulO (.some fT) (.some fT)
    rw [show lift2 mulQ (some (rtQ p c)) (some (rtQ p c)) = some (rtQ p c * rtQ p c) from mulQ_b bT bT (by decide) (by decide)] at D1
    have D2 := mulO (.some fI) (.some fI)
    rw [show lift2 mulQ (some (rtQ p c + unitQ c)) (some (rtQ p c + unitQ c)) = some ((rtQ p c + unitQ c) * (rtQ p c + unitQ c)) from mulQ_b bI bI (by decide) (by decide)] at D2
    have D3 := mulO (.some fU) (.some fU)
    rw [show lift2 mulQ (some (urQ q c)) (some (urQ q c)) = some (urQ q c * urQ q c) from mulQ_b bU bU (by decide) (by decide)] at D3
    have D4 := mulO (.some fO) (.some fO)
    rw [show lift2 mulQ (some (urQ q c - unitQ c)) (some (urQ q c - unitQ c)) = some ((urQ q c - unitQ c) * (urQ q c - unitQ c)) from mulQ_b bO bO (by decide) (by decide)] at D4
    have g1 := (bT.mul bT).fit (by decide) (by decide)
    have g2 := (bI.mul bI).fit (by decide) (by decide)
    have g3 := (bU.mul bU).fit (by decide) (by decide)
    have g4 := (bO.mul bO).fit (by decide) (by decide)
    have hz2 : Ret 32 #[.agg #[.string (txt (urQ q c - unitQ c).num), .string (txt ((urQ q c - unitQ c).den : Int))], .agg #[.string ⟨#[48]⟩, .string ⟨#[49]⟩]] (.int .i64 (cmpQ (urQ q c - unitQ c) 0)) := by rw [← rq0]; exact fun W => Compare_q fO f0 W
    refine ⟨_, _, _, _, _, _, C, hz, .inr ⟨(cmp_ge p 0).2 hp0, rfl, _, _, _, _, _, _, _, _, _, _, _, _, cmpQ (rtQ p c * rtQ p c) p, cmpQ ((rtQ p c + unitQ c) * (rtQ p c + unitQ c)) p, cmpQ (urQ q c * urQ q c) q, cmpQ (urQ q c - unitQ c) 0, cmpQ ((urQ q c - unitQ c) * (urQ q c - unitQ c)) q, A, B, D1, D2, D3, D4, fun W => Compare_q g1 sp.fit W, ?_, fun W => Compare_q g2 sp.fit W, ?_, fun W => Compare_q g3 sq.fit W, ?_, hz2, fun W => Compare_q g4 sq.fit W, ?_⟩⟩
    · exact (En.cmp_le _ _).2 (rtQ_le np c)
    · have := mt (En.cmp_le _ _).1 (Rat.not_le.2 (rtQ_lt np c))
      omega
    · exact (cmp_ge _ _).2 (urQ_ge nq c)
    · have h := urQ_lt nq c
      by_cases hk : 0 ≤ cmpQ (urQ q c - unitQ c) 0
      · refine .inr ⟨hk, ?_⟩
        rcases h with h | h
        · exact absurd ((cmp_ge _ _).1 hk) (Rat.not_le.2 h)
        · have := mt (cmp_ge _ _).1 (Rat.not_le.2 h)
          omega
      · exact .inl (by omega)
/-- the ends that the law takes: 0 in place of a negative one, the lower one in place of a lesser one -/
theorem end_facts {p q : Rat} (sp : SmallQ p) (sq : SmallQ q) : ∃ (kz kc : Int) (p' q' : Rat), SmallQ p' ∧ SmallQ q' ∧ 0 ≤ p' ∧ p' ≤ q' ∧
    Ret 32 #[.agg #[.string (txt p.num), .string (txt (p.den : Int))], .agg #[.string ⟨#[48]⟩, .string ⟨#[49]⟩]] (.int .i64 kz) ∧
    ((kz < 0 ∧ txt p'.num = ⟨#[48]⟩ ∧ txt (p'.den : Int) = ⟨#[49]⟩) ∨ (0 ≤ kz ∧ p' = p)) ∧
    Ret 32 #[.agg #[.string (txt q.num), .string (txt (q.den : Int))], .agg #[.string (txt p'.num), .string (txt (p'.den : Int))]] (.int .i64 kc) ∧
    ((kc < 0 ∧ q' = p') ∨ (0 ≤ kc ∧ q' = q)) := by
  have f0 : FitQ 0 := ⟨fits_small (by decide), fits_small (by decide)⟩
  have s0 : SmallQ 0 := ⟨by decide, by decide⟩
  have hz : Ret 32 #[.agg #[.string (txt p.num), .string (txt (p.den : Int))], .agg #[.string ⟨#[48]⟩, .string ⟨#[49]⟩]] (.int .i64 (cmpQ p 0)) := by rw [← rq0]; exact fun W => Compare_q sp.fit f0 W
  obtain ⟨p', sp', hp', hw⟩ : ∃ p', SmallQ p' ∧ 0 ≤ p' ∧ ((cmpQ p 0 < 0 ∧ txt p'.num = ⟨#[48]⟩ ∧ txt (p'.den : Int) = ⟨#[49]⟩) ∨ (0 ≤ cmpQ p 0 ∧ p' = p)) := by
    by_cases h : 0 ≤ cmpQ p 0
    · exact ⟨p, sp, (cmp_ge _ _).1 h, .inr ⟨h, rfl⟩⟩
    · exact ⟨0, s0, Rat.le_refl, .inl ⟨by omega, by decide +kernel, by decide +kernel⟩⟩
  obtain ⟨q', sq', hq', hv⟩ : ∃ q', SmallQ q' ∧ p' ≤ q' ∧ ((cmpQ q p' < 0 ∧ q' = p') ∨ (0 ≤ cmpQ q p' ∧ q' = q)) := by
    by_cases h : 0 ≤ cmpQ q p'
    · exact ⟨q, sq, (cmp_ge _ _).1 h, .inr ⟨h, rfl⟩⟩
    · exact ⟨p', sp', Rat.le_refl, .inl ⟨by omega, rfl⟩⟩
  exact ⟨_, _, p', q', sp', sq', hp', hq', hz, hw, fun W => Compare_q sq.fit sp'.fit W, hv⟩
end En
end Go.Proofs.YtbfonkabmehlmaaGreatDoor
namespace Go.Proofs.YtbfonkabmehlmaaGreatDoor
set_option maxRecDepth 1000000
namespace En
open Go.RowKit Go.Extern.Stop Go.Stop Go.Extern
open Go.Proofs.YtbfonkabmehlmaaGreatDoor.Nm Go.Proofs.YtbfonkabmehlmaaGreatDoor.Rt
theorem box4_lo {W : World} {b : Nat} {a0 a1 a2 a3 x y : Value} {T : TypeId} (h : W.heap[b]? = some (.cells #[a0, a1, a2, a3] T (0, 0))) : ((W.setCell ⟨b, 0, none⟩ x).setCell ⟨b, 1, none⟩ y).heap[b]? = some (.cells #[x, y, a2, a3] T (0, 0)) := by
  obtain ⟨hl, hg⟩ := Array.getElem?_eq_some_iff.1 h
  simp [World.setCell, hl, Array.getElem_modify, hg]
theorem box4_hi {W : World} {b : Nat} {a0 a1 a2 a3 x y : Value} {T : TypeId} (h : W.heap[b]? = some (.cells #[a0, a1, a2, a3] T (0, 0))) : ((W.setCell ⟨b, 2, none⟩ x).setCell ⟨b, 3, none⟩ y).heap[b]? = some (.cells #[a0, a1, x, y] T (0, 0)) := by
  obtain ⟨hl, hg⟩ := Array.getElem?_eq_some_iff.1 h
  simp [World.setCell, hl, Array.getElem_modify, hg]
theorem kept2 {W : World} {b zb : Nat} {o : Obj} (hn : b ≠ zb) (h : W.heap[b]? = some o) {i j : Nat} {p q : Value} : ((W.setCell ⟨zb, i, none⟩ p).setCell ⟨zb, j, none⟩ q).heap[b]? = some o := (Below.heap_setCell _ _ _ _ hn).trans ((Below.heap_setCell _ _ _ _ hn).trans h)
theorem e_ratio10 : Ret 12 #[.int .i64 10, .int .i64 1] (.agg #[.string ⟨#[49, 48]⟩, .string ⟨#[49]⟩]) := by
  rw [← rq_lit (by decide +kernel : txtQ (Rat.divInt 10 1) = (⟨#[49, 48]⟩, ⟨#[49]⟩))]
  exact ratio_q 10 1 (by decide) (by decide) (by decide)
theorem e_unit (j : Nat) (hj : j < 30) : Ret 31 #[.agg #[.string (txt (unitQ j).num), .string (txt ((unitQ j).den : Int))], .agg #[.string ⟨#[49, 48]⟩, .string ⟨#[49]⟩]] (.tuple #[.agg #[.string (txt (unitQ (j + 1)).num), .string (txt ((unitQ (j + 1)).den : Int))], .int .i64 0]) := by
  have f10 : FitQ (Rat.divInt 10 1) := ⟨fits_small (by decide +kernel), fits_small (by decide +kernel)⟩
  have h := divO (.some (unit_fit j (by omega))) (.some f10)
  rw [show lift2 divQ (some (unitQ j)) (some (Rat.divInt 10 1)) = some (unitQ (j + 1)) from unit_next j hj] at h
  rw [← rq_lit (by decide +kernel : txtQ (Rat.divInt 10 1) = (⟨#[49, 48]⟩, ⟨#[49]⟩))]
  exact h
set_option maxHeartbeats 16000000 in
theorem roots_walk (a : Addr) (x0 x1 x2 x3 part pl y0 y1 y2 y3 : Int) (hx0 : In64 x0) (hx1 : In64 x1) (hx2 : In64 x2) (hx3 : In64 x3) (hpt : In64 part) (hpl : In64 pl) (hy0 : In64 y0) (hy1 : In64 y1) (hy2 : In64 y2) (hy3 : In64 y3) (w : World) (hv : Ref a w) :
    Calls Tryz.prog 6 #[.agg #[.int .i64 x0, .int .i64 x1, .int .i64 x2, .int .i64 x3], .int .i64 part, .int .i64 pl, .agg #[.int .i64 y0, .int .i64 y1, .int .i64 y2, .int .i64 y3]] w fun e w' => e = .returned (.bool true) ∧ Below w.heap.size w w' := by
  have HV : Shut _ := ⟨hv⟩
  have CX : Shut _ := ⟨fun W => Made_any x0 x1 x2 x3 hx0 hx1 hx2 hx3 W⟩
  have CY : Shut _ := ⟨fun W => Made_any y0 y1 y2 y3 hy0 hy1 hy2 hy3 W⟩
  have CP : Shut _ := ⟨fun W => pickE_any pl 13 hpl.1 hpl.2 (by decide) (by decide) W⟩
  have HPT : Shut _ := ⟨hpt⟩
  clear hv hx0 hx1 hx2 hx3 hy0 hy1 hy2 hy3 hpl hpt
  obtain ⟨n_x, n_y⟩ := news2 w (.cells #[.int .i64 x0, .int .i64 x1, .int .i64 x2, .int .i64 x3] 26) (.cells #[.int .i64 y0, .int .i64 y1, .int .i64 y2, .int .i64 y3] 26)
  have u := below2 w (.cells #[.int .i64 x0, .int .i64 x1, .int .i64 x2, .int .i64 x3] 26) (.cells #[.int .i64 y0, .int .i64 y1, .int .i64 y2, .int .i64 y3] 26)
  go_enter Tryz.func6, Tryz.ntmps6
  go_wp2_with fail
  generalize (w.alloc (.cells #[.int .i64 x0, .int .i64 x1, .int .i64 x2, .int .i64 x3] 26)).alloc (.cells #[.int .i64 y0, .int .i64 y1, .int .i64 y2, .int .i64 y3] 26) = V0 at *
  refine (sane_any a V0 (HV.o.keep u)).mono ?_
  rintro e v1 ⟨rfl, g⟩
  replace u := u.trans (g.mono u.size)
  replace n_x := lkeep n_x g
  replace n_y := lkeep n_y g
  clear g
  go_wp2_with fail
  refine (CP.o _).mono ?_
  rintro e v2 ⟨c, hc, rfl, g⟩
  replace u := u.trans (g.mono u.size)
  replace n_x := lkeep n_x g
  replace n_y := lkeep n_y g
  clear g
  have c_x0 := lcell n_x 0 (v := .int .i64 x0) rfl
  have c_x1 := lcell n_x 1 (v := .int .i64 x1) rfl
  have c_x2 := lcell n_x 2 (v := .int .i64 x2) rfl
  have c_x3 := lcell n_x 3 (v := .int .i64 x3) rfl
  go_wp2_with fail
  refine (CX.o _).mono ?_
  rintro e v3 ⟨p1, q1, s1, t1, o1, rfl, g⟩
  replace u := u.trans (g.mono u.size)
  replace n_x := lkeep n_x g
  replace n_y := lkeep n_y g
  clear c_x0 c_x1 c_x2 c_x3
  clear g
  unfold iq
  have bnd_a := u.size
  have ne_ya : w.heap.size + 1 ≠ v3.heap.size := by have := (Array.getElem?_eq_some_iff.1 n_y).1; omega
  have g := (Below.refl v3.heap.size v3).alloc (Nat.le_refl _) (.cells #[.string (txt p1.num), .string (txt (p1.den : Int)), .string (txt q1.num), .string (txt (q1.den : Int))] 25)
  have n_a := World.alloc_heap_new v3 (.cells #[.string (txt p1.num), .string (txt (p1.den : Int)), .string (txt q1.num), .string (txt (q1.den : Int))] 25)
  replace u := u.trans (g.mono u.size)
  replace n_x := lkeep n_x g
  replace n_y := lkeep n_y g
  clear g
  clear n_x CX CP
  obtain ⟨kz, kc, p', q', sp', sq', z0', o', cZ, hZ, cK, hK⟩ := end_facts s1 t1
  clear s1 t1 o1
  have CZ : Shut _ := ⟨cZ⟩
  have CK : Shut _ := ⟨cK⟩
  have HZ : Shut _ := ⟨hZ⟩
  have HK : Shut _ := ⟨hK⟩
  clear cZ cK hZ hK
  go_upto_region 4 with fail
  generalize v3.alloc (.cells #[.string (txt p1.num), .string (txt (p1.den : Int)), .string (txt q1.num), .string (txt (q1.den : Int))] 25) = V_a at *
  generalize v3.heap.size = b_a at *
  go_region_held3 (fun X => X.cell? ⟨b_a, 0, none⟩ = some (.string (txt p1.num)) ∧ X.cell? ⟨b_a, 1, none⟩ = some (.string (txt (p1.den : Int)))) (exact ⟨lcell n_a 0 (v := .string (txt p1.num)) rfl, lcell n_a 1 (v := .string (txt (p1.den : Int))) rfl⟩) (first | (go_at_call 12; (with_reducible refine (Ret.run e_ratio0_1 _).mono ?_); rintro e u1 ⟨rfl, g⟩; have g : Below V_a.heap.size V_a u1 := lundrew2 g; replace u := u.trans (g.mono u.size); replace n_y := lkeep n_y g; replace n_a := lkeep n_a g; clear g; have m1 := 0) | (go_at_call 32; have q_ := m1; clear q_; (with_reducible refine (Ret.run CZ.o _).mono ?_); rintro e u2 ⟨rfl, g⟩; have g : Below u1.heap.size u1 u2 := g; replace u := u.trans (g.mono u.size); replace n_y := lkeep n_y g; replace n_a := lkeep n_a g; clear g))
  clear m1 CZ
  go_upto_if 46 with fail
  go_cut [] from 46 to 48 (fun wx => wx.heap[b_a]? = some (.cells #[.string (txt p'.num), .string (txt (p'.den : Int)), .string (txt q1.num), .string (txt (q1.den : Int))] 25 (0, 0)) ∧ wx.heap[w.heap.size + 1]? = some (.cells #[.int .i64 y0, .int .i64 y1, .int .i64 y2, .int .i64 y3] 26 (0, 0)) ∧ Below w.heap.size w wx)
  case first =>
    rcases HZ.o with ⟨hk, e1, e2⟩ | ⟨hk, hp⟩
    · go_wp2_with fail
      refine (e_ratio0_1 _).mono ?_
      rintro e v9 ⟨rfl, g⟩
      replace u := u.trans (g.mono u.size)
      replace n_y := lkeep n_y g
      replace n_a := lkeep n_a g
      clear g
      have k0 := lcell n_a 0 (v := .string (txt p1.num)) rfl
      have f0 := lfree n_a 0
      have k1 := lcell n_a 1 (v := .string (txt (p1.den : Int))) rfl
      have f1 := lfree n_a 1
      have m_a := box4_lo (x := .string ⟨#[48]⟩) (y := .string ⟨#[49]⟩) n_a
      have m_y : ((v9.setCell ⟨b_a, 0, none⟩ (.string ⟨#[48]⟩)).setCell ⟨b_a, 1, none⟩ (.string ⟨#[49]⟩)).heap[w.heap.size + 1]? = _ := kept2 ne_ya n_y
      go_wp2_with fail
      go_meet
      exact ⟨by rw [e1, e2]; exact m_a, m_y, (u.setCell (show w.heap.size ≤ (⟨b_a, 0, none⟩ : Addr).block from bnd_a) _).setCell (show w.heap.size ≤ (⟨b_a, 1, none⟩ : Addr).block from bnd_a) _⟩
    · have hk2 : ¬ kz < 0 := by omega
      go_wp2_with fail
      go_meet
      exact ⟨by rw [hp]; exact n_a, n_y, u⟩
  obtain ⟨n_a, n_y, u⟩ := hcut
  clear HZ
  obtain ⟨U1, hU⟩ : ∃ U, U = wc := ⟨_, rfl⟩
  rw [← hU] at n_a n_y u
  go_upto_region 6 with fail
  rw [← hU]
  clear hU
  have c_a0 := lcell n_a 0 (v := .string (txt p'.num)) rfl
  have c_a1 := lcell n_a 1 (v := .string (txt (p'.den : Int))) rfl
  have c_a2 := lcell n_a 2 (v := .string (txt q1.num)) rfl
  have c_a3 := lcell n_a 3 (v := .string (txt (q1.den : Int))) rfl
  go_wp2_with fail
  refine (CK.o _).mono ?_
  rintro e v4 ⟨rfl, g⟩
  replace u := u.trans (g.mono u.size)
  replace n_y := lkeep n_y g
  replace n_a := lkeep n_a g
  clear c_a0 c_a1 c_a2 c_a3
  clear g
  clear CK
  go_upto_if 54 with fail
  go_cut [] from 54 to 57 (fun wx => wx.heap[b_a]? = some (.cells #[.string (txt p'.num), .string (txt (p'.den : Int)), .string (txt q'.num), .string (txt (q'.den : Int))] 25 (0, 0)) ∧ wx.heap[w.heap.size + 1]? = some (.cells #[.int .i64 y0, .int .i64 y1, .int .i64 y2, .int .i64 y3] 26 (0, 0)) ∧ Below w.heap.size w wx)
  case first =>
    rcases HK.o with ⟨hk, hp⟩ | ⟨hk, hp⟩
    · have c_a0 := lcell n_a 0 (v := .string (txt p'.num)) rfl
      have c_a1 := lcell n_a 1 (v := .string (txt (p'.den : Int))) rfl
      have k2 := lcell n_a 2 (v := .string (txt q1.num)) rfl
      have f2 := lfree n_a 2
      have k3 := lcell n_a 3 (v := .string (txt (q1.den : Int))) rfl
      have f3 := lfree n_a 3
      have m_a := box4_hi (x := .string (txt p'.num)) (y := .string (txt (p'.den : Int))) n_a
      have m_y : ((v4.setCell ⟨b_a, 2, none⟩ (.string (txt p'.num))).setCell ⟨b_a, 3, none⟩ (.string (txt (p'.den : Int)))).heap[w.heap.size + 1]? = _ := kept2 ne_ya n_y
      go_wp2_with fail
      go_meet
      exact ⟨by rw [hp]; exact m_a, m_y, (u.setCell (show w.heap.size ≤ (⟨b_a, 2, none⟩ : Addr).block from bnd_a) _).setCell (show w.heap.size ≤ (⟨b_a, 3, none⟩ : Addr).block from bnd_a) _⟩
    · have hk2 : ¬ kc < 0 := by omega
      go_wp2_with fail
      go_meet
      exact ⟨by rw [hp]; exact n_a, n_y, u⟩
  obtain ⟨n_a, n_y, u⟩ := hcut
  clear HK
  obtain ⟨U2, hU⟩ : ∃ U, U = wc := ⟨_, rfl⟩
  rw [← hU] at n_a n_y u
  go_upto_region 8 with fail
  rw [← hU]
  clear hU
  have I1 := fun W => Inside_any sp' sq' o' part HPT.o W
  unfold iq at I1
  have c_a0 := lcell n_a 0 (v := .string (txt p'.num)) rfl
  have c_a1 := lcell n_a 1 (v := .string (txt (p'.den : Int))) rfl
  have c_a2 := lcell n_a 2 (v := .string (txt q'.num)) rfl
  have c_a3 := lcell n_a 3 (v := .string (txt (q'.den : Int))) rfl
  go_wp2_with fail
  refine (I1 _).mono ?_
  rintro e v5 ⟨r, br, r1, r2, rfl, g⟩
  replace u := u.trans (g.mono u.size)
  replace n_y := lkeep n_y g
  replace n_a := lkeep n_a g
  clear c_a0 c_a1 c_a2 c_a3
  clear g
  unfold rq rv
  have g := (Below.refl v5.heap.size v5).alloc (Nat.le_refl _) (.cells #[.string (txt r.num), .string (txt (r.den : Int))] 23)
  have n_r := World.alloc_heap_new v5 (.cells #[.string (txt r.num), .string (txt (r.den : Int))] 23)
  replace u := u.trans (g.mono u.size)
  replace n_y := lkeep n_y g
  replace n_a := lkeep n_a g
  clear g
  obtain ⟨l0, l1, g0, g1, m0, m1, m2, m3, hL, hG, hS, hCo⟩ := root_in a sp' sq' z0' br r1 r2 hc
  clear I1 sp' sq' z0' o' br r1 r2 HPT
  generalize (txt p'.num) = p0 at *
  generalize (txt (p'.den : Int)) = p1 at *
  generalize (txt q'.num) = q0 at *
  generalize (txt (q'.den : Int)) = q1 at *
  generalize (txt r.num) = r0 at *
  generalize (txt (r.den : Int)) = r1 at *
  have HL : Shut _ := ⟨hL⟩
  have HG : Shut _ := ⟨hG⟩
  have HS : Shut _ := ⟨hS⟩
  have HCo : Shut _ := ⟨hCo⟩
  clear hL hG hS hCo
  have c_a0 := lcell n_a 0 (v := .string p0) rfl
  have c_a1 := lcell n_a 1 (v := .string p1) rfl
  have c_a2 := lcell n_a 2 (v := .string q0) rfl
  have c_a3 := lcell n_a 3 (v := .string q1) rfl
  go_wp2_with fail
  generalize v5.alloc (.cells #[.string r0, .string r1] 23) = V_r at *
  generalize v5.heap.size = b_r at *
  refine (HL.o _).mono ?_
  rintro e v6 ⟨rfl, g⟩
  replace u := u.trans (g.mono u.size)
  replace n_y := lkeep n_y g
  replace n_a := lkeep n_a g
  replace n_r := lkeep n_r g
  clear c_a0 c_a1 c_a2 c_a3
  clear g
  have g := (Below.refl v6.heap.size v6).alloc (Nat.le_refl _) (.cells #[.string l0, .string l1] 23)
  have n_lw := World.alloc_heap_new v6 (.cells #[.string l0, .string l1] 23)
  replace u := u.trans (g.mono u.size)
  replace n_y := lkeep n_y g
  replace n_a := lkeep n_a g
  replace n_r := lkeep n_r g
  clear g
  have c_a0 := lcell n_a 0 (v := .string p0) rfl
  have c_a1 := lcell n_a 1 (v := .string p1) rfl
  have c_a2 := lcell n_a 2 (v := .string q0) rfl
  have c_a3 := lcell n_a 3 (v := .string q1) rfl
  go_wp2_with fail
  generalize v6.alloc (.cells #[.string l0, .string l1] 23) = V_lw at *
  generalize v6.heap.size = b_lw at *
  refine (HG.o _).mono ?_
  rintro e v7 ⟨rfl, g⟩
  replace u := u.trans (g.mono u.size)
  replace n_y := lkeep n_y g
  replace n_a := lkeep n_a g
  replace n_r := lkeep n_r g
  replace n_lw := lkeep n_lw g
  clear c_a0 c_a1 c_a2 c_a3
  clear g
  have g := (Below.refl v7.heap.size v7).alloc (Nat.le_refl _) (.cells #[.string g0, .string g1] 23)
  have n_hw := World.alloc_heap_new v7 (.cells #[.string g0, .string g1] 23)
  replace u := u.trans (g.mono u.size)
  replace n_y := lkeep n_y g
  replace n_a := lkeep n_a g
  replace n_r := lkeep n_r g
  replace n_lw := lkeep n_lw g
  clear g
  clear n_a
  have c_lw0 := lcell n_lw 0 (v := .string l0) rfl
  have c_lw1 := lcell n_lw 1 (v := .string l1) rfl
  have c_hw0 := lcell n_hw 0 (v := .string g0) rfl
  have c_hw1 := lcell n_hw 1 (v := .string g1) rfl
  go_wp2_with fail
  generalize v7.alloc (.cells #[.string g0, .string g1] 23) = V_hw at *
  generalize v7.heap.size = b_hw at *
  refine (HS.o _ (HV.o.keep u)).mono ?_
  rintro e v8 ⟨rfl, g⟩
  replace u := u.trans (g.mono u.size)
  replace n_y := lkeep n_y g
  replace n_r := lkeep n_r g
  replace n_lw := lkeep n_lw g
  replace n_hw := lkeep n_hw g
  clear c_lw0 c_lw1 c_hw0 c_hw1
  clear g
  clear n_lw n_hw
  have g := (Below.refl v8.heap.size v8).alloc (Nat.le_refl _) (.cells #[.string m0, .string m1, .string m2, .string m3] 25)
  have n_s := World.alloc_heap_new v8 (.cells #[.string m0, .string m1, .string m2, .string m3] 25)
  replace u := u.trans (g.mono u.size)
  replace n_y := lkeep n_y g
  replace n_r := lkeep n_r g
  clear g
  have c_s0 := lcell n_s 0 (v := .string m0) rfl
  have c_s1 := lcell n_s 1 (v := .string m1) rfl
  have c_s2 := lcell n_s 2 (v := .string m2) rfl
  have c_s3 := lcell n_s 3 (v := .string m3) rfl
  have c_r0 := lcell n_r 0 (v := .string r0) rfl
  have c_r1 := lcell n_r 1 (v := .string r1) rfl
  go_wp2_with fail
  generalize v8.alloc (.cells #[.string m0, .string m1, .string m2, .string m3] 25) = V_s at *
  generalize v8.heap.size = b_s at *
  refine (HCo.o _).mono ?_
  rintro e v9 ⟨rfl, g⟩
  replace u := u.trans (g.mono u.size)
  replace n_y := lkeep n_y g
  replace n_r := lkeep n_r g
  replace n_s := lkeep n_s g
  clear c_s0 c_s1 c_s2 c_s3 c_r0 c_r1
  clear g
  clear HL HG HS HCo n_s n_r
  have c_y0 := lcell n_y 0 (v := .int .i64 y0) rfl
  have c_y1 := lcell n_y 1 (v := .int .i64 y1) rfl
  have c_y2 := lcell n_y 2 (v := .int .i64 y2) rfl
  have c_y3 := lcell n_y 3 (v := .int .i64 y3) rfl
  go_wp2_with fail
  refine (CY.o _).mono ?_
  rintro e v10 ⟨p2, q2, s2, t2, o2, rfl, g⟩
  replace u := u.trans (g.mono u.size)
  replace n_y := lkeep n_y g
  clear c_y0 c_y1 c_y2 c_y3
  clear g
  unfold iq
  clear n_y CY
  have g := (Below.refl v10.heap.size v10).alloc (Nat.le_refl _) (.cells #[.string (txt p2.num), .string (txt (p2.den : Int)), .string (txt q2.num), .string (txt (q2.den : Int))] 25)
  have n_b := World.alloc_heap_new v10 (.cells #[.string (txt p2.num), .string (txt (p2.den : Int)), .string (txt q2.num), .string (txt (q2.den : Int))] 25)
  replace u := u.trans (g.mono u.size)
  clear g
  obtain ⟨n0, n1, n2, n3, f, kz2, hS, hz, hR⟩ := root_near a s2 t2 o2 hc
  clear s2 t2 o2
  generalize (txt p2.num) = p0 at *
  generalize (txt (p2.den : Int)) = p1 at *
  generalize (txt q2.num) = q0 at *
  generalize (txt (q2.den : Int)) = q1 at *
  have HS : Shut _ := ⟨hS⟩
  have HZ : Shut _ := ⟨hz⟩
  have HR : Shut _ := ⟨hR⟩
  clear hS hz hR
  have c_b0 := lcell n_b 0 (v := .string p0) rfl
  have c_b1 := lcell n_b 1 (v := .string p1) rfl
  have c_b2 := lcell n_b 2 (v := .string q0) rfl
  have c_b3 := lcell n_b 3 (v := .string q1) rfl
  go_wp2_with fail
  generalize v10.alloc (.cells #[.string p0, .string p1, .string q0, .string q1] 25) = V_b at *
  generalize v10.heap.size = b_b at *
  refine (HS.o _ (HV.o.keep u)).mono ?_
  rintro e v11 ⟨rfl, g⟩
  replace u := u.trans (g.mono u.size)
  replace n_b := lkeep n_b g
  clear c_b0 c_b1 c_b2 c_b3
  clear g
  have g := (Below.refl v11.heap.size v11).alloc (Nat.le_refl _) (.cells #[.string n0, .string n1, .string n2, .string n3] 25)
  have n_t := World.alloc_heap_new v11 (.cells #[.string n0, .string n1, .string n2, .string n3] 25)
  replace u := u.trans (g.mono u.size)
  replace n_b := lkeep n_b g
  clear g
  go_upto_region 16 with fail
  generalize v11.alloc (.cells #[.string n0, .string n1, .string n2, .string n3] 25) = V_t at *
  generalize v11.heap.size = b_t at *
  go_region_held3 (fun X => X.cell? ⟨b_b, 0, none⟩ = some (.string p0) ∧ X.cell? ⟨b_b, 1, none⟩ = some (.string p1)) (exact ⟨lcell n_b 0 (v := .string p0) rfl, lcell n_b 1 (v := .string p1) rfl⟩) (first | (go_at_call 12; (with_reducible refine (Ret.run e_ratio0_1 _).mono ?_); rintro e u3 ⟨rfl, g⟩; have g : Below V_t.heap.size V_t u3 := lundrew2 g; replace u := u.trans (g.mono u.size); replace n_b := lkeep n_b g; replace n_t := lkeep n_t g; clear g; have m1 := 0) | (go_at_call 32; have q_ := m1; clear q_; (with_reducible refine (Ret.run HZ.o _).mono ?_); rintro e u4 ⟨rfl, g⟩; have g : Below u3.heap.size u3 u4 := g; replace u := u.trans (g.mono u.size); replace n_b := lkeep n_b g; replace n_t := lkeep n_t g; clear g))
  clear m1 HZ HS
  rcases HR.o with ⟨hk, rfl⟩ | ⟨hk, rfl, hR⟩
  · go_wp2_with fail
    go_ret
    exact ⟨by simp, u⟩
  · have hk2 : ¬ kz2 < 0 := by omega
    obtain ⟨i0, i1, o0, o1, a0, a1, e0, e1, j0, j1, v0, v1, k1, k2, k3, k4, k5, hI, hO, hA, hE, hJ, hV, h1, l1, h2, l2, h3, l3, h4, h5, l45⟩ := hR
    have ShI : Shut _ := ⟨hI⟩
    have ShO : Shut _ := ⟨hO⟩
    have ShA : Shut _ := ⟨hA⟩
    have ShE : Shut _ := ⟨hE⟩
    have ShJ : Shut _ := ⟨hJ⟩
    have ShV : Shut _ := ⟨hV⟩
    have Sh1 : Shut _ := ⟨h1⟩
    have Sh2 : Shut _ := ⟨h2⟩
    have Sh3 : Shut _ := ⟨h3⟩
    have Sh4 : Shut _ := ⟨h4⟩
    have Sh5 : Shut _ := ⟨h5⟩
    have Sl45 : Shut _ := ⟨l45⟩
    clear hI hO hA hE hJ hV h1 h2 h3 h4 h5 l45 HR
    have R11 : Ret 12 #[.int .i64 1, .int .i64 1] (.agg #[.string (txt (unitQ 0).num), .string (txt ((unitQ 0).den : Int))]) := ratio_q 1 1 (by decide) (by decide) (by decide)
    go_wp2_with fail
    refine (R11 _).mono ?_
    rintro e v12 ⟨rfl, g⟩
    replace u := u.trans (g.mono u.size)
    replace n_b := lkeep n_b g
    replace n_t := lkeep n_t g
    clear g
    clear R11
    have ne_bu : b_b ≠ v12.heap.size := by have := (Array.getElem?_eq_some_iff.1 n_b).1; omega
    have ne_tu : b_t ≠ v12.heap.size := by have := (Array.getElem?_eq_some_iff.1 n_t).1; omega
    have bun := u.size
    obtain ⟨G0, hG0⟩ : ∃ G : Nat → ByteArray, G = fun j => txt (unitQ j).num := ⟨_, rfl⟩
    obtain ⟨G1, hG1⟩ : ∃ G : Nat → ByteArray, G = fun j => txt ((unitQ j).den : Int) := ⟨_, rfl⟩
    have DV : Shut (∀ j, j < c → Ret 31 #[.agg #[.string (G0 j), .string (G1 j)], .agg #[.string ⟨#[49, 48]⟩, .string ⟨#[49]⟩]] (.tuple #[.agg #[.string (G0 (j + 1)), .string (G1 (j + 1))], .int .i64 0])) := ⟨fun j hj => by rw [hG0, hG1]; exact e_unit j (by omega)⟩
    rw [show txt (unitQ 0).num = G0 0 by rw [hG0], show txt ((unitQ 0).den : Int) = G1 0 by rw [hG1]]
    rw [show txt (unitQ c).num = G0 c by rw [hG0], show txt ((unitQ c).den : Int) = G1 c by rw [hG1]] at ShI ShO
    clear hG0 hG1
    have g := (Below.refl v12.heap.size v12).alloc (Nat.le_refl _) (.cells #[.string (G0 0), .string (G1 0)] 23)
    have n_un := World.alloc_heap_new v12 (.cells #[.string (G0 0), .string (G1 0)] 23)
    replace u := u.trans (g.mono u.size)
    replace n_b := lkeep n_b g
    replace n_t := lkeep n_t g
    clear g
    go_wp2_with fail
    generalize v12.alloc (.cells #[.string (G0 0), .string (G1 0)] 23) = V_un at *
    generalize v12.heap.size = b_un at *
    have S0 : Shut (V_un.heap[b_b]? = some (.cells #[.string p0, .string p1, .string q0, .string q1] 25 (0, 0)) ∧ V_un.heap[b_t]? = some (.cells #[.string n0, .string n1, .string n2, .string n3] 25 (0, 0)) ∧ V_un.heap[b_un]? = some (.cells #[.string (G0 0), .string (G1 0)] 23 (0, 0)) ∧ Below w.heap.size w V_un) := ⟨n_b, n_t, n_un, u⟩
    clear n_b n_t n_un u
    go_loopw [22] (fun jv wr => ∃ j : Nat, j ≤ c ∧ jv = .int .i64 (j : Int) ∧ Shut (wr.heap[b_b]? = some (.cells #[.string p0, .string p1, .string q0, .string q1] 25 (0, 0)) ∧ wr.heap[b_t]? = some (.cells #[.string n0, .string n1, .string n2, .string n3] 25 (0, 0)) ∧ wr.heap[b_un]? = some (.cells #[.string (G0 j), .string (G1 j)] 23 (0, 0)) ∧ Below w.heap.size w wr)) (fun jv _ => c - (intOf jv).toNat)
    case atStart => exact ⟨0, Nat.zero_le _, rfl, S0⟩
    case round =>
      obtain ⟨j, hj, rfl, H⟩ := hrel
      obtain ⟨n_b, n_t, n_un, u⟩ := H.o
      clear H S0
      by_cases hjk : j = c
      · subst hjk
        clear DV
        have c_t0 := lcell n_t 0 (v := .string n0) rfl
        have c_t1 := lcell n_t 1 (v := .string n1) rfl
        have c_t2 := lcell n_t 2 (v := .string n2) rfl
        have c_t3 := lcell n_t 3 (v := .string n3) rfl
        have c_un0 := lcell n_un 0 (v := .string (G0 j)) rfl
        have c_un1 := lcell n_un 1 (v := .string (G1 j)) rfl
        go_wp2_with fail
        refine (ShI.o _).mono ?_
        rintro e v13 ⟨rfl, g⟩
        replace u := u.trans (g.mono u.size)
        replace n_b := lkeep n_b g
        replace n_t := lkeep n_t g
        replace n_un := lkeep n_un g
        clear c_t0 c_t1 c_t2 c_t3 c_un0 c_un1
        clear g
        have g := (Below.refl v13.heap.size v13).alloc (Nat.le_refl _) (.cells #[.string i0, .string i1] 23)
        have n_i := World.alloc_heap_new v13 (.cells #[.string i0, .string i1] 23)
        replace u := u.trans (g.mono u.size)
        replace n_b := lkeep n_b g
        replace n_t := lkeep n_t g
        replace n_un := lkeep n_un g
        clear g
        have c_t0 := lcell n_t 0 (v := .string n0) rfl
        have c_t1 := lcell n_t 1 (v := .string n1) rfl
        have c_t2 := lcell n_t 2 (v := .string n2) rfl
        have c_t3 := lcell n_t 3 (v := .string n3) rfl
        have c_un0 := lcell n_un 0 (v := .string (G0 j)) rfl
        have c_un1 := lcell n_un 1 (v := .string (G1 j)) rfl
        go_wp2_with fail
        generalize v13.alloc (.cells #[.string i0, .string i1] 23) = V_i at *
        generalize v13.heap.size = b_i at *
        refine (ShO.o _).mono ?_
        rintro e v14 ⟨rfl, g⟩
        replace u := u.trans (g.mono u.size)
        replace n_b := lkeep n_b g
        replace n_t := lkeep n_t g
        replace n_un := lkeep n_un g
        replace n_i := lkeep n_i g
        clear c_t0 c_t1 c_t2 c_t3 c_un0 c_un1
        clear g
        have g := (Below.refl v14.heap.size v14).alloc (Nat.le_refl _) (.cells #[.string o0, .string o1] 23)
        have n_o := World.alloc_heap_new v14 (.cells #[.string o0, .string o1] 23)
        replace u := u.trans (g.mono u.size)
        replace n_b := lkeep n_b g
        replace n_t := lkeep n_t g
        replace n_un := lkeep n_un g
        replace n_i := lkeep n_i g
        clear g
        clear n_un ShI ShO
        have c_t0 := lcell n_t 0 (v := .string n0) rfl
        have c_t1 := lcell n_t 1 (v := .string n1) rfl
        have c_t2 := lcell n_t 2 (v := .string n2) rfl
        have c_t3 := lcell n_t 3 (v := .string n3) rfl
        go_wp2_with fail
        generalize v14.alloc (.cells #[.string o0, .string o1] 23) = V_o at *
        generalize v14.heap.size = b_o at *
        refine (ShA.o _).mono ?_
        rintro e v15 ⟨rfl, g⟩
        replace u := u.trans (g.mono u.size)
        replace n_b := lkeep n_b g
        replace n_t := lkeep n_t g
        replace n_i := lkeep n_i g
        replace n_o := lkeep n_o g
        clear c_t0 c_t1 c_t2 c_t3
        clear g
        have g := (Below.refl v15.heap.size v15).alloc (Nat.le_refl _) (.cells #[.string a0, .string a1] 23)
        have n_p := World.alloc_heap_new v15 (.cells #[.string a0, .string a1] 23)
        replace u := u.trans (g.mono u.size)
        replace n_b := lkeep n_b g
        replace n_t := lkeep n_t g
        replace n_i := lkeep n_i g
        replace n_o := lkeep n_o g
        clear g
        have c_i0 := lcell n_i 0 (v := .string i0) rfl
        have c_i1 := lcell n_i 1 (v := .string i1) rfl
        go_wp2_with fail
        generalize v15.alloc (.cells #[.string a0, .string a1] 23) = V_p at *
        generalize v15.heap.size = b_p at *
        refine (ShE.o _).mono ?_
        rintro e v16 ⟨rfl, g⟩
        replace u := u.trans (g.mono u.size)
        replace n_b := lkeep n_b g
        replace n_t := lkeep n_t g
        replace n_i := lkeep n_i g
        replace n_o := lkeep n_o g
        replace n_p := lkeep n_p g
        clear c_i0 c_i1
        clear g
        have g := (Below.refl v16.heap.size v16).alloc (Nat.le_refl _) (.cells #[.string e0, .string e1] 23)
        have n_q := World.alloc_heap_new v16 (.cells #[.string e0, .string e1] 23)
        replace u := u.trans (g.mono u.size)
        replace n_b := lkeep n_b g
        replace n_t := lkeep n_t g
        replace n_i := lkeep n_i g
        replace n_o := lkeep n_o g
        replace n_p := lkeep n_p g
        clear g
        clear n_i
        have c_t0 := lcell n_t 0 (v := .string n0) rfl
        have c_t1 := lcell n_t 1 (v := .string n1) rfl
        have c_t2 := lcell n_t 2 (v := .string n2) rfl
        have c_t3 := lcell n_t 3 (v := .string n3) rfl
        go_wp2_with fail
        generalize v16.alloc (.cells #[.string e0, .string e1] 23) = V_q at *
        generalize v16.heap.size = b_q at *
        refine (ShJ.o _).mono ?_
        rintro e v17 ⟨rfl, g⟩
        replace u := u.trans (g.mono u.size)
        replace n_b := lkeep n_b g
        replace n_t := lkeep n_t g
        replace n_o := lkeep n_o g
        replace n_p := lkeep n_p g
        replace n_q := lkeep n_q g
        clear c_t0 c_t1 c_t2 c_t3
        clear g
        have g := (Below.refl v17.heap.size v17).alloc (Nat.le_refl _) (.cells #[.string j0, .string j1] 23)
        have n_j := World.alloc_heap_new v17 (.cells #[.string j0, .string j1] 23)
        replace u := u.trans (g.mono u.size)
        replace n_b := lkeep n_b g
        replace n_t := lkeep n_t g
        replace n_o := lkeep n_o g
        replace n_p := lkeep n_p g
        replace n_q := lkeep n_q g
        clear g
        clear n_t
        have c_o0 := lcell n_o 0 (v := .string o0) rfl
        have c_o1 := lcell n_o 1 (v := .string o1) rfl
        go_wp2_with fail
        generalize v17.alloc (.cells #[.string j0, .string j1] 23) = V_j at *
        generalize v17.heap.size = b_j at *
        refine (ShV.o _).mono ?_
        rintro e v18 ⟨rfl, g⟩
        replace u := u.trans (g.mono u.size)
        replace n_b := lkeep n_b g
        replace n_o := lkeep n_o g
        replace n_p := lkeep n_p g
        replace n_q := lkeep n_q g
        replace n_j := lkeep n_j g
        clear c_o0 c_o1
        clear g
        have g := (Below.refl v18.heap.size v18).alloc (Nat.le_refl _) (.cells #[.string v0, .string v1] 23)
        have n_v := World.alloc_heap_new v18 (.cells #[.string v0, .string v1] 23)
        replace u := u.trans (g.mono u.size)
        replace n_b := lkeep n_b g
        replace n_o := lkeep n_o g
        replace n_p := lkeep n_p g
        replace n_q := lkeep n_q g
        replace n_j := lkeep n_j g
        clear g
        have c_p0 := lcell n_p 0 (v := .string a0) rfl
        have c_p1 := lcell n_p 1 (v := .string a1) rfl
        have c_b0 := lcell n_b 0 (v := .string p0) rfl
        have c_b1 := lcell n_b 1 (v := .string p1) rfl
        have c_b2 := lcell n_b 2 (v := .string q0) rfl
        have c_b3 := lcell n_b 3 (v := .string q1) rfl
        go_wp2_with fail
        generalize v18.alloc (.cells #[.string v0, .string v1] 23) = V_v at *
        generalize v18.heap.size = b_v at *
        refine (Sh1.o _).mono ?_
        rintro e v19 ⟨rfl, g⟩
        replace u := u.trans (g.mono u.size)
        replace n_b := lkeep n_b g
        replace n_o := lkeep n_o g
        replace n_p := lkeep n_p g
        replace n_q := lkeep n_q g
        replace n_j := lkeep n_j g
        replace n_v := lkeep n_v g
        clear c_p0 c_p1 c_b0 c_b1 c_b2 c_b3
        clear g
        have c_q0 := lcell n_q 0 (v := .string e0) rfl
        have c_q1 := lcell n_q 1 (v := .string e1) rfl
        have c_b0 := lcell n_b 0 (v := .string p0) rfl
        have c_b1 := lcell n_b 1 (v := .string p1) rfl
        have c_b2 := lcell n_b 2 (v := .string q0) rfl
        have c_b3 := lcell n_b 3 (v := .string q1) rfl
        go_wp2_with fail
        refine (Sh2.o _).mono ?_
        rintro e v20 ⟨rfl, g⟩
        replace u := u.trans (g.mono u.size)
        replace n_b := lkeep n_b g
        replace n_o := lkeep n_o g
        replace n_p := lkeep n_p g
        replace n_q := lkeep n_q g
        replace n_j := lkeep n_j g
        replace n_v := lkeep n_v g
        clear c_q0 c_q1 c_b0 c_b1 c_b2 c_b3
        clear g
        clear n_p n_q Sh1 Sh2 ShA ShE ShJ ShV
        have l2' : ¬ k2 ≤ 0 := by omega
        go_upto_region 30 with fail
        have Z30 := 0
        have c_j0 := lcell n_j 0 (v := .string j0) rfl
        have c_j1 := lcell n_j 1 (v := .string j1) rfl
        have c_b2 := lcell n_b 2 (v := .string q0) rfl
        have c_b3 := lcell n_b 3 (v := .string q1) rfl
        have c_o0 := lcell n_o 0 (v := .string o0) rfl
        have c_o1 := lcell n_o 1 (v := .string o1) rfl
        have c_v0 := lcell n_v 0 (v := .string v0) rfl
        have c_v1 := lcell n_v 1 (v := .string v1) rfl
        clear n_b n_o n_j n_v
        refine wp_region_held_drew (S := fun X => X.cell? ⟨b_j, 0, none⟩ = some (.string j0) ∧ X.cell? ⟨b_j, 1, none⟩ = some (.string j1) ∧ X.cell? ⟨b_b, 2, none⟩ = some (.string q0) ∧ X.cell? ⟨b_b, 3, none⟩ = some (.string q1) ∧ X.cell? ⟨b_o, 0, none⟩ = some (.string o0) ∧ X.cell? ⟨b_o, 1, none⟩ = some (.string o1) ∧ X.cell? ⟨b_v, 0, none⟩ = some (.string v0) ∧ X.cell? ⟨b_v, 1, none⟩ = some (.string v1)) (by kernel_rfl) (by exact ⟨c_j0, c_j1, c_b2, c_b3, c_o0, c_o1, c_v0, c_v1⟩) (fun hHeld => ?_)
        refine wpAnyH_take (i := 0) (v := ?_) rfl (by kernel_rfl) (by kernel_rfl) (by kernel_rfl) (fun _ _ _ h => h) (Or.inl ⟨by rfl, ?_⟩) (by assumption) ?_
        rotate_left
        focus (intro w hSw; (try dsimp only at hSw); go_simp; first | done | with_reducible rfl)
        refine wpAnyH_take (i := 1) (v := ?_) rfl (by kernel_rfl) (by kernel_rfl) (by kernel_rfl) (fun _ _ _ h => h) (Or.inl ⟨by rfl, ?_⟩) (by assumption) ?_
        rotate_left
        focus (intro w hSw; (try dsimp only at hSw); go_simp; first | done | with_reducible rfl)
        simp only [Act.put, List.getElem_toArray, List.getElem_cons_zero, List.getElem_cons_succ, List.setIfInBounds_toArray, List.set_cons_zero, List.set_cons_succ]
        refine wpAnyH_take (i := 2) (v := ?_) rfl (by kernel_rfl) (by kernel_rfl) (by kernel_rfl) (fun _ _ _ h => h) (Or.inl ⟨by rfl, ?_⟩) (by assumption) ?_
        rotate_left
        focus (intro w hSw; (try dsimp only at hSw); go_simp; first | done | with_reducible rfl)
        simp only [Act.put, List.getElem_toArray, List.getElem_cons_zero, List.getElem_cons_succ, List.setIfInBounds_toArray, List.set_cons_zero, List.set_cons_succ]
        refine wpAnyH_ready (rs := [3]) (by kernel_rfl) (by simp) ?_
        refine AllReadyH.cons rfl (fun K hK => ?_) AllReadyH.nil
        go_simp
        (with_reducible refine (Ret.run Sh3.o _).mono ?_)
        rintro e y1 ⟨rfl, g⟩
        have g : Below v20.heap.size v20 y1 := lundrew2 g
        replace u := u.trans (g.mono u.size)
        have c_j0 : y1.cell? ⟨b_j, 0, none⟩ = some (.string j0) := (g.cell (p := ⟨b_j, 0, none⟩) (World.block_lt_of_cell? _ _ c_j0)).trans c_j0
        have c_j1 : y1.cell? ⟨b_j, 1, none⟩ = some (.string j1) := (g.cell (p := ⟨b_j, 1, none⟩) (World.block_lt_of_cell? _ _ c_j1)).trans c_j1
        have c_b2 : y1.cell? ⟨b_b, 2, none⟩ = some (.string q0) := (g.cell (p := ⟨b_b, 2, none⟩) (World.block_lt_of_cell? _ _ c_b2)).trans c_b2
        have c_b3 : y1.cell? ⟨b_b, 3, none⟩ = some (.string q1) := (g.cell (p := ⟨b_b, 3, none⟩) (World.block_lt_of_cell? _ _ c_b3)).trans c_b3
        have c_o0 : y1.cell? ⟨b_o, 0, none⟩ = some (.string o0) := (g.cell (p := ⟨b_o, 0, none⟩) (World.block_lt_of_cell? _ _ c_o0)).trans c_o0
        have c_o1 : y1.cell? ⟨b_o, 1, none⟩ = some (.string o1) := (g.cell (p := ⟨b_o, 1, none⟩) (World.block_lt_of_cell? _ _ c_o1)).trans c_o1
        have c_v0 : y1.cell? ⟨b_v, 0, none⟩ = some (.string v0) := (g.cell (p := ⟨b_v, 0, none⟩) (World.block_lt_of_cell? _ _ c_v0)).trans c_v0
        have c_v1 : y1.cell? ⟨b_v, 1, none⟩ = some (.string v1) := (g.cell (p := ⟨b_v, 1, none⟩) (World.block_lt_of_cell? _ _ c_v1)).trans c_v1
        clear g
        refine hK.out _ _ ⟨c_j0, c_j1, c_b2, c_b3, c_o0, c_o1, c_v0, c_v1⟩ (fun hHeld => ?_)
        clear hK K
        have d3 : decide (0 ≤ k3) = true := decide_eq_true l3
        refine wpAnyH_take (i := 4) (v := ?_) rfl (by kernel_rfl) (by kernel_rfl) (by kernel_rfl) (fun _ _ _ h => h) (Or.inl ⟨by rfl, ?_⟩) (by assumption) ?_
        rotate_left
        focus (intro w hSw; (try dsimp only at hSw); go_simp; first | done | with_reducible rfl)
        simp only [Act.put, List.getElem_toArray, List.getElem_cons_zero, List.getElem_cons_succ, List.setIfInBounds_toArray, List.set_cons_zero, List.set_cons_succ]
        refine wpAnyH_take (i := 5) (v := ?_) rfl (by kernel_rfl) (by kernel_rfl) (by kernel_rfl) (fun _ _ _ h => h) (Or.inl ⟨by rfl, ?_⟩) (by assumption) ?_
        rotate_left
        focus (intro w hSw; (try dsimp only at hSw); go_simp; first | done | with_reducible rfl)
        simp only [Act.put, List.getElem_toArray, List.getElem_cons_zero, List.getElem_cons_succ, List.setIfInBounds_toArray, List.set_cons_zero, List.set_cons_succ]
        refine wpAnyH_take (i := 6) (v := ?_) rfl (by kernel_rfl) (by kernel_rfl) (by kernel_rfl) (fun _ _ _ h => h) (Or.inl ⟨by rfl, ?_⟩) (by assumption) ?_
        rotate_left
        focus (intro w hSw; (try dsimp only at hSw); go_simp; first | done | with_reducible rfl)
        simp only [Act.put, List.getElem_toArray, List.getElem_cons_zero, List.getElem_cons_succ, List.setIfInBounds_toArray, List.set_cons_zero, List.set_cons_succ]
        refine wpAnyH_ready (rs := [7]) (by kernel_rfl) (by simp) ?_
        refine AllReadyH.cons rfl (fun K hK => ?_) AllReadyH.nil
        go_simp
        (with_reducible refine (Ret.run e_ratio0_1 _).mono ?_)
        rintro e y2 ⟨rfl, g⟩
        have g : Below y1.heap.size y1 y2 := g
        replace u := u.trans (g.mono u.size)
        have c_j0 : y2.cell? ⟨b_j, 0, none⟩ = some (.string j0) := (g.cell (p := ⟨b_j, 0, none⟩) (World.block_lt_of_cell? _ _ c_j0)).trans c_j0
        have c_j1 : y2.cell? ⟨b_j, 1, none⟩ = some (.string j1) := (g.cell (p := ⟨b_j, 1, none⟩) (World.block_lt_of_cell? _ _ c_j1)).trans c_j1
        have c_b2 : y2.cell? ⟨b_b, 2, none⟩ = some (.string q0) := (g.cell (p := ⟨b_b, 2, none⟩) (World.block_lt_of_cell? _ _ c_b2)).trans c_b2
        have c_b3 : y2.cell? ⟨b_b, 3, none⟩ = some (.string q1) := (g.cell (p := ⟨b_b, 3, none⟩) (World.block_lt_of_cell? _ _ c_b3)).trans c_b3
        have c_o0 : y2.cell? ⟨b_o, 0, none⟩ = some (.string o0) := (g.cell (p := ⟨b_o, 0, none⟩) (World.block_lt_of_cell? _ _ c_o0)).trans c_o0
        have c_o1 : y2.cell? ⟨b_o, 1, none⟩ = some (.string o1) := (g.cell (p := ⟨b_o, 1, none⟩) (World.block_lt_of_cell? _ _ c_o1)).trans c_o1
        have c_v0 : y2.cell? ⟨b_v, 0, none⟩ = some (.string v0) := (g.cell (p := ⟨b_v, 0, none⟩) (World.block_lt_of_cell? _ _ c_v0)).trans c_v0
        have c_v1 : y2.cell? ⟨b_v, 1, none⟩ = some (.string v1) := (g.cell (p := ⟨b_v, 1, none⟩) (World.block_lt_of_cell? _ _ c_v1)).trans c_v1
        clear g
        refine hK.out _ _ ⟨c_j0, c_j1, c_b2, c_b3, c_o0, c_o1, c_v0, c_v1⟩ (fun hHeld => ?_)
        clear hK K
        refine wpAnyH_ready (rs := [8]) (by kernel_rfl) (by simp) ?_
        refine AllReadyH.cons rfl (fun K hK => ?_) AllReadyH.nil
        go_simp
        (with_reducible refine (Ret.run Sh4.o _).mono ?_)
        rintro e y3 ⟨rfl, g⟩
        have g : Below y2.heap.size y2 y3 := g
        replace u := u.trans (g.mono u.size)
        have c_j0 : y3.cell? ⟨b_j, 0, none⟩ = some (.string j0) := (g.cell (p := ⟨b_j, 0, none⟩) (World.block_lt_of_cell? _ _ c_j0)).trans c_j0
        have c_j1 : y3.cell? ⟨b_j, 1, none⟩ = some (.string j1) := (g.cell (p := ⟨b_j, 1, none⟩) (World.block_lt_of_cell? _ _ c_j1)).trans c_j1
        have c_b2 : y3.cell? ⟨b_b, 2, none⟩ = some (.string q0) := (g.cell (p := ⟨b_b, 2, none⟩) (World.block_lt_of_cell? _ _ c_b2)).trans c_b2
        have c_b3 : y3.cell? ⟨b_b, 3, none⟩ = some (.string q1) := (g.cell (p := ⟨b_b, 3, none⟩) (World.block_lt_of_cell? _ _ c_b3)).trans c_b3
        have c_o0 : y3.cell? ⟨b_o, 0, none⟩ = some (.string o0) := (g.cell (p := ⟨b_o, 0, none⟩) (World.block_lt_of_cell? _ _ c_o0)).trans c_o0
        have c_o1 : y3.cell? ⟨b_o, 1, none⟩ = some (.string o1) := (g.cell (p := ⟨b_o, 1, none⟩) (World.block_lt_of_cell? _ _ c_o1)).trans c_o1
        have c_v0 : y3.cell? ⟨b_v, 0, none⟩ = some (.string v0) := (g.cell (p := ⟨b_v, 0, none⟩) (World.block_lt_of_cell? _ _ c_v0)).trans c_v0
        have c_v1 : y3.cell? ⟨b_v, 1, none⟩ = some (.string v1) := (g.cell (p := ⟨b_v, 1, none⟩) (World.block_lt_of_cell? _ _ c_v1)).trans c_v1
        clear g
        refine hK.out _ _ ⟨c_j0, c_j1, c_b2, c_b3, c_o0, c_o1, c_v0, c_v1⟩ (fun hHeld => ?_)
        clear hK K
        rcases Sl45.o with h4 | ⟨h4, h5⟩
        · have d4 : decide (k4 < 0) = true := decide_eq_true h4
          refine wpAnyH_take (i := 9) (v := ?_) rfl (by kernel_rfl) (by kernel_rfl) (by kernel_rfl) (fun _ _ _ h => h) (Or.inl ⟨by rfl, ?_⟩) (by assumption) ?_
          rotate_left
          focus (intro w hSw; (try dsimp only at hSw); go_simp; first | done | with_reducible rfl)
          simp only [Act.put, List.getElem_toArray, List.getElem_cons_zero, List.getElem_cons_succ, List.setIfInBounds_toArray, List.set_cons_zero, List.set_cons_succ]
          refine wpAnyH_take (i := 10) (v := ?_) rfl (by kernel_rfl) (by kernel_rfl) (by kernel_rfl) (fun _ _ _ h => h) (Or.inl ⟨by rfl, ?_⟩) (by assumption) ?_
          rotate_left
          focus (intro w hSw; (try dsimp only at hSw); go_simp; first | done | with_reducible rfl)
          simp only [Act.put, List.getElem_toArray, List.getElem_cons_zero, List.getElem_cons_succ, List.setIfInBounds_toArray, List.set_cons_zero, List.set_cons_succ]
          refine wpAnyH_take (i := 11) (v := undef) rfl (by kernel_rfl) (by kernel_rfl) (by kernel_rfl) (fun _ _ _ h => h) (Or.inr ⟨by rfl, rfl⟩) (by assumption) ?_
          simp only [Act.put, List.getElem_toArray, List.getElem_cons_zero, List.getElem_cons_succ, List.setIfInBounds_toArray, List.set_cons_zero, List.set_cons_succ]
          refine wpAnyH_take (i := 12) (v := undef) rfl (by kernel_rfl) (by kernel_rfl) (by kernel_rfl) (fun _ _ _ h => h) (Or.inr ⟨by rfl, rfl⟩) (by assumption) ?_
          simp only [Act.put, List.getElem_toArray, List.getElem_cons_zero, List.getElem_cons_succ, List.setIfInBounds_toArray, List.set_cons_zero, List.set_cons_succ]
          refine wpAnyH_take (i := 13) (v := undef) rfl (by kernel_rfl) (by kernel_rfl) (by kernel_rfl) (fun _ _ _ h => h) (Or.inr ⟨by rfl, rfl⟩) (by assumption) ?_
          simp only [Act.put, List.getElem_toArray, List.getElem_cons_zero, List.getElem_cons_succ, List.setIfInBounds_toArray, List.set_cons_zero, List.set_cons_succ]
          refine wpAnyH_take (i := 14) (v := undef) rfl (by kernel_rfl) (by kernel_rfl) (by kernel_rfl) (fun _ _ _ h => h) (Or.inr ⟨by rfl, rfl⟩) (by assumption) ?_
          simp only [Act.put, List.getElem_toArray, List.getElem_cons_zero, List.getElem_cons_succ, List.setIfInBounds_toArray, List.set_cons_zero, List.set_cons_succ]
          refine wpAnyH_take (i := 15) (v := undef) rfl (by kernel_rfl) (by kernel_rfl) (by kernel_rfl) (fun _ _ _ h => h) (Or.inr ⟨by rfl, rfl⟩) (by assumption) ?_
          simp only [Act.put, List.getElem_toArray, List.getElem_cons_zero, List.getElem_cons_succ, List.setIfInBounds_toArray, List.set_cons_zero, List.set_cons_succ]
          refine wpAnyH_take (i := 16) (v := ?_) rfl (by kernel_rfl) (by kernel_rfl) (by kernel_rfl) (fun _ _ _ h => h) (Or.inl ⟨by rfl, ?_⟩) (by assumption) ?_
          rotate_left
          focus (intro w hSw; (try dsimp only at hSw); go_simp; first | done | with_reducible rfl)
          simp only [Act.put, List.getElem_toArray, List.getElem_cons_zero, List.getElem_cons_succ, List.setIfInBounds_toArray, List.set_cons_zero, List.set_cons_succ]
          refine wpAnyH_take (i := 17) (v := ?_) rfl (by kernel_rfl) (by kernel_rfl) (by kernel_rfl) (fun _ _ _ h => h) (Or.inl ⟨by rfl, ?_⟩) (by assumption) ?_
          rotate_left
          focus (intro w hSw; (try dsimp only at hSw); go_simp; first | done | with_reducible rfl)
          simp only [Act.put, List.getElem_toArray, List.getElem_cons_zero, List.getElem_cons_succ, List.setIfInBounds_toArray, List.set_cons_zero, List.set_cons_succ]
          refine wpAnyH_take (i := 18) (v := ?_) rfl (by kernel_rfl) (by kernel_rfl) (by kernel_rfl) (fun _ _ _ h => h) (Or.inl ⟨by rfl, ?_⟩) (by assumption) ?_
          rotate_left
          focus (intro w hSw; (try dsimp only at hSw); go_simp; first | done | with_reducible rfl)
          simp only [Act.put, List.getElem_toArray, List.getElem_cons_zero, List.getElem_cons_succ, List.setIfInBounds_toArray, List.set_cons_zero, List.set_cons_succ]
          refine wpAnyH_done (by kernel_rfl) ?_ _
          clear c_j0 c_j1 c_b2 c_b3 c_o0 c_o1 c_v0 c_v1
          go_wp2_with fail
          go_ret
          exact ⟨by simp, u⟩
        · have d4 : decide (k4 < 0) = false := decide_eq_false (by omega)
          have d5 : decide (k5 < 0) = true := decide_eq_true h5
          refine wpAnyH_take (i := 9) (v := ?_) rfl (by kernel_rfl) (by kernel_rfl) (by kernel_rfl) (fun _ _ _ h => h) (Or.inl ⟨by rfl, ?_⟩) (by assumption) ?_
          rotate_left
          focus (intro w hSw; (try dsimp only at hSw); go_simp; first | done | with_reducible rfl)
          simp only [Act.put, List.getElem_toArray, List.getElem_cons_zero, List.getElem_cons_succ, List.setIfInBounds_toArray, List.set_cons_zero, List.set_cons_succ]
          refine wpAnyH_take (i := 10) (v := ?_) rfl (by kernel_rfl) (by kernel_rfl) (by kernel_rfl) (fun _ _ _ h => h) (Or.inl ⟨by rfl, ?_⟩) (by assumption) ?_
          rotate_left
          focus (intro w hSw; (try dsimp only at hSw); go_simp; first | done | with_reducible rfl)
          simp only [Act.put, List.getElem_toArray, List.getElem_cons_zero, List.getElem_cons_succ, List.setIfInBounds_toArray, List.set_cons_zero, List.set_cons_succ]
          refine wpAnyH_take (i := 11) (v := ?_) rfl (by kernel_rfl) (by kernel_rfl) (by kernel_rfl) (fun _ _ _ h => h) (Or.inl ⟨by rfl, ?_⟩) (by assumption) ?_
          rotate_left
          focus (intro w hSw; (try dsimp only at hSw); go_simp; first | done | with_reducible rfl)
          simp only [Act.put, List.getElem_toArray, List.getElem_cons_zero, List.getElem_cons_succ, List.setIfInBounds_toArray, List.set_cons_zero, List.set_cons_succ]
          refine wpAnyH_take (i := 12) (v := ?_) rfl (by kernel_rfl) (by kernel_rfl) (by kernel_rfl) (fun _ _ _ h => h) (Or.inl ⟨by rfl, ?_⟩) (by assumption) ?_
          rotate_left
          focus (intro w hSw; (try dsimp only at hSw); go_simp; first | done | with_reducible rfl)
          simp only [Act.put, List.getElem_toArray, List.getElem_cons_zero, List.getElem_cons_succ, List.setIfInBounds_toArray, List.set_cons_zero, List.set_cons_succ]
          refine wpAnyH_take (i := 13) (v := ?_) rfl (by kernel_rfl) (by kernel_rfl) (by kernel_rfl) (fun _ _ _ h => h) (Or.inl ⟨by rfl, ?_⟩) (by assumption) ?_
          rotate_left
          focus (intro w hSw; (try dsimp only at hSw); go_simp; first | done | with_reducible rfl)
          simp only [Act.put, List.getElem_toArray, List.getElem_cons_zero, List.getElem_cons_succ, List.setIfInBounds_toArray, List.set_cons_zero, List.set_cons_succ]
          refine wpAnyH_ready (rs := [14]) (by kernel_rfl) (by simp) ?_
          refine AllReadyH.cons rfl (fun K hK => ?_) AllReadyH.nil
          go_simp
          (with_reducible refine (Ret.run Sh5.o _).mono ?_)
          rintro e y4 ⟨rfl, g⟩
          have g : Below y3.heap.size y3 y4 := g
          replace u := u.trans (g.mono u.size)
          have c_j0 : y4.cell? ⟨b_j, 0, none⟩ = some (.string j0) := (g.cell (p := ⟨b_j, 0, none⟩) (World.block_lt_of_cell? _ _ c_j0)).trans c_j0
          have c_j1 : y4.cell? ⟨b_j, 1, none⟩ = some (.string j1) := (g.cell (p := ⟨b_j, 1, none⟩) (World.block_lt_of_cell? _ _ c_j1)).trans c_j1
          have c_b2 : y4.cell? ⟨b_b, 2, none⟩ = some (.string q0) := (g.cell (p := ⟨b_b, 2, none⟩) (World.block_lt_of_cell? _ _ c_b2)).trans c_b2
          have c_b3 : y4.cell? ⟨b_b, 3, none⟩ = some (.string q1) := (g.cell (p := ⟨b_b, 3, none⟩) (World.block_lt_of_cell? _ _ c_b3)).trans c_b3
          have c_o0 : y4.cell? ⟨b_o, 0, none⟩ = some (.string o0) := (g.cell (p := ⟨b_o, 0, none⟩) (World.block_lt_of_cell? _ _ c_o0)).trans c_o0
          have c_o1 : y4.cell? ⟨b_o, 1, none⟩ = some (.string o1) := (g.cell (p := ⟨b_o, 1, none⟩) (World.block_lt_of_cell? _ _ c_o1)).trans c_o1
          have c_v0 : y4.cell? ⟨b_v, 0, none⟩ = some (.string v0) := (g.cell (p := ⟨b_v, 0, none⟩) (World.block_lt_of_cell? _ _ c_v0)).trans c_v0
          have c_v1 : y4.cell? ⟨b_v, 1, none⟩ = some (.string v1) := (g.cell (p := ⟨b_v, 1, none⟩) (World.block_lt_of_cell? _ _ c_v1)).trans c_v1
          clear g
          refine hK.out _ _ ⟨c_j0, c_j1, c_b2, c_b3, c_o0, c_o1, c_v0, c_v1⟩ (fun hHeld => ?_)
          clear hK K
          refine wpAnyH_take (i := 15) (v := ?_) rfl (by kernel_rfl) (by kernel_rfl) (by kernel_rfl) (fun _ _ _ h => h) (Or.inl ⟨by rfl, ?_⟩) (by assumption) ?_
          rotate_left
          focus (intro w hSw; (try dsimp only at hSw); go_simp; first | done | with_reducible rfl)
          simp only [Act.put, List.getElem_toArray, List.getElem_cons_zero, List.getElem_cons_succ, List.setIfInBounds_toArray, List.set_cons_zero, List.set_cons_succ]
          refine wpAnyH_take (i := 16) (v := ?_) rfl (by kernel_rfl) (by kernel_rfl) (by kernel_rfl) (fun _ _ _ h => h) (Or.inl ⟨by rfl, ?_⟩) (by assumption) ?_
          rotate_left
          focus (intro w hSw; (try dsimp only at hSw); go_simp; first | done | with_reducible rfl)
          simp only [Act.put, List.getElem_toArray, List.getElem_cons_zero, List.getElem_cons_succ, List.setIfInBounds_toArray, List.set_cons_zero, List.set_cons_succ]
          refine wpAnyH_take (i := 17) (v := ?_) rfl (by kernel_rfl) (by kernel_rfl) (by kernel_rfl) (fun _ _ _ h => h) (Or.inl ⟨by rfl, ?_⟩) (by assumption) ?_
          rotate_left
          focus (intro w hSw; (try dsimp only at hSw); go_simp; first | done | with_reducible rfl)
          simp only [Act.put, List.getElem_toArray, List.getElem_cons_zero, List.getElem_cons_succ, List.setIfInBounds_toArray, List.set_cons_zero, List.set_cons_succ]
          refine wpAnyH_take (i := 18) (v := ?_) rfl (by kernel_rfl) (by kernel_rfl) (by kernel_rfl) (fun _ _ _ h => h) (Or.inl ⟨by rfl, ?_⟩) (by assumption) ?_
          rotate_left
          focus (intro w hSw; (try dsimp only at hSw); go_simp; first | done | with_reducible rfl)
          simp only [Act.put, List.getElem_toArray, List.getElem_cons_zero, List.getElem_cons_succ, List.setIfInBounds_toArray, List.set_cons_zero, List.set_cons_succ]
          refine wpAnyH_done (by kernel_rfl) ?_ _
          clear c_j0 c_j1 c_b2 c_b3 c_o0 c_o1 c_v0 c_v1
          go_wp2_with fail
          go_ret
          exact ⟨by simp, u⟩
      · have hj2 : (j : Int) < (c : Int) := by omega
        have hj3 : (0 : Int) ≤ (j : Int) := by omega
        have cD := DV.o j (by omega)
        have hw1 : IntKind.i64.wrap ((j : Int) + 1) = (j : Int) + 1 := by simp [IntKind.wrap, IntKind.signed, IntKind.bits]; omega
        generalize hg0 : G0 (j + 1) = e0 at cD
        generalize hg1 : G1 (j + 1) = e1 at cD
        generalize hg2 : G0 j = c0 at *
        generalize hg3 : G1 j = c1 at *
        go_wp2_with fail
        have k0' := lcell n_un 0 (v := .string c0) rfl
        have f0 := lfree n_un 0
        have k1' := lcell n_un 1 (v := .string c1) rfl
        have f1 := lfree n_un 1
        go_region_with (first | (go_at_call 12; (with_reducible refine (Ret.run e_ratio10 _).mono ?_); rintro e va ⟨rfl, g⟩; have g : Below wr.heap.size wr va := lundrew2 g; replace u := u.trans (g.mono u.size); replace n_b := lkeep n_b g; replace n_t := lkeep n_t g; replace n_un := lkeep n_un g; clear g; have k0' := lcell n_un 0 (v := .string c0) rfl; have f0 := lfree n_un 0; have k1' := lcell n_un 1 (v := .string c1) rfl; have f1 := lfree n_un 1; have hq := 0) | (go_at_call 31; (with_reducible refine (Ret.run cD _).mono ?_); rintro e vb ⟨rfl, g⟩; have g : Below va.heap.size va vb := g; replace u := u.trans (g.mono u.size); replace n_b := lkeep n_b g; replace n_t := lkeep n_t g; replace n_un := lkeep n_un g; clear g; have k0' := lcell n_un 0 (v := .string c0) rfl; have f0 := lfree n_un 0; have k1' := lcell n_un 1 (v := .string c1) rfl; have f1 := lfree n_un 1; have hq := 0))
        all_goals (
          have s_un := box2_setx (x := .string e0) (y := .string e1) n_un
          have s_b : ((vb.setCell ⟨b_un, 0, none⟩ (.string e0)).setCell ⟨b_un, 1, none⟩ (.string e1)).heap[b_b]? = _ := kept2 ne_bu n_b
          have s_t : ((vb.setCell ⟨b_un, 0, none⟩ (.string e0)).setCell ⟨b_un, 1, none⟩ (.string e1)).heap[b_t]? = _ := kept2 ne_tu n_t
          have us := (u.setCell (show w.heap.size ≤ (⟨b_un, 0, none⟩ : Addr).block from bun) (.string e0)).setCell (show w.heap.size ≤ (⟨b_un, 1, none⟩ : Addr).block from bun) (.string e1)
          go_wp2_with fail
          go_roundw
          case rel => exact ⟨j + 1, by omega, by first | rfl | go_num | simp, ⟨s_b, s_t, by rw [hg0, hg1]; exact s_un, us⟩⟩
          case measure => simp [intOf]; omega)
end En
end Go.Proofs.YtbfonkabmehlmaaGreatDoor
namespace Go.Proofs.YtbfonkabmehlmaaGreatDoor
set_option maxRecDepth 1000000
namespace En
open Go.ChangeShapes Go.WideShapes Go.ChangeAt Go.RowKit
open Go.Extern.Stop Go.Stop Go.Extern
theorem own : ownKnob Tryz.prog.godebug = none := by kernel_rfl
theorem laidOut : laidOutB Tryz.prog = true := by kernel_rfl
theorem gE : Tryz.prog.globalNamed "workpiece/enclosure.errRefused" = some 0 := by kernel_rfl
theorem gET : (Tryz.prog.globals[0]?).map (·.type) = some 127 := by kernel_rfl
theorem cellsE : Tryz.prog.cellsOf 222 = 1 := by kernel_rfl
theorem cellsStr : Tryz.prog.cellsOf 9 = 1 := by kernel_rfl
theorem starE : "*" ++ "errors.errorString" = "*errors.errorString" := by decide
theorem rowE (u : TypeId) (h : Tryz.prog.typeName? 3 u = some "*errors.errorString") : u = 200 :=
  typeName_ptr_named (nm := "errors.errorString") (by rw [starE]; kernel_rfl) (by kernel_rfl) (by decide) u (by rw [starE]; exact h)
abbrev theLaid : List (String × DataW Unit) := [("workpiece/enclosure.errRefused", Rows.laid_workpiece_enclosure_errRefused)]
theorem ref_of {W : World} (h : laidMetH Tryz.prog theLaid W) : ∃ a, Ref a W := by
  obtain ⟨a0, s0, hv0, hc0, hs0, hz0⟩ := laid_sentinel (r := []) h gE gET Tryz.underlying127 rowE Tryz.underlying200 Tryz.underlying222 rfl rfl Tryz.underlying9 cellsE cellsStr
  have h1 := World.var?_cell gE hv0 0
  simp at h1
  exact ⟨a0, h1⟩
abbrev refS : ByteArray := { data := #[101, 110, 99, 108, 111, 115, 117, 114, 101, 58, 32, 114, 101, 102, 117, 115, 101, 100] }
noncomputable def low : Nat := (World.holding Tryz.prog default ⟨#[], #[], []⟩).heap.size
noncomputable def laidWorld (os : Os) : World :=
  let w0 := World.holding Tryz.prog os ⟨#[.cells #[.string refS] 222], #[], []⟩
  { w0 with heap := w0.heap.modify 0 fun
      | .cells _ t frozen => .cells #[.iface 200 (.pointer (some ⟨low, 0, none⟩))] t frozen
      | o => o }
theorem laid_met (os : Os) (args : Array Value) : laidMet Tryz.prog theLaid ((laidWorld os).forCall (fun _ _ => 0) ⟨#[], args, []⟩).memory :=
  laidMet_of_run (ps := [.cell 0 0, .cell low 0]) 8 (by kernel_rfl) (by kernel_rfl) (by kernel_rfl)
theorem in64 {k : Int} (h : (Lit.int .i64 k).wf = true) : In64 k := Joins.in64_of_wf h
end En
end Go.Proofs.YtbfonkabmehlmaaGreatDoor
namespace Go.Proofs.YtbfonkabmehlmaaGreatDoor.enclosureRoots
set_option maxRecDepth 1000000
open Go.ChangeShapes Go.WideShapes Go.ChangeAt Go.RowKit
open Go.ChangeMaps (open_string shut_string)
open En

theorem contract (H : Type) (enc : TypeId × Value → H) (W : World) (base : Nat) (args : Array Value) (ds gs : List (DataW H)) (before : List MemPlace)
    (hval : ∀ (j : Nat) t v, Tryz.f6.params[j]? = some t → args[j]? = some v → Value.okWide Tryz.prog W .any base t v)
    (hW : DataW.Whole enc Tryz.prog Tryz.f6.params.toList Rows.enclosureRootsSpec.vars false W args.toList ds gs before) (hL : laidMetH Tryz.prog Rows.enclosureRootsRow.laid W) :
    Calls Tryz.prog 6 args W fun e W' => ∃ v, e = .returned v ∧ Rows.enclosureRootsSpec.post enc Tryz.prog Tryz.f6 false true false false W args v W' := by
  have hW' := hW
  obtain ⟨p, q, hA0, hV, rfl, hfz, hnd⟩ := hW
  have hA : DataW.TrodAll enc Tryz.prog W 0 (fun _ => true) true Tryz.f6.params.toList args.toList ds p := hA0
  rw [Tryz.params6] at hA hval
  obtain ⟨v0, vs0, d0, ds0, p0, q0, hargs, rfl, rfl, h0, r0⟩ := trodAll_cons hA
  obtain ⟨v1, vs1, d1, ds1, p1, q1, rfl, rfl, rfl, h1, r1⟩ := trodAll_cons r0
  obtain ⟨v2, vs2, d2, ds2, p2, q2, rfl, rfl, rfl, h2, r2⟩ := trodAll_cons r1
  obtain ⟨v3, vs3, d3, ds3, p3, q3, rfl, rfl, rfl, h3, r3⟩ := trodAll_cons r2
  obtain ⟨rfl, rfl, rfl⟩ := trodAll_nil r3
  obtain rfl : args = #[v0, v1, v2, v3] := by cases args; simp_all
  obtain ⟨rfl, rfl⟩ := trodVars_none hV
  obtain ⟨s0, s1, s2, s3, rfl, rfl, rfl, ws⟩ := Rt.open_arr4 Tryz.underlying26 Tryz.underlying3 (by kernel_rfl) (by kernel_rfl) (hval 0 26 v0 rfl rfl) h0
  obtain ⟨t, rfl, rfl, rfl, wt⟩ := open_int Tryz.underlying3 (hval 1 3 v1 rfl rfl) h1
  obtain ⟨u, rfl, rfl, rfl, wu⟩ := open_int Tryz.underlying3 (hval 2 3 v2 rfl rfl) h2
  obtain ⟨v0, v1, v2, v3, rfl, rfl, rfl, wv⟩ := Rt.open_arr4 Tryz.underlying26 Tryz.underlying3 (by kernel_rfl) (by kernel_rfl) (hval 3 26 v3 rfl rfl) h3
  clear hA0
  simp only [List.append_nil] at hW'
  obtain ⟨a, ha⟩ := ref_of hL
  refine (roots_walk a s0 s1 s2 s3 t u v0 v1 v2 v3 (in64 ws.1) (in64 ws.2.1) (in64 ws.2.2.1) (in64 ws.2.2.2) (in64 wt) (in64 wu) (in64 wv.1) (in64 wv.2.1) (in64 wv.2.2.1) (in64 wv.2.2.2) W ha).mono fun e W' ⟨he, hb⟩ => ?_
  subst he
  refine ⟨_, rfl, [_, _, _, _], [], [], [], [], [], hW', trodAll_cons_mk (shut_bool Tryz.underlying4 _) trodAll_mk0, ?_, rfl, World.keptBut_mono (fun x hx => by cases hx) (hb.frame (· ∈ [])), fun h => by cases h⟩
  exact trodAll_cons_mk (Rt.shut_arr4 Tryz.underlying26 Tryz.underlying3 (by kernel_rfl) (by kernel_rfl) ws) (trodAll_cons_mk (shut_int Tryz.underlying3 wt) (trodAll_cons_mk (shut_int Tryz.underlying3 wu) (trodAll_cons_mk (Rt.shut_arr4 Tryz.underlying26 Tryz.underlying3 (by kernel_rfl) (by kernel_rfl) wv) trodAll_mk0)))

theorem reads (os : Os) {H : Type} (enc : TypeId × Value → H) : ∃ places, DataW.whole enc Tryz.prog ((laidWorld os).forCall (fun _ _ => 0) ⟨#[], #[.agg #[.int .i64 0, .int .i64 0, .int .i64 0, .int .i64 0], .int .i64 0, .int .i64 0, .agg #[.int .i64 0, .int .i64 0, .int .i64 0, .int .i64 0]], []⟩).memory Tryz.f6.params.toList Rows.enclosureRootsSpec.vars false (#[.agg #[.int .i64 0, .int .i64 0, .int .i64 0, .int .i64 0], .int .i64 0, .int .i64 0, .agg #[.int .i64 0, .int .i64 0, .int .i64 0, .int .i64 0]] : Array Value).toList 8 = some ([.agg [.lit (.int .i64 0), .lit (.int .i64 0), .lit (.int .i64 0), .lit (.int .i64 0)], .lit (.int .i64 0), .lit (.int .i64 0), .agg [.lit (.int .i64 0), .lit (.int .i64 0), .lit (.int .i64 0), .lit (.int .i64 0)]], [], places) :=
  ⟨[], by kernel_rfl⟩

theorem lifted (os : Os) (started : os.Started) (H : Type) (enc : TypeId × Value → H) (F : Stop.Interp) :
    ReturnsInHanded {} Tryz.checked os 6 .any ((OpenSpec.ofChange Rows.enclosureRootsSpec).preRow enc Tryz.prog Tryz.f6 Rows.enclosureRootsRow.domain false Rows.enclosureRootsRow.laid) (((OpenSpec.ofChange Rows.enclosureRootsSpec).at F).post enc Tryz.prog Tryz.f6 false true false false) := by
  obtain ⟨places, hx⟩ := reads os enc
  refine returnsInHanded_of_row (C := Tryz.checked) (s := OpenSpec.ofChange Rows.enclosureRootsSpec) own started (by kernel_rfl) Tryz.func6
    (witness_row_at (enc := enc) (C := Tryz.checked) false (laidWorld os) #[.agg #[.int .i64 0, .int .i64 0, .int .i64 0, .int .i64 0], .int .i64 0, .int .i64 0, .agg #[.int .i64 0, .int .i64 0, .int .i64 0, .int .i64 0]] rfl (by kernel_rfl) (by kernel_rfl) (by kernel_rfl)
      (OpenSpec.preRow_of_cond 8 hx (by kernel_rfl) (fun k hk => by cases hk) (by kernel_rfl) (laid_met os _))) ?_
  intro W base args ds gs before hval hW _ _ _ hL _ _
  exact contract H enc W base args ds gs before hval hW hL

theorem said : Rows.EnclosureRootsSaid :=
  OpenClaim.holds_of_cond 6 Tryz.f6 rfl rfl rfl rfl rfl rfl rfl ⟨rfl, rfl, rfl, rfl, rfl⟩ rfl rfl rfl rfl rfl (by kernel_rfl) Tryz.func6 (by kernel_rfl)
    (of_decide_eq_true (by kernel_rfl)) (by unfold Func.isWrapper; first | (rw [if_pos (by decide +kernel)]; kernel_rfl) | (rw [if_neg (by decide +kernel)]; exact ⟨rfl, rfl⟩))
    (fun os started H enc _ F => by rw [OpenClaim.pre_eq_preRow]; exact lifted os started H enc F)

theorem plain (f : FuncId) (fn : Func) (hf : Tryz.pinned.checked.prog.funcNamed "workpiece/workpiecelaw05.EnclosureRoots" = some f) (hfn : Tryz.pinned.checked.prog.funcs[f]? = some fn) :
    true = Tryz.pinned.checked.prog.looks [] ∧ ∀ (j : Nat) t, fn.params[j]? = some t → Tryz.pinned.checked.prog.wantsStandIn t = false := by
  obtain rfl : f = 6 := Option.some.inj ((show Tryz.prog.funcNamed "workpiece/workpiecelaw05.EnclosureRoots" = some 6 by kernel_rfl).symm.trans hf) |>.symm
  obtain rfl : fn = Tryz.f6 := (Option.some.inj (Tryz.func6.symm.trans hfn)).symm
  refine ⟨by kernel_rfl, fun j t ht => ?_⟩
  rw [Tryz.params6] at ht
  have hm := Array.mem_of_getElem? ht
  simp at hm
  rcases hm with rfl | rfl | rfl
  · exact (show Tryz.prog.wantsStandIn 26 = false by kernel_rfl)
  · exact (show Tryz.prog.wantsStandIn 3 = false by kernel_rfl)
  · exact (show Tryz.prog.wantsStandIn 26 = false by kernel_rfl)

/-- the card -/
theorem card : Rows.EnclosureRootsCardSaid :=
  Claim7.holds_tied_plain_at .later [] _ _ _ _ said (fun _ h => by cases h) (by kernel_rfl) (fun _ h => by cases h) enclosureRoots_row_tie rfl ⟨rfl, rfl⟩ (by kernel_rfl) rfl plain (by kernel_rfl)
end Go.Proofs.YtbfonkabmehlmaaGreatDoor.enclosureRoots
