/-
  PROVED: for any numbers, EnclosureRounds returns true (a rounded interval contains the interval, has ends with so many places, and is wider by less than two units of the last place), and every argument reads afterwards as it read before. Conditions: those of the given row and card: the variable enclosure.errRefused holds what the program's text lays (tied by the card); linux/amd64.
-/
import Derived.Test.YtncgigpjdjpgmaaGreatDoorMb4
import Derived.Test.YtncgigpjdjpgmaaGreatDoorMc5
import Derived.Test.YtncgigpjdjpgmaaGreatDoorMd6
import Derived.Deep.DeepCutAuto
import Derived.Deep.RegionWith
import Derived.Test.YtncgigpjdjpgmaaGreatDoorCards
import Derived.Test.YtncgigpjdjpgmaaGreatDoorTie
import Derived.Test.YtncgigpjdjpgmaaGreatDoorRatOp
import Derived.ProofKit
import Derived.OpenShut
import Derived.Deep.DeepHandedRow
import Derived.Lib.SmallJoins
import Derived.Stop.LaidErr
namespace Go.Proofs.YtncgigpjdjpgmaaGreatDoor
set_option maxRecDepth 1000000
namespace En
open Go.RowKit Go.Extern.Stop Go.Stop Go.Extern
open Go.Proofs.YtncgigpjdjpgmaaGreatDoor.Nm Go.Proofs.YtncgigpjdjpgmaaGreatDoor.Rt
open N10 (Two)
def unitQ (c : Nat) : Rat := Rat.divInt 1 (10 ^ c)
theorem lt_of_cmpZ {n d m c : Int} (hd : 0 < d) (hc : 0 < c) (h : n * c < m * d) : Rat.divInt n d < Rat.divInt m c := by
  have e := cmpQ_div (n := n) (m := m) hd hc
  rw [cmpZ, if_pos h] at e
  rcases cmpQ_ways (Rat.divInt n d) (Rat.divInt m c) with ⟨_, h1⟩ | ⟨h1, _⟩ | ⟨h1, _⟩
  · exact h1
  · rw [h1] at e; exact absurd e (by decide)
  · rw [h1] at e; exact absurd e (by decide)
theorem le_of_cmpZ {n d m c : Int} (hd : 0 < d) (hc : 0 < c) (h : n * c ≤ m * d) : Rat.divInt n d ≤ Rat.divInt m c := by
  rcases Int.lt_or_eq_of_le h with h1 | h1
  · exact Rat.le_of_lt (lt_of_cmpZ hd hc h1)
  · have e := cmpQ_div (n := n) (m := m) hd hc
    rw [cmpZ, if_neg (by omega), if_pos h1] at e
    rcases cmpQ_ways (Rat.divInt n d) (Rat.divInt m c) with ⟨h2, _⟩ | ⟨_, h2⟩ | ⟨h2, _⟩
    · rw [h2] at e; exact absurd e (by decide)
    · rw [h2]; exact Rat.le_refl
    · rw [h2] at e; exact absurd e (by decide)
theorem sub_lt_of {p d s t : Rat} (h : p < s) (hs : s - d = t) : p - d < t := by
  rw [← hs, Rat.sub_eq_add_neg, Rat.sub_eq_add_neg]
  exact Rat.add_lt_add_right.2 h
theorem sub_lt_of2 {p u s t : Rat} (h : s < p) (hs : u - s = t) : u - p < t := by
  rw [← hs, Rat.sub_eq_add_neg, Rat.sub_eq_add_neg]
  exact Rat.add_lt_add_left.2 (Rat.neg_lt_neg_iff.2 h)
theorem round_facts (q : Rat) (hq : LongQ q) (c : Nat) (hc : c ≤ 30) : ∃ d u : Rat, FitQ d ∧ FitQ u ∧ downQ q c = some d ∧ upQ q c = some u ∧ downQ d c = some d ∧ upQ u c = some u ∧ d ≤ q ∧ q ≤ u ∧ q - d < unitQ c ∧ u - q < unitQ c := by
  have fq := hq.fit
  obtain ⟨hPb, hP⟩ := pow_big c hc
  have hD : 0 < (q.den : Int) := by have := q.den_pos; omega
  have hXb : (q.num * 10 ^ c).natAbs ≤ 10 ^ 130 := by
    rw [Int.natAbs_mul]
    exact Nat.le_trans (Nat.mul_le_mul (Nat.le_of_lt hq.num) hPb) (by rw [← Nat.pow_add]; exact Nat.le_refl _)
  have big : ∀ {z : Int}, z.natAbs ≤ 10 ^ 130 → Fits z := fun h => fits_small (Nat.lt_of_le_of_lt h (Nat.pow_lt_pow_right (by decide) (by decide)))
  have fX := big hXb
  have hkb : (q.num * 10 ^ c / (q.den : Int)).natAbs ≤ 10 ^ 130 := Nat.le_trans (Int.natAbs_ediv_le_natAbs _ _) hXb
  have hub : (upI (q.num * 10 ^ c) (q.den : Int)).natAbs ≤ 10 ^ 130 := Nat.le_trans (upI_natAbs _ _ hD) hXb
  have fk := big hkb
  have fu := big hub
  have fP := pow_fits c hc
  obtain ⟨k, hk⟩ : ∃ k, k = q.num * 10 ^ c / (q.den : Int) := ⟨_, rfl⟩
  obtain ⟨u, hu⟩ : ∃ u, u = upI (q.num * 10 ^ c) (q.den : Int) := ⟨_, rfl⟩
  have e1 : downQ q c = some (Rat.divInt k (10 ^ c)) := by rw [downQ, if_pos fX, hk]
  have e2 : upQ q c = some (Rat.divInt u (10 ^ c)) := by rw [upQ, if_pos ⟨fX, fu⟩, hu]
  rw [← hk] at hkb fk
  rw [← hu] at hub fu
  have Fa : FitQ (Rat.divInt k (10 ^ c)) := FitQ.div fk fP (by omega)
  have Fb : FitQ (Rat.divInt u (10 ^ c)) := FitQ.div fu fP (by omega)
  have sa := grid_self k c hc hkb
  have sb := grid_self u c hc hub
  have hr : q = Rat.divInt q.num q.den := (Rat.num_divInt_den q).symm
  have hdm := Int.mul_ediv_add_emod (q.num * 10 ^ c) (q.den : Int)
  have l1 := Int.emod_nonneg (q.num * 10 ^ c) (show (q.den : Int) ≠ 0 by omega)
  have l2 := Int.emod_lt_of_pos (q.num * 10 ^ c) hD
  rw [← hk] at hdm
  have a1 : k * q.den ≤ q.num * 10 ^ c := by rw [Int.mul_comm]; omega
  have a2 : q.num * 10 ^ c < (k + 1) * q.den := by rw [Int.add_mul, Int.one_mul, Int.mul_comm k]; omega
  have a3 : q.num * 10 ^ c ≤ u * q.den ∧ (u - 1) * q.den < q.num * 10 ^ c := by
    rw [hu, upI, ← hk]
    split
    · rename_i hz
      rw [hz] at hdm
      rw [Int.sub_mul, Int.one_mul, Int.mul_comm k]
      omega
    · rename_i hz
      have : (k + 1 - 1) * (q.den : Int) = q.den * k := by rw [Int.add_sub_cancel, Int.mul_comm]
      rw [this, Int.add_mul, Int.one_mul, Int.mul_comm k]
      omega
  refine ⟨_, _, Fa, Fb, e1, e2, sa.1, sb.2, ?_, ?_, ?_, ?_⟩
  · conv => rhs; rw [hr]
    exact le_of_cmpZ hP hD a1
  · conv => lhs; rw [hr]
    exact le_of_cmpZ hD hP a3.1
  · refine sub_lt_of (s := Rat.divInt (k + 1) (10 ^ c)) ?_ ?_
    · conv => lhs; rw [hr]
      exact lt_of_cmpZ hD hP a2
    · rw [grid_sub _ _ hP, show k + 1 - k = 1 by omega]; rfl
  · refine sub_lt_of2 (s := Rat.divInt (u - 1) (10 ^ c)) ?_ ?_
    · conv => rhs; rw [hr]
      exact lt_of_cmpZ hP hD a3.2
    · rw [grid_sub _ _ hP, show u - (u - 1) = 1 by omega]; rfl
theorem unit_fit (c : Nat) (hc : c ≤ 30) : FitQ (unitQ c) := FitQ.div (fits_small (by decide)) (pow_fits c hc) (by have := (pow_big c hc).2; omega)
theorem unit_next (c : Nat) (hc : c < 30) : divQ (unitQ c) (Rat.divInt 10 1) = some (unitQ (c + 1)) := by
  have h1 := divInt_P1 (pow_big c (by omega)).2
  have h2 : (Rat.divInt 10 1).num = 10 := by decide
  have h3 : (Rat.divInt 10 1).den = 1 := by decide
  have hP := (pow_big c (by omega)).2
  rw [divQ, unitQ, h1.1, h1.2, h2, h3, if_pos]
  · rw [unitQ, Rat.div_def, Rat.inv_divInt, Rat.divInt_mul_divInt, Int.pow_succ]
    rfl
  · refine ⟨fits_small (by decide), ?_, by decide⟩
    have := pow_fits (c + 1) (by omega)
    rwa [Int.pow_succ] at this
theorem cmp_unit {p : Rat} {c : Nat} (h : p < unitQ c) : cmpQ p (unitQ c) < 0 := by
  rcases cmpQ_ways p (unitQ c) with ⟨e, _⟩ | ⟨_, e⟩ | ⟨_, e⟩
  · rw [e]; decide
  · rw [e] at h; exact absurd h (Rat.lt_irrefl)
  · exact absurd (Rat.le_of_lt e) (Rat.not_le.2 h)
end En
end Go.Proofs.YtncgigpjdjpgmaaGreatDoor
namespace Go.Proofs.YtncgigpjdjpgmaaGreatDoor
set_option maxRecDepth 1000000
namespace En
open Go.RowKit Go.Extern.Stop Go.Stop Go.Extern
open Go.Proofs.YtncgigpjdjpgmaaGreatDoor.Nm Go.Proofs.YtncgigpjdjpgmaaGreatDoor.Rt
theorem pick31 (c : Int) (h1 : -9223372036854775808 ≤ c) (h2 : c ≤ 9223372036854775807) (w : World) :
    Calls Tryz.prog 17 #[.int .i64 c, .int .i64 31] w fun e w' => ∃ k : Nat, k < 31 ∧ e = .returned (.int .i64 (k : Int)) ∧ Below w.heap.size w w' := by
  have hw : ∀ x : Int, -9223372036854775808 ≤ x → x ≤ 9223372036854775807 → IntKind.i64.wrap x = x := fun x a b => by simp [IntKind.wrap, IntKind.signed, IntKind.bits]; omega
  by_cases hc : c < 0
  · have e1 := hw (c + 1) (by omega) (by omega)
    have e2 := hw (-(c + 1)) (by omega) (by omega)
    obtain ⟨k, hk⟩ : ∃ k : Nat, -(c + 1) = (k : Int) := ⟨(-(c + 1)).toNat, by omega⟩
    go_enter Tryz.func17, Tryz.ntmps17
    go_wp2
    go_ret
    exact ⟨k % 31, by omega, by congr 2, Below.refl _ _⟩
  · obtain ⟨k, rfl⟩ := Int.eq_ofNat_of_zero_le (show 0 ≤ c by omega)
    go_enter Tryz.func17, Tryz.ntmps17
    go_wp2
    go_ret
    exact ⟨k % 31, by omega, by congr 2, Below.refl _ _⟩
theorem sub_facts {x y : Rat} (fx : FitQ x) (fy : FitQ y) (c : Nat) (hc : c ≤ 30) (h : x - y < unitQ c) : ∃ (s0 s1 : ByteArray) (sc : Int), Ret 32 #[.agg #[.string (txt x.num), .string (txt (x.den : Int))], .agg #[.string (txt y.num), .string (txt (y.den : Int))]] (.tuple #[.agg #[.string s0, .string s1], .int .i64 sc]) ∧ (sc = 0 → ∃ j : Int, j < 0 ∧ Ret 35 #[.agg #[.string s0, .string s1], .agg #[.string (txt (unitQ c).num), .string (txt ((unitQ c).den : Int))]] (.int .i64 j)) := by
  have hS := subO (.some fx) (.some fy)
  cases hr : subQ x y with
  | none =>
    rw [show lift2 subQ (some x) (some y) = none from hr] at hS
    exact ⟨_, _, _, hS, fun h0 => by cases h0⟩
  | some r =>
    rw [show lift2 subQ (some x) (some y) = some r from hr] at hS
    exact ⟨_, _, _, hS, fun _ => ⟨cmpQ r (unitQ c), cmp_unit (by rw [subQ_eq hr]; exact h), fun W => Compare_q (FitQ.subQ hr) (unit_fit c hc) W⟩⟩
theorem rounds_all (a : Addr) {p q : Rat} (lp : LongQ p) (lq : LongQ q) (k : Nat) (hk : k < 31) : ∃ (l0 l1 h0 h1 d0 d1 t0 t1 s0 s1 r0 r1 : ByteArray) (sc rc kc : Int) (G0 G1 : Nat → ByteArray),
    Ret 35 #[.agg #[.string (txt p.num), .string (txt (p.den : Int))], .agg #[.string (txt q.num), .string (txt (q.den : Int))]] (.int .i64 kc) ∧
    ((kc ≤ 0 ∧ l0 = txt p.num ∧ l1 = txt (p.den : Int) ∧ h0 = txt q.num ∧ h1 = txt (q.den : Int)) ∨ (0 < kc ∧ l0 = txt q.num ∧ l1 = txt (q.den : Int) ∧ h0 = txt p.num ∧ h1 = txt (p.den : Int))) ∧
    LC a 40 #[.agg #[.string l0, .string l1, .string h0, .string h1], .int .i64 (k : Int)] (.tuple #[.agg #[.string d0, .string d1, .string t0, .string t1], .int .i64 0]) ∧
    LC a 40 #[.agg #[.string d0, .string d1, .string t0, .string t1], .int .i64 (k : Int)] (.tuple #[.agg #[.string d0, .string d1, .string t0, .string t1], .int .i64 0]) ∧
    Ret 28 #[.agg #[.string l0, .string l1, .string h0, .string h1], .agg #[.string d0, .string d1, .string t0, .string t1]] (.bool true) ∧
    Ret 32 #[.agg #[.string l0, .string l1], .agg #[.string d0, .string d1]] (.tuple #[.agg #[.string s0, .string s1], .int .i64 sc]) ∧
    (sc = 0 → ∃ j : Int, j < 0 ∧ Ret 35 #[.agg #[.string s0, .string s1], .agg #[.string (G0 k), .string (G1 k)]] (.int .i64 j)) ∧
    Ret 32 #[.agg #[.string t0, .string t1], .agg #[.string h0, .string h1]] (.tuple #[.agg #[.string r0, .string r1], .int .i64 rc]) ∧
    (rc = 0 → ∃ j : Int, j < 0 ∧ Ret 35 #[.agg #[.string r0, .string r1], .agg #[.string (G0 k), .string (G1 k)]] (.int .i64 j)) ∧
    (∀ j, j < k → Ret 34 #[.agg #[.string (G0 j), .string (G1 j)], .agg #[.string ⟨#[49, 48]⟩, .string ⟨#[49]⟩]] (.tuple #[.agg #[.string (G0 (j + 1)), .string (G1 (j + 1))], .int .i64 0])) ∧
    Ret 14 #[.int .i64 10, .int .i64 1] (.agg #[.string ⟨#[49, 48]⟩, .string ⟨#[49]⟩]) ∧
    Ret 14 #[.int .i64 1, .int .i64 1] (.agg #[.string (G0 0), .string (G1 0)]) := by
  have hC : Ret 35 #[rq p, rq q] (.int .i64 (cmpQ p q)) := fun W => Compare_q lp.fit lq.fit W
  obtain ⟨lo, hi, hlh, hsw, llo, lhi⟩ : ∃ lo hi : Rat, lo ≤ hi ∧ ((cmpQ p q ≤ 0 ∧ lo = p ∧ hi = q) ∨ (0 < cmpQ p q ∧ lo = q ∧ hi = p)) ∧ LongQ lo ∧ LongQ hi := by
    by_cases hpq : p ≤ q
    · exact ⟨p, q, hpq, .inl ⟨(cmp_le p q).2 hpq, rfl, rfl⟩, lp, lq⟩
    · exact ⟨q, p, Rat.le_of_lt (Rat.not_le.1 hpq), .inr ⟨by have := mt (cmp_le p q).1 hpq; omega, rfl, rfl⟩, lq, lp⟩
  obtain ⟨d, _, fd, _, d1, _, d3, _, d5, _, d7, _⟩ := round_facts lo llo k (by omega)
  obtain ⟨_, t, _, ft, _, t2, _, t4, _, t6, _, t8⟩ := round_facts hi lhi k (by omega)
  have hR1 := Round_I a llo.fit lhi.fit hlh (c := k) (by omega) d1 t2
  have hdt : d ≤ t := Rat.le_trans d5 (Rat.le_trans hlh t6)
  have hR2 := Round_I a fd ft hdt (c := k) (by omega) d3 t4
  have hWi := Within_q llo.fit lhi.fit fd ft
  rw [decide_eq_true ⟨hlh, d5, t6⟩] at hWi
  obtain ⟨s0, s1, sc, hS1, hs1⟩ := sub_facts llo.fit fd k (by omega) d7
  obtain ⟨r0, r1, rc, hS2, hs2⟩ := sub_facts ft lhi.fit k (by omega) t8
  refine ⟨_, _, _, _, _, _, _, _, s0, s1, r0, r1, sc, rc, _, fun j => txt (unitQ j).num, fun j => txt ((unitQ j).den : Int), hC, ?_, hR1, hR2, hWi, hS1, hs1, hS2, hs2, fun j hj => ?_, ?_, ?_⟩
  · rcases hsw with ⟨h1, rfl, rfl⟩ | ⟨h1, rfl, rfl⟩
    · exact .inl ⟨h1, rfl, rfl, rfl, rfl⟩
    · exact .inr ⟨h1, rfl, rfl, rfl, rfl⟩
  · have f10 : FitQ (Rat.divInt 10 1) := ⟨fits_small (by decide +kernel), fits_small (by decide +kernel)⟩
    have h := divO (.some (unit_fit j (by omega))) (.some f10)
    rw [show lift2 divQ (some (unitQ j)) (some (Rat.divInt 10 1)) = some (unitQ (j + 1)) from unit_next j (by omega)] at h
    rw [← rq_lit (by decide +kernel : txtQ (Rat.divInt 10 1) = (⟨#[49, 48]⟩, ⟨#[49]⟩))]
    exact h
  · rw [← rq_lit (by decide +kernel : txtQ (Rat.divInt 10 1) = (⟨#[49, 48]⟩, ⟨#[49]⟩))]
    exact ratio_q 10 1 (by decide) (by decide) (by decide)
  · exact ratio_q 1 1 (by decide) (by decide) (by decide)
set_option maxHeartbeats 16000000 in
theorem rounds_walk (a : Addr) (x0 x1 x2 x3 y0 y1 y2 y3 pl : Int) (hx0 : In64 x0) (hx1 : In64 x1) (hx2 : In64 x2) (hx3 : In64 x3) (hy0 : In64 y0) (hy1 : In64 y1) (hy2 : In64 y2) (hy3 : In64 y3) (hpl : In64 pl) (w : World) (hv : Ref a w) :
    Calls Tryz.prog 9 #[.agg #[.int .i64 x0, .int .i64 x1, .int .i64 x2, .int .i64 x3], .agg #[.int .i64 y0, .int .i64 y1, .int .i64 y2, .int .i64 y3], .int .i64 pl] w fun e w' => e = .returned (.bool true) ∧ Below w.heap.size w w' := by
  have HV : Shut _ := ⟨hv⟩
  have CX : Shut _ := ⟨fun W => Long_any x0 x1 x2 x3 hx0 hx1 hx2 hx3 W⟩
  have CY : Shut _ := ⟨fun W => Long_any y0 y1 y2 y3 hy0 hy1 hy2 hy3 W⟩
  have CP : Shut _ := ⟨fun W => pick31 pl hpl.1 hpl.2 W⟩
  clear hv hx0 hx1 hx2 hx3 hy0 hy1 hy2 hy3 hpl
  obtain ⟨n_x, n_y⟩ := news2 w (.cells #[.int .i64 x0, .int .i64 x1, .int .i64 x2, .int .i64 x3] 26) (.cells #[.int .i64 y0, .int .i64 y1, .int .i64 y2, .int .i64 y3] 26)
  have u := below2 w (.cells #[.int .i64 x0, .int .i64 x1, .int .i64 x2, .int .i64 x3] 26) (.cells #[.int .i64 y0, .int .i64 y1, .int .i64 y2, .int .i64 y3] 26)
  go_enter Tryz.func9, Tryz.ntmps9
  go_wp2_with fail
  generalize (w.alloc (.cells #[.int .i64 x0, .int .i64 x1, .int .i64 x2, .int .i64 x3] 26)).alloc (.cells #[.int .i64 y0, .int .i64 y1, .int .i64 y2, .int .i64 y3] 26) = V0 at *
  refine (sane_any a V0 (HV.o.keep u)).mono ?_
  rintro e v1 ⟨rfl, g⟩
  replace u := u.trans (g.mono u.size)
  replace n_x := lkeep n_x g
  replace n_y := lkeep n_y g
  clear g
  go_wp2_with fail
  refine (CP.o _).mono ?_
  rintro e v2 ⟨k, hk, rfl, g⟩
  replace u := u.trans (g.mono u.size)
  replace n_x := lkeep n_x g
  replace n_y := lkeep n_y g
  clear g
  have c_x0 := lcell n_x 0 (v := .int .i64 x0) rfl
  have c_x1 := lcell n_x 1 (v := .int .i64 x1) rfl
  have c_x2 := lcell n_x 2 (v := .int .i64 x2) rfl
  have c_x3 := lcell n_x 3 (v := .int .i64 x3) rfl
  go_wp2_with fail
  refine (CX.o _).mono ?_
  rintro e v3 ⟨p, lp, rfl, g⟩
  replace u := u.trans (g.mono u.size)
  replace n_x := lkeep n_x g
  replace n_y := lkeep n_y g
  clear c_x0 c_x1 c_x2 c_x3
  clear g
  unfold rq rv
  have g := (Below.refl v3.heap.size v3).alloc (Nat.le_refl _) (.cells #[.string (txt p.num), .string (txt (p.den : Int))] 23)
  have n_p := World.alloc_heap_new v3 (.cells #[.string (txt p.num), .string (txt (p.den : Int))] 23)
  replace u := u.trans (g.mono u.size)
  replace n_x := lkeep n_x g
  replace n_y := lkeep n_y g
  clear g
  have c_y0 := lcell n_y 0 (v := .int .i64 y0) rfl
  have c_y1 := lcell n_y 1 (v := .int .i64 y1) rfl
  have c_y2 := lcell n_y 2 (v := .int .i64 y2) rfl
  have c_y3 := lcell n_y 3 (v := .int .i64 y3) rfl
  go_wp2_with fail
  generalize v3.alloc (.cells #[.string (txt p.num), .string (txt (p.den : Int))] 23) = V_p at *
  generalize v3.heap.size = b_p at *
  refine (CY.o _).mono ?_
  rintro e v4 ⟨q, lq, rfl, g⟩
  replace u := u.trans (g.mono u.size)
  replace n_y := lkeep n_y g
  replace n_p := lkeep n_p g
  clear c_y0 c_y1 c_y2 c_y3
  clear g
  unfold rq rv
  have g := (Below.refl v4.heap.size v4).alloc (Nat.le_refl _) (.cells #[.string (txt q.num), .string (txt (q.den : Int))] 23)
  have n_q := World.alloc_heap_new v4 (.cells #[.string (txt q.num), .string (txt (q.den : Int))] 23)
  replace u := u.trans (g.mono u.size)
  replace n_y := lkeep n_y g
  replace n_p := lkeep n_p g
  clear g
  obtain ⟨l0, l1, h0, h1, d0, d1, t0, t1, s0, s1, r0, r1, sc, rc, kc, G0, G1, hC, hsw2, hR1, hR2, hWi, hS1, hs1, hS2, hs2, hDv, h10, h11⟩ := rounds_all a lp lq k hk
  clear lp lq
  generalize (txt p.num) = p0 at *
  generalize (txt (p.den : Int)) = p1 at *
  generalize (txt q.num) = q0 at *
  generalize (txt (q.den : Int)) = q1 at *
  have CC : Shut _ := ⟨hC⟩
  have R1 : Shut _ := ⟨hR1⟩
  have R2 : Shut _ := ⟨hR2⟩
  have CW : Shut _ := ⟨hWi⟩
  have S1 : Shut _ := ⟨hS1⟩
  have E1 : Shut _ := ⟨hs1⟩
  have S2 : Shut _ := ⟨hS2⟩
  have E2 : Shut _ := ⟨hs2⟩
  have DV : Shut _ := ⟨hDv⟩
  have R10 : Shut _ := ⟨h10⟩
  have R11 : Shut _ := ⟨h11⟩
  have SW : Shut _ := ⟨hsw2⟩
  clear hC hR1 hR2 hWi hS1 hs1 hS2 hs2 hDv h10 h11 hsw2 CX CY CP
  go_upto_region 5 with fail
  generalize v4.alloc (.cells #[.string q0, .string q1] 23) = V_q at *
  generalize v4.heap.size = b_q at *
  have c_p0 := lcell n_p 0 (v := .string p0) rfl
  have c_p1 := lcell n_p 1 (v := .string p1) rfl
  have c_q0 := lcell n_q 0 (v := .string q0) rfl
  have c_q1 := lcell n_q 1 (v := .string q1) rfl
  have bin := u.size
  have g := (Below.refl V_q.heap.size V_q).alloc (Nat.le_refl _) (.cells #[.string p0, .string p1, .string q0, .string q1] 25)
  have n_in := World.alloc_heap_new V_q (.cells #[.string p0, .string p1, .string q0, .string q1] 25)
  replace u := u.trans (g.mono u.size)
  replace n_p := lkeep n_p g
  replace n_q := lkeep n_q g
  clear g
  go_upto_region 6 with fail
  generalize V_q.alloc (.cells #[.string p0, .string p1, .string q0, .string q1] 25) = V_in at *
  generalize V_q.heap.size = b_in at *
  clear c_p0 c_p1 c_q0 c_q1
  have sw := SW.o
  clear SW
  rcases sw with ⟨sw1, sw2, sw3, sw4, sw5⟩ | ⟨sw1, sw2, sw3, sw4, sw5⟩
  · subst sw2; subst sw3; subst sw4; subst sw5
    have hk0 : ¬ 0 < kc := by omega
    have c_p0 := lcell n_p 0 (v := .string l0) rfl
    have c_p1 := lcell n_p 1 (v := .string l1) rfl
    have c_q0 := lcell n_q 0 (v := .string h0) rfl
    have c_q1 := lcell n_q 1 (v := .string h1) rfl
    go_wp2_with fail
    refine (CC.o _).mono ?_
    rintro e v5 ⟨rfl, g⟩
    replace u := u.trans (g.mono u.size)
    replace n_p := lkeep n_p g
    replace n_q := lkeep n_q g
    replace n_in := lkeep n_in g
    clear c_p0 c_p1 c_q0 c_q1
    clear g
    go_upto_region 8 with fail
    clear CC n_p n_q
    have c_in0 := lcell n_in 0 (v := .string l0) rfl
    have c_in1 := lcell n_in 1 (v := .string l1) rfl
    have c_in2 := lcell n_in 2 (v := .string h0) rfl
    have c_in3 := lcell n_in 3 (v := .string h1) rfl
    go_wp2_with fail
    refine (R1.o _ (HV.o.keep u)).mono ?_
    rintro e v6 ⟨rfl, g⟩
    replace u := u.trans (g.mono u.size)
    replace n_in := lkeep n_in g
    clear c_in0 c_in1 c_in2 c_in3
    clear g
    have g := (Below.refl v6.heap.size v6).alloc (Nat.le_refl _) (.cells #[.string d0, .string d1, .string t0, .string t1] 25)
    have n_out := World.alloc_heap_new v6 (.cells #[.string d0, .string d1, .string t0, .string t1] 25)
    replace u := u.trans (g.mono u.size)
    replace n_in := lkeep n_in g
    clear g
    have c_out0 := lcell n_out 0 (v := .string d0) rfl
    have c_out1 := lcell n_out 1 (v := .string d1) rfl
    have c_out2 := lcell n_out 2 (v := .string t0) rfl
    have c_out3 := lcell n_out 3 (v := .string t1) rfl
    go_wp2_with fail
    generalize v6.alloc (.cells #[.string d0, .string d1, .string t0, .string t1] 25) = V_out at *
    generalize v6.heap.size = b_out at *
    refine (R2.o _ (HV.o.keep u)).mono ?_
    rintro e v7 ⟨rfl, g⟩
    replace u := u.trans (g.mono u.size)
    replace n_in := lkeep n_in g
    replace n_out := lkeep n_out g
    clear c_out0 c_out1 c_out2 c_out3
    clear g
    have g := (Below.refl v7.heap.size v7).alloc (Nat.le_refl _) (.cells #[.string d0, .string d1, .string t0, .string t1] 25)
    have n_ag := World.alloc_heap_new v7 (.cells #[.string d0, .string d1, .string t0, .string t1] 25)
    replace u := u.trans (g.mono u.size)
    replace n_in := lkeep n_in g
    replace n_out := lkeep n_out g
    clear g
    have c_in0 := lcell n_in 0 (v := .string l0) rfl
    have c_in1 := lcell n_in 1 (v := .string l1) rfl
    have c_in2 := lcell n_in 2 (v := .string h0) rfl
    have c_in3 := lcell n_in 3 (v := .string h1) rfl
    have c_out0 := lcell n_out 0 (v := .string d0) rfl
    have c_out1 := lcell n_out 1 (v := .string d1) rfl
    have c_out2 := lcell n_out 2 (v := .string t0) rfl
    have c_out3 := lcell n_out 3 (v := .string t1) rfl
    have c_ag0 := lcell n_ag 0 (v := .string d0) rfl
    have c_ag1 := lcell n_ag 1 (v := .string d1) rfl
    have c_ag2 := lcell n_ag 2 (v := .string t0) rfl
    have c_ag3 := lcell n_ag 3 (v := .string t1) rfl
    go_wp2_with fail
    generalize v7.alloc (.cells #[.string d0, .string d1, .string t0, .string t1] 25) = V_ag at *
    generalize v7.heap.size = b_ag at *
    refine (CW.o _).mono ?_
    rintro e v8 ⟨rfl, g⟩
    replace u := u.trans (g.mono u.size)
    replace n_in := lkeep n_in g
    replace n_out := lkeep n_out g
    replace n_ag := lkeep n_ag g
    clear c_in0 c_in1 c_in2 c_in3 c_out0 c_out1 c_out2 c_out3 c_ag0 c_ag1 c_ag2 c_ag3
    clear g
    clear R1 R2 CW n_ag
    go_wp2_with fail
    refine (R11.o _).mono ?_
    rintro e v9 ⟨rfl, g⟩
    replace u := u.trans (g.mono u.size)
    replace n_in := lkeep n_in g
    replace n_out := lkeep n_out g
    clear g
    have lin := (Array.getElem?_eq_some_iff.1 n_in).1
    have lout := (Array.getElem?_eq_some_iff.1 n_out).1
    have bun := u.size
    have g := (Below.refl v9.heap.size v9).alloc (Nat.le_refl _) (.cells #[.string (G0 0), .string (G1 0)] 23)
    have n_un := World.alloc_heap_new v9 (.cells #[.string (G0 0), .string (G1 0)] 23)
    replace u := u.trans (g.mono u.size)
    replace n_in := lkeep n_in g
    replace n_out := lkeep n_out g
    clear g
    clear R11
    go_wp2_with fail
    generalize v9.alloc (.cells #[.string (G0 0), .string (G1 0)] 23) = V_un at *
    generalize v9.heap.size = b_un at *
    have S0 : Shut (V_un.heap[b_in]? = some (.cells #[.string l0, .string l1, .string h0, .string h1] 25 (0, 0)) ∧ V_un.heap[b_out]? = some (.cells #[.string d0, .string d1, .string t0, .string t1] 25 (0, 0)) ∧ V_un.heap[b_un]? = some (.cells #[.string (G0 0), .string (G1 0)] 23 (0, 0)) ∧ Below w.heap.size w V_un) := ⟨n_in, n_out, n_un, u⟩
    clear n_in n_out n_un u
    go_loopw [16] (fun jv wr => ∃ j : Nat, j ≤ k ∧ jv = .int .i64 (j : Int) ∧ Shut (wr.heap[b_in]? = some (.cells #[.string l0, .string l1, .string h0, .string h1] 25 (0, 0)) ∧ wr.heap[b_out]? = some (.cells #[.string d0, .string d1, .string t0, .string t1] 25 (0, 0)) ∧ wr.heap[b_un]? = some (.cells #[.string (G0 j), .string (G1 j)] 23 (0, 0)) ∧ Below w.heap.size w wr)) (fun jv _ => k - (intOf jv).toNat)
    case atStart => exact ⟨0, Nat.zero_le _, rfl, S0⟩
    case round =>
      obtain ⟨j, hj, rfl, H⟩ := hrel
      obtain ⟨n_in, n_out, n_un, u⟩ := H.o
      clear H S0
      have ne1 : b_in ≠ b_un := by omega
      have ne2 : b_out ≠ b_un := by omega
      by_cases hjk : j = k
      · subst hjk
        have c_in0 := lcell n_in 0 (v := .string l0) rfl
        have c_in1 := lcell n_in 1 (v := .string l1) rfl
        have c_in2 := lcell n_in 2 (v := .string h0) rfl
        have c_in3 := lcell n_in 3 (v := .string h1) rfl
        have c_out0 := lcell n_out 0 (v := .string d0) rfl
        have c_out1 := lcell n_out 1 (v := .string d1) rfl
        have c_out2 := lcell n_out 2 (v := .string t0) rfl
        have c_out3 := lcell n_out 3 (v := .string t1) rfl
        go_wp2_with fail
        refine (S1.o _).mono ?_
        rintro e v21 ⟨rfl, g⟩
        replace u := u.trans (g.mono u.size)
        replace n_in := lkeep n_in g
        replace n_out := lkeep n_out g
        replace n_un := lkeep n_un g
        clear c_in0 c_in1 c_in2 c_in3 c_out0 c_out1 c_out2 c_out3
        clear g
        have g := (Below.refl v21.heap.size v21).alloc (Nat.le_refl _) (.cells #[.string s0, .string s1] 23)
        have n_s := World.alloc_heap_new v21 (.cells #[.string s0, .string s1] 23)
        replace u := u.trans (g.mono u.size)
        replace n_in := lkeep n_in g
        replace n_out := lkeep n_out g
        replace n_un := lkeep n_un g
        clear g
        have c_in0 := lcell n_in 0 (v := .string l0) rfl
        have c_in1 := lcell n_in 1 (v := .string l1) rfl
        have c_in2 := lcell n_in 2 (v := .string h0) rfl
        have c_in3 := lcell n_in 3 (v := .string h1) rfl
        have c_out0 := lcell n_out 0 (v := .string d0) rfl
        have c_out1 := lcell n_out 1 (v := .string d1) rfl
        have c_out2 := lcell n_out 2 (v := .string t0) rfl
        have c_out3 := lcell n_out 3 (v := .string t1) rfl
        go_wp2_with fail
        generalize v21.alloc (.cells #[.string s0, .string s1] 23) = V_s at *
        generalize v21.heap.size = b_s at *
        refine (S2.o _).mono ?_
        rintro e v22 ⟨rfl, g⟩
        replace u := u.trans (g.mono u.size)
        replace n_in := lkeep n_in g
        replace n_out := lkeep n_out g
        replace n_un := lkeep n_un g
        replace n_s := lkeep n_s g
        clear c_in0 c_in1 c_in2 c_in3 c_out0 c_out1 c_out2 c_out3
        clear g
        clear n_in n_out
        have g := (Below.refl v22.heap.size v22).alloc (Nat.le_refl _) (.cells #[.string r0, .string r1] 23)
        have n_r := World.alloc_heap_new v22 (.cells #[.string r0, .string r1] 23)
        replace u := u.trans (g.mono u.size)
        replace n_un := lkeep n_un g
        replace n_s := lkeep n_s g
        clear g
        have E1' := E1.o
        have E2' := E2.o
        clear E1 E2 S1 S2 DV R10 HV
        go_upto_region 19 with fail
        generalize v22.alloc (.cells #[.string r0, .string r1] 23) = V_r at *
        generalize v22.heap.size = b_r at *
        by_cases hsc : sc = 0
        · obtain ⟨j1, hj1, c1⟩ := E1' hsc
          have c_s0 := lcell n_s 0 (v := .string s0) rfl
          have c_s1 := lcell n_s 1 (v := .string s1) rfl
          have c_un0 := lcell n_un 0 (v := .string (G0 j)) rfl
          have c_un1 := lcell n_un 1 (v := .string (G1 j)) rfl
          go_wp2_with fail
          refine (c1 _).mono ?_
          rintro e v23 ⟨rfl, g⟩
          replace u := u.trans (g.mono u.size)
          replace n_un := lkeep n_un g
          replace n_s := lkeep n_s g
          replace n_r := lkeep n_r g
          clear c_s0 c_s1 c_un0 c_un1
          clear g
          by_cases hrc : rc = 0
          · obtain ⟨j2, hj2, c2⟩ := E2' hrc
            have hj2' : ¬ 0 ≤ j2 := by omega
            have c_r0 := lcell n_r 0 (v := .string r0) rfl
            have c_r1 := lcell n_r 1 (v := .string r1) rfl
            have c_un0 := lcell n_un 0 (v := .string (G0 j)) rfl
            have c_un1 := lcell n_un 1 (v := .string (G1 j)) rfl
            go_wp2_with fail
            refine (c2 _).mono ?_
            rintro e v24 ⟨rfl, g⟩
            replace u := u.trans (g.mono u.size)
            replace n_un := lkeep n_un g
            replace n_s := lkeep n_s g
            replace n_r := lkeep n_r g
            clear c_r0 c_r1 c_un0 c_un1
            clear g
            go_wp2_with fail
            go_ret
            exact ⟨by simp, u⟩
          · go_wp2_with fail
            go_ret
            exact ⟨by simp, u⟩
        · by_cases hrc : rc = 0
          · obtain ⟨j2, hj2, c2⟩ := E2' hrc
            have hj2' : ¬ 0 ≤ j2 := by omega
            have c_r0 := lcell n_r 0 (v := .string r0) rfl
            have c_r1 := lcell n_r 1 (v := .string r1) rfl
            have c_un0 := lcell n_un 0 (v := .string (G0 j)) rfl
            have c_un1 := lcell n_un 1 (v := .string (G1 j)) rfl
            go_wp2_with fail
            refine (c2 _).mono ?_
            rintro e v23 ⟨rfl, g⟩
            replace u := u.trans (g.mono u.size)
            replace n_un := lkeep n_un g
            replace n_s := lkeep n_s g
            replace n_r := lkeep n_r g
            clear c_r0 c_r1 c_un0 c_un1
            clear g
            go_wp2_with fail
            go_ret
            exact ⟨by simp, u⟩
          · go_wp2_with fail
            go_ret
            exact ⟨by simp, u⟩
      · have hj2 : (j : Int) < (k : Int) := by omega
        have hj3 : (0 : Int) ≤ (j : Int) := by omega
        have cD := DV.o j (by omega)
        have cR := R10.o
        have hw1 : IntKind.i64.wrap ((j : Int) + 1) = (j : Int) + 1 := by simp [IntKind.wrap, IntKind.signed, IntKind.bits]; omega
        generalize hg0 : G0 (j + 1) = e0 at cD
        generalize hg1 : G1 (j + 1) = e1 at cD
        generalize hg2 : G0 j = c0 at *
        generalize hg3 : G1 j = c1 at *
        go_wp2_with fail
        have k0 := lcell n_un 0 (v := .string c0) rfl
        have f0 := lfree n_un 0
        have k1 := lcell n_un 1 (v := .string c1) rfl
        have f1 := lfree n_un 1
        go_region_with (first | (go_at_call 14; (with_reducible refine (Ret.run cR _).mono ?_); rintro e va ⟨rfl, g⟩; have g : Below wr.heap.size wr va := lundrew2 g; replace u := u.trans (g.mono u.size); replace n_in := lkeep n_in g; replace n_out := lkeep n_out g; replace n_un := lkeep n_un g; clear g; have k0 := lcell n_un 0 (v := .string c0) rfl; have f0 := lfree n_un 0; have k1 := lcell n_un 1 (v := .string c1) rfl; have f1 := lfree n_un 1; have hq := 0) | (go_at_call 34; (with_reducible refine (Ret.run cD _).mono ?_); rintro e vb ⟨rfl, g⟩; have g : Below va.heap.size va vb := g; replace u := u.trans (g.mono u.size); replace n_in := lkeep n_in g; replace n_out := lkeep n_out g; replace n_un := lkeep n_un g; clear g; have k0 := lcell n_un 0 (v := .string c0) rfl; have f0 := lfree n_un 0; have k1 := lcell n_un 1 (v := .string c1) rfl; have f1 := lfree n_un 1; have hq := 0))
        all_goals (
          have s_un := box2_setx (x := .string e0) (y := .string e1) n_un
          have s_in : ((vb.setCell ⟨b_un, 0, none⟩ (.string e0)).setCell ⟨b_un, 1, none⟩ (.string e1)).heap[b_in]? = _ := (Below.heap_setCell _ _ _ _ ne1).trans ((Below.heap_setCell _ _ _ _ ne1).trans n_in)
          have s_out : ((vb.setCell ⟨b_un, 0, none⟩ (.string e0)).setCell ⟨b_un, 1, none⟩ (.string e1)).heap[b_out]? = _ := (Below.heap_setCell _ _ _ _ ne2).trans ((Below.heap_setCell _ _ _ _ ne2).trans n_out)
          have us := (u.setCell (show w.heap.size ≤ (⟨b_un, 0, none⟩ : Addr).block from bun) (.string e0)).setCell (show w.heap.size ≤ (⟨b_un, 1, none⟩ : Addr).block from bun) (.string e1)
          go_wp2_with fail
          go_roundw
          case rel => exact ⟨j + 1, by omega, by first | rfl | go_num | simp, ⟨s_in, s_out, by rw [hg0, hg1]; exact s_un, us⟩⟩
          case measure => simp [intOf]; omega)
  · subst sw2; subst sw3; subst sw4; subst sw5
    have c_p0 := lcell n_p 0 (v := .string h0) rfl
    have c_p1 := lcell n_p 1 (v := .string h1) rfl
    have c_q0 := lcell n_q 0 (v := .string l0) rfl
    have c_q1 := lcell n_q 1 (v := .string l1) rfl
    go_wp2_with fail
    refine (CC.o _).mono ?_
    rintro e v5 ⟨rfl, g⟩
    replace u := u.trans (g.mono u.size)
    replace n_p := lkeep n_p g
    replace n_q := lkeep n_q g
    replace n_in := lkeep n_in g
    clear c_p0 c_p1 c_q0 c_q1
    clear g
    have c_p0 := lcell n_p 0 (v := .string h0) rfl
    have c_p1 := lcell n_p 1 (v := .string h1) rfl
    have c_q0 := lcell n_q 0 (v := .string l0) rfl
    have c_q1 := lcell n_q 1 (v := .string l1) rfl
    have k0 := lcell n_in 0 (v := .string h0) rfl
    have f0 := lfree n_in 0
    have k1 := lcell n_in 1 (v := .string h1) rfl
    have f1 := lfree n_in 1
    have k2 := lcell n_in 2 (v := .string l0) rfl
    have f2 := lfree n_in 2
    have k3 := lcell n_in 3 (v := .string l1) rfl
    have f3 := lfree n_in 3
    have s_in := box4_set (x := .string l0) (y := .string l1) (z := .string h0) (t := .string h1) n_in
    replace u := (((u.setCell (show w.heap.size ≤ (⟨b_in, 0, none⟩ : Addr).block from bin) (.string l0)).setCell (show w.heap.size ≤ (⟨b_in, 1, none⟩ : Addr).block from bin) (.string l1)).setCell (show w.heap.size ≤ (⟨b_in, 2, none⟩ : Addr).block from bin) (.string h0)).setCell (show w.heap.size ≤ (⟨b_in, 3, none⟩ : Addr).block from bin) (.string h1)
    go_upto_region 8 with fail
    replace n_in := s_in
    clear c_p0 c_p1 c_q0 c_q1
    clear s_in CC n_p n_q k0 k1 k2 k3 f0 f1 f2 f3
    generalize (((v5.setCell ⟨b_in, 0, none⟩ (.string l0)).setCell ⟨b_in, 1, none⟩ (.string l1)).setCell ⟨b_in, 2, none⟩ (.string h0)).setCell ⟨b_in, 3, none⟩ (.string h1) = wc at *
    have c_in0 := lcell n_in 0 (v := .string l0) rfl
    have c_in1 := lcell n_in 1 (v := .string l1) rfl
    have c_in2 := lcell n_in 2 (v := .string h0) rfl
    have c_in3 := lcell n_in 3 (v := .string h1) rfl
    go_wp2_with fail
    refine (R1.o _ (HV.o.keep u)).mono ?_
    rintro e v6 ⟨rfl, g⟩
    replace u := u.trans (g.mono u.size)
    replace n_in := lkeep n_in g
    clear c_in0 c_in1 c_in2 c_in3
    clear g
    have g := (Below.refl v6.heap.size v6).alloc (Nat.le_refl _) (.cells #[.string d0, .string d1, .string t0, .string t1] 25)
    have n_out := World.alloc_heap_new v6 (.cells #[.string d0, .string d1, .string t0, .string t1] 25)
    replace u := u.trans (g.mono u.size)
    replace n_in := lkeep n_in g
    clear g
    have c_out0 := lcell n_out 0 (v := .string d0) rfl
    have c_out1 := lcell n_out 1 (v := .string d1) rfl
    have c_out2 := lcell n_out 2 (v := .string t0) rfl
    have c_out3 := lcell n_out 3 (v := .string t1) rfl
    go_wp2_with fail
    generalize v6.alloc (.cells #[.string d0, .string d1, .string t0, .string t1] 25) = V_out at *
    generalize v6.heap.size = b_out at *
    refine (R2.o _ (HV.o.keep u)).mono ?_
    rintro e v7 ⟨rfl, g⟩
    replace u := u.trans (g.mono u.size)
    replace n_in := lkeep n_in g
    replace n_out := lkeep n_out g
    clear c_out0 c_out1 c_out2 c_out3
    clear g
    have g := (Below.refl v7.heap.size v7).alloc (Nat.le_refl _) (.cells #[.string d0, .string d1, .string t0, .string t1] 25)
    have n_ag := World.alloc_heap_new v7 (.cells #[.string d0, .string d1, .string t0, .string t1] 25)
    replace u := u.trans (g.mono u.size)
    replace n_in := lkeep n_in g
    replace n_out := lkeep n_out g
    clear g
    have c_in0 := lcell n_in 0 (v := .string l0) rfl
    have c_in1 := lcell n_in 1 (v := .string l1) rfl
    have c_in2 := lcell n_in 2 (v := .string h0) rfl
    have c_in3 := lcell n_in 3 (v := .string h1) rfl
    have c_out0 := lcell n_out 0 (v := .string d0) rfl
    have c_out1 := lcell n_out 1 (v := .string d1) rfl
    have c_out2 := lcell n_out 2 (v := .string t0) rfl
    have c_out3 := lcell n_out 3 (v := .string t1) rfl
    have c_ag0 := lcell n_ag 0 (v := .string d0) rfl
    have c_ag1 := lcell n_ag 1 (v := .string d1) rfl
    have c_ag2 := lcell n_ag 2 (v := .string t0) rfl
    have c_ag3 := lcell n_ag 3 (v := .string t1) rfl
    go_wp2_with fail
    generalize v7.alloc (.cells #[.string d0, .string d1, .string t0, .string t1] 25) = V_ag at *
    generalize v7.heap.size = b_ag at *
    refine (CW.o _).mono ?_
    rintro e v8 ⟨rfl, g⟩
    replace u := u.trans (g.mono u.size)
    replace n_in := lkeep n_in g
    replace n_out := lkeep n_out g
    replace n_ag := lkeep n_ag g
    clear c_in0 c_in1 c_in2 c_in3 c_out0 c_out1 c_out2 c_out3 c_ag0 c_ag1 c_ag2 c_ag3
    clear g
    clear R1 R2 CW n_ag
    go_wp2_with fail
    refine (R11.o _).mono ?_
    rintro e v9 ⟨rfl, g⟩
    replace u := u.trans (g.mono u.size)
    replace n_in := lkeep n_in g
    replace n_out := lkeep n_out g
    clear g
    have lin := (Array.getElem?_eq_some_iff.1 n_in).1
    have lout := (Array.getElem?_eq_some_iff.1 n_out).1
    have bun := u.size
    have g := (Below.refl v9.heap.size v9).alloc (Nat.le_refl _) (.cells #[.string (G0 0), .string (G1 0)] 23)
    have n_un := World.alloc_heap_new v9 (.cells #[.string (G0 0), .string (G1 0)] 23)
    replace u := u.trans (g.mono u.size)
    replace n_in := lkeep n_in g
    replace n_out := lkeep n_out g
    clear g
    clear R11
    go_wp2_with fail
    generalize v9.alloc (.cells #[.string (G0 0), .string (G1 0)] 23) = V_un at *
    generalize v9.heap.size = b_un at *
    have S0 : Shut (V_un.heap[b_in]? = some (.cells #[.string l0, .string l1, .string h0, .string h1] 25 (0, 0)) ∧ V_un.heap[b_out]? = some (.cells #[.string d0, .string d1, .string t0, .string t1] 25 (0, 0)) ∧ V_un.heap[b_un]? = some (.cells #[.string (G0 0), .string (G1 0)] 23 (0, 0)) ∧ Below w.heap.size w V_un) := ⟨n_in, n_out, n_un, u⟩
    clear n_in n_out n_un u
    go_loopw [16] (fun jv wr => ∃ j : Nat, j ≤ k ∧ jv = .int .i64 (j : Int) ∧ Shut (wr.heap[b_in]? = some (.cells #[.string l0, .string l1, .string h0, .string h1] 25 (0, 0)) ∧ wr.heap[b_out]? = some (.cells #[.string d0, .string d1, .string t0, .string t1] 25 (0, 0)) ∧ wr.heap[b_un]? = some (.cells #[.string (G0 j), .string (G1 j)] 23 (0, 0)) ∧ Below w.heap.size w wr)) (fun jv _ => k - (intOf jv).toNat)
    case atStart => exact ⟨0, Nat.zero_le _, rfl, S0⟩
    case round =>
      obtain ⟨j, hj, rfl, H⟩ := hrel
      obtain ⟨n_in, n_out, n_un, u⟩ := H.o
      clear H S0
      have ne1 : b_in ≠ b_un := by omega
      have ne2 : b_out ≠ b_un := by omega
      by_cases hjk : j = k
      · subst hjk
        have c_in0 := lcell n_in 0 (v := .string l0) rfl
        have c_in1 := lcell n_in 1 (v := .string l1) rfl
        have c_in2 := lcell n_in 2 (v := .string h0) rfl
        have c_in3 := lcell n_in 3 (v := .string h1) rfl
        have c_out0 := lcell n_out 0 (v := .string d0) rfl
        have c_out1 := lcell n_out 1 (v := .string d1) rfl
        have c_out2 := lcell n_out 2 (v := .string t0) rfl
        have c_out3 := lcell n_out 3 (v := .string t1) rfl
        go_wp2_with fail
        refine (S1.o _).mono ?_
        rintro e v21 ⟨rfl, g⟩
        replace u := u.trans (g.mono u.size)
        replace n_in := lkeep n_in g
        replace n_out := lkeep n_out g
        replace n_un := lkeep n_un g
        clear c_in0 c_in1 c_in2 c_in3 c_out0 c_out1 c_out2 c_out3
        clear g
        have g := (Below.refl v21.heap.size v21).alloc (Nat.le_refl _) (.cells #[.string s0, .string s1] 23)
        have n_s := World.alloc_heap_new v21 (.cells #[.string s0, .string s1] 23)
        replace u := u.trans (g.mono u.size)
        replace n_in := lkeep n_in g
        replace n_out := lkeep n_out g
        replace n_un := lkeep n_un g
        clear g
        have c_in0 := lcell n_in 0 (v := .string l0) rfl
        have c_in1 := lcell n_in 1 (v := .string l1) rfl
        have c_in2 := lcell n_in 2 (v := .string h0) rfl
        have c_in3 := lcell n_in 3 (v := .string h1) rfl
        have c_out0 := lcell n_out 0 (v := .string d0) rfl
        have c_out1 := lcell n_out 1 (v := .string d1) rfl
        have c_out2 := lcell n_out 2 (v := .string t0) rfl
        have c_out3 := lcell n_out 3 (v := .string t1) rfl
        go_wp2_with fail
        generalize v21.alloc (.cells #[.string s0, .string s1] 23) = V_s at *
        generalize v21.heap.size = b_s at *
        refine (S2.o _).mono ?_
        rintro e v22 ⟨rfl, g⟩
        replace u := u.trans (g.mono u.size)
        replace n_in := lkeep n_in g
        replace n_out := lkeep n_out g
        replace n_un := lkeep n_un g
        replace n_s := lkeep n_s g
        clear c_in0 c_in1 c_in2 c_in3 c_out0 c_out1 c_out2 c_out3
        clear g
        clear n_in n_out
        have g := (Below.refl v22.heap.size v22).alloc (Nat.le_refl _) (.cells #[.string r0, .string r1] 23)
        have n_r := World.alloc_heap_new v22 (.cells #[.string r0, .string r1] 23)
        replace u := u.trans (g.mono u.size)
        replace n_un := lkeep n_un g
        replace n_s := lkeep n_s g
        clear g
        have E1' := E1.o
        have E2' := E2.o
        clear E1 E2 S1 S2 DV R10 HV
        go_upto_region 19 with fail
        generalize v22.alloc (.cells #[.string r0, .string r1] 23) = V_r at *
        generalize v22.heap.size = b_r at *
        by_cases hsc : sc = 0
        · obtain ⟨j1, hj1, c1⟩ := E1' hsc
          have c_s0 := lcell n_s 0 (v := .string s0) rfl
          have c_s1 := lcell n_s 1 (v := .string s1) rfl
          have c_un0 := lcell n_un 0 (v := .string (G0 j)) rfl
          have c_un1 := lcell n_un 1 (v := .string (G1 j)) rfl
          go_wp2_with fail
          refine (c1 _).mono ?_
          rintro e v23 ⟨rfl, g⟩
          replace u := u.trans (g.mono u.size)
          replace n_un := lkeep n_un g
          replace n_s := lkeep n_s g
          replace n_r := lkeep n_r g
          clear c_s0 c_s1 c_un0 c_un1
          clear g
          by_cases hrc : rc = 0
          · obtain ⟨j2, hj2, c2⟩ := E2' hrc
            have hj2' : ¬ 0 ≤ j2 := by omega
            have c_r0 := lcell n_r 0 (v := .string r0) rfl
            have c_r1 := lcell n_r 1 (v := .string r1) rfl
            have c_un0 := lcell n_un 0 (v := .string (G0 j)) rfl
            have c_un1 := lcell n_un 1 (v := .string (G1 j)) rfl
            go_wp2_with fail
            refine (c2 _).mono ?_
            rintro e v24 ⟨rfl, g⟩
            replace u := u.trans (g.mono u.size)
            replace n_un := lkeep n_un g
            replace n_s := lkeep n_s g
            replace n_r := lkeep n_r g
            clear c_r0 c_r1 c_un0 c_un1
            clear g
            go_wp2_with fail
            go_ret
            exact ⟨by simp, u⟩
          · go_wp2_with fail
            go_ret
            exact ⟨by simp, u⟩
        · by_cases hrc : rc = 0
          · obtain ⟨j2, hj2, c2⟩ := E2' hrc
            have hj2' : ¬ 0 ≤ j2 := by omega
            have c_r0 := lcell n_r 0 (v := .string r0) rfl
            have c_r1 := lcell n_r 1 (v := .string r1) rfl
            have c_un0 := lcell n_un 0 (v := .string (G0 j)) rfl
            have c_un1 := lcell n_un 1 (v := .string (G1 j)) rfl
            go_wp2_with fail
            refine (c2 _).mono ?_
            rintro e v23 ⟨rfl, g⟩
            replace u := u.trans (g.mono u.size)
            replace n_un := lkeep n_un g
            replace n_s := lkeep n_s g
            replace n_r := lkeep n_r g
            clear c_r0 c_r1 c_un0 c_un1
            clear g
            go_wp2_with fail
            go_ret
            exact ⟨by simp, u⟩
          · go_wp2_with fail
            go_ret
            exact ⟨by simp, u⟩
      · have hj2 : (j : Int) < (k : Int) := by omega
        have hj3 : (0 : Int) ≤ (j : Int) := by omega
        have cD := DV.o j (by omega)
        have cR := R10.o
        have hw1 : IntKind.i64.wrap ((j : Int) + 1) = (j : Int) + 1 := by simp [IntKind.wrap, IntKind.signed, IntKind.bits]; omega
        generalize hg0 : G0 (j + 1) = e0 at cD
        generalize hg1 : G1 (j + 1) = e1 at cD
        generalize hg2 : G0 j = c0 at *
        generalize hg3 : G1 j = c1 at *
        go_wp2_with fail
        have k0 := lcell n_un 0 (v := .string c0) rfl
        have f0 := lfree n_un 0
        have k1 := lcell n_un 1 (v := .string c1) rfl
        have f1 := lfree n_un 1
        go_region_with (first | (go_at_call 14; (with_reducible refine (Ret.run cR _).mono ?_); rintro e va ⟨rfl, g⟩; have g : Below wr.heap.size wr va := lundrew2 g; replace u := u.trans (g.mono u.size); replace n_in := lkeep n_in g; replace n_out := lkeep n_out g; replace n_un := lkeep n_un g; clear g; have k0 := lcell n_un 0 (v := .string c0) rfl; have f0 := lfree n_un 0; have k1 := lcell n_un 1 (v := .string c1) rfl; have f1 := lfree n_un 1; have hq := 0) | (go_at_call 34; (with_reducible refine (Ret.run cD _).mono ?_); rintro e vb ⟨rfl, g⟩; have g : Below va.heap.size va vb := g; replace u := u.trans (g.mono u.size); replace n_in := lkeep n_in g; replace n_out := lkeep n_out g; replace n_un := lkeep n_un g; clear g; have k0 := lcell n_un 0 (v := .string c0) rfl; have f0 := lfree n_un 0; have k1 := lcell n_un 1 (v := .string c1) rfl; have f1 := lfree n_un 1; have hq := 0))
        all_goals (
          have s_un := box2_setx (x := .string e0) (y := .string e1) n_un
          have s_in : ((vb.setCell ⟨b_un, 0, none⟩ (.string e0)).setCell ⟨b_un, 1, none⟩ (.string e1)).heap[b_in]? = _ := (Below.heap_setCell _ _ _ _ ne1).trans ((Below.heap_setCell _ _ _ _ ne1).trans n_in)
          have s_out : ((vb.setCell ⟨b_un, 0, none⟩ (.string e0)).setCell ⟨b_un, 1, none⟩ (.string e1)).heap[b_out]? = _ := (Below.heap_setCell _ _ _ _ ne2).trans ((Below.heap_setCell _ _ _ _ ne2).trans n_out)
          have us := (u.setCell (show w.heap.size ≤ (⟨b_un, 0, none⟩ : Addr).block from bun) (.string e0)).setCell (show w.heap.size ≤ (⟨b_un, 1, none⟩ : Addr).block from bun) (.string e1)
          go_wp2_with fail
          go_roundw
          case rel => exact ⟨j + 1, by omega, by first | rfl | go_num | simp, ⟨s_in, s_out, by rw [hg0, hg1]; exact s_un, us⟩⟩
          case measure => simp [intOf]; omega)
end En
end Go.Proofs.YtncgigpjdjpgmaaGreatDoor
namespace Go.Proofs.YtncgigpjdjpgmaaGreatDoor
set_option maxRecDepth 1000000
namespace En
open Go.ChangeShapes Go.WideShapes Go.ChangeAt Go.RowKit
open Go.Extern.Stop Go.Stop Go.Extern
theorem own : ownKnob Tryz.prog.godebug = none := by kernel_rfl
theorem laidOut : laidOutB Tryz.prog = true := by kernel_rfl
theorem gE : Tryz.prog.globalNamed "workpiece/enclosure.errRefused" = some 0 := by kernel_rfl
theorem gET : (Tryz.prog.globals[0]?).map (·.type) = some 129 := by kernel_rfl
theorem cellsE : Tryz.prog.cellsOf 224 = 1 := by kernel_rfl
theorem cellsStr : Tryz.prog.cellsOf 9 = 1 := by kernel_rfl
theorem starE : "*" ++ "errors.errorString" = "*errors.errorString" := by decide
theorem rowE (u : TypeId) (h : Tryz.prog.typeName? 3 u = some "*errors.errorString") : u = 202 :=
  typeName_ptr_named (nm := "errors.errorString") (by rw [starE]; kernel_rfl) (by kernel_rfl) (by decide) u (by rw [starE]; exact h)
abbrev theLaid : List (String × DataW Unit) := [("workpiece/enclosure.errRefused", Rows.laid_workpiece_enclosure_errRefused)]
theorem ref_of {W : World} (h : laidMetH Tryz.prog theLaid W) : ∃ a, Ref a W := by
  obtain ⟨a0, s0, hv0, hc0, hs0, hz0⟩ := laid_sentinel (r := []) h gE gET Tryz.underlying129 rowE Tryz.underlying202 Tryz.underlying224 rfl rfl Tryz.underlying9 cellsE cellsStr
  have h1 := World.var?_cell gE hv0 0
  simp at h1
  exact ⟨a0, h1⟩
abbrev refS : ByteArray := { data := #[101, 110, 99, 108, 111, 115, 117, 114, 101, 58, 32, 114, 101, 102, 117, 115, 101, 100] }
noncomputable def low : Nat := (World.holding Tryz.prog default ⟨#[], #[], []⟩).heap.size
noncomputable def laidWorld (os : Os) : World :=
  let w0 := World.holding Tryz.prog os ⟨#[.cells #[.string refS] 224], #[], []⟩
  { w0 with heap := w0.heap.modify 0 fun
      | .cells _ t frozen => .cells #[.iface 202 (.pointer (some ⟨low, 0, none⟩))] t frozen
      | o => o }
theorem laid_met (os : Os) (args : Array Value) : laidMet Tryz.prog theLaid ((laidWorld os).forCall (fun _ _ => 0) ⟨#[], args, []⟩).memory :=
  laidMet_of_run (ps := [.cell 0 0, .cell low 0]) 8 (by kernel_rfl) (by kernel_rfl) (by kernel_rfl)
theorem in64 {k : Int} (h : (Lit.int .i64 k).wf = true) : In64 k := Joins.in64_of_wf h
end En
end Go.Proofs.YtncgigpjdjpgmaaGreatDoor
namespace Go.Proofs.YtncgigpjdjpgmaaGreatDoor.enclosureRounds
set_option maxRecDepth 1000000
open Go.ChangeShapes Go.WideShapes Go.ChangeAt Go.RowKit
open Go.ChangeMaps (open_string shut_string)
open En

theorem contract (H : Type) (enc : TypeId × Value → H) (W : World) (base : Nat) (args : Array Value) (ds gs : List (DataW H)) (before : List MemPlace)
    (hval : ∀ (j : Nat) t v, Tryz.f9.params[j]? = some t → args[j]? = some v → Value.okWide Tryz.prog W .any base t v)
    (hW : DataW.Whole enc Tryz.prog Tryz.f9.params.toList Rows.enclosureRoundsSpec.vars false W args.toList ds gs before) (hL : laidMetH Tryz.prog Rows.enclosureRoundsRow.laid W) :
    Calls Tryz.prog 9 args W fun e W' => ∃ v, e = .returned v ∧ Rows.enclosureRoundsSpec.post enc Tryz.prog Tryz.f9 false true false false W args v W' := by
  have hW' := hW
  obtain ⟨p, q, hA0, hV, rfl, hfz, hnd⟩ := hW
  have hA : DataW.TrodAll enc Tryz.prog W 0 (fun _ => true) true Tryz.f9.params.toList args.toList ds p := hA0
  rw [Tryz.params9] at hA hval
  obtain ⟨v0, vs0, d0, ds0, p0, q0, hargs, rfl, rfl, h0, r0⟩ := trodAll_cons hA
  obtain ⟨v1, vs1, d1, ds1, p1, q1, rfl, rfl, rfl, h1, r1⟩ := trodAll_cons r0
  obtain ⟨v2, vs2, d2, ds2, p2, q2, rfl, rfl, rfl, h2, r2⟩ := trodAll_cons r1
  obtain ⟨rfl, rfl, rfl⟩ := trodAll_nil r2
  obtain rfl : args = #[v0, v1, v2] := by cases args; simp_all
  obtain ⟨rfl, rfl⟩ := trodVars_none hV
  obtain ⟨s0, s1, s2, s3, rfl, rfl, rfl, ws⟩ := Rt.open_arr4 Tryz.underlying26 Tryz.underlying3 (by kernel_rfl) (by kernel_rfl) (hval 0 26 v0 rfl rfl) h0
  obtain ⟨t0, t1, t2, t3, rfl, rfl, rfl, wt⟩ := Rt.open_arr4 Tryz.underlying26 Tryz.underlying3 (by kernel_rfl) (by kernel_rfl) (hval 1 26 v1 rfl rfl) h1
  obtain ⟨u, rfl, rfl, rfl, wu⟩ := open_int Tryz.underlying3 (hval 2 3 v2 rfl rfl) h2
  clear hA0
  simp only [List.append_nil] at hW'
  obtain ⟨a, ha⟩ := ref_of hL
  refine (En.rounds_walk a s0 s1 s2 s3 t0 t1 t2 t3 u (in64 ws.1) (in64 ws.2.1) (in64 ws.2.2.1) (in64 ws.2.2.2) (in64 wt.1) (in64 wt.2.1) (in64 wt.2.2.1) (in64 wt.2.2.2) (in64 wu) W ha).mono fun e W' ⟨he, hb⟩ => ?_
  subst he
  refine ⟨_, rfl, [_, _, _], [], [], [], [], [], hW', trodAll_cons_mk (shut_bool Tryz.underlying4 _) trodAll_mk0, ?_, rfl, World.keptBut_mono (fun x hx => by cases hx) (hb.frame (· ∈ [])), fun h => by cases h⟩
  exact trodAll_cons_mk (Rt.shut_arr4 Tryz.underlying26 Tryz.underlying3 (by kernel_rfl) (by kernel_rfl) ws) (trodAll_cons_mk (Rt.shut_arr4 Tryz.underlying26 Tryz.underlying3 (by kernel_rfl) (by kernel_rfl) wt) (trodAll_cons_mk (shut_int Tryz.underlying3 wu) trodAll_mk0))

theorem reads (os : Os) {H : Type} (enc : TypeId × Value → H) : ∃ places, DataW.whole enc Tryz.prog ((laidWorld os).forCall (fun _ _ => 0) ⟨#[], #[.agg #[.int .i64 0, .int .i64 0, .int .i64 0, .int .i64 0], .agg #[.int .i64 0, .int .i64 0, .int .i64 0, .int .i64 0], .int .i64 0], []⟩).memory Tryz.f9.params.toList Rows.enclosureRoundsSpec.vars false (#[.agg #[.int .i64 0, .int .i64 0, .int .i64 0, .int .i64 0], .agg #[.int .i64 0, .int .i64 0, .int .i64 0, .int .i64 0], .int .i64 0] : Array Value).toList 8 = some ([.agg [.lit (.int .i64 0), .lit (.int .i64 0), .lit (.int .i64 0), .lit (.int .i64 0)], .agg [.lit (.int .i64 0), .lit (.int .i64 0), .lit (.int .i64 0), .lit (.int .i64 0)], .lit (.int .i64 0)], [], places) :=
  ⟨[], by kernel_rfl⟩

theorem lifted (os : Os) (started : os.Started) (H : Type) (enc : TypeId × Value → H) (F : Stop.Interp) :
    ReturnsInHanded {} Tryz.checked os 9 .any ((OpenSpec.ofChange Rows.enclosureRoundsSpec).preRow enc Tryz.prog Tryz.f9 Rows.enclosureRoundsRow.domain false Rows.enclosureRoundsRow.laid) (((OpenSpec.ofChange Rows.enclosureRoundsSpec).at F).post enc Tryz.prog Tryz.f9 false true false false) := by
  obtain ⟨places, hx⟩ := reads os enc
  refine returnsInHanded_of_row (C := Tryz.checked) (s := OpenSpec.ofChange Rows.enclosureRoundsSpec) own started (by kernel_rfl) Tryz.func9
    (witness_row_at (enc := enc) (C := Tryz.checked) false (laidWorld os) #[.agg #[.int .i64 0, .int .i64 0, .int .i64 0, .int .i64 0], .agg #[.int .i64 0, .int .i64 0, .int .i64 0, .int .i64 0], .int .i64 0] rfl (by kernel_rfl) (by kernel_rfl) (by kernel_rfl)
      (OpenSpec.preRow_of_cond 8 hx (by kernel_rfl) (fun k hk => by cases hk) (by kernel_rfl) (laid_met os _))) ?_
  intro W base args ds gs before hval hW _ _ _ hL _ _
  exact contract H enc W base args ds gs before hval hW hL

theorem said : Rows.EnclosureRoundsSaid :=
  OpenClaim.holds_of_cond 9 Tryz.f9 rfl rfl rfl rfl rfl rfl rfl ⟨rfl, rfl, rfl, rfl, rfl⟩ rfl rfl rfl rfl rfl (by kernel_rfl) Tryz.func9 (by kernel_rfl)
    (of_decide_eq_true (by kernel_rfl)) (by unfold Func.isWrapper; first | (rw [if_pos (by decide +kernel)]; kernel_rfl) | (rw [if_neg (by decide +kernel)]; exact ⟨rfl, rfl⟩))
    (fun os started H enc _ F => by rw [OpenClaim.pre_eq_preRow]; exact lifted os started H enc F)

theorem plain (f : FuncId) (fn : Func) (hf : Tryz.pinned.checked.prog.funcNamed "workpiece/workpiecelaw05.EnclosureRounds" = some f) (hfn : Tryz.pinned.checked.prog.funcs[f]? = some fn) :
    true = Tryz.pinned.checked.prog.looks [] ∧ ∀ (j : Nat) t, fn.params[j]? = some t → Tryz.pinned.checked.prog.wantsStandIn t = false := by
  obtain rfl : f = 9 := Option.some.inj ((show Tryz.prog.funcNamed "workpiece/workpiecelaw05.EnclosureRounds" = some 9 by kernel_rfl).symm.trans hf) |>.symm
  obtain rfl : fn = Tryz.f9 := (Option.some.inj (Tryz.func9.symm.trans hfn)).symm
  refine ⟨by kernel_rfl, fun j t ht => ?_⟩
  rw [Tryz.params9] at ht
  have hm := Array.mem_of_getElem? ht
  simp at hm
  rcases hm with rfl | rfl
  · exact (show Tryz.prog.wantsStandIn 26 = false by kernel_rfl)
  · exact (show Tryz.prog.wantsStandIn 3 = false by kernel_rfl)

/-- the card -/
theorem card : Rows.EnclosureRoundsCardSaid :=
  Claim7.holds_tied_plain_at .later [] _ _ _ _ said (fun _ h => by cases h) (by kernel_rfl) (fun _ h => by cases h) enclosureRounds_row_tie rfl ⟨rfl, rfl⟩ (by kernel_rfl) rfl plain (by kernel_rfl)
end Go.Proofs.YtncgigpjdjpgmaaGreatDoor.enclosureRounds
