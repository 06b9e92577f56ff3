/-
  PROVED: EnclosureTight: both ends of sums, differences, products and quotients come from ends of the intervals, and each of the ends' values lies in the result; a quotient is refused only where the divisor contains 0. Every argument reads afterwards as it read before. Conditions: those of the given row and card: the variable enclosure.errRefused holds what the program's text lays (tied by the card); linux/amd64.
-/
import Derived.Test.YtbfonkabmehlmaaGreatDoorNt1
import Derived.Test.YtbfonkabmehlmaaGreatDoorMd7
import Derived.Deep.RegionHeld3
import Derived.Deep.RegionWith
import Derived.Test.YtbfonkabmehlmaaGreatDoorCards
import Derived.Test.YtbfonkabmehlmaaGreatDoorTie
import Derived.Test.YtbfonkabmehlmaaGreatDoorRatOp
import Derived.ProofKit
import Derived.OpenShut
import Derived.Deep.DeepHandedRow
import Derived.Lib.SmallJoins
import Derived.Stop.LaidErr
namespace Go.Proofs.YtbfonkabmehlmaaGreatDoor
set_option maxRecDepth 1000000
namespace En
open Go.RowKit Go.Extern.Stop Go.Stop Go.Extern
open Go.Proofs.YtbfonkabmehlmaaGreatDoor.Nm Go.Proofs.YtbfonkabmehlmaaGreatDoor.Rt
theorem cont_q {x y z : Rat} (fx : FitQ x) (fy : FitQ y) (fz : FitQ z) (h : x ≤ z ∧ z ≤ y) (m : P4) (hm : m = (pq x, pq y)) : Ret 24 #[.agg #[.string (m).1.1, .string (m).1.2, .string (m).2.1, .string (m).2.2], .agg #[.string (txt z.num), .string (txt (z.den : Int))]] (.bool true) := by
  subst hm
  have := Contains_q fx fy fz
  rw [decide_eq_true h] at this
  exact this
/-- one of the first k is true -/
def orB (f : Nat → Bool) : Nat → Bool
  | 0 => false
  | k + 1 => orB f k || f k
theorem orB_true {f : Nat → Bool} {j : Nat} (h : f j = true) : ∀ k, j < k → orB f k = true
  | 0, h1 => absurd h1 (by omega)
  | k + 1, h1 => by
    rw [orB]
    rcases Nat.lt_or_ge j k with h2 | h2
    · rw [orB_true h k h2]; rfl
    · obtain rfl : j = k := by omega
      rw [h, Bool.or_true]
/-- two pairs of strings are the same -/
def eqP (s t : P2) : Bool := (s.1.toList == t.1.toList) && (s.2.toList == t.2.toList)
theorem eqP_self (s : P2) : eqP s s = true := by rw [eqP, beq_self_eq_true, beq_self_eq_true]; rfl
/-- an operation on the ends: what it answers, that the interval contains it, that the interval's ends are among it -/
def TightOp (op : Nat) (X Y : Nat → P2) (m : P4) : Prop := ∃ V : Nat → P2,
  (∀ k, k < 4 → Ret op #[.agg #[.string (X (k / 2)).1, .string (X (k / 2)).2], .agg #[.string (Y (k % 2)).1, .string (Y (k % 2)).2]] (.tuple #[.agg #[.string (V k).1, .string (V k).2], .int .i64 0])) ∧
  (∀ k, k < 4 → Ret 24 #[.agg #[.string m.1.1, .string m.1.2, .string m.2.1, .string m.2.2], .agg #[.string (V k).1, .string (V k).2]] (.bool true)) ∧
  orB (fun k => eqP (V k) m.1) 4 = true ∧ orB (fun k => eqP (V k) m.2) 4 = true
theorem en_ix {p q x : Rat} (h : x = p ∨ x = q) : ∃ i, i < 2 ∧ en p q i = x := by
  rcases h with rfl | rfl
  · exact ⟨0, by omega, rfl⟩
  · exact ⟨1, by omega, rfl⟩
theorem tight_op (op : Nat) (r : Rat → Rat → Rat) {p1 q1 p2 q2 x y x' y' : Rat} (hO : ∀ u v, (u = p1 ∨ u = q1) → (v = p2 ∨ v = q2) → FitQ (r u v) ∧ Ret op #[.agg #[.string (pq u).1, .string (pq u).2], .agg #[.string (pq v).1, .string (pq v).2]] (.tuple #[.agg #[.string (pq (r u v)).1, .string (pq (r u v)).2], .int .i64 0]))
    (hx : x = p1 ∨ x = q1) (hy : y = p2 ∨ y = q2) (hx' : x' = p1 ∨ x' = q1) (hy' : y' = p2 ∨ y' = q2) (hall : ∀ u v, (u = p1 ∨ u = q1) → (v = p2 ∨ v = q2) → r x y ≤ r u v ∧ r u v ≤ r x' y') (m : P4) (hm : m = (pq (r x y), pq (r x' y'))) :
    TightOp op (fun j => pq (en p1 q1 j)) (fun j => pq (en p2 q2 j)) m := by
  refine ⟨fun k => pq (r (en p1 q1 (k / 2)) (en p2 q2 (k % 2))), fun k _ => (hO _ _ (en_in _ _ _) (en_in _ _ _)).2, fun k _ => ?_, ?_, ?_⟩
  · exact cont_q (hO _ _ hx hy).1 (hO _ _ hx' hy').1 (hO _ _ (en_in _ _ _) (en_in _ _ _)).1 (hall _ _ (en_in _ _ _) (en_in _ _ _)) m hm
  · obtain ⟨i, hi, e1⟩ := en_ix hx
    obtain ⟨j, hj, e2⟩ := en_ix hy
    refine orB_true (j := i * 2 + j) ?_ 4 (by omega)
    show eqP (pq (r (en p1 q1 ((i * 2 + j) / 2)) (en p2 q2 ((i * 2 + j) % 2)))) m.1 = true
    rw [show (i * 2 + j) / 2 = i by omega, show (i * 2 + j) % 2 = j by omega, e1, e2, hm]
    exact eqP_self _
  · obtain ⟨i, hi, e1⟩ := en_ix hx'
    obtain ⟨j, hj, e2⟩ := en_ix hy'
    refine orB_true (j := i * 2 + j) ?_ 4 (by omega)
    show eqP (pq (r (en p1 q1 ((i * 2 + j) / 2)) (en p2 q2 ((i * 2 + j) % 2)))) m.2 = true
    rw [show (i * 2 + j) / 2 = i by omega, show (i * 2 + j) % 2 = j by omega, e1, e2, hm]
    exact eqP_self _
theorem tight_facts (a : Addr) {p1 q1 p2 q2 : Rat} (s1 : SmallQ p1) (t1 : SmallQ q1) (s2 : SmallQ p2) (t2 : SmallQ q2) (o1 : p1 ≤ q1) (o2 : p2 ≤ q2) : ∃ (M : Nat → P4) (E : Nat → Int) (X Y : Nat → P2) (zb : Bool),
    (∀ W : World, Ref a W → Calls Tryz.prog 16 #[.agg #[.string (X 0).1, .string (X 0).2, .string (X 1).1, .string (X 1).2], .agg #[.string (Y 0).1, .string (Y 0).2, .string (Y 1).1, .string (Y 1).2], .int .i64 3] W fun e w' => ∃ vl ve, e = .returned (.tuple #[vl, ve]) ∧ OwnG 25 4 w' W.heap.size vl 8 (ivs M) ∧ OwnG 30 1 w' W.heap.size ve 8 (ers E) ∧ Below W.heap.size W w') ∧
    iq p1 q1 = .agg #[.string (X 0).1, .string (X 0).2, .string (X 1).1, .string (X 1).2] ∧ iq p2 q2 = .agg #[.string (Y 0).1, .string (Y 0).2, .string (Y 1).1, .string (Y 1).2] ∧
    (E 0 = 0 ∧ E 1 = 0 ∧ E 2 = 0) ∧
    Ret 24 #[.agg #[.string (Y 0).1, .string (Y 0).2, .string (Y 1).1, .string (Y 1).2], .agg #[.string ⟨#[48]⟩, .string ⟨#[49]⟩]] (.bool zb) ∧
    TightOp 28 X Y (M 0) ∧ TightOp 29 X Y (M 1) ∧ TightOp 30 X Y (M 2) ∧
    ((E 3 = 50 ∧ zb = true) ∨ (E 3 = 0 ∧ TightOp 31 X Y (M 3))) := by
  obtain ⟨M, E, hC, a0, a1, a2, a3, -, -, -, -⟩ := calls_b a (SmallQ.bb s1) (SmallQ.bb t1) (SmallQ.bb s2) (SmallQ.bb t2) o1 o2 (c := 3) (by decide)
  have hu : ∀ u, (u = p1 ∨ u = q1) → BB u := fun u h => BB.corner (SmallQ.bb s1) (SmallQ.bb t1) h
  have hv : ∀ v, (v = p2 ∨ v = q2) → BB v := fun u h => BB.corner (SmallQ.bb s2) (SmallQ.bb t2) h
  have f0 : FitQ 0 := ⟨fits_small (by decide), fits_small (by decide)⟩
  have hz2 : Ret 24 #[iq p2 q2, .agg #[.string ⟨#[48]⟩, .string ⟨#[49]⟩]] (.bool (decide (p2 ≤ 0 ∧ 0 ≤ q2))) := by rw [← rq0]; exact Contains_q s2.fit t2.fit f0
  obtain ⟨x, y, x', y', hx, hy, hx', hy', hall, e2, k2⟩ := a2
  refine ⟨M, E, fun j => pq (en p1 q1 j), fun j => pq (en p2 q2 j), _, hC, rfl, rfl, ⟨a0.1, a1.1, e2⟩, hz2, ?_, ?_, ?_, ?_⟩
  · refine tight_op _ (fun u v => u + v) (fun u v h1 h2 => ⟨(BQ.add (hu u h1) (hv v h2)).fit (by decide) (by decide), ?_⟩) (x := p1) (y := p2) (x' := q1) (y' := q2) (.inl rfl) (.inl rfl) (.inr rfl) (.inr rfl) (fun u v h1 h2 => ?_) _ a0.2
    · have A := addO (.some (hu u h1).fit) (.some (hv v h2).fit)
      rw [show lift2 addQ (some u) (some v) = some (u + v) from addQ_b (hu u h1) (hv v h2) (by decide) (by decide)] at A
      exact A
    · have b1 := corner_in o1 h1 (Rat.le_refl) (Rat.le_refl)
      have b2 := corner_in o2 h2 (Rat.le_refl) (Rat.le_refl)
      exact ⟨Rat.le_trans (Rat.add_le_add_right.2 b1.1) (Rat.add_le_add_left.2 b2.1), Rat.le_trans (Rat.add_le_add_right.2 b1.2) (Rat.add_le_add_left.2 b2.2)⟩
  · refine tight_op _ (fun u v => u - v) (fun u v h1 h2 => ⟨(BQ.sub (hu u h1) (hv v h2)).fit (by decide) (by decide), ?_⟩) (x := p1) (y := q2) (x' := q1) (y' := p2) (.inl rfl) (.inr rfl) (.inr rfl) (.inl rfl) (fun u v h1 h2 => ?_) _ a1.2
    · have A := subO (.some (hu u h1).fit) (.some (hv v h2).fit)
      rw [show lift2 subQ (some u) (some v) = some (u - v) from subQ_b (hu u h1) (hv v h2) (by decide) (by decide)] at A
      exact A
    · have b1 := corner_in o1 h1 (Rat.le_refl) (Rat.le_refl)
      have b2 := corner_in o2 h2 (Rat.le_refl) (Rat.le_refl)
      show p1 - q2 ≤ u - v ∧ u - v ≤ q1 - p2
      rw [Rat.sub_eq_add_neg, Rat.sub_eq_add_neg, Rat.sub_eq_add_neg]
      exact ⟨Rat.le_trans (Rat.add_le_add_right.2 b1.1) (Rat.add_le_add_left.2 (Rat.neg_le_neg b2.2)), Rat.le_trans (Rat.add_le_add_right.2 b1.2) (Rat.add_le_add_left.2 (Rat.neg_le_neg b2.1))⟩
  · refine tight_op _ (fun u v => u * v) (fun u v h1 h2 => ⟨(BQ.mul (hu u h1) (hv v h2)).fit (by decide) (by decide), ?_⟩) hx hy hx' hy' hall _ k2
    have A := mulO (.some (hu u h1).fit) (.some (hv v h2).fit)
    rw [show lift2 mulQ (some u) (some v) = some (u * v) from mulQ_b (hu u h1) (hv v h2) (by decide) (by decide)] at A
    exact A
  · rcases a3 with ⟨h0, e3⟩ | ⟨h0, x, y, x', y', hx, hy, hx', hy', hall, e3, k3⟩
    · exact .inl ⟨e3, decide_eq_true h0⟩
    · refine .inr ⟨e3, tight_op _ (fun u v => u / v) (fun u v h1 h2 => ?_) hx hy hx' hy' hall _ k3⟩
      have hd : divQ u v = some (u / v) := divQ_b (hu u h1) (hv v h2) (nz_corner h0 o2 h2) (by decide) (by decide)
      refine ⟨FitQ.divQ hd, ?_⟩
      have A := divO (.some (hu u h1).fit) (.some (hv v h2).fit)
      rw [show lift2 divQ (some u) (some v) = some (u / v) from hd] at A
      exact A
end En
end Go.Proofs.YtbfonkabmehlmaaGreatDoor
namespace Go.Proofs.YtbfonkabmehlmaaGreatDoor
set_option maxRecDepth 1000000
namespace En
open Go.RowKit Go.Extern.Stop Go.Stop Go.Extern
open Go.Proofs.YtbfonkabmehlmaaGreatDoor.Nm Go.Proofs.YtbfonkabmehlmaaGreatDoor.Rt
set_option maxHeartbeats 16000000 in
theorem tight_walk (a : Addr) (x0 x1 x2 x3 y0 y1 y2 y3 : Int) (hx0 : In64 x0) (hx1 : In64 x1) (hx2 : In64 x2) (hx3 : In64 x3) (hy0 : In64 y0) (hy1 : In64 y1) (hy2 : In64 y2) (hy3 : In64 y3) (w : World) (hv : Ref a w) :
    Calls Tryz.prog 4 #[.agg #[.int .i64 x0, .int .i64 x1, .int .i64 x2, .int .i64 x3], .agg #[.int .i64 y0, .int .i64 y1, .int .i64 y2, .int .i64 y3]] w fun e w' => e = .returned (.bool true) ∧ Below w.heap.size w w' := by
  have HV : Shut _ := ⟨hv⟩
  have CX : Shut _ := ⟨fun W => Made_any x0 x1 x2 x3 hx0 hx1 hx2 hx3 W⟩
  have CY : Shut _ := ⟨fun W => Made_any y0 y1 y2 y3 hy0 hy1 hy2 hy3 W⟩
  clear hv hx0 hx1 hx2 hx3 hy0 hy1 hy2 hy3
  obtain ⟨n_x, n_y⟩ := news2 w (.cells #[.int .i64 x0, .int .i64 x1, .int .i64 x2, .int .i64 x3] 26) (.cells #[.int .i64 y0, .int .i64 y1, .int .i64 y2, .int .i64 y3] 26)
  have u := below2 w (.cells #[.int .i64 x0, .int .i64 x1, .int .i64 x2, .int .i64 x3] 26) (.cells #[.int .i64 y0, .int .i64 y1, .int .i64 y2, .int .i64 y3] 26)
  go_enter Tryz.func4, Tryz.ntmps4
  go_wp2_with fail
  generalize (w.alloc (.cells #[.int .i64 x0, .int .i64 x1, .int .i64 x2, .int .i64 x3] 26)).alloc (.cells #[.int .i64 y0, .int .i64 y1, .int .i64 y2, .int .i64 y3] 26) = V0 at *
  refine (sane_any a V0 (HV.o.keep u)).mono ?_
  rintro e v1 ⟨rfl, g⟩
  replace u := u.trans (g.mono u.size)
  replace n_x := lkeep n_x g
  replace n_y := lkeep n_y g
  clear g
  have c_x0 := lcell n_x 0 (v := .int .i64 x0) rfl
  have c_x1 := lcell n_x 1 (v := .int .i64 x1) rfl
  have c_x2 := lcell n_x 2 (v := .int .i64 x2) rfl
  have c_x3 := lcell n_x 3 (v := .int .i64 x3) rfl
  go_wp2_with fail
  refine (CX.o _).mono ?_
  rintro e v2 ⟨p1, q1, s1, t1, o1, rfl, g⟩
  replace u := u.trans (g.mono u.size)
  replace n_x := lkeep n_x g
  replace n_y := lkeep n_y g
  clear c_x0 c_x1 c_x2 c_x3
  clear g
  unfold iq
  have g := (Below.refl v2.heap.size v2).alloc (Nat.le_refl _) (.cells #[.string (txt p1.num), .string (txt (p1.den : Int)), .string (txt q1.num), .string (txt (q1.den : Int))] 25)
  have n_a := World.alloc_heap_new v2 (.cells #[.string (txt p1.num), .string (txt (p1.den : Int)), .string (txt q1.num), .string (txt (q1.den : Int))] 25)
  replace u := u.trans (g.mono u.size)
  replace n_x := lkeep n_x g
  replace n_y := lkeep n_y g
  clear g
  have c_y0 := lcell n_y 0 (v := .int .i64 y0) rfl
  have c_y1 := lcell n_y 1 (v := .int .i64 y1) rfl
  have c_y2 := lcell n_y 2 (v := .int .i64 y2) rfl
  have c_y3 := lcell n_y 3 (v := .int .i64 y3) rfl
  go_wp2_with fail
  generalize v2.alloc (.cells #[.string (txt p1.num), .string (txt (p1.den : Int)), .string (txt q1.num), .string (txt (q1.den : Int))] 25) = V_a at *
  generalize v2.heap.size = b_a at *
  refine (CY.o _).mono ?_
  rintro e v3 ⟨p2, q2, s2, t2, o2, rfl, g⟩
  replace u := u.trans (g.mono u.size)
  replace n_y := lkeep n_y g
  replace n_a := lkeep n_a g
  clear c_y0 c_y1 c_y2 c_y3
  clear g
  obtain ⟨M, E, X, Y, zb, hC, hXe, hYe, ⟨e0, e1, e2⟩, hz, hA, hS, hM, hD⟩ := tight_facts a s1 t1 s2 t2 o1 o2
  have HX : (#[.string (txt p1.num), .string (txt (p1.den : Int)), .string (txt q1.num), .string (txt (q1.den : Int))] : Array Value) = #[.string (X 0).1, .string (X 0).2, .string (X 1).1, .string (X 1).2] := by injection hXe
  rw [HX] at n_a
  rw [hYe]
  clear HX hXe hYe s1 t1 s2 t2 o1 o2 CX CY
  have g := (Below.refl v3.heap.size v3).alloc (Nat.le_refl _) (.cells #[.string (Y 0).1, .string (Y 0).2, .string (Y 1).1, .string (Y 1).2] 25)
  have n_b := World.alloc_heap_new v3 (.cells #[.string (Y 0).1, .string (Y 0).2, .string (Y 1).1, .string (Y 1).2] 25)
  replace u := u.trans (g.mono u.size)
  replace n_y := lkeep n_y g
  replace n_a := lkeep n_a g
  clear g
  have HC : Shut _ := ⟨hC⟩
  have HA : Shut _ := ⟨hA⟩
  have HS : Shut _ := ⟨hS⟩
  have HM : Shut _ := ⟨hM⟩
  have HD : Shut _ := ⟨hD⟩
  have HZ : Shut _ := ⟨hz⟩
  have E0 : Shut _ := ⟨e0⟩
  have E1 : Shut _ := ⟨e1⟩
  have E2 : Shut _ := ⟨e2⟩
  clear hC hA hS hM hD hz e0 e1 e2
  have c_a0 := lcell n_a 0 (v := .string (X 0).1) rfl
  have c_a1 := lcell n_a 1 (v := .string (X 0).2) rfl
  have c_a2 := lcell n_a 2 (v := .string (X 1).1) rfl
  have c_a3 := lcell n_a 3 (v := .string (X 1).2) rfl
  have c_b0 := lcell n_b 0 (v := .string (Y 0).1) rfl
  have c_b1 := lcell n_b 1 (v := .string (Y 0).2) rfl
  have c_b2 := lcell n_b 2 (v := .string (Y 1).1) rfl
  have c_b3 := lcell n_b 3 (v := .string (Y 1).2) rfl
  go_wp2_with fail
  generalize v3.alloc (.cells #[.string (Y 0).1, .string (Y 0).2, .string (Y 1).1, .string (Y 1).2] 25) = V_b at *
  generalize v3.heap.size = b_b at *
  refine (HC.o _ (HV.o.keep u)).mono ?_
  rintro e vc ⟨vl, ve, rfl, hL, hE, g⟩
  replace u := u.trans (g.mono u.size)
  replace n_a := lkeep n_a g
  replace n_b := lkeep n_b g
  clear c_a0 c_a1 c_a2 c_a3 c_b0 c_b1 c_b2 c_b3
  clear g
  obtain ⟨gl, capl, rfl, _, hcl, hml, curl, n_l, hl⟩ := OwnG.shape (t := 7) hL (fun _ _ => rfl)
  obtain ⟨ge, cape, rfl, _, hce, hme, cure, n_e, he⟩ := OwnG.shape (t := 7) hE (fun _ _ => rfl)
  have HLl : Shut _ := ⟨hl⟩
  have HLe : Shut _ := ⟨he⟩
  clear hL hE hl he
  go_wp2_with fail
  have NA : Shut _ := ⟨n_a⟩
  have NB : Shut _ := ⟨n_b⟩
  have NL : Shut _ := ⟨n_l⟩
  have NE : Shut _ := ⟨n_e⟩
  have U0 : Shut _ := ⟨u⟩
  clear n_a n_b n_l n_e u
  go_loopw [10] (fun iv wr => ∃ i : Nat, i ≤ 4 ∧ iv = .int .i64 (i : Int) ∧ Shut (Below vc.heap.size vc wr)) (fun iv _ => 4 - (intOf iv).toNat)
  case atStart => exact ⟨0, Nat.zero_le _, rfl, ⟨Below.refl _ _⟩⟩
  case round =>
    obtain ⟨i, hi, rfl, H⟩ := hrel
    have BB0 := H.o
    clear H
    rename World => wo
    have n_a := lkeep NA.o BB0
    have n_b := lkeep NB.o BB0
    have n_l := lkeep NL.o BB0
    have n_e := lkeep NE.o BB0
    have u := U0.o.trans (BB0.mono U0.o.size)
    by_cases hi4 : i = 4
    · subst hi4
      go_wp2_with fail
      go_ret
      exact ⟨by simp, u⟩
    · have hii : i = 0 ∨ i = 1 ∨ i = 2 ∨ i = 3 := by omega
      clear hi hi4
      rcases hii with rfl | rfl | rfl | rfl
      · have c_e := lcell n_e 0 (v := .int .i64 (E 0)) (HLe.o 0 0 (by decide) (by decide))
        rw [E0.o] at c_e
        have hT := HA.o
        obtain ⟨V, hOp, hCo, hlo, hhi⟩ := hT
        have HO : Shut _ := ⟨hOp⟩
        have HCo : Shut _ := ⟨hCo⟩
        clear hOp hCo
        obtain ⟨f, hf⟩ : ∃ f, f = (fun k => eqP (V k) (M 0).1) := ⟨_, rfl⟩
        obtain ⟨f2, hf2⟩ : ∃ f, f = (fun k => eqP (V k) (M 0).2) := ⟨_, rfl⟩
        rw [← hf] at hlo
        rw [← hf2] at hhi
        have HF : Shut _ := ⟨hf⟩
        have HF2 : Shut _ := ⟨hf2⟩
        have HLo : Shut _ := ⟨hlo⟩
        have HHi : Shut _ := ⟨hhi⟩
        clear hf hf2 hlo hhi
        go_wp2_with fail
        have NA2 : Shut _ := ⟨n_a⟩
        have NB2 : Shut _ := ⟨n_b⟩
        have NL2 : Shut _ := ⟨n_l⟩
        have NE2 : Shut _ := ⟨n_e⟩
        have U2 : Shut _ := ⟨u⟩
        have BB2 : Shut _ := ⟨BB0⟩
        clear n_a n_b n_l n_e u BB0 c_e
        go_loopw [11, 12, 13] (fun lv hv kv wr => ∃ k : Nat, k ≤ 4 ∧ lv = .bool (orB f k) ∧ hv = .bool (orB f2 k) ∧ kv = .int .i64 (k : Int) ∧ Shut (Below wo.heap.size wo wr)) (fun _ _ kv _ => 4 - (intOf kv).toNat)
        case atStart => exact ⟨0, Nat.zero_le _, rfl, rfl, rfl, ⟨Below.refl _ _⟩⟩
        case round =>
          obtain ⟨k, hk, rfl, rfl, rfl, H⟩ := hrel
          have BB0 := H.o
          clear H
          have n_a := lkeep NA2.o BB0
          have n_b := lkeep NB2.o BB0
          have n_l := lkeep NL2.o BB0
          have n_e := lkeep NE2.o BB0
          have u := U2.o.trans (BB0.mono U2.o.size)
          by_cases hk4 : k = 4
          · subst hk4
            rw [HLo.o, HHi.o]
            go_wp2_with fail
            exact ⟨⟨1, by omega, rfl, ⟨BB2.o.trans (BB0.mono BB2.o.size)⟩⟩, by simp [intOf]⟩
          · have hk3 : k < 4 := by omega
            have hki : (k : Int) < 4 := by omega
            have hki0 : (0 : Int) ≤ (k : Int) := by omega
            have hw1 : IntKind.i64.wrap ((k : Int) + 1) = (k : Int) + 1 := by simp [IntKind.wrap, IntKind.signed, IntKind.bits]; omega
            have cO := HO.o k hk3
            have cC := HCo.o k hk3
            clear n_e
            go_upto_region 16 with fail
            go_cut [14] from 50 to 58 (fun s wx => ∃ bq : Nat, s = .pointer (some ⟨bq, 0, none⟩) ∧ wx.heap[bq]? = some (.cells #[.string (X (k / 2)).1, .string (X (k / 2)).2] 23 (0, 0)) ∧ Below wr.heap.size wr wx)
            case first =>
              obtain rfl | rfl | rfl | rfl : k = 0 ∨ k = 1 ∨ k = 2 ∨ k = 3 := by omega
              · have c_a0 := lcell n_a 0 (v := .string (X 0).1) rfl
                have c_a1 := lcell n_a 1 (v := .string (X 0).2) rfl
                have c_a2 := lcell n_a 2 (v := .string (X 1).1) rfl
                have c_a3 := lcell n_a 3 (v := .string (X 1).2) rfl
                have g := below2 wr (.cells #[.string (X 0).1, .string (X 0).2, .string (X 1).1, .string (X 1).2] 23) (.cells #[.string (X 0).1, .string (X 0).2] 23)
                have n_q := (news2 wr (.cells #[.string (X 0).1, .string (X 0).2, .string (X 1).1, .string (X 1).2] 23) (.cells #[.string (X 0).1, .string (X 0).2] 23)).2
                go_wp2_with fail
                go_meet
                exact ⟨_, rfl, n_q, g⟩
              · have c_a0 := lcell n_a 0 (v := .string (X 0).1) rfl
                have c_a1 := lcell n_a 1 (v := .string (X 0).2) rfl
                have c_a2 := lcell n_a 2 (v := .string (X 1).1) rfl
                have c_a3 := lcell n_a 3 (v := .string (X 1).2) rfl
                have g := below2 wr (.cells #[.string (X 0).1, .string (X 0).2, .string (X 1).1, .string (X 1).2] 23) (.cells #[.string (X 0).1, .string (X 0).2] 23)
                have n_q := (news2 wr (.cells #[.string (X 0).1, .string (X 0).2, .string (X 1).1, .string (X 1).2] 23) (.cells #[.string (X 0).1, .string (X 0).2] 23)).2
                go_wp2_with fail
                go_meet
                exact ⟨_, rfl, n_q, g⟩
              · have c_a0 := lcell n_a 0 (v := .string (X 0).1) rfl
                have c_a1 := lcell n_a 1 (v := .string (X 0).2) rfl
                have c_a2 := lcell n_a 2 (v := .string (X 1).1) rfl
                have c_a3 := lcell n_a 3 (v := .string (X 1).2) rfl
                have g := below2 wr (.cells #[.string (X 0).1, .string (X 0).2, .string (X 1).1, .string (X 1).2] 23) (.cells #[.string (X 1).1, .string (X 1).2] 23)
                have n_q := (news2 wr (.cells #[.string (X 0).1, .string (X 0).2, .string (X 1).1, .string (X 1).2] 23) (.cells #[.string (X 1).1, .string (X 1).2] 23)).2
                go_wp2_with fail
                go_meet
                exact ⟨_, rfl, n_q, g⟩
              · have c_a0 := lcell n_a 0 (v := .string (X 0).1) rfl
                have c_a1 := lcell n_a 1 (v := .string (X 0).2) rfl
                have c_a2 := lcell n_a 2 (v := .string (X 1).1) rfl
                have c_a3 := lcell n_a 3 (v := .string (X 1).2) rfl
                have g := below2 wr (.cells #[.string (X 0).1, .string (X 0).2, .string (X 1).1, .string (X 1).2] 23) (.cells #[.string (X 1).1, .string (X 1).2] 23)
                have n_q := (news2 wr (.cells #[.string (X 0).1, .string (X 0).2, .string (X 1).1, .string (X 1).2] 23) (.cells #[.string (X 1).1, .string (X 1).2] 23)).2
                go_wp2_with fail
                go_meet
                exact ⟨_, rfl, n_q, g⟩
            obtain ⟨b_r, rfl, n_r, g⟩ := hcut
            replace u := u.trans (g.mono u.size)
            replace n_a := lkeep n_a g
            replace n_b := lkeep n_b g
            replace n_l := lkeep n_l g
            replace BB0 := BB0.trans (g.mono BB0.size)
            clear g
            obtain ⟨V_r, hv⟩ : ∃ v, v = wc := ⟨_, rfl⟩
            rw [← hv] at n_a n_b n_l n_r u BB0
            go_upto_region 17 with fail
            rw [← hv]
            clear hv
            go_cut [15] from 59 to 67 (fun s wx => ∃ bq : Nat, s = .pointer (some ⟨bq, 0, none⟩) ∧ wx.heap[bq]? = some (.cells #[.string (Y (k % 2)).1, .string (Y (k % 2)).2] 23 (0, 0)) ∧ Below V_r.heap.size V_r wx)
            case first =>
              obtain rfl | rfl | rfl | rfl : k = 0 ∨ k = 1 ∨ k = 2 ∨ k = 3 := by omega
              · have c_b0 := lcell n_b 0 (v := .string (Y 0).1) rfl
                have c_b1 := lcell n_b 1 (v := .string (Y 0).2) rfl
                have c_b2 := lcell n_b 2 (v := .string (Y 1).1) rfl
                have c_b3 := lcell n_b 3 (v := .string (Y 1).2) rfl
                have g := below2 V_r (.cells #[.string (Y 0).1, .string (Y 0).2, .string (Y 1).1, .string (Y 1).2] 23) (.cells #[.string (Y 0).1, .string (Y 0).2] 23)
                have n_q := (news2 V_r (.cells #[.string (Y 0).1, .string (Y 0).2, .string (Y 1).1, .string (Y 1).2] 23) (.cells #[.string (Y 0).1, .string (Y 0).2] 23)).2
                go_wp2_with fail
                go_meet
                exact ⟨_, rfl, n_q, g⟩
              · have c_b0 := lcell n_b 0 (v := .string (Y 0).1) rfl
                have c_b1 := lcell n_b 1 (v := .string (Y 0).2) rfl
                have c_b2 := lcell n_b 2 (v := .string (Y 1).1) rfl
                have c_b3 := lcell n_b 3 (v := .string (Y 1).2) rfl
                have g := below2 V_r (.cells #[.string (Y 0).1, .string (Y 0).2, .string (Y 1).1, .string (Y 1).2] 23) (.cells #[.string (Y 1).1, .string (Y 1).2] 23)
                have n_q := (news2 V_r (.cells #[.string (Y 0).1, .string (Y 0).2, .string (Y 1).1, .string (Y 1).2] 23) (.cells #[.string (Y 1).1, .string (Y 1).2] 23)).2
                go_wp2_with fail
                go_meet
                exact ⟨_, rfl, n_q, g⟩
              · have c_b0 := lcell n_b 0 (v := .string (Y 0).1) rfl
                have c_b1 := lcell n_b 1 (v := .string (Y 0).2) rfl
                have c_b2 := lcell n_b 2 (v := .string (Y 1).1) rfl
                have c_b3 := lcell n_b 3 (v := .string (Y 1).2) rfl
                have g := below2 V_r (.cells #[.string (Y 0).1, .string (Y 0).2, .string (Y 1).1, .string (Y 1).2] 23) (.cells #[.string (Y 0).1, .string (Y 0).2] 23)
                have n_q := (news2 V_r (.cells #[.string (Y 0).1, .string (Y 0).2, .string (Y 1).1, .string (Y 1).2] 23) (.cells #[.string (Y 0).1, .string (Y 0).2] 23)).2
                go_wp2_with fail
                go_meet
                exact ⟨_, rfl, n_q, g⟩
              · have c_b0 := lcell n_b 0 (v := .string (Y 0).1) rfl
                have c_b1 := lcell n_b 1 (v := .string (Y 0).2) rfl
                have c_b2 := lcell n_b 2 (v := .string (Y 1).1) rfl
                have c_b3 := lcell n_b 3 (v := .string (Y 1).2) rfl
                have g := below2 V_r (.cells #[.string (Y 0).1, .string (Y 0).2, .string (Y 1).1, .string (Y 1).2] 23) (.cells #[.string (Y 1).1, .string (Y 1).2] 23)
                have n_q := (news2 V_r (.cells #[.string (Y 0).1, .string (Y 0).2, .string (Y 1).1, .string (Y 1).2] 23) (.cells #[.string (Y 1).1, .string (Y 1).2] 23)).2
                go_wp2_with fail
                go_meet
                exact ⟨_, rfl, n_q, g⟩
            obtain ⟨b_s, rfl, n_s, g⟩ := hcut
            replace u := u.trans (g.mono u.size)
            replace n_a := lkeep n_a g
            replace n_b := lkeep n_b g
            replace n_l := lkeep n_l g
            replace n_r := lkeep n_r g
            replace BB0 := BB0.trans (g.mono BB0.size)
            clear g
            obtain ⟨V_s, hv⟩ : ∃ v, v = wc := ⟨_, rfl⟩
            rw [← hv] at n_a n_b n_l n_r n_s u BB0
            go_upto_region 18 with fail
            rw [← hv]
            clear hv
            have c_r0 := lcell n_r 0 (v := .string (X (k / 2)).1) rfl
            have c_r1 := lcell n_r 1 (v := .string (X (k / 2)).2) rfl
            have c_s0 := lcell n_s 0 (v := .string (Y (k % 2)).1) rfl
            have c_s1 := lcell n_s 1 (v := .string (Y (k % 2)).2) rfl
            go_wp2_with fail
            refine (cO _).mono ?_
            rintro e v1 ⟨rfl, g⟩
            replace u := u.trans (g.mono u.size)
            replace n_a := lkeep n_a g
            replace n_b := lkeep n_b g
            replace n_l := lkeep n_l g
            replace n_r := lkeep n_r g
            replace n_s := lkeep n_s g
            replace BB0 := BB0.trans (g.mono BB0.size)
            clear c_r0 c_r1 c_s0 c_s1
            clear g
            have g := (Below.refl v1.heap.size v1).alloc (Nat.le_refl _) (.cells #[.string (V k).1, .string (V k).2] 23)
            have n_v := World.alloc_heap_new v1 (.cells #[.string (V k).1, .string (V k).2] 23)
            replace u := u.trans (g.mono u.size)
            replace n_a := lkeep n_a g
            replace n_b := lkeep n_b g
            replace n_l := lkeep n_l g
            replace n_r := lkeep n_r g
            replace n_s := lkeep n_s g
            replace BB0 := BB0.trans (g.mono BB0.size)
            clear g
            clear n_r n_s
            go_upto_region 26 with fail
            generalize v1.alloc (.cells #[.string (V k).1, .string (V k).2] 23) = V_v at *
            generalize v1.heap.size = b_v at *
            go_cut [11] from 99 to 108 (fun s wx => s = .bool (orB f (k + 1)) ∧ Below V_v.heap.size V_v wx)
            case first =>
              have c_v0 := lcell n_v 0 (v := .string (V k).1) rfl
              have c_v1 := lcell n_v 1 (v := .string (V k).2) rfl
              have c_l0 : V_v.cell? ⟨gl, 0, none⟩ = some (.string (M 0).1.1) := lcell n_l 0 (v := .string (M 0).1.1) (HLl.o 0 0 (by decide) (by decide))
              have c_l1 : V_v.cell? ⟨gl, 1, none⟩ = some (.string (M 0).1.2) := lcell n_l 1 (v := .string (M 0).1.2) (HLl.o 0 1 (by decide) (by decide))
              have c_l2 : V_v.cell? ⟨gl, 2, none⟩ = some (.string (M 0).2.1) := lcell n_l 2 (v := .string (M 0).2.1) (HLl.o 0 2 (by decide) (by decide))
              have c_l3 : V_v.cell? ⟨gl, 3, none⟩ = some (.string (M 0).2.2) := lcell n_l 3 (v := .string (M 0).2.2) (HLl.o 0 3 (by decide) (by decide))
              have hst : orB f (k + 1) = (orB f k || f k) := rfl
              have hev : f k = (((V k).1.toList == (M 0).1.1.toList) && ((V k).2.toList == (M 0).1.2.toList)) := by rw [HF.o]; rfl
              rw [hev] at hst
              clear hev
              generalize orB f (k + 1) = nw at *
              generalize orB f k = ol at *
              have HST : Shut _ := ⟨hst⟩
              clear hst
              cases ol with
              | true => go_region; go_wp2_with fail; go_meet; exact ⟨by rw [HST.o]; rfl, (by first | exact Below.refl _ _ | exact ldrew (Below.refl _ _))⟩
              | false =>
                cases e1 : ((V k).1.toList == (M 0).1.1.toList) with
                | false => go_region; go_wp2_with fail; go_meet; exact ⟨by rw [HST.o, e1]; rfl, (by first | exact Below.refl _ _ | exact ldrew (Below.refl _ _))⟩
                | true =>
                  cases e2 : ((V k).2.toList == (M 0).1.2.toList) with
                  | false => go_region; go_wp2_with fail; go_meet; exact ⟨by rw [HST.o, e1, e2]; rfl, (by first | exact Below.refl _ _ | exact ldrew (Below.refl _ _))⟩
                  | true => go_region; go_wp2_with fail; go_meet; exact ⟨by rw [HST.o, e1, e2]; rfl, (by first | exact Below.refl _ _ | exact ldrew (Below.refl _ _))⟩
            obtain ⟨rfl, g⟩ := hcut
            replace u := u.trans (g.mono u.size)
            replace n_a := lkeep n_a g
            replace n_b := lkeep n_b g
            replace n_l := lkeep n_l g
            replace n_v := lkeep n_v g
            replace BB0 := BB0.trans (g.mono BB0.size)
            clear g
            go_upto_region 27 with fail
            obtain ⟨Z11, hv⟩ : ∃ v, v = wc := ⟨_, rfl⟩
            rw [← hv] at n_a n_b n_l n_v u BB0
            rw [← hv]
            clear hv
            go_cut [12] from 109 to 118 (fun s wx => s = .bool (orB f2 (k + 1)) ∧ Below Z11.heap.size Z11 wx)
            case first =>
              have c_v0 := lcell n_v 0 (v := .string (V k).1) rfl
              have c_v1 := lcell n_v 1 (v := .string (V k).2) rfl
              have c_l0 : Z11.cell? ⟨gl, 0, none⟩ = some (.string (M 0).1.1) := lcell n_l 0 (v := .string (M 0).1.1) (HLl.o 0 0 (by decide) (by decide))
              have c_l1 : Z11.cell? ⟨gl, 1, none⟩ = some (.string (M 0).1.2) := lcell n_l 1 (v := .string (M 0).1.2) (HLl.o 0 1 (by decide) (by decide))
              have c_l2 : Z11.cell? ⟨gl, 2, none⟩ = some (.string (M 0).2.1) := lcell n_l 2 (v := .string (M 0).2.1) (HLl.o 0 2 (by decide) (by decide))
              have c_l3 : Z11.cell? ⟨gl, 3, none⟩ = some (.string (M 0).2.2) := lcell n_l 3 (v := .string (M 0).2.2) (HLl.o 0 3 (by decide) (by decide))
              have hst : orB f2 (k + 1) = (orB f2 k || f2 k) := rfl
              have hev : f2 k = (((V k).1.toList == (M 0).2.1.toList) && ((V k).2.toList == (M 0).2.2.toList)) := by rw [HF2.o]; rfl
              rw [hev] at hst
              clear hev
              generalize orB f2 (k + 1) = nw at *
              generalize orB f2 k = ol at *
              have HST : Shut _ := ⟨hst⟩
              clear hst
              cases ol with
              | true => go_region; go_wp2_with fail; go_meet; exact ⟨by rw [HST.o]; rfl, (by first | exact Below.refl _ _ | exact ldrew (Below.refl _ _))⟩
              | false =>
                cases e1 : ((V k).1.toList == (M 0).2.1.toList) with
                | false => go_region; go_wp2_with fail; go_meet; exact ⟨by rw [HST.o, e1]; rfl, (by first | exact Below.refl _ _ | exact ldrew (Below.refl _ _))⟩
                | true =>
                  cases e2 : ((V k).2.toList == (M 0).2.2.toList) with
                  | false => go_region; go_wp2_with fail; go_meet; exact ⟨by rw [HST.o, e1, e2]; rfl, (by first | exact Below.refl _ _ | exact ldrew (Below.refl _ _))⟩
                  | true => go_region; go_wp2_with fail; go_meet; exact ⟨by rw [HST.o, e1, e2]; rfl, (by first | exact Below.refl _ _ | exact ldrew (Below.refl _ _))⟩
            obtain ⟨rfl, g⟩ := hcut
            replace u := u.trans (g.mono u.size)
            replace n_a := lkeep n_a g
            replace n_b := lkeep n_b g
            replace n_l := lkeep n_l g
            replace n_v := lkeep n_v g
            replace BB0 := BB0.trans (g.mono BB0.size)
            clear g
            go_upto_region 28 with fail
            obtain ⟨Z12, hv⟩ : ∃ v, v = wc := ⟨_, rfl⟩
            rw [← hv] at n_a n_b n_l n_v u BB0
            rw [← hv]
            clear hv
            go_region_held3 (fun X => X.cell? ⟨gl, 0, none⟩ = some (.string (M 0).1.1) ∧ X.cell? ⟨gl, 1, none⟩ = some (.string (M 0).1.2) ∧ X.cell? ⟨gl, 2, none⟩ = some (.string (M 0).2.1) ∧ X.cell? ⟨gl, 3, none⟩ = some (.string (M 0).2.2) ∧ X.cell? ⟨b_v, 0, none⟩ = some (.string (V k).1) ∧ X.cell? ⟨b_v, 1, none⟩ = some (.string (V k).2)) (exact ⟨lcell n_l 0 (v := .string (M 0).1.1) (HLl.o 0 0 (by decide) (by decide)), lcell n_l 1 (v := .string (M 0).1.2) (HLl.o 0 1 (by decide) (by decide)), lcell n_l 2 (v := .string (M 0).2.1) (HLl.o 0 2 (by decide) (by decide)), lcell n_l 3 (v := .string (M 0).2.2) (HLl.o 0 3 (by decide) (by decide)), lcell n_v 0 (v := .string (V k).1) rfl, lcell n_v 1 (v := .string (V k).2) rfl⟩) (first | (go_at_call 24; (with_reducible refine (Ret.run cC _).mono ?_); rintro e vz ⟨rfl, g⟩; have g : Below Z12.heap.size Z12 vz := (by first | exact lundrew2 g | exact g); replace u := u.trans (g.mono u.size); replace BB0 := BB0.trans (g.mono BB0.size); replace n_l := lkeep n_l g; replace n_v := lkeep n_v g; clear g))
            clear n_a n_b n_l n_v
            go_wp2_with fail
            go_roundw
            case rel =>
              repeat apply Exists.intro
              refine ⟨?_, rfl⟩
              exact ⟨(k + 1), by omega, rfl, rfl, (by first | rfl | go_num | simp), ⟨BB0⟩⟩
            case measure => simp [intOf]; omega
      · have c_e := lcell n_e 1 (v := .int .i64 (E 1)) (HLe.o 1 0 (by decide) (by decide))
        rw [E1.o] at c_e
        have hT := HS.o
        obtain ⟨V, hOp, hCo, hlo, hhi⟩ := hT
        have HO : Shut _ := ⟨hOp⟩
        have HCo : Shut _ := ⟨hCo⟩
        clear hOp hCo
        obtain ⟨f, hf⟩ : ∃ f, f = (fun k => eqP (V k) (M 1).1) := ⟨_, rfl⟩
        obtain ⟨f2, hf2⟩ : ∃ f, f = (fun k => eqP (V k) (M 1).2) := ⟨_, rfl⟩
        rw [← hf] at hlo
        rw [← hf2] at hhi
        have HF : Shut _ := ⟨hf⟩
        have HF2 : Shut _ := ⟨hf2⟩
        have HLo : Shut _ := ⟨hlo⟩
        have HHi : Shut _ := ⟨hhi⟩
        clear hf hf2 hlo hhi
        go_wp2_with fail
        have NA2 : Shut _ := ⟨n_a⟩
        have NB2 : Shut _ := ⟨n_b⟩
        have NL2 : Shut _ := ⟨n_l⟩
        have NE2 : Shut _ := ⟨n_e⟩
        have U2 : Shut _ := ⟨u⟩
        have BB2 : Shut _ := ⟨BB0⟩
        clear n_a n_b n_l n_e u BB0 c_e
        go_loopw [11, 12, 13] (fun lv hv kv wr => ∃ k : Nat, k ≤ 4 ∧ lv = .bool (orB f k) ∧ hv = .bool (orB f2 k) ∧ kv = .int .i64 (k : Int) ∧ Shut (Below wo.heap.size wo wr)) (fun _ _ kv _ => 4 - (intOf kv).toNat)
        case atStart => exact ⟨0, Nat.zero_le _, rfl, rfl, rfl, ⟨Below.refl _ _⟩⟩
        case round =>
          obtain ⟨k, hk, rfl, rfl, rfl, H⟩ := hrel
          have BB0 := H.o
          clear H
          have n_a := lkeep NA2.o BB0
          have n_b := lkeep NB2.o BB0
          have n_l := lkeep NL2.o BB0
          have n_e := lkeep NE2.o BB0
          have u := U2.o.trans (BB0.mono U2.o.size)
          by_cases hk4 : k = 4
          · subst hk4
            rw [HLo.o, HHi.o]
            go_wp2_with fail
            exact ⟨⟨2, by omega, rfl, ⟨BB2.o.trans (BB0.mono BB2.o.size)⟩⟩, by simp [intOf]⟩
          · have hk3 : k < 4 := by omega
            have hki : (k : Int) < 4 := by omega
            have hki0 : (0 : Int) ≤ (k : Int) := by omega
            have hw1 : IntKind.i64.wrap ((k : Int) + 1) = (k : Int) + 1 := by simp [IntKind.wrap, IntKind.signed, IntKind.bits]; omega
            have cO := HO.o k hk3
            have cC := HCo.o k hk3
            clear n_e
            go_upto_region 16 with fail
            go_cut [14] from 50 to 58 (fun s wx => ∃ bq : Nat, s = .pointer (some ⟨bq, 0, none⟩) ∧ wx.heap[bq]? = some (.cells #[.string (X (k / 2)).1, .string (X (k / 2)).2] 23 (0, 0)) ∧ Below wr.heap.size wr wx)
            case first =>
              obtain rfl | rfl | rfl | rfl : k = 0 ∨ k = 1 ∨ k = 2 ∨ k = 3 := by omega
              · have c_a0 := lcell n_a 0 (v := .string (X 0).1) rfl
                have c_a1 := lcell n_a 1 (v := .string (X 0).2) rfl
                have c_a2 := lcell n_a 2 (v := .string (X 1).1) rfl
                have c_a3 := lcell n_a 3 (v := .string (X 1).2) rfl
                have g := below2 wr (.cells #[.string (X 0).1, .string (X 0).2, .string (X 1).1, .string (X 1).2] 23) (.cells #[.string (X 0).1, .string (X 0).2] 23)
                have n_q := (news2 wr (.cells #[.string (X 0).1, .string (X 0).2, .string (X 1).1, .string (X 1).2] 23) (.cells #[.string (X 0).1, .string (X 0).2] 23)).2
                go_wp2_with fail
                go_meet
                exact ⟨_, rfl, n_q, g⟩
              · have c_a0 := lcell n_a 0 (v := .string (X 0).1) rfl
                have c_a1 := lcell n_a 1 (v := .string (X 0).2) rfl
                have c_a2 := lcell n_a 2 (v := .string (X 1).1) rfl
                have c_a3 := lcell n_a 3 (v := .string (X 1).2) rfl
                have g := below2 wr (.cells #[.string (X 0).1, .string (X 0).2, .string (X 1).1, .string (X 1).2] 23) (.cells #[.string (X 0).1, .string (X 0).2] 23)
                have n_q := (news2 wr (.cells #[.string (X 0).1, .string (X 0).2, .string (X 1).1, .string (X 1).2] 23) (.cells #[.string (X 0).1, .string (X 0).2] 23)).2
                go_wp2_with fail
                go_meet
                exact ⟨_, rfl, n_q, g⟩
              · have c_a0 := lcell n_a 0 (v := .string (X 0).1) rfl
                have c_a1 := lcell n_a 1 (v := .string (X 0).2) rfl
                have c_a2 := lcell n_a 2 (v := .string (X 1).1) rfl
                have c_a3 := lcell n_a 3 (v := .string (X 1).2) rfl
                have g := below2 wr (.cells #[.string (X 0).1, .string (X 0).2, .string (X 1).1, .string (X 1).2] 23) (.cells #[.string (X 1).1, .string (X 1).2] 23)
                have n_q := (news2 wr (.cells #[.string (X 0).1, .string (X 0).2, .string (X 1).1, .string (X 1).2] 23) (.cells #[.string (X 1).1, .string (X 1).2] 23)).2
                go_wp2_with fail
                go_meet
                exact ⟨_, rfl, n_q, g⟩
              · have c_a0 := lcell n_a 0 (v := .string (X 0).1) rfl
                have c_a1 := lcell n_a 1 (v := .string (X 0).2) rfl
                have c_a2 := lcell n_a 2 (v := .string (X 1).1) rfl
                have c_a3 := lcell n_a 3 (v := .string (X 1).2) rfl
                have g := below2 wr (.cells #[.string (X 0).1, .string (X 0).2, .string (X 1).1, .string (X 1).2] 23) (.cells #[.string (X 1).1, .string (X 1).2] 23)
                have n_q := (news2 wr (.cells #[.string (X 0).1, .string (X 0).2, .string (X 1).1, .string (X 1).2] 23) (.cells #[.string (X 1).1, .string (X 1).2] 23)).2
                go_wp2_with fail
                go_meet
                exact ⟨_, rfl, n_q, g⟩
            obtain ⟨b_r, rfl, n_r, g⟩ := hcut
            replace u := u.trans (g.mono u.size)
            replace n_a := lkeep n_a g
            replace n_b := lkeep n_b g
            replace n_l := lkeep n_l g
            replace BB0 := BB0.trans (g.mono BB0.size)
            clear g
            obtain ⟨V_r, hv⟩ : ∃ v, v = wc := ⟨_, rfl⟩
            rw [← hv] at n_a n_b n_l n_r u BB0
            go_upto_region 17 with fail
            rw [← hv]
            clear hv
            go_cut [15] from 59 to 67 (fun s wx => ∃ bq : Nat, s = .pointer (some ⟨bq, 0, none⟩) ∧ wx.heap[bq]? = some (.cells #[.string (Y (k % 2)).1, .string (Y (k % 2)).2] 23 (0, 0)) ∧ Below V_r.heap.size V_r wx)
            case first =>
              obtain rfl | rfl | rfl | rfl : k = 0 ∨ k = 1 ∨ k = 2 ∨ k = 3 := by omega
              · have c_b0 := lcell n_b 0 (v := .string (Y 0).1) rfl
                have c_b1 := lcell n_b 1 (v := .string (Y 0).2) rfl
                have c_b2 := lcell n_b 2 (v := .string (Y 1).1) rfl
                have c_b3 := lcell n_b 3 (v := .string (Y 1).2) rfl
                have g := below2 V_r (.cells #[.string (Y 0).1, .string (Y 0).2, .string (Y 1).1, .string (Y 1).2] 23) (.cells #[.string (Y 0).1, .string (Y 0).2] 23)
                have n_q := (news2 V_r (.cells #[.string (Y 0).1, .string (Y 0).2, .string (Y 1).1, .string (Y 1).2] 23) (.cells #[.string (Y 0).1, .string (Y 0).2] 23)).2
                go_wp2_with fail
                go_meet
                exact ⟨_, rfl, n_q, g⟩
              · have c_b0 := lcell n_b 0 (v := .string (Y 0).1) rfl
                have c_b1 := lcell n_b 1 (v := .string (Y 0).2) rfl
                have c_b2 := lcell n_b 2 (v := .string (Y 1).1) rfl
                have c_b3 := lcell n_b 3 (v := .string (Y 1).2) rfl
                have g := below2 V_r (.cells #[.string (Y 0).1, .string (Y 0).2, .string (Y 1).1, .string (Y 1).2] 23) (.cells #[.string (Y 1).1, .string (Y 1).2] 23)
                have n_q := (news2 V_r (.cells #[.string (Y 0).1, .string (Y 0).2, .string (Y 1).1, .string (Y 1).2] 23) (.cells #[.string (Y 1).1, .string (Y 1).2] 23)).2
                go_wp2_with fail
                go_meet
                exact ⟨_, rfl, n_q, g⟩
              · have c_b0 := lcell n_b 0 (v := .string (Y 0).1) rfl
                have c_b1 := lcell n_b 1 (v := .string (Y 0).2) rfl
                have c_b2 := lcell n_b 2 (v := .string (Y 1).1) rfl
                have c_b3 := lcell n_b 3 (v := .string (Y 1).2) rfl
                have g := below2 V_r (.cells #[.string (Y 0).1, .string (Y 0).2, .string (Y 1).1, .string (Y 1).2] 23) (.cells #[.string (Y 0).1, .string (Y 0).2] 23)
                have n_q := (news2 V_r (.cells #[.string (Y 0).1, .string (Y 0).2, .string (Y 1).1, .string (Y 1).2] 23) (.cells #[.string (Y 0).1, .string (Y 0).2] 23)).2
                go_wp2_with fail
                go_meet
                exact ⟨_, rfl, n_q, g⟩
              · have c_b0 := lcell n_b 0 (v := .string (Y 0).1) rfl
                have c_b1 := lcell n_b 1 (v := .string (Y 0).2) rfl
                have c_b2 := lcell n_b 2 (v := .string (Y 1).1) rfl
                have c_b3 := lcell n_b 3 (v := .string (Y 1).2) rfl
                have g := below2 V_r (.cells #[.string (Y 0).1, .string (Y 0).2, .string (Y 1).1, .string (Y 1).2] 23) (.cells #[.string (Y 1).1, .string (Y 1).2] 23)
                have n_q := (news2 V_r (.cells #[.string (Y 0).1, .string (Y 0).2, .string (Y 1).1, .string (Y 1).2] 23) (.cells #[.string (Y 1).1, .string (Y 1).2] 23)).2
                go_wp2_with fail
                go_meet
                exact ⟨_, rfl, n_q, g⟩
            obtain ⟨b_s, rfl, n_s, g⟩ := hcut
            replace u := u.trans (g.mono u.size)
            replace n_a := lkeep n_a g
            replace n_b := lkeep n_b g
            replace n_l := lkeep n_l g
            replace n_r := lkeep n_r g
            replace BB0 := BB0.trans (g.mono BB0.size)
            clear g
            obtain ⟨V_s, hv⟩ : ∃ v, v = wc := ⟨_, rfl⟩
            rw [← hv] at n_a n_b n_l n_r n_s u BB0
            go_upto_region 18 with fail
            rw [← hv]
            clear hv
            obtain ⟨VA, hAO, -, -, -⟩ := HA.o
            have c_r0 := lcell n_r 0 (v := .string (X (k / 2)).1) rfl
            have c_r1 := lcell n_r 1 (v := .string (X (k / 2)).2) rfl
            have c_s0 := lcell n_s 0 (v := .string (Y (k % 2)).1) rfl
            have c_s1 := lcell n_s 1 (v := .string (Y (k % 2)).2) rfl
            go_wp2_with fail
            refine (hAO k hk3 _).mono ?_
            rintro e v1 ⟨rfl, g⟩
            replace u := u.trans (g.mono u.size)
            replace n_a := lkeep n_a g
            replace n_b := lkeep n_b g
            replace n_l := lkeep n_l g
            replace n_r := lkeep n_r g
            replace n_s := lkeep n_s g
            replace BB0 := BB0.trans (g.mono BB0.size)
            clear c_r0 c_r1 c_s0 c_s1
            clear g
            clear hAO
            have ne_l : gl ≠ v1.heap.size := by have := (Array.getElem?_eq_some_iff.1 n_l).1; omega
            have bv1 : w.heap.size ≤ v1.heap.size := u.size
            have bv2 : wo.heap.size ≤ v1.heap.size := BB0.size
            have g := (Below.refl v1.heap.size v1).alloc (Nat.le_refl _) (.cells #[.string (VA k).1, .string (VA k).2] 23)
            have n_v := World.alloc_heap_new v1 (.cells #[.string (VA k).1, .string (VA k).2] 23)
            replace u := u.trans (g.mono u.size)
            replace n_a := lkeep n_a g
            replace n_b := lkeep n_b g
            replace n_l := lkeep n_l g
            replace n_r := lkeep n_r g
            replace n_s := lkeep n_s g
            replace BB0 := BB0.trans (g.mono BB0.size)
            clear g
            have c_r0 := lcell n_r 0 (v := .string (X (k / 2)).1) rfl
            have c_r1 := lcell n_r 1 (v := .string (X (k / 2)).2) rfl
            have c_s0 := lcell n_s 0 (v := .string (Y (k % 2)).1) rfl
            have c_s1 := lcell n_s 1 (v := .string (Y (k % 2)).2) rfl
            go_wp2_with fail
            generalize v1.alloc (.cells #[.string (VA k).1, .string (VA k).2] 23) = V_v at *
            generalize v1.heap.size = b_v at *
            refine (cO _).mono ?_
            rintro e v2 ⟨rfl, g⟩
            replace u := u.trans (g.mono u.size)
            replace n_a := lkeep n_a g
            replace n_b := lkeep n_b g
            replace n_l := lkeep n_l g
            replace n_r := lkeep n_r g
            replace n_s := lkeep n_s g
            replace n_v := lkeep n_v g
            replace BB0 := BB0.trans (g.mono BB0.size)
            clear c_r0 c_r1 c_s0 c_s1
            clear g
            clear n_r n_s n_a n_b
            have k0 := lcell n_v 0 (v := .string (VA k).1) rfl
            have f0 := lfree n_v 0
            have k1 := lcell n_v 1 (v := .string (VA k).2) rfl
            have f1 := lfree n_v 1
            go_upto_region 26 with fail
            have s_v := box2_setx (x := .string (V k).1) (y := .string (V k).2) n_v
            have s_l : ((v2.setCell ⟨b_v, 0, none⟩ (.string (V k).1)).setCell ⟨b_v, 1, none⟩ (.string (V k).2)).heap[gl]? = _ := (Below.heap_setCell _ _ _ _ ne_l).trans ((Below.heap_setCell _ _ _ _ ne_l).trans n_l)
            replace u := (u.setCell (show w.heap.size ≤ (⟨b_v, 0, none⟩ : Addr).block from bv1) (.string (V k).1)).setCell (show w.heap.size ≤ (⟨b_v, 1, none⟩ : Addr).block from bv1) (.string (V k).2)
            replace BB0 := (BB0.setCell (show wo.heap.size ≤ (⟨b_v, 0, none⟩ : Addr).block from bv2) (.string (V k).1)).setCell (show wo.heap.size ≤ (⟨b_v, 1, none⟩ : Addr).block from bv2) (.string (V k).2)
            clear n_v n_l k0 k1 f0 f1 ne_l bv1 bv2
            have n_v := s_v
            have n_l := s_l
            clear s_v s_l
            generalize ((v2.setCell ⟨b_v, 0, none⟩ (.string (V k).1)).setCell ⟨b_v, 1, none⟩ (.string (V k).2)) = V_z at *
            go_cut [11] from 99 to 108 (fun s wx => s = .bool (orB f (k + 1)) ∧ Below V_z.heap.size V_z wx)
            case first =>
              have c_v0 := lcell n_v 0 (v := .string (V k).1) rfl
              have c_v1 := lcell n_v 1 (v := .string (V k).2) rfl
              have c_l4 : V_z.cell? ⟨gl, 4, none⟩ = some (.string (M 1).1.1) := lcell n_l 4 (v := .string (M 1).1.1) (HLl.o 1 0 (by decide) (by decide))
              have c_l5 : V_z.cell? ⟨gl, 5, none⟩ = some (.string (M 1).1.2) := lcell n_l 5 (v := .string (M 1).1.2) (HLl.o 1 1 (by decide) (by decide))
              have c_l6 : V_z.cell? ⟨gl, 6, none⟩ = some (.string (M 1).2.1) := lcell n_l 6 (v := .string (M 1).2.1) (HLl.o 1 2 (by decide) (by decide))
              have c_l7 : V_z.cell? ⟨gl, 7, none⟩ = some (.string (M 1).2.2) := lcell n_l 7 (v := .string (M 1).2.2) (HLl.o 1 3 (by decide) (by decide))
              have hst : orB f (k + 1) = (orB f k || f k) := rfl
              have hev : f k = (((V k).1.toList == (M 1).1.1.toList) && ((V k).2.toList == (M 1).1.2.toList)) := by rw [HF.o]; rfl
              rw [hev] at hst
              clear hev
              generalize orB f (k + 1) = nw at *
              generalize orB f k = ol at *
              have HST : Shut _ := ⟨hst⟩
              clear hst
              cases ol with
              | true => go_region; go_wp2_with fail; go_meet; exact ⟨by rw [HST.o]; rfl, (by first | exact Below.refl _ _ | exact ldrew (Below.refl _ _))⟩
              | false =>
                cases e1 : ((V k).1.toList == (M 1).1.1.toList) with
                | false => go_region; go_wp2_with fail; go_meet; exact ⟨by rw [HST.o, e1]; rfl, (by first | exact Below.refl _ _ | exact ldrew (Below.refl _ _))⟩
                | true =>
                  cases e2 : ((V k).2.toList == (M 1).1.2.toList) with
                  | false => go_region; go_wp2_with fail; go_meet; exact ⟨by rw [HST.o, e1, e2]; rfl, (by first | exact Below.refl _ _ | exact ldrew (Below.refl _ _))⟩
                  | true => go_region; go_wp2_with fail; go_meet; exact ⟨by rw [HST.o, e1, e2]; rfl, (by first | exact Below.refl _ _ | exact ldrew (Below.refl _ _))⟩
            obtain ⟨rfl, g⟩ := hcut
            replace u := u.trans (g.mono u.size)
            replace n_l := lkeep n_l g
            replace n_v := lkeep n_v g
            replace BB0 := BB0.trans (g.mono BB0.size)
            clear g
            go_upto_region 27 with fail
            obtain ⟨Z11, hv⟩ : ∃ v, v = wc := ⟨_, rfl⟩
            rw [← hv] at n_l n_v u BB0
            rw [← hv]
            clear hv
            go_cut [12] from 109 to 118 (fun s wx => s = .bool (orB f2 (k + 1)) ∧ Below Z11.heap.size Z11 wx)
            case first =>
              have c_v0 := lcell n_v 0 (v := .string (V k).1) rfl
              have c_v1 := lcell n_v 1 (v := .string (V k).2) rfl
              have c_l4 : Z11.cell? ⟨gl, 4, none⟩ = some (.string (M 1).1.1) := lcell n_l 4 (v := .string (M 1).1.1) (HLl.o 1 0 (by decide) (by decide))
              have c_l5 : Z11.cell? ⟨gl, 5, none⟩ = some (.string (M 1).1.2) := lcell n_l 5 (v := .string (M 1).1.2) (HLl.o 1 1 (by decide) (by decide))
              have c_l6 : Z11.cell? ⟨gl, 6, none⟩ = some (.string (M 1).2.1) := lcell n_l 6 (v := .string (M 1).2.1) (HLl.o 1 2 (by decide) (by decide))
              have c_l7 : Z11.cell? ⟨gl, 7, none⟩ = some (.string (M 1).2.2) := lcell n_l 7 (v := .string (M 1).2.2) (HLl.o 1 3 (by decide) (by decide))
              have hst : orB f2 (k + 1) = (orB f2 k || f2 k) := rfl
              have hev : f2 k = (((V k).1.toList == (M 1).2.1.toList) && ((V k).2.toList == (M 1).2.2.toList)) := by rw [HF2.o]; rfl
              rw [hev] at hst
              clear hev
              generalize orB f2 (k + 1) = nw at *
              generalize orB f2 k = ol at *
              have HST : Shut _ := ⟨hst⟩
              clear hst
              cases ol with
              | true => go_region; go_wp2_with fail; go_meet; exact ⟨by rw [HST.o]; rfl, (by first | exact Below.refl _ _ | exact ldrew (Below.refl _ _))⟩
              | false =>
                cases e1 : ((V k).1.toList == (M 1).2.1.toList) with
                | false => go_region; go_wp2_with fail; go_meet; exact ⟨by rw [HST.o, e1]; rfl, (by first | exact Below.refl _ _ | exact ldrew (Below.refl _ _))⟩
                | true =>
                  cases e2 : ((V k).2.toList == (M 1).2.2.toList) with
                  | false => go_region; go_wp2_with fail; go_meet; exact ⟨by rw [HST.o, e1, e2]; rfl, (by first | exact Below.refl _ _ | exact ldrew (Below.refl _ _))⟩
                  | true => go_region; go_wp2_with fail; go_meet; exact ⟨by rw [HST.o, e1, e2]; rfl, (by first | exact Below.refl _ _ | exact ldrew (Below.refl _ _))⟩
            obtain ⟨rfl, g⟩ := hcut
            replace u := u.trans (g.mono u.size)
            replace n_l := lkeep n_l g
            replace n_v := lkeep n_v g
            replace BB0 := BB0.trans (g.mono BB0.size)
            clear g
            go_upto_region 28 with fail
            obtain ⟨Z12, hv⟩ : ∃ v, v = wc := ⟨_, rfl⟩
            rw [← hv] at n_l n_v u BB0
            rw [← hv]
            clear hv
            go_region_held3 (fun X => X.cell? ⟨gl, 4, none⟩ = some (.string (M 1).1.1) ∧ X.cell? ⟨gl, 5, none⟩ = some (.string (M 1).1.2) ∧ X.cell? ⟨gl, 6, none⟩ = some (.string (M 1).2.1) ∧ X.cell? ⟨gl, 7, none⟩ = some (.string (M 1).2.2) ∧ X.cell? ⟨b_v, 0, none⟩ = some (.string (V k).1) ∧ X.cell? ⟨b_v, 1, none⟩ = some (.string (V k).2)) (exact ⟨lcell n_l 4 (v := .string (M 1).1.1) (HLl.o 1 0 (by decide) (by decide)), lcell n_l 5 (v := .string (M 1).1.2) (HLl.o 1 1 (by decide) (by decide)), lcell n_l 6 (v := .string (M 1).2.1) (HLl.o 1 2 (by decide) (by decide)), lcell n_l 7 (v := .string (M 1).2.2) (HLl.o 1 3 (by decide) (by decide)), lcell n_v 0 (v := .string (V k).1) rfl, lcell n_v 1 (v := .string (V k).2) rfl⟩) (first | (go_at_call 24; (with_reducible refine (Ret.run cC _).mono ?_); rintro e vz ⟨rfl, g⟩; have g : Below Z12.heap.size Z12 vz := (by first | exact lundrew2 g | exact g); replace u := u.trans (g.mono u.size); replace BB0 := BB0.trans (g.mono BB0.size); replace n_l := lkeep n_l g; replace n_v := lkeep n_v g; clear g))
            clear n_l n_v
            go_wp2_with fail
            go_roundw
            case rel =>
              repeat apply Exists.intro
              refine ⟨?_, rfl⟩
              exact ⟨(k + 1), by omega, rfl, rfl, (by first | rfl | go_num | simp), ⟨BB0⟩⟩
            case measure => simp [intOf]; omega
      · have c_e := lcell n_e 2 (v := .int .i64 (E 2)) (HLe.o 2 0 (by decide) (by decide))
        rw [E2.o] at c_e
        have hT := HM.o
        obtain ⟨V, hOp, hCo, hlo, hhi⟩ := hT
        have HO : Shut _ := ⟨hOp⟩
        have HCo : Shut _ := ⟨hCo⟩
        clear hOp hCo
        obtain ⟨f, hf⟩ : ∃ f, f = (fun k => eqP (V k) (M 2).1) := ⟨_, rfl⟩
        obtain ⟨f2, hf2⟩ : ∃ f, f = (fun k => eqP (V k) (M 2).2) := ⟨_, rfl⟩
        rw [← hf] at hlo
        rw [← hf2] at hhi
        have HF : Shut _ := ⟨hf⟩
        have HF2 : Shut _ := ⟨hf2⟩
        have HLo : Shut _ := ⟨hlo⟩
        have HHi : Shut _ := ⟨hhi⟩
        clear hf hf2 hlo hhi
        go_wp2_with fail
        have NA2 : Shut _ := ⟨n_a⟩
        have NB2 : Shut _ := ⟨n_b⟩
        have NL2 : Shut _ := ⟨n_l⟩
        have NE2 : Shut _ := ⟨n_e⟩
        have U2 : Shut _ := ⟨u⟩
        have BB2 : Shut _ := ⟨BB0⟩
        clear n_a n_b n_l n_e u BB0 c_e
        go_loopw [11, 12, 13] (fun lv hv kv wr => ∃ k : Nat, k ≤ 4 ∧ lv = .bool (orB f k) ∧ hv = .bool (orB f2 k) ∧ kv = .int .i64 (k : Int) ∧ Shut (Below wo.heap.size wo wr)) (fun _ _ kv _ => 4 - (intOf kv).toNat)
        case atStart => exact ⟨0, Nat.zero_le _, rfl, rfl, rfl, ⟨Below.refl _ _⟩⟩
        case round =>
          obtain ⟨k, hk, rfl, rfl, rfl, H⟩ := hrel
          have BB0 := H.o
          clear H
          have n_a := lkeep NA2.o BB0
          have n_b := lkeep NB2.o BB0
          have n_l := lkeep NL2.o BB0
          have n_e := lkeep NE2.o BB0
          have u := U2.o.trans (BB0.mono U2.o.size)
          by_cases hk4 : k = 4
          · subst hk4
            rw [HLo.o, HHi.o]
            go_wp2_with fail
            exact ⟨⟨3, by omega, rfl, ⟨BB2.o.trans (BB0.mono BB2.o.size)⟩⟩, by simp [intOf]⟩
          · have hk3 : k < 4 := by omega
            have hki : (k : Int) < 4 := by omega
            have hki0 : (0 : Int) ≤ (k : Int) := by omega
            have hw1 : IntKind.i64.wrap ((k : Int) + 1) = (k : Int) + 1 := by simp [IntKind.wrap, IntKind.signed, IntKind.bits]; omega
            have cO := HO.o k hk3
            have cC := HCo.o k hk3
            clear n_e
            go_upto_region 16 with fail
            go_cut [14] from 50 to 58 (fun s wx => ∃ bq : Nat, s = .pointer (some ⟨bq, 0, none⟩) ∧ wx.heap[bq]? = some (.cells #[.string (X (k / 2)).1, .string (X (k / 2)).2] 23 (0, 0)) ∧ Below wr.heap.size wr wx)
            case first =>
              obtain rfl | rfl | rfl | rfl : k = 0 ∨ k = 1 ∨ k = 2 ∨ k = 3 := by omega
              · have c_a0 := lcell n_a 0 (v := .string (X 0).1) rfl
                have c_a1 := lcell n_a 1 (v := .string (X 0).2) rfl
                have c_a2 := lcell n_a 2 (v := .string (X 1).1) rfl
                have c_a3 := lcell n_a 3 (v := .string (X 1).2) rfl
                have g := below2 wr (.cells #[.string (X 0).1, .string (X 0).2, .string (X 1).1, .string (X 1).2] 23) (.cells #[.string (X 0).1, .string (X 0).2] 23)
                have n_q := (news2 wr (.cells #[.string (X 0).1, .string (X 0).2, .string (X 1).1, .string (X 1).2] 23) (.cells #[.string (X 0).1, .string (X 0).2] 23)).2
                go_wp2_with fail
                go_meet
                exact ⟨_, rfl, n_q, g⟩
              · have c_a0 := lcell n_a 0 (v := .string (X 0).1) rfl
                have c_a1 := lcell n_a 1 (v := .string (X 0).2) rfl
                have c_a2 := lcell n_a 2 (v := .string (X 1).1) rfl
                have c_a3 := lcell n_a 3 (v := .string (X 1).2) rfl
                have g := below2 wr (.cells #[.string (X 0).1, .string (X 0).2, .string (X 1).1, .string (X 1).2] 23) (.cells #[.string (X 0).1, .string (X 0).2] 23)
                have n_q := (news2 wr (.cells #[.string (X 0).1, .string (X 0).2, .string (X 1).1, .string (X 1).2] 23) (.cells #[.string (X 0).1, .string (X 0).2] 23)).2
                go_wp2_with fail
                go_meet
                exact ⟨_, rfl, n_q, g⟩
              · have c_a0 := lcell n_a 0 (v := .string (X 0).1) rfl
                have c_a1 := lcell n_a 1 (v := .string (X 0).2) rfl
                have c_a2 := lcell n_a 2 (v := .string (X 1).1) rfl
                have c_a3 := lcell n_a 3 (v := .string (X 1).2) rfl
                have g := below2 wr (.cells #[.string (X 0).1, .string (X 0).2, .string (X 1).1, .string (X 1).2] 23) (.cells #[.string (X 1).1, .string (X 1).2] 23)
                have n_q := (news2 wr (.cells #[.string (X 0).1, .string (X 0).2, .string (X 1).1, .string (X 1).2] 23) (.cells #[.string (X 1).1, .string (X 1).2] 23)).2
                go_wp2_with fail
                go_meet
                exact ⟨_, rfl, n_q, g⟩
              · have c_a0 := lcell n_a 0 (v := .string (X 0).1) rfl
                have c_a1 := lcell n_a 1 (v := .string (X 0).2) rfl
                have c_a2 := lcell n_a 2 (v := .string (X 1).1) rfl
                have c_a3 := lcell n_a 3 (v := .string (X 1).2) rfl
                have g := below2 wr (.cells #[.string (X 0).1, .string (X 0).2, .string (X 1).1, .string (X 1).2] 23) (.cells #[.string (X 1).1, .string (X 1).2] 23)
                have n_q := (news2 wr (.cells #[.string (X 0).1, .string (X 0).2, .string (X 1).1, .string (X 1).2] 23) (.cells #[.string (X 1).1, .string (X 1).2] 23)).2
                go_wp2_with fail
                go_meet
                exact ⟨_, rfl, n_q, g⟩
            obtain ⟨b_r, rfl, n_r, g⟩ := hcut
            replace u := u.trans (g.mono u.size)
            replace n_a := lkeep n_a g
            replace n_b := lkeep n_b g
            replace n_l := lkeep n_l g
            replace BB0 := BB0.trans (g.mono BB0.size)
            clear g
            obtain ⟨V_r, hv⟩ : ∃ v, v = wc := ⟨_, rfl⟩
            rw [← hv] at n_a n_b n_l n_r u BB0
            go_upto_region 17 with fail
            rw [← hv]
            clear hv
            go_cut [15] from 59 to 67 (fun s wx => ∃ bq : Nat, s = .pointer (some ⟨bq, 0, none⟩) ∧ wx.heap[bq]? = some (.cells #[.string (Y (k % 2)).1, .string (Y (k % 2)).2] 23 (0, 0)) ∧ Below V_r.heap.size V_r wx)
            case first =>
              obtain rfl | rfl | rfl | rfl : k = 0 ∨ k = 1 ∨ k = 2 ∨ k = 3 := by omega
              · have c_b0 := lcell n_b 0 (v := .string (Y 0).1) rfl
                have c_b1 := lcell n_b 1 (v := .string (Y 0).2) rfl
                have c_b2 := lcell n_b 2 (v := .string (Y 1).1) rfl
                have c_b3 := lcell n_b 3 (v := .string (Y 1).2) rfl
                have g := below2 V_r (.cells #[.string (Y 0).1, .string (Y 0).2, .string (Y 1).1, .string (Y 1).2] 23) (.cells #[.string (Y 0).1, .string (Y 0).2] 23)
                have n_q := (news2 V_r (.cells #[.string (Y 0).1, .string (Y 0).2, .string (Y 1).1, .string (Y 1).2] 23) (.cells #[.string (Y 0).1, .string (Y 0).2] 23)).2
                go_wp2_with fail
                go_meet
                exact ⟨_, rfl, n_q, g⟩
              · have c_b0 := lcell n_b 0 (v := .string (Y 0).1) rfl
                have c_b1 := lcell n_b 1 (v := .string (Y 0).2) rfl
                have c_b2 := lcell n_b 2 (v := .string (Y 1).1) rfl
                have c_b3 := lcell n_b 3 (v := .string (Y 1).2) rfl
                have g := below2 V_r (.cells #[.string (Y 0).1, .string (Y 0).2, .string (Y 1).1, .string (Y 1).2] 23) (.cells #[.string (Y 1).1, .string (Y 1).2] 23)
                have n_q := (news2 V_r (.cells #[.string (Y 0).1, .string (Y 0).2, .string (Y 1).1, .string (Y 1).2] 23) (.cells #[.string (Y 1).1, .string (Y 1).2] 23)).2
                go_wp2_with fail
                go_meet
                exact ⟨_, rfl, n_q, g⟩
              · have c_b0 := lcell n_b 0 (v := .string (Y 0).1) rfl
                have c_b1 := lcell n_b 1 (v := .string (Y 0).2) rfl
                have c_b2 := lcell n_b 2 (v := .string (Y 1).1) rfl
                have c_b3 := lcell n_b 3 (v := .string (Y 1).2) rfl
                have g := below2 V_r (.cells #[.string (Y 0).1, .string (Y 0).2, .string (Y 1).1, .string (Y 1).2] 23) (.cells #[.string (Y 0).1, .string (Y 0).2] 23)
                have n_q := (news2 V_r (.cells #[.string (Y 0).1, .string (Y 0).2, .string (Y 1).1, .string (Y 1).2] 23) (.cells #[.string (Y 0).1, .string (Y 0).2] 23)).2
                go_wp2_with fail
                go_meet
                exact ⟨_, rfl, n_q, g⟩
              · have c_b0 := lcell n_b 0 (v := .string (Y 0).1) rfl
                have c_b1 := lcell n_b 1 (v := .string (Y 0).2) rfl
                have c_b2 := lcell n_b 2 (v := .string (Y 1).1) rfl
                have c_b3 := lcell n_b 3 (v := .string (Y 1).2) rfl
                have g := below2 V_r (.cells #[.string (Y 0).1, .string (Y 0).2, .string (Y 1).1, .string (Y 1).2] 23) (.cells #[.string (Y 1).1, .string (Y 1).2] 23)
                have n_q := (news2 V_r (.cells #[.string (Y 0).1, .string (Y 0).2, .string (Y 1).1, .string (Y 1).2] 23) (.cells #[.string (Y 1).1, .string (Y 1).2] 23)).2
                go_wp2_with fail
                go_meet
                exact ⟨_, rfl, n_q, g⟩
            obtain ⟨b_s, rfl, n_s, g⟩ := hcut
            replace u := u.trans (g.mono u.size)
            replace n_a := lkeep n_a g
            replace n_b := lkeep n_b g
            replace n_l := lkeep n_l g
            replace n_r := lkeep n_r g
            replace BB0 := BB0.trans (g.mono BB0.size)
            clear g
            obtain ⟨V_s, hv⟩ : ∃ v, v = wc := ⟨_, rfl⟩
            rw [← hv] at n_a n_b n_l n_r n_s u BB0
            go_upto_region 18 with fail
            rw [← hv]
            clear hv
            obtain ⟨VA, hAO, -, -, -⟩ := HA.o
            have c_r0 := lcell n_r 0 (v := .string (X (k / 2)).1) rfl
            have c_r1 := lcell n_r 1 (v := .string (X (k / 2)).2) rfl
            have c_s0 := lcell n_s 0 (v := .string (Y (k % 2)).1) rfl
            have c_s1 := lcell n_s 1 (v := .string (Y (k % 2)).2) rfl
            go_wp2_with fail
            refine (hAO k hk3 _).mono ?_
            rintro e v1 ⟨rfl, g⟩
            replace u := u.trans (g.mono u.size)
            replace n_a := lkeep n_a g
            replace n_b := lkeep n_b g
            replace n_l := lkeep n_l g
            replace n_r := lkeep n_r g
            replace n_s := lkeep n_s g
            replace BB0 := BB0.trans (g.mono BB0.size)
            clear c_r0 c_r1 c_s0 c_s1
            clear g
            clear hAO
            have ne_l : gl ≠ v1.heap.size := by have := (Array.getElem?_eq_some_iff.1 n_l).1; omega
            have bv1 : w.heap.size ≤ v1.heap.size := u.size
            have bv2 : wo.heap.size ≤ v1.heap.size := BB0.size
            have g := (Below.refl v1.heap.size v1).alloc (Nat.le_refl _) (.cells #[.string (VA k).1, .string (VA k).2] 23)
            have n_v := World.alloc_heap_new v1 (.cells #[.string (VA k).1, .string (VA k).2] 23)
            replace u := u.trans (g.mono u.size)
            replace n_a := lkeep n_a g
            replace n_b := lkeep n_b g
            replace n_l := lkeep n_l g
            replace n_r := lkeep n_r g
            replace n_s := lkeep n_s g
            replace BB0 := BB0.trans (g.mono BB0.size)
            clear g
            have c_r0 := lcell n_r 0 (v := .string (X (k / 2)).1) rfl
            have c_r1 := lcell n_r 1 (v := .string (X (k / 2)).2) rfl
            have c_s0 := lcell n_s 0 (v := .string (Y (k % 2)).1) rfl
            have c_s1 := lcell n_s 1 (v := .string (Y (k % 2)).2) rfl
            go_wp2_with fail
            generalize v1.alloc (.cells #[.string (VA k).1, .string (VA k).2] 23) = V_v at *
            generalize v1.heap.size = b_v at *
            refine (cO _).mono ?_
            rintro e v2 ⟨rfl, g⟩
            replace u := u.trans (g.mono u.size)
            replace n_a := lkeep n_a g
            replace n_b := lkeep n_b g
            replace n_l := lkeep n_l g
            replace n_r := lkeep n_r g
            replace n_s := lkeep n_s g
            replace n_v := lkeep n_v g
            replace BB0 := BB0.trans (g.mono BB0.size)
            clear c_r0 c_r1 c_s0 c_s1
            clear g
            clear n_r n_s n_a n_b
            have k0 := lcell n_v 0 (v := .string (VA k).1) rfl
            have f0 := lfree n_v 0
            have k1 := lcell n_v 1 (v := .string (VA k).2) rfl
            have f1 := lfree n_v 1
            go_upto_region 26 with fail
            have s_v := box2_setx (x := .string (V k).1) (y := .string (V k).2) n_v
            have s_l : ((v2.setCell ⟨b_v, 0, none⟩ (.string (V k).1)).setCell ⟨b_v, 1, none⟩ (.string (V k).2)).heap[gl]? = _ := (Below.heap_setCell _ _ _ _ ne_l).trans ((Below.heap_setCell _ _ _ _ ne_l).trans n_l)
            replace u := (u.setCell (show w.heap.size ≤ (⟨b_v, 0, none⟩ : Addr).block from bv1) (.string (V k).1)).setCell (show w.heap.size ≤ (⟨b_v, 1, none⟩ : Addr).block from bv1) (.string (V k).2)
            replace BB0 := (BB0.setCell (show wo.heap.size ≤ (⟨b_v, 0, none⟩ : Addr).block from bv2) (.string (V k).1)).setCell (show wo.heap.size ≤ (⟨b_v, 1, none⟩ : Addr).block from bv2) (.string (V k).2)
            clear n_v n_l k0 k1 f0 f1 ne_l bv1 bv2
            have n_v := s_v
            have n_l := s_l
            clear s_v s_l
            generalize ((v2.setCell ⟨b_v, 0, none⟩ (.string (V k).1)).setCell ⟨b_v, 1, none⟩ (.string (V k).2)) = V_z at *
            go_cut [11] from 99 to 108 (fun s wx => s = .bool (orB f (k + 1)) ∧ Below V_z.heap.size V_z wx)
            case first =>
              have c_v0 := lcell n_v 0 (v := .string (V k).1) rfl
              have c_v1 := lcell n_v 1 (v := .string (V k).2) rfl
              have c_l8 : V_z.cell? ⟨gl, 8, none⟩ = some (.string (M 2).1.1) := lcell n_l 8 (v := .string (M 2).1.1) (HLl.o 2 0 (by decide) (by decide))
              have c_l9 : V_z.cell? ⟨gl, 9, none⟩ = some (.string (M 2).1.2) := lcell n_l 9 (v := .string (M 2).1.2) (HLl.o 2 1 (by decide) (by decide))
              have c_l10 : V_z.cell? ⟨gl, 10, none⟩ = some (.string (M 2).2.1) := lcell n_l 10 (v := .string (M 2).2.1) (HLl.o 2 2 (by decide) (by decide))
              have c_l11 : V_z.cell? ⟨gl, 11, none⟩ = some (.string (M 2).2.2) := lcell n_l 11 (v := .string (M 2).2.2) (HLl.o 2 3 (by decide) (by decide))
              have hst : orB f (k + 1) = (orB f k || f k) := rfl
              have hev : f k = (((V k).1.toList == (M 2).1.1.toList) && ((V k).2.toList == (M 2).1.2.toList)) := by rw [HF.o]; rfl
              rw [hev] at hst
              clear hev
              generalize orB f (k + 1) = nw at *
              generalize orB f k = ol at *
              have HST : Shut _ := ⟨hst⟩
              clear hst
              cases ol with
              | true => go_region; go_wp2_with fail; go_meet; exact ⟨by rw [HST.o]; rfl, (by first | exact Below.refl _ _ | exact ldrew (Below.refl _ _))⟩
              | false =>
                cases e1 : ((V k).1.toList == (M 2).1.1.toList) with
                | false => go_region; go_wp2_with fail; go_meet; exact ⟨by rw [HST.o, e1]; rfl, (by first | exact Below.refl _ _ | exact ldrew (Below.refl _ _))⟩
                | true =>
                  cases e2 : ((V k).2.toList == (M 2).1.2.toList) with
                  | false => go_region; go_wp2_with fail; go_meet; exact ⟨by rw [HST.o, e1, e2]; rfl, (by first | exact Below.refl _ _ | exact ldrew (Below.refl _ _))⟩
                  | true => go_region; go_wp2_with fail; go_meet; exact ⟨by rw [HST.o, e1, e2]; rfl, (by first | exact Below.refl _ _ | exact ldrew (Below.refl _ _))⟩
            obtain ⟨rfl, g⟩ := hcut
            replace u := u.trans (g.mono u.size)
            replace n_l := lkeep n_l g
            replace n_v := lkeep n_v g
            replace BB0 := BB0.trans (g.mono BB0.size)
            clear g
            go_upto_region 27 with fail
            obtain ⟨Z11, hv⟩ : ∃ v, v = wc := ⟨_, rfl⟩
            rw [← hv] at n_l n_v u BB0
            rw [← hv]
            clear hv
            go_cut [12] from 109 to 118 (fun s wx => s = .bool (orB f2 (k + 1)) ∧ Below Z11.heap.size Z11 wx)
            case first =>
              have c_v0 := lcell n_v 0 (v := .string (V k).1) rfl
              have c_v1 := lcell n_v 1 (v := .string (V k).2) rfl
              have c_l8 : Z11.cell? ⟨gl, 8, none⟩ = some (.string (M 2).1.1) := lcell n_l 8 (v := .string (M 2).1.1) (HLl.o 2 0 (by decide) (by decide))
              have c_l9 : Z11.cell? ⟨gl, 9, none⟩ = some (.string (M 2).1.2) := lcell n_l 9 (v := .string (M 2).1.2) (HLl.o 2 1 (by decide) (by decide))
              have c_l10 : Z11.cell? ⟨gl, 10, none⟩ = some (.string (M 2).2.1) := lcell n_l 10 (v := .string (M 2).2.1) (HLl.o 2 2 (by decide) (by decide))
              have c_l11 : Z11.cell? ⟨gl, 11, none⟩ = some (.string (M 2).2.2) := lcell n_l 11 (v := .string (M 2).2.2) (HLl.o 2 3 (by decide) (by decide))
              have hst : orB f2 (k + 1) = (orB f2 k || f2 k) := rfl
              have hev : f2 k = (((V k).1.toList == (M 2).2.1.toList) && ((V k).2.toList == (M 2).2.2.toList)) := by rw [HF2.o]; rfl
              rw [hev] at hst
              clear hev
              generalize orB f2 (k + 1) = nw at *
              generalize orB f2 k = ol at *
              have HST : Shut _ := ⟨hst⟩
              clear hst
              cases ol with
              | true => go_region; go_wp2_with fail; go_meet; exact ⟨by rw [HST.o]; rfl, (by first | exact Below.refl _ _ | exact ldrew (Below.refl _ _))⟩
              | false =>
                cases e1 : ((V k).1.toList == (M 2).2.1.toList) with
                | false => go_region; go_wp2_with fail; go_meet; exact ⟨by rw [HST.o, e1]; rfl, (by first | exact Below.refl _ _ | exact ldrew (Below.refl _ _))⟩
                | true =>
                  cases e2 : ((V k).2.toList == (M 2).2.2.toList) with
                  | false => go_region; go_wp2_with fail; go_meet; exact ⟨by rw [HST.o, e1, e2]; rfl, (by first | exact Below.refl _ _ | exact ldrew (Below.refl _ _))⟩
                  | true => go_region; go_wp2_with fail; go_meet; exact ⟨by rw [HST.o, e1, e2]; rfl, (by first | exact Below.refl _ _ | exact ldrew (Below.refl _ _))⟩
            obtain ⟨rfl, g⟩ := hcut
            replace u := u.trans (g.mono u.size)
            replace n_l := lkeep n_l g
            replace n_v := lkeep n_v g
            replace BB0 := BB0.trans (g.mono BB0.size)
            clear g
            go_upto_region 28 with fail
            obtain ⟨Z12, hv⟩ : ∃ v, v = wc := ⟨_, rfl⟩
            rw [← hv] at n_l n_v u BB0
            rw [← hv]
            clear hv
            go_region_held3 (fun X => X.cell? ⟨gl, 8, none⟩ = some (.string (M 2).1.1) ∧ X.cell? ⟨gl, 9, none⟩ = some (.string (M 2).1.2) ∧ X.cell? ⟨gl, 10, none⟩ = some (.string (M 2).2.1) ∧ X.cell? ⟨gl, 11, none⟩ = some (.string (M 2).2.2) ∧ X.cell? ⟨b_v, 0, none⟩ = some (.string (V k).1) ∧ X.cell? ⟨b_v, 1, none⟩ = some (.string (V k).2)) (exact ⟨lcell n_l 8 (v := .string (M 2).1.1) (HLl.o 2 0 (by decide) (by decide)), lcell n_l 9 (v := .string (M 2).1.2) (HLl.o 2 1 (by decide) (by decide)), lcell n_l 10 (v := .string (M 2).2.1) (HLl.o 2 2 (by decide) (by decide)), lcell n_l 11 (v := .string (M 2).2.2) (HLl.o 2 3 (by decide) (by decide)), lcell n_v 0 (v := .string (V k).1) rfl, lcell n_v 1 (v := .string (V k).2) rfl⟩) (first | (go_at_call 24; (with_reducible refine (Ret.run cC _).mono ?_); rintro e vz ⟨rfl, g⟩; have g : Below Z12.heap.size Z12 vz := (by first | exact lundrew2 g | exact g); replace u := u.trans (g.mono u.size); replace BB0 := BB0.trans (g.mono BB0.size); replace n_l := lkeep n_l g; replace n_v := lkeep n_v g; clear g))
            clear n_l n_v
            go_wp2_with fail
            go_roundw
            case rel =>
              repeat apply Exists.intro
              refine ⟨?_, rfl⟩
              exact ⟨(k + 1), by omega, rfl, rfl, (by first | rfl | go_num | simp), ⟨BB0⟩⟩
            case measure => simp [intOf]; omega
      · have c_e := lcell n_e 3 (v := .int .i64 (E 3)) (HLe.o 3 0 (by decide) (by decide))
        rcases HD.o with ⟨e3, rfl⟩ | ⟨e3, hT⟩
        · rw [e3] at c_e
          go_upto_region 9 with fail
          go_region_held3 (fun X => X.cell? ⟨b_b, 0, none⟩ = some (.string (Y 0).1) ∧ X.cell? ⟨b_b, 1, none⟩ = some (.string (Y 0).2) ∧ X.cell? ⟨b_b, 2, none⟩ = some (.string (Y 1).1) ∧ X.cell? ⟨b_b, 3, none⟩ = some (.string (Y 1).2)) (exact ⟨lcell n_b 0 (v := .string (Y 0).1) rfl, lcell n_b 1 (v := .string (Y 0).2) rfl, lcell n_b 2 (v := .string (Y 1).1) rfl, lcell n_b 3 (v := .string (Y 1).2) rfl⟩) (first | (go_at_call 12; (with_reducible refine (Ret.run e_ratio0_1 _).mono ?_); rintro e x4 ⟨rfl, g⟩; have g : Below wo.heap.size wo x4 := (by first | exact lundrew2 g | exact g); replace u := u.trans (g.mono u.size); replace BB0 := BB0.trans (g.mono BB0.size); replace n_b := lkeep n_b g; clear g) | (go_at_call 24; (with_reducible refine (Ret.run HZ.o _).mono ?_); rintro e x5 ⟨rfl, g⟩; have g : Below x4.heap.size x4 x5 := g; replace u := u.trans (g.mono u.size); replace BB0 := BB0.trans (g.mono BB0.size); replace n_b := lkeep n_b g; clear g))
          clear n_a n_b n_l n_e c_e
          go_wp2_with fail
          exact ⟨⟨4, by omega, rfl, ⟨BB0⟩⟩, by simp [intOf]⟩
        · rw [e3] at c_e
          obtain ⟨V, hOp, hCo, hlo, hhi⟩ := hT
          have HO : Shut _ := ⟨hOp⟩
          have HCo : Shut _ := ⟨hCo⟩
          clear hOp hCo
          obtain ⟨f, hf⟩ : ∃ f, f = (fun k => eqP (V k) (M 3).1) := ⟨_, rfl⟩
          obtain ⟨f2, hf2⟩ : ∃ f, f = (fun k => eqP (V k) (M 3).2) := ⟨_, rfl⟩
          rw [← hf] at hlo
          rw [← hf2] at hhi
          have HF : Shut _ := ⟨hf⟩
          have HF2 : Shut _ := ⟨hf2⟩
          have HLo : Shut _ := ⟨hlo⟩
          have HHi : Shut _ := ⟨hhi⟩
          clear hf hf2 hlo hhi
          go_wp2_with fail
          have NA2 : Shut _ := ⟨n_a⟩
          have NB2 : Shut _ := ⟨n_b⟩
          have NL2 : Shut _ := ⟨n_l⟩
          have NE2 : Shut _ := ⟨n_e⟩
          have U2 : Shut _ := ⟨u⟩
          have BB2 : Shut _ := ⟨BB0⟩
          clear n_a n_b n_l n_e u BB0 c_e
          go_loopw [11, 12, 13] (fun lv hv kv wr => ∃ k : Nat, k ≤ 4 ∧ lv = .bool (orB f k) ∧ hv = .bool (orB f2 k) ∧ kv = .int .i64 (k : Int) ∧ Shut (Below wo.heap.size wo wr)) (fun _ _ kv _ => 4 - (intOf kv).toNat)
          case atStart => exact ⟨0, Nat.zero_le _, rfl, rfl, rfl, ⟨Below.refl _ _⟩⟩
          case round =>
            obtain ⟨k, hk, rfl, rfl, rfl, H⟩ := hrel
            have BB0 := H.o
            clear H
            have n_a := lkeep NA2.o BB0
            have n_b := lkeep NB2.o BB0
            have n_l := lkeep NL2.o BB0
            have n_e := lkeep NE2.o BB0
            have u := U2.o.trans (BB0.mono U2.o.size)
            by_cases hk4 : k = 4
            · subst hk4
              rw [HLo.o, HHi.o]
              go_wp2_with fail
              exact ⟨⟨4, by omega, rfl, ⟨BB2.o.trans (BB0.mono BB2.o.size)⟩⟩, by simp [intOf]⟩
            · have hk3 : k < 4 := by omega
              have hki : (k : Int) < 4 := by omega
              have hki0 : (0 : Int) ≤ (k : Int) := by omega
              have hw1 : IntKind.i64.wrap ((k : Int) + 1) = (k : Int) + 1 := by simp [IntKind.wrap, IntKind.signed, IntKind.bits]; omega
              have cO := HO.o k hk3
              have cC := HCo.o k hk3
              clear n_e
              go_upto_region 16 with fail
              go_cut [14] from 50 to 58 (fun s wx => ∃ bq : Nat, s = .pointer (some ⟨bq, 0, none⟩) ∧ wx.heap[bq]? = some (.cells #[.string (X (k / 2)).1, .string (X (k / 2)).2] 23 (0, 0)) ∧ Below wr.heap.size wr wx)
              case first =>
                obtain rfl | rfl | rfl | rfl : k = 0 ∨ k = 1 ∨ k = 2 ∨ k = 3 := by omega
                · have c_a0 := lcell n_a 0 (v := .string (X 0).1) rfl
                  have c_a1 := lcell n_a 1 (v := .string (X 0).2) rfl
                  have c_a2 := lcell n_a 2 (v := .string (X 1).1) rfl
                  have c_a3 := lcell n_a 3 (v := .string (X 1).2) rfl
                  have g := below2 wr (.cells #[.string (X 0).1, .string (X 0).2, .string (X 1).1, .string (X 1).2] 23) (.cells #[.string (X 0).1, .string (X 0).2] 23)
                  have n_q := (news2 wr (.cells #[.string (X 0).1, .string (X 0).2, .string (X 1).1, .string (X 1).2] 23) (.cells #[.string (X 0).1, .string (X 0).2] 23)).2
                  go_wp2_with fail
                  go_meet
                  exact ⟨_, rfl, n_q, g⟩
                · have c_a0 := lcell n_a 0 (v := .string (X 0).1) rfl
                  have c_a1 := lcell n_a 1 (v := .string (X 0).2) rfl
                  have c_a2 := lcell n_a 2 (v := .string (X 1).1) rfl
                  have c_a3 := lcell n_a 3 (v := .string (X 1).2) rfl
                  have g := below2 wr (.cells #[.string (X 0).1, .string (X 0).2, .string (X 1).1, .string (X 1).2] 23) (.cells #[.string (X 0).1, .string (X 0).2] 23)
                  have n_q := (news2 wr (.cells #[.string (X 0).1, .string (X 0).2, .string (X 1).1, .string (X 1).2] 23) (.cells #[.string (X 0).1, .string (X 0).2] 23)).2
                  go_wp2_with fail
                  go_meet
                  exact ⟨_, rfl, n_q, g⟩
                · have c_a0 := lcell n_a 0 (v := .string (X 0).1) rfl
                  have c_a1 := lcell n_a 1 (v := .string (X 0).2) rfl
                  have c_a2 := lcell n_a 2 (v := .string (X 1).1) rfl
                  have c_a3 := lcell n_a 3 (v := .string (X 1).2) rfl
                  have g := below2 wr (.cells #[.string (X 0).1, .string (X 0).2, .string (X 1).1, .string (X 1).2] 23) (.cells #[.string (X 1).1, .string (X 1).2] 23)
                  have n_q := (news2 wr (.cells #[.string (X 0).1, .string (X 0).2, .string (X 1).1, .string (X 1).2] 23) (.cells #[.string (X 1).1, .string (X 1).2] 23)).2
                  go_wp2_with fail
                  go_meet
                  exact ⟨_, rfl, n_q, g⟩
                · have c_a0 := lcell n_a 0 (v := .string (X 0).1) rfl
                  have c_a1 := lcell n_a 1 (v := .string (X 0).2) rfl
                  have c_a2 := lcell n_a 2 (v := .string (X 1).1) rfl
                  have c_a3 := lcell n_a 3 (v := .string (X 1).2) rfl
                  have g := below2 wr (.cells #[.string (X 0).1, .string (X 0).2, .string (X 1).1, .string (X 1).2] 23) (.cells #[.string (X 1).1, .string (X 1).2] 23)
                  have n_q := (news2 wr (.cells #[.string (X 0).1, .string (X 0).2, .string (X 1).1, .string (X 1).2] 23) (.cells #[.string (X 1).1, .string (X 1).2] 23)).2
                  go_wp2_with fail
                  go_meet
                  exact ⟨_, rfl, n_q, g⟩
              obtain ⟨b_r, rfl, n_r, g⟩ := hcut
              replace u := u.trans (g.mono u.size)
              replace n_a := lkeep n_a g
              replace n_b := lkeep n_b g
              replace n_l := lkeep n_l g
              replace BB0 := BB0.trans (g.mono BB0.size)
              clear g
              obtain ⟨V_r, hv⟩ : ∃ v, v = wc := ⟨_, rfl⟩
              rw [← hv] at n_a n_b n_l n_r u BB0
              go_upto_region 17 with fail
              rw [← hv]
              clear hv
              go_cut [15] from 59 to 67 (fun s wx => ∃ bq : Nat, s = .pointer (some ⟨bq, 0, none⟩) ∧ wx.heap[bq]? = some (.cells #[.string (Y (k % 2)).1, .string (Y (k % 2)).2] 23 (0, 0)) ∧ Below V_r.heap.size V_r wx)
              case first =>
                obtain rfl | rfl | rfl | rfl : k = 0 ∨ k = 1 ∨ k = 2 ∨ k = 3 := by omega
                · have c_b0 := lcell n_b 0 (v := .string (Y 0).1) rfl
                  have c_b1 := lcell n_b 1 (v := .string (Y 0).2) rfl
                  have c_b2 := lcell n_b 2 (v := .string (Y 1).1) rfl
                  have c_b3 := lcell n_b 3 (v := .string (Y 1).2) rfl
                  have g := below2 V_r (.cells #[.string (Y 0).1, .string (Y 0).2, .string (Y 1).1, .string (Y 1).2] 23) (.cells #[.string (Y 0).1, .string (Y 0).2] 23)
                  have n_q := (news2 V_r (.cells #[.string (Y 0).1, .string (Y 0).2, .string (Y 1).1, .string (Y 1).2] 23) (.cells #[.string (Y 0).1, .string (Y 0).2] 23)).2
                  go_wp2_with fail
                  go_meet
                  exact ⟨_, rfl, n_q, g⟩
                · have c_b0 := lcell n_b 0 (v := .string (Y 0).1) rfl
                  have c_b1 := lcell n_b 1 (v := .string (Y 0).2) rfl
                  have c_b2 := lcell n_b 2 (v := .string (Y 1).1) rfl
                  have c_b3 := lcell n_b 3 (v := .string (Y 1).2) rfl
                  have g := below2 V_r (.cells #[.string (Y 0).1, .string (Y 0).2, .string (Y 1).1, .string (Y 1).2] 23) (.cells #[.string (Y 1).1, .string (Y 1).2] 23)
                  have n_q := (news2 V_r (.cells #[.string (Y 0).1, .string (Y 0).2, .string (Y 1).1, .string (Y 1).2] 23) (.cells #[.string (Y 1).1, .string (Y 1).2] 23)).2
                  go_wp2_with fail
                  go_meet
                  exact ⟨_, rfl, n_q, g⟩
                · have c_b0 := lcell n_b 0 (v := .string (Y 0).1) rfl
                  have c_b1 := lcell n_b 1 (v := .string (Y 0).2) rfl
                  have c_b2 := lcell n_b 2 (v := .string (Y 1).1) rfl
                  have c_b3 := lcell n_b 3 (v := .string (Y 1).2) rfl
                  have g := below2 V_r (.cells #[.string (Y 0).1, .string (Y 0).2, .string (Y 1).1, .string (Y 1).2] 23) (.cells #[.string (Y 0).1, .string (Y 0).2] 23)
                  have n_q := (news2 V_r (.cells #[.string (Y 0).1, .string (Y 0).2, .string (Y 1).1, .string (Y 1).2] 23) (.cells #[.string (Y 0).1, .string (Y 0).2] 23)).2
                  go_wp2_with fail
                  go_meet
                  exact ⟨_, rfl, n_q, g⟩
                · have c_b0 := lcell n_b 0 (v := .string (Y 0).1) rfl
                  have c_b1 := lcell n_b 1 (v := .string (Y 0).2) rfl
                  have c_b2 := lcell n_b 2 (v := .string (Y 1).1) rfl
                  have c_b3 := lcell n_b 3 (v := .string (Y 1).2) rfl
                  have g := below2 V_r (.cells #[.string (Y 0).1, .string (Y 0).2, .string (Y 1).1, .string (Y 1).2] 23) (.cells #[.string (Y 1).1, .string (Y 1).2] 23)
                  have n_q := (news2 V_r (.cells #[.string (Y 0).1, .string (Y 0).2, .string (Y 1).1, .string (Y 1).2] 23) (.cells #[.string (Y 1).1, .string (Y 1).2] 23)).2
                  go_wp2_with fail
                  go_meet
                  exact ⟨_, rfl, n_q, g⟩
              obtain ⟨b_s, rfl, n_s, g⟩ := hcut
              replace u := u.trans (g.mono u.size)
              replace n_a := lkeep n_a g
              replace n_b := lkeep n_b g
              replace n_l := lkeep n_l g
              replace n_r := lkeep n_r g
              replace BB0 := BB0.trans (g.mono BB0.size)
              clear g
              obtain ⟨V_s, hv⟩ : ∃ v, v = wc := ⟨_, rfl⟩
              rw [← hv] at n_a n_b n_l n_r n_s u BB0
              go_upto_region 18 with fail
              rw [← hv]
              clear hv
              obtain ⟨VA, hAO, -, -, -⟩ := HA.o
              have c_r0 := lcell n_r 0 (v := .string (X (k / 2)).1) rfl
              have c_r1 := lcell n_r 1 (v := .string (X (k / 2)).2) rfl
              have c_s0 := lcell n_s 0 (v := .string (Y (k % 2)).1) rfl
              have c_s1 := lcell n_s 1 (v := .string (Y (k % 2)).2) rfl
              go_wp2_with fail
              refine (hAO k hk3 _).mono ?_
              rintro e v1 ⟨rfl, g⟩
              replace u := u.trans (g.mono u.size)
              replace n_a := lkeep n_a g
              replace n_b := lkeep n_b g
              replace n_l := lkeep n_l g
              replace n_r := lkeep n_r g
              replace n_s := lkeep n_s g
              replace BB0 := BB0.trans (g.mono BB0.size)
              clear c_r0 c_r1 c_s0 c_s1
              clear g
              clear hAO
              have ne_l : gl ≠ v1.heap.size := by have := (Array.getElem?_eq_some_iff.1 n_l).1; omega
              have bv1 : w.heap.size ≤ v1.heap.size := u.size
              have bv2 : wo.heap.size ≤ v1.heap.size := BB0.size
              have g := (Below.refl v1.heap.size v1).alloc (Nat.le_refl _) (.cells #[.string (VA k).1, .string (VA k).2] 23)
              have n_v := World.alloc_heap_new v1 (.cells #[.string (VA k).1, .string (VA k).2] 23)
              replace u := u.trans (g.mono u.size)
              replace n_a := lkeep n_a g
              replace n_b := lkeep n_b g
              replace n_l := lkeep n_l g
              replace n_r := lkeep n_r g
              replace n_s := lkeep n_s g
              replace BB0 := BB0.trans (g.mono BB0.size)
              clear g
              have c_r0 := lcell n_r 0 (v := .string (X (k / 2)).1) rfl
              have c_r1 := lcell n_r 1 (v := .string (X (k / 2)).2) rfl
              have c_s0 := lcell n_s 0 (v := .string (Y (k % 2)).1) rfl
              have c_s1 := lcell n_s 1 (v := .string (Y (k % 2)).2) rfl
              go_wp2_with fail
              generalize v1.alloc (.cells #[.string (VA k).1, .string (VA k).2] 23) = V_v at *
              generalize v1.heap.size = b_v at *
              refine (cO _).mono ?_
              rintro e v2 ⟨rfl, g⟩
              replace u := u.trans (g.mono u.size)
              replace n_a := lkeep n_a g
              replace n_b := lkeep n_b g
              replace n_l := lkeep n_l g
              replace n_r := lkeep n_r g
              replace n_s := lkeep n_s g
              replace n_v := lkeep n_v g
              replace BB0 := BB0.trans (g.mono BB0.size)
              clear c_r0 c_r1 c_s0 c_s1
              clear g
              clear n_r n_s n_a n_b
              have k0 := lcell n_v 0 (v := .string (VA k).1) rfl
              have f0 := lfree n_v 0
              have k1 := lcell n_v 1 (v := .string (VA k).2) rfl
              have f1 := lfree n_v 1
              go_upto_region 26 with fail
              have s_v := box2_setx (x := .string (V k).1) (y := .string (V k).2) n_v
              have s_l : ((v2.setCell ⟨b_v, 0, none⟩ (.string (V k).1)).setCell ⟨b_v, 1, none⟩ (.string (V k).2)).heap[gl]? = _ := (Below.heap_setCell _ _ _ _ ne_l).trans ((Below.heap_setCell _ _ _ _ ne_l).trans n_l)
              replace u := (u.setCell (show w.heap.size ≤ (⟨b_v, 0, none⟩ : Addr).block from bv1) (.string (V k).1)).setCell (show w.heap.size ≤ (⟨b_v, 1, none⟩ : Addr).block from bv1) (.string (V k).2)
              replace BB0 := (BB0.setCell (show wo.heap.size ≤ (⟨b_v, 0, none⟩ : Addr).block from bv2) (.string (V k).1)).setCell (show wo.heap.size ≤ (⟨b_v, 1, none⟩ : Addr).block from bv2) (.string (V k).2)
              clear n_v n_l k0 k1 f0 f1 ne_l bv1 bv2
              have n_v := s_v
              have n_l := s_l
              clear s_v s_l
              generalize ((v2.setCell ⟨b_v, 0, none⟩ (.string (V k).1)).setCell ⟨b_v, 1, none⟩ (.string (V k).2)) = V_z at *
              go_cut [11] from 99 to 108 (fun s wx => s = .bool (orB f (k + 1)) ∧ Below V_z.heap.size V_z wx)
              case first =>
                have c_v0 := lcell n_v 0 (v := .string (V k).1) rfl
                have c_v1 := lcell n_v 1 (v := .string (V k).2) rfl
                have c_l12 : V_z.cell? ⟨gl, 12, none⟩ = some (.string (M 3).1.1) := lcell n_l 12 (v := .string (M 3).1.1) (HLl.o 3 0 (by decide) (by decide))
                have c_l13 : V_z.cell? ⟨gl, 13, none⟩ = some (.string (M 3).1.2) := lcell n_l 13 (v := .string (M 3).1.2) (HLl.o 3 1 (by decide) (by decide))
                have c_l14 : V_z.cell? ⟨gl, 14, none⟩ = some (.string (M 3).2.1) := lcell n_l 14 (v := .string (M 3).2.1) (HLl.o 3 2 (by decide) (by decide))
                have c_l15 : V_z.cell? ⟨gl, 15, none⟩ = some (.string (M 3).2.2) := lcell n_l 15 (v := .string (M 3).2.2) (HLl.o 3 3 (by decide) (by decide))
                have hst : orB f (k + 1) = (orB f k || f k) := rfl
                have hev : f k = (((V k).1.toList == (M 3).1.1.toList) && ((V k).2.toList == (M 3).1.2.toList)) := by rw [HF.o]; rfl
                rw [hev] at hst
                clear hev
                generalize orB f (k + 1) = nw at *
                generalize orB f k = ol at *
                have HST : Shut _ := ⟨hst⟩
                clear hst
                cases ol with
                | true => go_region; go_wp2_with fail; go_meet; exact ⟨by rw [HST.o]; rfl, (by first | exact Below.refl _ _ | exact ldrew (Below.refl _ _))⟩
                | false =>
                  cases e1 : ((V k).1.toList == (M 3).1.1.toList) with
                  | false => go_region; go_wp2_with fail; go_meet; exact ⟨by rw [HST.o, e1]; rfl, (by first | exact Below.refl _ _ | exact ldrew (Below.refl _ _))⟩
                  | true =>
                    cases e2 : ((V k).2.toList == (M 3).1.2.toList) with
                    | false => go_region; go_wp2_with fail; go_meet; exact ⟨by rw [HST.o, e1, e2]; rfl, (by first | exact Below.refl _ _ | exact ldrew (Below.refl _ _))⟩
                    | true => go_region; go_wp2_with fail; go_meet; exact ⟨by rw [HST.o, e1, e2]; rfl, (by first | exact Below.refl _ _ | exact ldrew (Below.refl _ _))⟩
              obtain ⟨rfl, g⟩ := hcut
              replace u := u.trans (g.mono u.size)
              replace n_l := lkeep n_l g
              replace n_v := lkeep n_v g
              replace BB0 := BB0.trans (g.mono BB0.size)
              clear g
              go_upto_region 27 with fail
              obtain ⟨Z11, hv⟩ : ∃ v, v = wc := ⟨_, rfl⟩
              rw [← hv] at n_l n_v u BB0
              rw [← hv]
              clear hv
              go_cut [12] from 109 to 118 (fun s wx => s = .bool (orB f2 (k + 1)) ∧ Below Z11.heap.size Z11 wx)
              case first =>
                have c_v0 := lcell n_v 0 (v := .string (V k).1) rfl
                have c_v1 := lcell n_v 1 (v := .string (V k).2) rfl
                have c_l12 : Z11.cell? ⟨gl, 12, none⟩ = some (.string (M 3).1.1) := lcell n_l 12 (v := .string (M 3).1.1) (HLl.o 3 0 (by decide) (by decide))
                have c_l13 : Z11.cell? ⟨gl, 13, none⟩ = some (.string (M 3).1.2) := lcell n_l 13 (v := .string (M 3).1.2) (HLl.o 3 1 (by decide) (by decide))
                have c_l14 : Z11.cell? ⟨gl, 14, none⟩ = some (.string (M 3).2.1) := lcell n_l 14 (v := .string (M 3).2.1) (HLl.o 3 2 (by decide) (by decide))
                have c_l15 : Z11.cell? ⟨gl, 15, none⟩ = some (.string (M 3).2.2) := lcell n_l 15 (v := .string (M 3).2.2) (HLl.o 3 3 (by decide) (by decide))
                have hst : orB f2 (k + 1) = (orB f2 k || f2 k) := rfl
                have hev : f2 k = (((V k).1.toList == (M 3).2.1.toList) && ((V k).2.toList == (M 3).2.2.toList)) := by rw [HF2.o]; rfl
                rw [hev] at hst
                clear hev
                generalize orB f2 (k + 1) = nw at *
                generalize orB f2 k = ol at *
                have HST : Shut _ := ⟨hst⟩
                clear hst
                cases ol with
                | true => go_region; go_wp2_with fail; go_meet; exact ⟨by rw [HST.o]; rfl, (by first | exact Below.refl _ _ | exact ldrew (Below.refl _ _))⟩
                | false =>
                  cases e1 : ((V k).1.toList == (M 3).2.1.toList) with
                  | false => go_region; go_wp2_with fail; go_meet; exact ⟨by rw [HST.o, e1]; rfl, (by first | exact Below.refl _ _ | exact ldrew (Below.refl _ _))⟩
                  | true =>
                    cases e2 : ((V k).2.toList == (M 3).2.2.toList) with
                    | false => go_region; go_wp2_with fail; go_meet; exact ⟨by rw [HST.o, e1, e2]; rfl, (by first | exact Below.refl _ _ | exact ldrew (Below.refl _ _))⟩
                    | true => go_region; go_wp2_with fail; go_meet; exact ⟨by rw [HST.o, e1, e2]; rfl, (by first | exact Below.refl _ _ | exact ldrew (Below.refl _ _))⟩
              obtain ⟨rfl, g⟩ := hcut
              replace u := u.trans (g.mono u.size)
              replace n_l := lkeep n_l g
              replace n_v := lkeep n_v g
              replace BB0 := BB0.trans (g.mono BB0.size)
              clear g
              go_upto_region 28 with fail
              obtain ⟨Z12, hv⟩ : ∃ v, v = wc := ⟨_, rfl⟩
              rw [← hv] at n_l n_v u BB0
              rw [← hv]
              clear hv
              go_region_held3 (fun X => X.cell? ⟨gl, 12, none⟩ = some (.string (M 3).1.1) ∧ X.cell? ⟨gl, 13, none⟩ = some (.string (M 3).1.2) ∧ X.cell? ⟨gl, 14, none⟩ = some (.string (M 3).2.1) ∧ X.cell? ⟨gl, 15, none⟩ = some (.string (M 3).2.2) ∧ X.cell? ⟨b_v, 0, none⟩ = some (.string (V k).1) ∧ X.cell? ⟨b_v, 1, none⟩ = some (.string (V k).2)) (exact ⟨lcell n_l 12 (v := .string (M 3).1.1) (HLl.o 3 0 (by decide) (by decide)), lcell n_l 13 (v := .string (M 3).1.2) (HLl.o 3 1 (by decide) (by decide)), lcell n_l 14 (v := .string (M 3).2.1) (HLl.o 3 2 (by decide) (by decide)), lcell n_l 15 (v := .string (M 3).2.2) (HLl.o 3 3 (by decide) (by decide)), lcell n_v 0 (v := .string (V k).1) rfl, lcell n_v 1 (v := .string (V k).2) rfl⟩) (first | (go_at_call 24; (with_reducible refine (Ret.run cC _).mono ?_); rintro e vz ⟨rfl, g⟩; have g : Below Z12.heap.size Z12 vz := (by first | exact lundrew2 g | exact g); replace u := u.trans (g.mono u.size); replace BB0 := BB0.trans (g.mono BB0.size); replace n_l := lkeep n_l g; replace n_v := lkeep n_v g; clear g))
              clear n_l n_v
              go_wp2_with fail
              go_roundw
              case rel =>
                repeat apply Exists.intro
                refine ⟨?_, rfl⟩
                exact ⟨(k + 1), by omega, rfl, rfl, (by first | rfl | go_num | simp), ⟨BB0⟩⟩
              case measure => simp [intOf]; omega
end En
end Go.Proofs.YtbfonkabmehlmaaGreatDoor
namespace Go.Proofs.YtbfonkabmehlmaaGreatDoor
set_option maxRecDepth 1000000
namespace En
open Go.ChangeShapes Go.WideShapes Go.ChangeAt Go.RowKit
open Go.Extern.Stop Go.Stop Go.Extern
theorem own : ownKnob Tryz.prog.godebug = none := by kernel_rfl
theorem laidOut : laidOutB Tryz.prog = true := by kernel_rfl
theorem gE : Tryz.prog.globalNamed "workpiece/enclosure.errRefused" = some 0 := by kernel_rfl
theorem gET : (Tryz.prog.globals[0]?).map (·.type) = some 127 := by kernel_rfl
theorem cellsE : Tryz.prog.cellsOf 222 = 1 := by kernel_rfl
theorem cellsStr : Tryz.prog.cellsOf 9 = 1 := by kernel_rfl
theorem starE : "*" ++ "errors.errorString" = "*errors.errorString" := by decide
theorem rowE (u : TypeId) (h : Tryz.prog.typeName? 3 u = some "*errors.errorString") : u = 200 :=
  typeName_ptr_named (nm := "errors.errorString") (by rw [starE]; kernel_rfl) (by kernel_rfl) (by decide) u (by rw [starE]; exact h)
abbrev theLaid : List (String × DataW Unit) := [("workpiece/enclosure.errRefused", Rows.laid_workpiece_enclosure_errRefused)]
theorem ref_of {W : World} (h : laidMetH Tryz.prog theLaid W) : ∃ a, Ref a W := by
  obtain ⟨a0, s0, hv0, hc0, hs0, hz0⟩ := laid_sentinel (r := []) h gE gET Tryz.underlying127 rowE Tryz.underlying200 Tryz.underlying222 rfl rfl Tryz.underlying9 cellsE cellsStr
  have h1 := World.var?_cell gE hv0 0
  simp at h1
  exact ⟨a0, h1⟩
abbrev refS : ByteArray := { data := #[101, 110, 99, 108, 111, 115, 117, 114, 101, 58, 32, 114, 101, 102, 117, 115, 101, 100] }
noncomputable def low : Nat := (World.holding Tryz.prog default ⟨#[], #[], []⟩).heap.size
noncomputable def laidWorld (os : Os) : World :=
  let w0 := World.holding Tryz.prog os ⟨#[.cells #[.string refS] 222], #[], []⟩
  { w0 with heap := w0.heap.modify 0 fun
      | .cells _ t frozen => .cells #[.iface 200 (.pointer (some ⟨low, 0, none⟩))] t frozen
      | o => o }
theorem laid_met (os : Os) (args : Array Value) : laidMet Tryz.prog theLaid ((laidWorld os).forCall (fun _ _ => 0) ⟨#[], args, []⟩).memory :=
  laidMet_of_run (ps := [.cell 0 0, .cell low 0]) 8 (by kernel_rfl) (by kernel_rfl) (by kernel_rfl)
theorem in64 {k : Int} (h : (Lit.int .i64 k).wf = true) : In64 k := Joins.in64_of_wf h
end En
end Go.Proofs.YtbfonkabmehlmaaGreatDoor
namespace Go.Proofs.YtbfonkabmehlmaaGreatDoor.enclosureTight
set_option maxRecDepth 1000000
open Go.ChangeShapes Go.WideShapes Go.ChangeAt Go.RowKit
open Go.ChangeMaps (open_string shut_string)
open En

theorem contract (H : Type) (enc : TypeId × Value → H) (W : World) (base : Nat) (args : Array Value) (ds gs : List (DataW H)) (before : List MemPlace)
    (hval : ∀ (j : Nat) t v, Tryz.f4.params[j]? = some t → args[j]? = some v → Value.okWide Tryz.prog W .any base t v)
    (hW : DataW.Whole enc Tryz.prog Tryz.f4.params.toList Rows.enclosureTightSpec.vars false W args.toList ds gs before) (hL : laidMetH Tryz.prog Rows.enclosureTightRow.laid W) :
    Calls Tryz.prog 4 args W fun e W' => ∃ v, e = .returned v ∧ Rows.enclosureTightSpec.post enc Tryz.prog Tryz.f4 false true false false W args v W' := by
  have hW' := hW
  obtain ⟨p, q, hA0, hV, rfl, hfz, hnd⟩ := hW
  have hA : DataW.TrodAll enc Tryz.prog W 0 (fun _ => true) true Tryz.f4.params.toList args.toList ds p := hA0
  rw [Tryz.params4] at hA hval
  obtain ⟨v0, vs0, d0, ds0, p0, q0, hargs, rfl, rfl, h0, r0⟩ := trodAll_cons hA
  obtain ⟨v1, vs1, d1, ds1, p1, q1, rfl, rfl, rfl, h1, r1⟩ := trodAll_cons r0
  obtain ⟨rfl, rfl, rfl⟩ := trodAll_nil r1
  obtain rfl : args = #[v0, v1] := by cases args; simp_all
  obtain ⟨rfl, rfl⟩ := trodVars_none hV
  obtain ⟨s0, s1, s2, s3, rfl, rfl, rfl, ws⟩ := Rt.open_arr4 Tryz.underlying26 Tryz.underlying3 (by kernel_rfl) (by kernel_rfl) (hval 0 26 v0 rfl rfl) h0
  obtain ⟨t0, t1, t2, t3, rfl, rfl, rfl, wt⟩ := Rt.open_arr4 Tryz.underlying26 Tryz.underlying3 (by kernel_rfl) (by kernel_rfl) (hval 1 26 v1 rfl rfl) h1
  clear hA0
  simp only [List.append_nil] at hW'
  obtain ⟨a, ha⟩ := ref_of hL
  refine (tight_walk a s0 s1 s2 s3 t0 t1 t2 t3 (in64 ws.1) (in64 ws.2.1) (in64 ws.2.2.1) (in64 ws.2.2.2) (in64 wt.1) (in64 wt.2.1) (in64 wt.2.2.1) (in64 wt.2.2.2) W ha).mono fun e W' ⟨he, hb⟩ => ?_
  subst he
  refine ⟨_, rfl, [_, _], [], [], [], [], [], hW', trodAll_cons_mk (shut_bool Tryz.underlying4 _) trodAll_mk0, ?_, rfl, World.keptBut_mono (fun x hx => by cases hx) (hb.frame (· ∈ [])), fun h => by cases h⟩
  exact trodAll_cons_mk (Rt.shut_arr4 Tryz.underlying26 Tryz.underlying3 (by kernel_rfl) (by kernel_rfl) ws) (trodAll_cons_mk (Rt.shut_arr4 Tryz.underlying26 Tryz.underlying3 (by kernel_rfl) (by kernel_rfl) wt) trodAll_mk0)

theorem reads (os : Os) {H : Type} (enc : TypeId × Value → H) : ∃ places, DataW.whole enc Tryz.prog ((laidWorld os).forCall (fun _ _ => 0) ⟨#[], #[.agg #[.int .i64 0, .int .i64 0, .int .i64 0, .int .i64 0], .agg #[.int .i64 0, .int .i64 0, .int .i64 0, .int .i64 0]], []⟩).memory Tryz.f4.params.toList Rows.enclosureTightSpec.vars false (#[.agg #[.int .i64 0, .int .i64 0, .int .i64 0, .int .i64 0], .agg #[.int .i64 0, .int .i64 0, .int .i64 0, .int .i64 0]] : Array Value).toList 8 = some ([.agg [.lit (.int .i64 0), .lit (.int .i64 0), .lit (.int .i64 0), .lit (.int .i64 0)], .agg [.lit (.int .i64 0), .lit (.int .i64 0), .lit (.int .i64 0), .lit (.int .i64 0)]], [], places) :=
  ⟨[], by kernel_rfl⟩

theorem lifted (os : Os) (started : os.Started) (H : Type) (enc : TypeId × Value → H) (F : Stop.Interp) :
    ReturnsInHanded {} Tryz.checked os 4 .any ((OpenSpec.ofChange Rows.enclosureTightSpec).preRow enc Tryz.prog Tryz.f4 Rows.enclosureTightRow.domain false Rows.enclosureTightRow.laid) (((OpenSpec.ofChange Rows.enclosureTightSpec).at F).post enc Tryz.prog Tryz.f4 false true false false) := by
  obtain ⟨places, hx⟩ := reads os enc
  refine returnsInHanded_of_row (C := Tryz.checked) (s := OpenSpec.ofChange Rows.enclosureTightSpec) own started (by kernel_rfl) Tryz.func4
    (witness_row_at (enc := enc) (C := Tryz.checked) false (laidWorld os) #[.agg #[.int .i64 0, .int .i64 0, .int .i64 0, .int .i64 0], .agg #[.int .i64 0, .int .i64 0, .int .i64 0, .int .i64 0]] rfl (by kernel_rfl) (by kernel_rfl) (by kernel_rfl)
      (OpenSpec.preRow_of_cond 8 hx (by kernel_rfl) (fun k hk => by cases hk) (by kernel_rfl) (laid_met os _))) ?_
  intro W base args ds gs before hval hW _ _ _ hL _ _
  exact contract H enc W base args ds gs before hval hW hL

theorem said : Rows.EnclosureTightSaid :=
  OpenClaim.holds_of_cond 4 Tryz.f4 rfl rfl rfl rfl rfl rfl rfl ⟨rfl, rfl, rfl, rfl, rfl⟩ rfl rfl rfl rfl rfl (by kernel_rfl) Tryz.func4 (by kernel_rfl)
    (of_decide_eq_true (by kernel_rfl)) (by unfold Func.isWrapper; first | (rw [if_pos (by decide +kernel)]; kernel_rfl) | (rw [if_neg (by decide +kernel)]; exact ⟨rfl, rfl⟩))
    (fun os started H enc _ F => by rw [OpenClaim.pre_eq_preRow]; exact lifted os started H enc F)

theorem plain (f : FuncId) (fn : Func) (hf : Tryz.pinned.checked.prog.funcNamed "workpiece/workpiecelaw05.EnclosureTight" = some f) (hfn : Tryz.pinned.checked.prog.funcs[f]? = some fn) :
    true = Tryz.pinned.checked.prog.looks [] ∧ ∀ (j : Nat) t, fn.params[j]? = some t → Tryz.pinned.checked.prog.wantsStandIn t = false := by
  obtain rfl : f = 4 := Option.some.inj ((show Tryz.prog.funcNamed "workpiece/workpiecelaw05.EnclosureTight" = some 4 by kernel_rfl).symm.trans hf) |>.symm
  obtain rfl : fn = Tryz.f4 := (Option.some.inj (Tryz.func4.symm.trans hfn)).symm
  refine ⟨by kernel_rfl, fun j t ht => ?_⟩
  rw [Tryz.params4] at ht
  have hm := Array.mem_of_getElem? ht
  simp at hm
  obtain rfl : t = 26 := by simpa using hm
  exact (show Tryz.prog.wantsStandIn 26 = false by kernel_rfl)

/-- the card -/
theorem card : Rows.EnclosureTightCardSaid :=
  Claim7.holds_tied_plain_at .later [] _ _ _ _ said (fun _ h => by cases h) (by kernel_rfl) (fun _ h => by cases h) enclosureTight_row_tie rfl ⟨rfl, rfl⟩ (by kernel_rfl) rfl plain (by kernel_rfl)
end Go.Proofs.YtbfonkabmehlmaaGreatDoor.enclosureTight
