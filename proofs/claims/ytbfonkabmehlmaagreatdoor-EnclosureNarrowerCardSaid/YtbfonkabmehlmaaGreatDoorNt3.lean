/-
  PROVED: EnclosureNarrower: if two intervals lie within others, the results for them lie within the results for the others, wherever both have one; only a meet may be missing for the narrower ones. Every argument reads afterwards as it read before. Conditions: those of the given row and card: the variable enclosure.errRefused holds what the program's text lays (tied by the card); linux/amd64.
-/
import Derived.Test.YtbfonkabmehlmaaGreatDoorNt1
import Derived.Test.YtbfonkabmehlmaaGreatDoorMd7
import Derived.Deep.RegionHeld3
import Derived.Deep.RegionWith
import Derived.Deep.QuietTactic
import Derived.BigQuiet
import Derived.Test.YtbfonkabmehlmaaGreatDoorCards
import Derived.Test.YtbfonkabmehlmaaGreatDoorTie
import Derived.Test.YtbfonkabmehlmaaGreatDoorRatOp
import Derived.ProofKit
import Derived.OpenShut
import Derived.Deep.DeepHandedRow
import Derived.Lib.SmallJoins
import Derived.Stop.LaidErr
namespace Go.Proofs.YtbfonkabmehlmaaGreatDoor
set_option maxRecDepth 1000000
namespace En
open Go.RowKit Go.Extern.Stop Go.Stop Go.Extern
open Go.Proofs.YtbfonkabmehlmaaGreatDoor.Nm Go.Proofs.YtbfonkabmehlmaaGreatDoor.Rt
theorem pickE_any (c n : Int) (h1 : -9223372036854775808 ≤ c) (h2 : c ≤ 9223372036854775807) (n1 : 1 ≤ n) (n2 : n ≤ 9223372036854775807) (w : World) :
    Calls Tryz.prog 15 #[.int .i64 c, .int .i64 n] w fun e w' => ∃ k : Nat, (k : Int) < n ∧ e = .returned (.int .i64 (k : Int)) ∧ Below w.heap.size w w' := by
  have hw : ∀ x : Int, -9223372036854775808 ≤ x → x ≤ 9223372036854775807 → IntKind.i64.wrap x = x := fun x a b => by simp [IntKind.wrap, IntKind.signed, IntKind.bits]; omega
  have hn0 : ¬ n = 0 := by omega
  by_cases hc : c < 0
  · have e1 := hw (c + 1) (by omega) (by omega)
    have e2 := hw (-(c + 1)) (by omega) (by omega)
    obtain ⟨k, hk⟩ : ∃ k : Nat, -(c + 1) = (k : Int) := ⟨(-(c + 1)).toNat, by omega⟩
    obtain ⟨m, rfl⟩ := Int.eq_ofNat_of_zero_le (show 0 ≤ n by omega)
    have hm : k % m < m := Nat.mod_lt _ (by omega)
    go_enter Tryz.func15, Tryz.ntmps15
    go_wp2
    go_ret
    exact ⟨k % m, by omega, by congr 2, Below.refl _ _⟩
  · obtain ⟨k, rfl⟩ := Int.eq_ofNat_of_zero_le (show 0 ≤ c by omega)
    obtain ⟨m, rfl⟩ := Int.eq_ofNat_of_zero_le (show 0 ≤ n by omega)
    have hm : k % m < m := Nat.mod_lt _ (by omega)
    go_enter Tryz.func15, Tryz.ntmps15
    go_wp2
    go_ret
    exact ⟨k % m, by omega, by congr 2, Below.refl _ _⟩
def sixQ (k : Nat) : Rat := Rat.divInt (k : Int) 60
theorem six_bq {k : Nat} (hk : (k : Int) < 200) : BQ 200 60 (sixQ k) := .of_div (by decide) (by omega) (by decide)
theorem six_nonneg (k : Nat) : 0 ≤ sixQ k := (Rat.divInt_nonneg_iff_of_pos_right (by decide)).2 (by omega)
theorem six_ratio {k : Nat} (hk : (k : Int) < 200) : Ret 12 #[.int .i64 (k : Int), .int .i64 60] (.agg #[.string (txt (sixQ k).num), .string (txt ((sixQ k).den : Int))]) := ratio_q k 60 (by omega) (by decide) (by decide)
theorem wid_sub {p : Rat} (s : SmallQ p) {k : Nat} (hk : (k : Int) < 200) : ∃ P : Rat, BB P ∧ P ≤ p ∧ Ret 29 #[.agg #[.string (txt p.num), .string (txt (p.den : Int))], .agg #[.string (txt (sixQ k).num), .string (txt ((sixQ k).den : Int))]] (.tuple #[.agg #[.string (txt P.num), .string (txt (P.den : Int))], .int .i64 0]) := by
  refine ⟨p - sixQ k, ((SmallQ.bq s).sub (six_bq hk)).mono (by decide) (by decide), ?_, ?_⟩
  · have h := Rat.add_le_add_left (c := p) |>.2 (Rat.neg_le_neg (six_nonneg k))
    rwa [Rat.neg_zero, Rat.add_zero, ← Rat.sub_eq_add_neg] at h
  · have A := subO (.some s.fit) (.some ((six_bq hk).fit (by decide) (by decide)))
    rw [show lift2 subQ (some p) (some (sixQ k)) = some (p - sixQ k) from subQ_b (SmallQ.bq s) (six_bq hk) (by decide) (by decide)] at A
    exact A
theorem wid_add {p : Rat} (s : SmallQ p) {k : Nat} (hk : (k : Int) < 200) : ∃ P : Rat, BB P ∧ p ≤ P ∧ Ret 28 #[.agg #[.string (txt p.num), .string (txt (p.den : Int))], .agg #[.string (txt (sixQ k).num), .string (txt ((sixQ k).den : Int))]] (.tuple #[.agg #[.string (txt P.num), .string (txt (P.den : Int))], .int .i64 0]) := by
  refine ⟨p + sixQ k, ((SmallQ.bq s).add (six_bq hk)).mono (by decide) (by decide), ?_, ?_⟩
  · have h := Rat.add_le_add_left (c := p) |>.2 (six_nonneg k)
    rwa [Rat.add_zero] at h
  · have A := addO (.some s.fit) (.some ((six_bq hk).fit (by decide) (by decide)))
    rw [show lift2 addQ (some p) (some (sixQ k)) = some (p + sixQ k) from addQ_b (SmallQ.bq s) (six_bq hk) (by decide) (by decide)] at A
    exact A
/-- all that the law's loop and its last tests want -/
theorem narrow_all (a : Addr) {p1 q1 p2 q2 P1 Q1 P2 Q2 : Rat} (s1 : SmallQ p1) (t1 : SmallQ q1) (s2 : SmallQ p2) (t2 : SmallQ q2) (S1 : BB P1) (T1 : BB Q1) (S2 : BB P2) (T2 : BB Q2) (o1 : p1 ≤ q1) (o2 : p2 ≤ q2) (l1 : P1 ≤ p1) (g1 : q1 ≤ Q1) (l2 : P2 ≤ p2) (g2 : q2 ≤ Q2) {c : Nat} (hc : (c : Int) < 12) :
    ∃ (M N : Nat → P4) (E F : Nat → Int),
    (∀ W : World, Ref a W → Calls Tryz.prog 16 #[iq p1 q1, iq p2 q2, .int .i64 (c : Int)] W fun e w' => ∃ vl ve, e = .returned (.tuple #[vl, ve]) ∧ OwnG 25 4 w' W.heap.size vl 8 (ivs M) ∧ OwnG 30 1 w' W.heap.size ve 8 (ers E) ∧ Below W.heap.size W w') ∧
    (∀ W : World, Ref a W → Calls Tryz.prog 16 #[iq P1 Q1, iq P2 Q2, .int .i64 (c : Int)] W fun e w' => ∃ vl ve, e = .returned (.tuple #[vl, ve]) ∧ OwnG 25 4 w' W.heap.size vl 8 (ivs N) ∧ OwnG 30 1 w' W.heap.size ve 8 (ers F) ∧ Below W.heap.size W w') ∧
    (∀ i, i < 8 → F i ≠ 0 ∨ (E i = 0 ∧ WithinM (M i) (N i)) ∨ (E i ≠ 0 ∧ i = 5)) ∧
    Ret 26 #[iq p1 q1, iq P1 Q1] (.bool true) ∧ Ret 26 #[iq p2 q2, iq P2 Q2] (.bool true) := by
  obtain ⟨M, E, hC, hM⟩ := calls_b a (SmallQ.bb s1) (SmallQ.bb t1) (SmallQ.bb s2) (SmallQ.bb t2) o1 o2 (c := c) (by omega)
  obtain ⟨N, F, hD, hN⟩ := calls_b a S1 T1 S2 T2 (Rat.le_trans l1 (Rat.le_trans o1 g1)) (Rat.le_trans l2 (Rat.le_trans o2 g2)) (c := c) (by omega)
  have h := narrower (SmallQ.bb s1) (SmallQ.bb t1) (SmallQ.bb s2) (SmallQ.bb t2) S1 T1 S2 T2 o1 o2 l1 g1 l2 g2 (by omega) hM hN
  have w1 := Within_q s1.fit t1.fit S1.fit T1.fit
  rw [decide_eq_true ⟨o1, l1, g1⟩] at w1
  have w2 := Within_q s2.fit t2.fit S2.fit T2.fit
  rw [decide_eq_true ⟨o2, l2, g2⟩] at w2
  refine ⟨M, N, E, F, hC, hD, fun i hi => ?_, w1, w2⟩
  by_cases hF : F i = 0
  · exact .inr (h i hi hF)
  · exact .inl hF
end En
end Go.Proofs.YtbfonkabmehlmaaGreatDoor
namespace Go.Proofs.YtbfonkabmehlmaaGreatDoor
set_option maxRecDepth 1000000
namespace En
open Go.RowKit Go.Extern.Stop Go.Stop Go.Extern
open Go.Proofs.YtbfonkabmehlmaaGreatDoor.Nm Go.Proofs.YtbfonkabmehlmaaGreatDoor.Rt
theorem box4_lo {W : World} {b : Nat} {a0 a1 a2 a3 x y : Value} {T : TypeId} (h : W.heap[b]? = some (.cells #[a0, a1, a2, a3] T (0, 0))) : ((W.setCell ⟨b, 0, none⟩ x).setCell ⟨b, 1, none⟩ y).heap[b]? = some (.cells #[x, y, a2, a3] T (0, 0)) := by
  obtain ⟨hl, hg⟩ := Array.getElem?_eq_some_iff.1 h
  simp [World.setCell, hl, Array.getElem_modify, hg]
theorem box4_hi {W : World} {b : Nat} {a0 a1 a2 a3 x y : Value} {T : TypeId} (h : W.heap[b]? = some (.cells #[a0, a1, a2, a3] T (0, 0))) : ((W.setCell ⟨b, 2, none⟩ x).setCell ⟨b, 3, none⟩ y).heap[b]? = some (.cells #[a0, a1, x, y] T (0, 0)) := by
  obtain ⟨hl, hg⟩ := Array.getElem?_eq_some_iff.1 h
  simp [World.setCell, hl, Array.getElem_modify, hg]
theorem kept2 {W : World} {b zb : Nat} {o : Obj} (hn : b ≠ zb) (h : W.heap[b]? = some o) {i j : Nat} {p q : Value} : ((W.setCell ⟨zb, i, none⟩ p).setCell ⟨zb, j, none⟩ q).heap[b]? = some o := (Below.heap_setCell _ _ _ _ hn).trans ((Below.heap_setCell _ _ _ _ hn).trans h)
set_option maxHeartbeats 16000000 in
theorem narrow_walk (a : Addr) (x0 x1 x2 x3 y0 y1 y2 y3 z0 z1 z2 z3 pl : Int) (hx0 : In64 x0) (hx1 : In64 x1) (hx2 : In64 x2) (hx3 : In64 x3) (hy0 : In64 y0) (hy1 : In64 y1) (hy2 : In64 y2) (hy3 : In64 y3) (hz0 : In64 z0) (hz1 : In64 z1) (hz2 : In64 z2) (hz3 : In64 z3) (hpl : In64 pl) (w : World) (hv : Ref a w) :
    Calls Tryz.prog 5 #[.agg #[.int .i64 x0, .int .i64 x1, .int .i64 x2, .int .i64 x3], .agg #[.int .i64 y0, .int .i64 y1, .int .i64 y2, .int .i64 y3], .agg #[.int .i64 z0, .int .i64 z1, .int .i64 z2, .int .i64 z3], .int .i64 pl] w fun e w' => e = .returned (.bool true) ∧ Below w.heap.size w w' := by
  have HV : Shut _ := ⟨hv⟩
  have CX : Shut _ := ⟨fun W => Made_any x0 x1 x2 x3 hx0 hx1 hx2 hx3 W⟩
  have CY : Shut _ := ⟨fun W => Made_any y0 y1 y2 y3 hy0 hy1 hy2 hy3 W⟩
  have CP : Shut _ := ⟨fun W => pickE_any pl 12 hpl.1 hpl.2 (by decide) (by decide) W⟩
  have K0 : Shut _ := ⟨fun W => pickE_any z0 200 hz0.1 hz0.2 (by decide) (by decide) W⟩
  have K1 : Shut _ := ⟨fun W => pickE_any z1 200 hz1.1 hz1.2 (by decide) (by decide) W⟩
  have K2 : Shut _ := ⟨fun W => pickE_any z2 200 hz2.1 hz2.2 (by decide) (by decide) W⟩
  have K3 : Shut _ := ⟨fun W => pickE_any z3 200 hz3.1 hz3.2 (by decide) (by decide) W⟩
  clear hv hx0 hx1 hx2 hx3 hy0 hy1 hy2 hy3 hz0 hz1 hz2 hz3 hpl
  obtain ⟨n_x, n_y, n_z⟩ := news3 w (.cells #[.int .i64 x0, .int .i64 x1, .int .i64 x2, .int .i64 x3] 26) (.cells #[.int .i64 y0, .int .i64 y1, .int .i64 y2, .int .i64 y3] 26) (.cells #[.int .i64 z0, .int .i64 z1, .int .i64 z2, .int .i64 z3] 26)
  have u := below3 w (.cells #[.int .i64 x0, .int .i64 x1, .int .i64 x2, .int .i64 x3] 26) (.cells #[.int .i64 y0, .int .i64 y1, .int .i64 y2, .int .i64 y3] 26) (.cells #[.int .i64 z0, .int .i64 z1, .int .i64 z2, .int .i64 z3] 26)
  go_enter Tryz.func5, Tryz.ntmps5
  go_wp2_with fail
  generalize ((w.alloc (.cells #[.int .i64 x0, .int .i64 x1, .int .i64 x2, .int .i64 x3] 26)).alloc (.cells #[.int .i64 y0, .int .i64 y1, .int .i64 y2, .int .i64 y3] 26)).alloc (.cells #[.int .i64 z0, .int .i64 z1, .int .i64 z2, .int .i64 z3] 26) = V0 at *
  refine (sane_any a V0 (HV.o.keep u)).mono ?_
  rintro e v1 ⟨rfl, g⟩
  replace u := u.trans (g.mono u.size)
  replace n_x := lkeep n_x g
  replace n_y := lkeep n_y g
  replace n_z := lkeep n_z g
  clear g
  have c_x0 := lcell n_x 0 (v := .int .i64 x0) rfl
  have c_x1 := lcell n_x 1 (v := .int .i64 x1) rfl
  have c_x2 := lcell n_x 2 (v := .int .i64 x2) rfl
  have c_x3 := lcell n_x 3 (v := .int .i64 x3) rfl
  go_wp2_with fail
  refine (CX.o _).mono ?_
  rintro e v2 ⟨p1, q1, s1, t1, o1, rfl, g⟩
  replace u := u.trans (g.mono u.size)
  replace n_x := lkeep n_x g
  replace n_y := lkeep n_y g
  replace n_z := lkeep n_z g
  clear c_x0 c_x1 c_x2 c_x3
  clear g
  unfold iq
  have g := (Below.refl v2.heap.size v2).alloc (Nat.le_refl _) (.cells #[.string (txt p1.num), .string (txt (p1.den : Int)), .string (txt q1.num), .string (txt (q1.den : Int))] 25)
  have n_a := World.alloc_heap_new v2 (.cells #[.string (txt p1.num), .string (txt (p1.den : Int)), .string (txt q1.num), .string (txt (q1.den : Int))] 25)
  replace u := u.trans (g.mono u.size)
  replace n_x := lkeep n_x g
  replace n_y := lkeep n_y g
  replace n_z := lkeep n_z g
  clear g
  have c_y0 := lcell n_y 0 (v := .int .i64 y0) rfl
  have c_y1 := lcell n_y 1 (v := .int .i64 y1) rfl
  have c_y2 := lcell n_y 2 (v := .int .i64 y2) rfl
  have c_y3 := lcell n_y 3 (v := .int .i64 y3) rfl
  go_wp2_with fail
  generalize v2.alloc (.cells #[.string (txt p1.num), .string (txt (p1.den : Int)), .string (txt q1.num), .string (txt (q1.den : Int))] 25) = V_a at *
  generalize v2.heap.size = b_a at *
  refine (CY.o _).mono ?_
  rintro e v3 ⟨p2, q2, s2, t2, o2, rfl, g⟩
  replace u := u.trans (g.mono u.size)
  replace n_y := lkeep n_y g
  replace n_z := lkeep n_z g
  replace n_a := lkeep n_a g
  clear c_y0 c_y1 c_y2 c_y3
  clear g
  unfold iq
  have g := (Below.refl v3.heap.size v3).alloc (Nat.le_refl _) (.cells #[.string (txt p2.num), .string (txt (p2.den : Int)), .string (txt q2.num), .string (txt (q2.den : Int))] 25)
  have n_b := World.alloc_heap_new v3 (.cells #[.string (txt p2.num), .string (txt (p2.den : Int)), .string (txt q2.num), .string (txt (q2.den : Int))] 25)
  replace u := u.trans (g.mono u.size)
  replace n_y := lkeep n_y g
  replace n_z := lkeep n_z g
  replace n_a := lkeep n_a g
  clear g
  clear CX CY
  go_wp2_with fail
  generalize v3.alloc (.cells #[.string (txt p2.num), .string (txt (p2.den : Int)), .string (txt q2.num), .string (txt (q2.den : Int))] 25) = V_b at *
  generalize v3.heap.size = b_b at *
  refine (CP.o _).mono ?_
  rintro e v4 ⟨c, hc, rfl, g⟩
  replace u := u.trans (g.mono u.size)
  replace n_z := lkeep n_z g
  replace n_a := lkeep n_a g
  replace n_b := lkeep n_b g
  clear g
  have c_a0 := lcell n_a 0 (v := .string (txt p1.num)) rfl
  have c_a1 := lcell n_a 1 (v := .string (txt (p1.den : Int))) rfl
  have c_a2 := lcell n_a 2 (v := .string (txt q1.num)) rfl
  have c_a3 := lcell n_a 3 (v := .string (txt (q1.den : Int))) rfl
  have bnd_c := u.size
  have ne_zc : w.heap.size + 1 + 1 ≠ v4.heap.size := by have := (Array.getElem?_eq_some_iff.1 n_z).1; omega
  have ne_ac : b_a ≠ v4.heap.size := by have := (Array.getElem?_eq_some_iff.1 n_a).1; omega
  have ne_bc : b_b ≠ v4.heap.size := by have := (Array.getElem?_eq_some_iff.1 n_b).1; omega
  have g := (Below.refl v4.heap.size v4).alloc (Nat.le_refl _) (.cells #[.string (txt p1.num), .string (txt (p1.den : Int)), .string (txt q1.num), .string (txt (q1.den : Int))] 25)
  have n_c := World.alloc_heap_new v4 (.cells #[.string (txt p1.num), .string (txt (p1.den : Int)), .string (txt q1.num), .string (txt (q1.den : Int))] 25)
  replace u := u.trans (g.mono u.size)
  replace n_z := lkeep n_z g
  replace n_a := lkeep n_a g
  replace n_b := lkeep n_b g
  clear g
  go_upto_region 6 with fail
  generalize v4.alloc (.cells #[.string (txt p1.num), .string (txt (p1.den : Int)), .string (txt q1.num), .string (txt (q1.den : Int))] 25) = V_c at *
  generalize v4.heap.size = b_c at *
  clear c_a0 c_a1 c_a2 c_a3
  have c_b0 := lcell n_b 0 (v := .string (txt p2.num)) rfl
  have c_b1 := lcell n_b 1 (v := .string (txt (p2.den : Int))) rfl
  have c_b2 := lcell n_b 2 (v := .string (txt q2.num)) rfl
  have c_b3 := lcell n_b 3 (v := .string (txt (q2.den : Int))) rfl
  have bnd_d := u.size
  have ne_zd : w.heap.size + 1 + 1 ≠ V_c.heap.size := by have := (Array.getElem?_eq_some_iff.1 n_z).1; omega
  have ne_ad : b_a ≠ V_c.heap.size := by have := (Array.getElem?_eq_some_iff.1 n_a).1; omega
  have ne_bd : b_b ≠ V_c.heap.size := by have := (Array.getElem?_eq_some_iff.1 n_b).1; omega
  have ne_cd : b_c ≠ V_c.heap.size := by have := (Array.getElem?_eq_some_iff.1 n_c).1; omega
  have g := (Below.refl V_c.heap.size V_c).alloc (Nat.le_refl _) (.cells #[.string (txt p2.num), .string (txt (p2.den : Int)), .string (txt q2.num), .string (txt (q2.den : Int))] 25)
  have n_d := World.alloc_heap_new V_c (.cells #[.string (txt p2.num), .string (txt (p2.den : Int)), .string (txt q2.num), .string (txt (q2.den : Int))] 25)
  replace u := u.trans (g.mono u.size)
  replace n_z := lkeep n_z g
  replace n_a := lkeep n_a g
  replace n_b := lkeep n_b g
  replace n_c := lkeep n_c g
  clear g
  go_upto_region 7 with fail
  generalize V_c.alloc (.cells #[.string (txt p2.num), .string (txt (p2.den : Int)), .string (txt q2.num), .string (txt (q2.den : Int))] 25) = V_d at *
  generalize V_c.heap.size = b_d at *
  clear c_b0 c_b1 c_b2 c_b3
  have ne_dc : b_d ≠ b_c := fun e => ne_cd e.symm
  have sa0 := lcell n_a 0 (v := .string (txt p1.num)) rfl
  have k0 := lcell n_c 0 (v := .string (txt p1.num)) rfl
  have f0 := lfree n_c 0
  have sa1 := lcell n_a 1 (v := .string (txt (p1.den : Int))) rfl
  have k1 := lcell n_c 1 (v := .string (txt (p1.den : Int))) rfl
  have f1 := lfree n_c 1
  have z0_ := lcell n_z 0 (v := .int .i64 z0) rfl
  go_region_held3 (fun X => X.cell? ⟨b_a, 0, none⟩ = some (.string (txt p1.num)) ∧ X.cell? ⟨b_a, 1, none⟩ = some (.string (txt (p1.den : Int))) ∧ X.cell? ⟨w.heap.size + 1 + 1, 0, none⟩ = some (.int .i64 z0)) (first | exact ⟨lcell n_a 0 (v := .string (txt p1.num)) rfl, lcell n_a 1 (v := .string (txt (p1.den : Int))) rfl, lcell n_z 0 (v := .int .i64 z0) rfl⟩ | exact ⟨lcell (kept2 ne_ac n_a) 0 (v := .string (txt p1.num)) rfl, lcell (kept2 ne_ac n_a) 1 (v := .string (txt (p1.den : Int))) rfl, lcell (kept2 ne_zc n_z) 0 (v := .int .i64 z0) rfl⟩) (first | (go_at_call 29; have q_ := m2; clear q_; (with_reducible refine (Ret.run cS0 _).mono ?_); rintro e vc ⟨rfl, g⟩; have g : Below vb.heap.size vb vc := g; replace u := u.trans (g.mono u.size); replace n_z := lkeep n_z g; replace n_a := lkeep n_a g; replace n_b := lkeep n_b g; replace n_c := lkeep n_c g; replace n_d := lkeep n_d g; clear g; have sa0 := lcell n_a 0 (v := .string (txt p1.num)) rfl; have k0 := lcell n_c 0 (v := .string (txt p1.num)) rfl; have f0 := lfree n_c 0; have sa1 := lcell n_a 1 (v := .string (txt (p1.den : Int))) rfl; have k1 := lcell n_c 1 (v := .string (txt (p1.den : Int))) rfl; have f1 := lfree n_c 1; have z0_ := lcell n_z 0 (v := .int .i64 z0) rfl; have m3 := 0) | (go_at_call 12; have q_ := m1; clear q_; (with_reducible refine (Ret.run cR0 _).mono ?_); rintro e vb ⟨rfl, g⟩; have g : Below va.heap.size va vb := g; replace u := u.trans (g.mono u.size); replace n_z := lkeep n_z g; replace n_a := lkeep n_a g; replace n_b := lkeep n_b g; replace n_c := lkeep n_c g; replace n_d := lkeep n_d g; clear g; have sa0 := lcell n_a 0 (v := .string (txt p1.num)) rfl; have k0 := lcell n_c 0 (v := .string (txt p1.num)) rfl; have f0 := lfree n_c 0; have sa1 := lcell n_a 1 (v := .string (txt (p1.den : Int))) rfl; have k1 := lcell n_c 1 (v := .string (txt (p1.den : Int))) rfl; have f1 := lfree n_c 1; have z0_ := lcell n_z 0 (v := .int .i64 z0) rfl; have m2 := 0) | (go_at_call 15; (with_reducible refine (K0.o _).mono ?_); rintro e va ⟨k0', hk0, rfl, g⟩; have g : Below V_d.heap.size V_d va := lundrew2 g; replace u := u.trans (g.mono u.size); replace n_z := lkeep n_z g; replace n_a := lkeep n_a g; replace n_b := lkeep n_b g; replace n_c := lkeep n_c g; replace n_d := lkeep n_d g; clear g; have sa0 := lcell n_a 0 (v := .string (txt p1.num)) rfl; have k0 := lcell n_c 0 (v := .string (txt p1.num)) rfl; have f0 := lfree n_c 0; have sa1 := lcell n_a 1 (v := .string (txt (p1.den : Int))) rfl; have k1 := lcell n_c 1 (v := .string (txt (p1.den : Int))) rfl; have f1 := lfree n_c 1; have z0_ := lcell n_z 0 (v := .int .i64 z0) rfl; have cR0 := six_ratio hk0; have hh := wid_sub s1 hk0; obtain ⟨P0, B0, L0, cS0⟩ := hh; have m1 := 0))
  have m_z : ((vc.setCell ⟨b_c, 0, none⟩ (.string (txt P0.num))).setCell ⟨b_c, 1, none⟩ (.string (txt (P0.den : Int)))).heap[_]? = _ := kept2 ne_zc n_z
  have m_a : ((vc.setCell ⟨b_c, 0, none⟩ (.string (txt P0.num))).setCell ⟨b_c, 1, none⟩ (.string (txt (P0.den : Int)))).heap[_]? = _ := kept2 ne_ac n_a
  have m_b : ((vc.setCell ⟨b_c, 0, none⟩ (.string (txt P0.num))).setCell ⟨b_c, 1, none⟩ (.string (txt (P0.den : Int)))).heap[_]? = _ := kept2 ne_bc n_b
  have m_d : ((vc.setCell ⟨b_c, 0, none⟩ (.string (txt P0.num))).setCell ⟨b_c, 1, none⟩ (.string (txt (P0.den : Int)))).heap[_]? = _ := kept2 ne_dc n_d
  have m_c : ((vc.setCell ⟨b_c, 0, none⟩ (.string (txt P0.num))).setCell ⟨b_c, 1, none⟩ (.string (txt (P0.den : Int)))).heap[b_c]? = some (.cells #[.string (txt P0.num), .string (txt (P0.den : Int)), .string (txt q1.num), .string (txt (q1.den : Int))] 25 (0, 0)) := box4_lo n_c
  replace u := (u.setCell (show w.heap.size ≤ (⟨b_c, 0, none⟩ : Addr).block from bnd_c) (.string (txt P0.num))).setCell (show w.heap.size ≤ (⟨b_c, 1, none⟩ : Addr).block from bnd_c) (.string (txt (P0.den : Int)))
  clear n_z n_a n_b n_c n_d k0 k1 f0 f1 sa0 sa1 z0_
  have n_z := m_z
  have n_a := m_a
  have n_b := m_b
  have n_c := m_c
  have n_d := m_d
  clear m_z m_a m_b m_c m_d
  obtain ⟨U0, hU⟩ : ∃ U, U = ((vc.setCell ⟨b_c, 0, none⟩ (.string (txt P0.num))).setCell ⟨b_c, 1, none⟩ (.string (txt (P0.den : Int)))) := ⟨_, rfl⟩
  rw [← hU] at n_z n_a n_b n_c n_d u
  go_upto_region 8 with fail
  rw [← hU]
  clear hU
  have sa2 := lcell n_a 2 (v := .string (txt q1.num)) rfl
  have k2 := lcell n_c 2 (v := .string (txt q1.num)) rfl
  have f2 := lfree n_c 2
  have sa3 := lcell n_a 3 (v := .string (txt (q1.den : Int))) rfl
  have k3 := lcell n_c 3 (v := .string (txt (q1.den : Int))) rfl
  have f3 := lfree n_c 3
  have z1_ := lcell n_z 1 (v := .int .i64 z1) rfl
  go_region_held3 (fun X => X.cell? ⟨b_a, 2, none⟩ = some (.string (txt q1.num)) ∧ X.cell? ⟨b_a, 3, none⟩ = some (.string (txt (q1.den : Int))) ∧ X.cell? ⟨w.heap.size + 1 + 1, 1, none⟩ = some (.int .i64 z1)) (first | exact ⟨lcell n_a 2 (v := .string (txt q1.num)) rfl, lcell n_a 3 (v := .string (txt (q1.den : Int))) rfl, lcell n_z 1 (v := .int .i64 z1) rfl⟩ | exact ⟨lcell (kept2 ne_ac n_a) 2 (v := .string (txt q1.num)) rfl, lcell (kept2 ne_ac n_a) 3 (v := .string (txt (q1.den : Int))) rfl, lcell (kept2 ne_zc n_z) 1 (v := .int .i64 z1) rfl⟩) (first | (go_at_call 28; have q_ := m2; clear q_; (with_reducible refine (Ret.run cS1 _).mono ?_); rintro e vc ⟨rfl, g⟩; have g : Below vb.heap.size vb vc := g; replace u := u.trans (g.mono u.size); replace n_z := lkeep n_z g; replace n_a := lkeep n_a g; replace n_b := lkeep n_b g; replace n_c := lkeep n_c g; replace n_d := lkeep n_d g; clear g; have sa2 := lcell n_a 2 (v := .string (txt q1.num)) rfl; have k2 := lcell n_c 2 (v := .string (txt q1.num)) rfl; have f2 := lfree n_c 2; have sa3 := lcell n_a 3 (v := .string (txt (q1.den : Int))) rfl; have k3 := lcell n_c 3 (v := .string (txt (q1.den : Int))) rfl; have f3 := lfree n_c 3; have z1_ := lcell n_z 1 (v := .int .i64 z1) rfl; have m3 := 0) | (go_at_call 12; have q_ := m1; clear q_; (with_reducible refine (Ret.run cR1 _).mono ?_); rintro e vb ⟨rfl, g⟩; have g : Below va.heap.size va vb := g; replace u := u.trans (g.mono u.size); replace n_z := lkeep n_z g; replace n_a := lkeep n_a g; replace n_b := lkeep n_b g; replace n_c := lkeep n_c g; replace n_d := lkeep n_d g; clear g; have sa2 := lcell n_a 2 (v := .string (txt q1.num)) rfl; have k2 := lcell n_c 2 (v := .string (txt q1.num)) rfl; have f2 := lfree n_c 2; have sa3 := lcell n_a 3 (v := .string (txt (q1.den : Int))) rfl; have k3 := lcell n_c 3 (v := .string (txt (q1.den : Int))) rfl; have f3 := lfree n_c 3; have z1_ := lcell n_z 1 (v := .int .i64 z1) rfl; have m2 := 0) | (go_at_call 15; (with_reducible refine (K1.o _).mono ?_); rintro e va ⟨k1', hk1, rfl, g⟩; have g : Below U0.heap.size U0 va := lundrew2 g; replace u := u.trans (g.mono u.size); replace n_z := lkeep n_z g; replace n_a := lkeep n_a g; replace n_b := lkeep n_b g; replace n_c := lkeep n_c g; replace n_d := lkeep n_d g; clear g; have sa2 := lcell n_a 2 (v := .string (txt q1.num)) rfl; have k2 := lcell n_c 2 (v := .string (txt q1.num)) rfl; have f2 := lfree n_c 2; have sa3 := lcell n_a 3 (v := .string (txt (q1.den : Int))) rfl; have k3 := lcell n_c 3 (v := .string (txt (q1.den : Int))) rfl; have f3 := lfree n_c 3; have z1_ := lcell n_z 1 (v := .int .i64 z1) rfl; have cR1 := six_ratio hk1; have hh := wid_add t1 hk1; obtain ⟨P1, B1, L1, cS1⟩ := hh; have m1 := 0))
  have m_z : ((vc.setCell ⟨b_c, 2, none⟩ (.string (txt P1.num))).setCell ⟨b_c, 3, none⟩ (.string (txt (P1.den : Int)))).heap[_]? = _ := kept2 ne_zc n_z
  have m_a : ((vc.setCell ⟨b_c, 2, none⟩ (.string (txt P1.num))).setCell ⟨b_c, 3, none⟩ (.string (txt (P1.den : Int)))).heap[_]? = _ := kept2 ne_ac n_a
  have m_b : ((vc.setCell ⟨b_c, 2, none⟩ (.string (txt P1.num))).setCell ⟨b_c, 3, none⟩ (.string (txt (P1.den : Int)))).heap[_]? = _ := kept2 ne_bc n_b
  have m_d : ((vc.setCell ⟨b_c, 2, none⟩ (.string (txt P1.num))).setCell ⟨b_c, 3, none⟩ (.string (txt (P1.den : Int)))).heap[_]? = _ := kept2 ne_dc n_d
  have m_c : ((vc.setCell ⟨b_c, 2, none⟩ (.string (txt P1.num))).setCell ⟨b_c, 3, none⟩ (.string (txt (P1.den : Int)))).heap[b_c]? = some (.cells #[.string (txt P0.num), .string (txt (P0.den : Int)), .string (txt P1.num), .string (txt (P1.den : Int))] 25 (0, 0)) := box4_hi n_c
  replace u := (u.setCell (show w.heap.size ≤ (⟨b_c, 2, none⟩ : Addr).block from bnd_c) (.string (txt P1.num))).setCell (show w.heap.size ≤ (⟨b_c, 3, none⟩ : Addr).block from bnd_c) (.string (txt (P1.den : Int)))
  clear n_z n_a n_b n_c n_d k2 k3 f2 f3 sa2 sa3 z1_
  have n_z := m_z
  have n_a := m_a
  have n_b := m_b
  have n_c := m_c
  have n_d := m_d
  clear m_z m_a m_b m_c m_d
  obtain ⟨U1, hU⟩ : ∃ U, U = ((vc.setCell ⟨b_c, 2, none⟩ (.string (txt P1.num))).setCell ⟨b_c, 3, none⟩ (.string (txt (P1.den : Int)))) := ⟨_, rfl⟩
  rw [← hU] at n_z n_a n_b n_c n_d u
  go_upto_region 9 with fail
  rw [← hU]
  clear hU
  have sa0 := lcell n_b 0 (v := .string (txt p2.num)) rfl
  have k0 := lcell n_d 0 (v := .string (txt p2.num)) rfl
  have f0 := lfree n_d 0
  have sa1 := lcell n_b 1 (v := .string (txt (p2.den : Int))) rfl
  have k1 := lcell n_d 1 (v := .string (txt (p2.den : Int))) rfl
  have f1 := lfree n_d 1
  have z2_ := lcell n_z 2 (v := .int .i64 z2) rfl
  go_region_held3 (fun X => X.cell? ⟨b_b, 0, none⟩ = some (.string (txt p2.num)) ∧ X.cell? ⟨b_b, 1, none⟩ = some (.string (txt (p2.den : Int))) ∧ X.cell? ⟨w.heap.size + 1 + 1, 2, none⟩ = some (.int .i64 z2)) (first | exact ⟨lcell n_b 0 (v := .string (txt p2.num)) rfl, lcell n_b 1 (v := .string (txt (p2.den : Int))) rfl, lcell n_z 2 (v := .int .i64 z2) rfl⟩ | exact ⟨lcell (kept2 ne_bd n_b) 0 (v := .string (txt p2.num)) rfl, lcell (kept2 ne_bd n_b) 1 (v := .string (txt (p2.den : Int))) rfl, lcell (kept2 ne_zd n_z) 2 (v := .int .i64 z2) rfl⟩) (first | (go_at_call 29; have q_ := m2; clear q_; (with_reducible refine (Ret.run cS2 _).mono ?_); rintro e vc ⟨rfl, g⟩; have g : Below vb.heap.size vb vc := g; replace u := u.trans (g.mono u.size); replace n_z := lkeep n_z g; replace n_a := lkeep n_a g; replace n_b := lkeep n_b g; replace n_c := lkeep n_c g; replace n_d := lkeep n_d g; clear g; have sa0 := lcell n_b 0 (v := .string (txt p2.num)) rfl; have k0 := lcell n_d 0 (v := .string (txt p2.num)) rfl; have f0 := lfree n_d 0; have sa1 := lcell n_b 1 (v := .string (txt (p2.den : Int))) rfl; have k1 := lcell n_d 1 (v := .string (txt (p2.den : Int))) rfl; have f1 := lfree n_d 1; have z2_ := lcell n_z 2 (v := .int .i64 z2) rfl; have m3 := 0) | (go_at_call 12; have q_ := m1; clear q_; (with_reducible refine (Ret.run cR2 _).mono ?_); rintro e vb ⟨rfl, g⟩; have g : Below va.heap.size va vb := g; replace u := u.trans (g.mono u.size); replace n_z := lkeep n_z g; replace n_a := lkeep n_a g; replace n_b := lkeep n_b g; replace n_c := lkeep n_c g; replace n_d := lkeep n_d g; clear g; have sa0 := lcell n_b 0 (v := .string (txt p2.num)) rfl; have k0 := lcell n_d 0 (v := .string (txt p2.num)) rfl; have f0 := lfree n_d 0; have sa1 := lcell n_b 1 (v := .string (txt (p2.den : Int))) rfl; have k1 := lcell n_d 1 (v := .string (txt (p2.den : Int))) rfl; have f1 := lfree n_d 1; have z2_ := lcell n_z 2 (v := .int .i64 z2) rfl; have m2 := 0) | (go_at_call 15; (with_reducible refine (K2.o _).mono ?_); rintro e va ⟨k2', hk2, rfl, g⟩; have g : Below U1.heap.size U1 va := lundrew2 g; replace u := u.trans (g.mono u.size); replace n_z := lkeep n_z g; replace n_a := lkeep n_a g; replace n_b := lkeep n_b g; replace n_c := lkeep n_c g; replace n_d := lkeep n_d g; clear g; have sa0 := lcell n_b 0 (v := .string (txt p2.num)) rfl; have k0 := lcell n_d 0 (v := .string (txt p2.num)) rfl; have f0 := lfree n_d 0; have sa1 := lcell n_b 1 (v := .string (txt (p2.den : Int))) rfl; have k1 := lcell n_d 1 (v := .string (txt (p2.den : Int))) rfl; have f1 := lfree n_d 1; have z2_ := lcell n_z 2 (v := .int .i64 z2) rfl; have cR2 := six_ratio hk2; have hh := wid_sub s2 hk2; obtain ⟨P2, B2, L2, cS2⟩ := hh; have m1 := 0))
  have m_z : ((vc.setCell ⟨b_d, 0, none⟩ (.string (txt P2.num))).setCell ⟨b_d, 1, none⟩ (.string (txt (P2.den : Int)))).heap[_]? = _ := kept2 ne_zd n_z
  have m_a : ((vc.setCell ⟨b_d, 0, none⟩ (.string (txt P2.num))).setCell ⟨b_d, 1, none⟩ (.string (txt (P2.den : Int)))).heap[_]? = _ := kept2 ne_ad n_a
  have m_b : ((vc.setCell ⟨b_d, 0, none⟩ (.string (txt P2.num))).setCell ⟨b_d, 1, none⟩ (.string (txt (P2.den : Int)))).heap[_]? = _ := kept2 ne_bd n_b
  have m_c : ((vc.setCell ⟨b_d, 0, none⟩ (.string (txt P2.num))).setCell ⟨b_d, 1, none⟩ (.string (txt (P2.den : Int)))).heap[_]? = _ := kept2 ne_cd n_c
  have m_d : ((vc.setCell ⟨b_d, 0, none⟩ (.string (txt P2.num))).setCell ⟨b_d, 1, none⟩ (.string (txt (P2.den : Int)))).heap[b_d]? = some (.cells #[.string (txt P2.num), .string (txt (P2.den : Int)), .string (txt q2.num), .string (txt (q2.den : Int))] 25 (0, 0)) := box4_lo n_d
  replace u := (u.setCell (show w.heap.size ≤ (⟨b_d, 0, none⟩ : Addr).block from bnd_d) (.string (txt P2.num))).setCell (show w.heap.size ≤ (⟨b_d, 1, none⟩ : Addr).block from bnd_d) (.string (txt (P2.den : Int)))
  clear n_z n_a n_b n_c n_d k0 k1 f0 f1 sa0 sa1 z2_
  have n_z := m_z
  have n_a := m_a
  have n_b := m_b
  have n_c := m_c
  have n_d := m_d
  clear m_z m_a m_b m_c m_d
  obtain ⟨U2, hU⟩ : ∃ U, U = ((vc.setCell ⟨b_d, 0, none⟩ (.string (txt P2.num))).setCell ⟨b_d, 1, none⟩ (.string (txt (P2.den : Int)))) := ⟨_, rfl⟩
  rw [← hU] at n_z n_a n_b n_c n_d u
  go_upto_region 10 with fail
  rw [← hU]
  clear hU
  have sa2 := lcell n_b 2 (v := .string (txt q2.num)) rfl
  have k2 := lcell n_d 2 (v := .string (txt q2.num)) rfl
  have f2 := lfree n_d 2
  have sa3 := lcell n_b 3 (v := .string (txt (q2.den : Int))) rfl
  have k3 := lcell n_d 3 (v := .string (txt (q2.den : Int))) rfl
  have f3 := lfree n_d 3
  have z3_ := lcell n_z 3 (v := .int .i64 z3) rfl
  go_region_held3 (fun X => X.cell? ⟨b_b, 2, none⟩ = some (.string (txt q2.num)) ∧ X.cell? ⟨b_b, 3, none⟩ = some (.string (txt (q2.den : Int))) ∧ X.cell? ⟨w.heap.size + 1 + 1, 3, none⟩ = some (.int .i64 z3)) (first | exact ⟨lcell n_b 2 (v := .string (txt q2.num)) rfl, lcell n_b 3 (v := .string (txt (q2.den : Int))) rfl, lcell n_z 3 (v := .int .i64 z3) rfl⟩ | exact ⟨lcell (kept2 ne_bd n_b) 2 (v := .string (txt q2.num)) rfl, lcell (kept2 ne_bd n_b) 3 (v := .string (txt (q2.den : Int))) rfl, lcell (kept2 ne_zd n_z) 3 (v := .int .i64 z3) rfl⟩) (first | (go_at_call 28; have q_ := m2; clear q_; (with_reducible refine (Ret.run cS3 _).mono ?_); rintro e vc ⟨rfl, g⟩; have g : Below vb.heap.size vb vc := g; replace u := u.trans (g.mono u.size); replace n_z := lkeep n_z g; replace n_a := lkeep n_a g; replace n_b := lkeep n_b g; replace n_c := lkeep n_c g; replace n_d := lkeep n_d g; clear g; have sa2 := lcell n_b 2 (v := .string (txt q2.num)) rfl; have k2 := lcell n_d 2 (v := .string (txt q2.num)) rfl; have f2 := lfree n_d 2; have sa3 := lcell n_b 3 (v := .string (txt (q2.den : Int))) rfl; have k3 := lcell n_d 3 (v := .string (txt (q2.den : Int))) rfl; have f3 := lfree n_d 3; have z3_ := lcell n_z 3 (v := .int .i64 z3) rfl; have m3 := 0) | (go_at_call 12; have q_ := m1; clear q_; (with_reducible refine (Ret.run cR3 _).mono ?_); rintro e vb ⟨rfl, g⟩; have g : Below va.heap.size va vb := g; replace u := u.trans (g.mono u.size); replace n_z := lkeep n_z g; replace n_a := lkeep n_a g; replace n_b := lkeep n_b g; replace n_c := lkeep n_c g; replace n_d := lkeep n_d g; clear g; have sa2 := lcell n_b 2 (v := .string (txt q2.num)) rfl; have k2 := lcell n_d 2 (v := .string (txt q2.num)) rfl; have f2 := lfree n_d 2; have sa3 := lcell n_b 3 (v := .string (txt (q2.den : Int))) rfl; have k3 := lcell n_d 3 (v := .string (txt (q2.den : Int))) rfl; have f3 := lfree n_d 3; have z3_ := lcell n_z 3 (v := .int .i64 z3) rfl; have m2 := 0) | (go_at_call 15; (with_reducible refine (K3.o _).mono ?_); rintro e va ⟨k3', hk3, rfl, g⟩; have g : Below U2.heap.size U2 va := lundrew2 g; replace u := u.trans (g.mono u.size); replace n_z := lkeep n_z g; replace n_a := lkeep n_a g; replace n_b := lkeep n_b g; replace n_c := lkeep n_c g; replace n_d := lkeep n_d g; clear g; have sa2 := lcell n_b 2 (v := .string (txt q2.num)) rfl; have k2 := lcell n_d 2 (v := .string (txt q2.num)) rfl; have f2 := lfree n_d 2; have sa3 := lcell n_b 3 (v := .string (txt (q2.den : Int))) rfl; have k3 := lcell n_d 3 (v := .string (txt (q2.den : Int))) rfl; have f3 := lfree n_d 3; have z3_ := lcell n_z 3 (v := .int .i64 z3) rfl; have cR3 := six_ratio hk3; have hh := wid_add t2 hk3; obtain ⟨P3, B3, L3, cS3⟩ := hh; have m1 := 0))
  have m_z : ((vc.setCell ⟨b_d, 2, none⟩ (.string (txt P3.num))).setCell ⟨b_d, 3, none⟩ (.string (txt (P3.den : Int)))).heap[_]? = _ := kept2 ne_zd n_z
  have m_a : ((vc.setCell ⟨b_d, 2, none⟩ (.string (txt P3.num))).setCell ⟨b_d, 3, none⟩ (.string (txt (P3.den : Int)))).heap[_]? = _ := kept2 ne_ad n_a
  have m_b : ((vc.setCell ⟨b_d, 2, none⟩ (.string (txt P3.num))).setCell ⟨b_d, 3, none⟩ (.string (txt (P3.den : Int)))).heap[_]? = _ := kept2 ne_bd n_b
  have m_c : ((vc.setCell ⟨b_d, 2, none⟩ (.string (txt P3.num))).setCell ⟨b_d, 3, none⟩ (.string (txt (P3.den : Int)))).heap[_]? = _ := kept2 ne_cd n_c
  have m_d : ((vc.setCell ⟨b_d, 2, none⟩ (.string (txt P3.num))).setCell ⟨b_d, 3, none⟩ (.string (txt (P3.den : Int)))).heap[b_d]? = some (.cells #[.string (txt P2.num), .string (txt (P2.den : Int)), .string (txt P3.num), .string (txt (P3.den : Int))] 25 (0, 0)) := box4_hi n_d
  replace u := (u.setCell (show w.heap.size ≤ (⟨b_d, 2, none⟩ : Addr).block from bnd_d) (.string (txt P3.num))).setCell (show w.heap.size ≤ (⟨b_d, 3, none⟩ : Addr).block from bnd_d) (.string (txt (P3.den : Int)))
  clear n_z n_a n_b n_c n_d k2 k3 f2 f3 sa2 sa3 z3_
  have n_z := m_z
  have n_a := m_a
  have n_b := m_b
  have n_c := m_c
  have n_d := m_d
  clear m_z m_a m_b m_c m_d
  obtain ⟨U3, hU⟩ : ∃ U, U = ((vc.setCell ⟨b_d, 2, none⟩ (.string (txt P3.num))).setCell ⟨b_d, 3, none⟩ (.string (txt (P3.den : Int)))) := ⟨_, rfl⟩
  rw [← hU] at n_z n_a n_b n_c n_d u
  go_upto_region 11 with fail
  rw [← hU]
  clear hU
  obtain ⟨M, N, E, G, hC, hD, hN, hW1, hW2⟩ := narrow_all a s1 t1 s2 t2 B0 B1 B2 B3 o1 o2 L0 L1 L2 L3 hc
  unfold iq at hC hD hW1 hW2
  clear s1 t1 s2 t2 B0 B1 B2 B3 o1 o2 L0 L1 L2 L3 cR0 cR1 cR2 cR3 cS0 cS1 cS2 cS3 hc hk0 hk1 hk2 hk3 CP K0 K1 K2 K3 n_z
  generalize (txt p1.num) = p0' at *
  generalize (txt (p1.den : Int)) = p1' at *
  generalize (txt q1.num) = q0' at *
  generalize (txt (q1.den : Int)) = q1' at *
  generalize (txt p2.num) = r0' at *
  generalize (txt (p2.den : Int)) = r1' at *
  generalize (txt q2.num) = s0' at *
  generalize (txt (q2.den : Int)) = s1' at *
  generalize (txt P0.num) = A0' at *
  generalize (txt (P0.den : Int)) = A1' at *
  generalize (txt P1.num) = B0' at *
  generalize (txt (P1.den : Int)) = B1' at *
  generalize (txt P2.num) = C0' at *
  generalize (txt (P2.den : Int)) = C1' at *
  generalize (txt P3.num) = D0' at *
  generalize (txt (P3.den : Int)) = D1' at *
  have HC : Shut _ := ⟨hC⟩
  have HD : Shut _ := ⟨hD⟩
  have HN : Shut _ := ⟨hN⟩
  have HW1 : Shut _ := ⟨hW1⟩
  have HW2 : Shut _ := ⟨hW2⟩
  clear hC hD hN hW1 hW2
  have c_a0 := lcell n_a 0 (v := .string p0') rfl
  have c_a1 := lcell n_a 1 (v := .string p1') rfl
  have c_a2 := lcell n_a 2 (v := .string q0') rfl
  have c_a3 := lcell n_a 3 (v := .string q1') rfl
  have c_b0 := lcell n_b 0 (v := .string r0') rfl
  have c_b1 := lcell n_b 1 (v := .string r1') rfl
  have c_b2 := lcell n_b 2 (v := .string s0') rfl
  have c_b3 := lcell n_b 3 (v := .string s1') rfl
  go_wp2_with fail
  refine (HC.o _ (HV.o.keep u)).mono ?_
  rintro e y1 ⟨vl, ve, rfl, hL, hE, g⟩
  replace u := u.trans (g.mono u.size)
  replace n_a := lkeep n_a g
  replace n_b := lkeep n_b g
  replace n_c := lkeep n_c g
  replace n_d := lkeep n_d g
  clear c_a0 c_a1 c_a2 c_a3 c_b0 c_b1 c_b2 c_b3
  clear g
  obtain ⟨gl, capl, rfl, _, hcl, hml, curl, n_l, hl⟩ := OwnG.shape (t := 7) hL (fun _ _ => rfl)
  obtain ⟨ge, cape, rfl, _, hce, hme, cure, n_e, he⟩ := OwnG.shape (t := 7) hE (fun _ _ => rfl)
  have HLl : Shut _ := ⟨hl⟩
  have HLe : Shut _ := ⟨he⟩
  clear hL hE hl he
  have c_c0 := lcell n_c 0 (v := .string A0') rfl
  have c_c1 := lcell n_c 1 (v := .string A1') rfl
  have c_c2 := lcell n_c 2 (v := .string B0') rfl
  have c_c3 := lcell n_c 3 (v := .string B1') rfl
  have c_d0 := lcell n_d 0 (v := .string C0') rfl
  have c_d1 := lcell n_d 1 (v := .string C1') rfl
  have c_d2 := lcell n_d 2 (v := .string D0') rfl
  have c_d3 := lcell n_d 3 (v := .string D1') rfl
  go_wp2_with fail
  refine (HD.o _ (HV.o.keep u)).mono ?_
  rintro e y2 ⟨vl, ve, rfl, hL, hE, g⟩
  replace u := u.trans (g.mono u.size)
  replace n_a := lkeep n_a g
  replace n_b := lkeep n_b g
  replace n_c := lkeep n_c g
  replace n_d := lkeep n_d g
  replace n_l := lkeep n_l g
  replace n_e := lkeep n_e g
  clear c_c0 c_c1 c_c2 c_c3 c_d0 c_d1 c_d2 c_d3
  clear g
  obtain ⟨gm, capm, rfl, _, hcm, hmm, curm, n_m, hl⟩ := OwnG.shape (t := 7) hL (fun _ _ => rfl)
  obtain ⟨gf, capf, rfl, _, hcf, hmf, curf, n_f, he⟩ := OwnG.shape (t := 7) hE (fun _ _ => rfl)
  have HLm : Shut _ := ⟨hl⟩
  have HLf : Shut _ := ⟨he⟩
  clear hL hE hl he
  go_wp2_with fail
  have Na : Shut _ := ⟨n_a⟩
  have Nb : Shut _ := ⟨n_b⟩
  have Nc : Shut _ := ⟨n_c⟩
  have Nd : Shut _ := ⟨n_d⟩
  have Nl : Shut _ := ⟨n_l⟩
  have Ne : Shut _ := ⟨n_e⟩
  have Nm : Shut _ := ⟨n_m⟩
  have Nf : Shut _ := ⟨n_f⟩
  have U0 : Shut _ := ⟨u⟩
  clear u n_a n_b n_c n_d n_l n_e n_m n_f
  go_loopw [18] (fun iv wr => ∃ i : Nat, i ≤ 8 ∧ iv = .int .i64 (i : Int) ∧ Shut (Below y2.heap.size y2 wr)) (fun iv _ => 8 - (intOf iv).toNat)
  case atStart => exact ⟨0, Nat.zero_le _, rfl, ⟨Below.refl _ _⟩⟩
  case round =>
    obtain ⟨i, hi, rfl, H⟩ := hrel
    have BB0 := H.o
    clear H
    have n_a := lkeep Na.o BB0
    have n_b := lkeep Nb.o BB0
    have n_c := lkeep Nc.o BB0
    have n_d := lkeep Nd.o BB0
    have n_l := lkeep Nl.o BB0
    have n_e := lkeep Ne.o BB0
    have n_m := lkeep Nm.o BB0
    have n_f := lkeep Nf.o BB0
    have u := U0.o.trans (BB0.mono U0.o.size)
    by_cases hi8 : i = 8
    · subst hi8
      clear n_l n_e n_m n_f
      have c_a0 := lcell n_a 0 (v := .string p0') rfl
      have c_a1 := lcell n_a 1 (v := .string p1') rfl
      have c_a2 := lcell n_a 2 (v := .string q0') rfl
      have c_a3 := lcell n_a 3 (v := .string q1') rfl
      have c_c0 := lcell n_c 0 (v := .string A0') rfl
      have c_c1 := lcell n_c 1 (v := .string A1') rfl
      have c_c2 := lcell n_c 2 (v := .string B0') rfl
      have c_c3 := lcell n_c 3 (v := .string B1') rfl
      go_wp2_with fail
      refine (HW1.o _).mono ?_
      rintro e v1 ⟨rfl, g⟩
      replace u := u.trans (g.mono u.size)
      replace n_a := lkeep n_a g
      replace n_b := lkeep n_b g
      replace n_c := lkeep n_c g
      replace n_d := lkeep n_d g
      clear c_a0 c_a1 c_a2 c_a3 c_c0 c_c1 c_c2 c_c3
      clear g
      have c_b0 := lcell n_b 0 (v := .string r0') rfl
      have c_b1 := lcell n_b 1 (v := .string r1') rfl
      have c_b2 := lcell n_b 2 (v := .string s0') rfl
      have c_b3 := lcell n_b 3 (v := .string s1') rfl
      have c_d0 := lcell n_d 0 (v := .string C0') rfl
      have c_d1 := lcell n_d 1 (v := .string C1') rfl
      have c_d2 := lcell n_d 2 (v := .string D0') rfl
      have c_d3 := lcell n_d 3 (v := .string D1') rfl
      go_wp2_with fail
      refine (HW2.o _).mono ?_
      rintro e v2 ⟨rfl, g⟩
      replace u := u.trans (g.mono u.size)
      replace n_a := lkeep n_a g
      replace n_b := lkeep n_b g
      replace n_c := lkeep n_c g
      replace n_d := lkeep n_d g
      clear c_b0 c_b1 c_b2 c_b3 c_d0 c_d1 c_d2 c_d3
      clear g
      go_wp2_with fail
      go_ret
      exact ⟨by simp, u⟩
    · have hi7 : i < 8 := by omega
      have hj1 : (i : Int) < 8 := by omega
      have hj0 : (0 : Int) ≤ (i : Int) := by omega
      have hw1 : IntKind.i64.wrap ((i : Int) + 1) = (i : Int) + 1 := by simp [IntKind.wrap, IntKind.signed, IntKind.bits]; omega
      clear n_a n_b n_c n_d
      have c_f : wr.cell? ⟨gf, i, none⟩ = some (.int .i64 (G i)) := by have := lcell n_f (i * 1 + 0) (v := .int .i64 (G i)) (HLf.o i 0 hi7 (by decide)); rwa [Nat.mul_one, Nat.add_zero] at this
      have c_e : wr.cell? ⟨ge, i, none⟩ = some (.int .i64 (E i)) := by have := lcell n_e (i * 1 + 0) (v := .int .i64 (E i)) (HLe.o i 0 hi7 (by decide)); rwa [Nat.mul_one, Nat.add_zero] at this
      have c_l0 : wr.cell? ⟨gl, i * 4, none⟩ = some (.string (M i).1.1) := lcell n_l (i * 4 + 0) (v := .string (M i).1.1) (HLl.o i 0 hi7 (by decide))
      have c_l1 : wr.cell? ⟨gl, i * 4 + 1, none⟩ = some (.string (M i).1.2) := lcell n_l (i * 4 + 1) (v := .string (M i).1.2) (HLl.o i 1 hi7 (by decide))
      have c_l2 : wr.cell? ⟨gl, i * 4 + 2, none⟩ = some (.string (M i).2.1) := lcell n_l (i * 4 + 2) (v := .string (M i).2.1) (HLl.o i 2 hi7 (by decide))
      have c_l3 : wr.cell? ⟨gl, i * 4 + 3, none⟩ = some (.string (M i).2.2) := lcell n_l (i * 4 + 3) (v := .string (M i).2.2) (HLl.o i 3 hi7 (by decide))
      have c_m0 : wr.cell? ⟨gm, i * 4, none⟩ = some (.string (N i).1.1) := lcell n_m (i * 4 + 0) (v := .string (N i).1.1) (HLm.o i 0 hi7 (by decide))
      have c_m1 : wr.cell? ⟨gm, i * 4 + 1, none⟩ = some (.string (N i).1.2) := lcell n_m (i * 4 + 1) (v := .string (N i).1.2) (HLm.o i 1 hi7 (by decide))
      have c_m2 : wr.cell? ⟨gm, i * 4 + 2, none⟩ = some (.string (N i).2.1) := lcell n_m (i * 4 + 2) (v := .string (N i).2.1) (HLm.o i 2 hi7 (by decide))
      have c_m3 : wr.cell? ⟨gm, i * 4 + 3, none⟩ = some (.string (N i).2.2) := lcell n_m (i * 4 + 3) (v := .string (N i).2.2) (HLm.o i 3 hi7 (by decide))
      by_cases hG : G i = 0
      · rw [hG] at c_f
        rcases HN.o i hi7 with hF | ⟨hE0, hW⟩ | ⟨hE0, h5⟩
        · exact absurd hG hF
        · rw [hE0] at c_e
          have cW := hW
          clear hW hE0 hG
          unfold WithinM at cW
          generalize (M i).1.1 = l0' at *
          generalize (M i).1.2 = l1' at *
          generalize (M i).2.1 = l2' at *
          generalize (M i).2.2 = l3' at *
          generalize (N i).1.1 = m0' at *
          generalize (N i).1.2 = m1' at *
          generalize (N i).2.1 = m2' at *
          generalize (N i).2.2 = m3' at *
          go_upto_region 16 with fail
          refine wp_region_held_drew (S := fun X => X.cell? ⟨gf, i, none⟩ = some (.int .i64 0) ∧ X.cell? ⟨ge, i, none⟩ = some (.int .i64 0) ∧ X.cell? ⟨gl, i * 4, none⟩ = some (.string l0') ∧ X.cell? ⟨gl, i * 4 + 1, none⟩ = some (.string l1') ∧ X.cell? ⟨gl, i * 4 + 2, none⟩ = some (.string l2') ∧ X.cell? ⟨gl, i * 4 + 3, none⟩ = some (.string l3') ∧ X.cell? ⟨gm, i * 4, none⟩ = some (.string m0') ∧ X.cell? ⟨gm, i * 4 + 1, none⟩ = some (.string m1') ∧ X.cell? ⟨gm, i * 4 + 2, none⟩ = some (.string m2') ∧ X.cell? ⟨gm, i * 4 + 3, none⟩ = some (.string m3')) (by kernel_rfl) (by exact ⟨c_f, c_e, c_l0, c_l1, c_l2, c_l3, c_m0, c_m1, c_m2, c_m3⟩) (fun hHeld => ?_)
          refine wpAnyH_take (i := 0) (v := ?_) rfl (by kernel_rfl) (by kernel_rfl) (by kernel_rfl) (fun _ _ _ h => h) (Or.inl ⟨by rfl, ?_⟩) (by assumption) ?_
          rotate_left
          focus (intro w hSw; (try dsimp only at hSw); go_simp; first | done | with_reducible rfl)
          refine wpAnyH_take (i := 1) (v := ?_) rfl (by kernel_rfl) (by kernel_rfl) (by kernel_rfl) (fun _ _ _ h => h) (Or.inl ⟨by rfl, ?_⟩) (by assumption) ?_
          rotate_left
          focus (intro w hSw; (try dsimp only at hSw); go_simp; first | done | with_reducible rfl)
          simp only [Act.put, List.getElem_toArray, List.getElem_cons_zero, List.getElem_cons_succ, List.setIfInBounds_toArray, List.set_cons_zero, List.set_cons_succ]
          refine wpAnyH_take (i := 2) (v := ?_) rfl (by kernel_rfl) (by kernel_rfl) (by kernel_rfl) (fun _ _ _ h => h) (Or.inl ⟨by rfl, ?_⟩) (by assumption) ?_
          rotate_left
          focus (intro w hSw; (try dsimp only at hSw); go_simp; first | done | with_reducible rfl)
          simp only [Act.put, List.getElem_toArray, List.getElem_cons_zero, List.getElem_cons_succ, List.setIfInBounds_toArray, List.set_cons_zero, List.set_cons_succ]
          refine wpAnyH_take (i := 3) (v := ?_) rfl (by kernel_rfl) (by kernel_rfl) (by kernel_rfl) (fun _ _ _ h => h) (Or.inl ⟨by rfl, ?_⟩) (by assumption) ?_
          rotate_left
          focus (intro w hSw; (try dsimp only at hSw); go_simp; first | done | with_reducible rfl)
          simp only [Act.put, List.getElem_toArray, List.getElem_cons_zero, List.getElem_cons_succ, List.setIfInBounds_toArray, List.set_cons_zero, List.set_cons_succ]
          refine wpAnyH_take (i := 4) (v := ?_) rfl (by kernel_rfl) (by kernel_rfl) (by kernel_rfl) (fun _ _ _ h => h) (Or.inl ⟨by rfl, ?_⟩) (by assumption) ?_
          rotate_left
          focus (intro w hSw; (try dsimp only at hSw); go_simp; first | done | with_reducible rfl)
          simp only [Act.put, List.getElem_toArray, List.getElem_cons_zero, List.getElem_cons_succ, List.setIfInBounds_toArray, List.set_cons_zero, List.set_cons_succ]
          refine wpAnyH_take (i := 5) (v := ?_) rfl (by kernel_rfl) (by kernel_rfl) (by kernel_rfl) (fun _ _ _ h => h) (Or.inl ⟨by rfl, ?_⟩) (by assumption) ?_
          rotate_left
          focus (intro w hSw; (try dsimp only at hSw); go_simp; first | done | with_reducible rfl)
          simp only [Act.put, List.getElem_toArray, List.getElem_cons_zero, List.getElem_cons_succ, List.setIfInBounds_toArray, List.set_cons_zero, List.set_cons_succ]
          refine wpAnyH_take (i := 6) (v := ?_) rfl (by kernel_rfl) (by kernel_rfl) (by kernel_rfl) (fun _ _ _ h => h) (Or.inl ⟨by rfl, ?_⟩) (by assumption) ?_
          rotate_left
          focus (intro w hSw; (try dsimp only at hSw); go_simp; first | done | with_reducible rfl)
          simp only [Act.put, List.getElem_toArray, List.getElem_cons_zero, List.getElem_cons_succ, List.setIfInBounds_toArray, List.set_cons_zero, List.set_cons_succ]
          refine wpAnyH_take (i := 7) (v := ?_) rfl (by kernel_rfl) (by kernel_rfl) (by kernel_rfl) (fun _ _ _ h => h) (Or.inl ⟨by rfl, ?_⟩) (by assumption) ?_
          rotate_left
          focus (intro w hSw; (try dsimp only at hSw); go_simp; first | done | with_reducible rfl)
          simp only [Act.put, List.getElem_toArray, List.getElem_cons_zero, List.getElem_cons_succ, List.setIfInBounds_toArray, List.set_cons_zero, List.set_cons_succ]
          refine wpAnyH_take (i := 8) (v := ?_) rfl (by kernel_rfl) (by kernel_rfl) (by kernel_rfl) (fun _ _ _ h => h) (Or.inl ⟨by rfl, ?_⟩) (by assumption) ?_
          rotate_left
          focus (intro w hSw; (try dsimp only at hSw); go_simp; first | done | with_reducible rfl)
          simp only [Act.put, List.getElem_toArray, List.getElem_cons_zero, List.getElem_cons_succ, List.setIfInBounds_toArray, List.set_cons_zero, List.set_cons_succ]
          refine wpAnyH_take (i := 9) (v := ?_) rfl (by kernel_rfl) (by kernel_rfl) (by kernel_rfl) (fun _ _ _ h => h) (Or.inl ⟨by rfl, ?_⟩) (by assumption) ?_
          rotate_left
          focus (intro w hSw; (try dsimp only at hSw); go_simp; first | done | with_reducible rfl)
          simp only [Act.put, List.getElem_toArray, List.getElem_cons_zero, List.getElem_cons_succ, List.setIfInBounds_toArray, List.set_cons_zero, List.set_cons_succ]
          refine wpAnyH_take (i := 10) (v := ?_) rfl (by kernel_rfl) (by kernel_rfl) (by kernel_rfl) (fun _ _ _ h => h) (Or.inl ⟨by rfl, ?_⟩) (by assumption) ?_
          rotate_left
          focus (intro w hSw; (try dsimp only at hSw); go_simp; first | done | with_reducible rfl)
          simp only [Act.put, List.getElem_toArray, List.getElem_cons_zero, List.getElem_cons_succ, List.setIfInBounds_toArray, List.set_cons_zero, List.set_cons_succ]
          refine wpAnyH_take (i := 11) (v := ?_) rfl (by kernel_rfl) (by kernel_rfl) (by kernel_rfl) (fun _ _ _ h => h) (Or.inl ⟨by rfl, ?_⟩) (by assumption) ?_
          rotate_left
          focus (intro w hSw; (try dsimp only at hSw); go_simp; first | done | with_reducible rfl)
          simp only [Act.put, List.getElem_toArray, List.getElem_cons_zero, List.getElem_cons_succ, List.setIfInBounds_toArray, List.set_cons_zero, List.set_cons_succ]
          refine wpAnyH_take (i := 12) (v := ?_) rfl (by kernel_rfl) (by kernel_rfl) (by kernel_rfl) (fun _ _ _ h => h) (Or.inl ⟨by rfl, ?_⟩) (by assumption) ?_
          rotate_left
          focus (intro w hSw; (try dsimp only at hSw); go_simp; first | done | with_reducible rfl)
          simp only [Act.put, List.getElem_toArray, List.getElem_cons_zero, List.getElem_cons_succ, List.setIfInBounds_toArray, List.set_cons_zero, List.set_cons_succ]
          refine wpAnyH_take (i := 13) (v := ?_) rfl (by kernel_rfl) (by kernel_rfl) (by kernel_rfl) (fun _ _ _ h => h) (Or.inl ⟨by rfl, ?_⟩) (by assumption) ?_
          rotate_left
          focus (intro w hSw; (try dsimp only at hSw); go_simp; first | done | with_reducible rfl)
          simp only [Act.put, List.getElem_toArray, List.getElem_cons_zero, List.getElem_cons_succ, List.setIfInBounds_toArray, List.set_cons_zero, List.set_cons_succ]
          refine wpAnyH_take (i := 14) (v := ?_) rfl (by kernel_rfl) (by kernel_rfl) (by kernel_rfl) (fun _ _ _ h => h) (Or.inl ⟨by rfl, ?_⟩) (by assumption) ?_
          rotate_left
          focus (intro w hSw; (try dsimp only at hSw); go_simp; first | done | with_reducible rfl)
          simp only [Act.put, List.getElem_toArray, List.getElem_cons_zero, List.getElem_cons_succ, List.setIfInBounds_toArray, List.set_cons_zero, List.set_cons_succ]
          refine wpAnyH_take (i := 15) (v := ?_) rfl (by kernel_rfl) (by kernel_rfl) (by kernel_rfl) (fun _ _ _ h => h) (Or.inl ⟨by rfl, ?_⟩) (by assumption) ?_
          rotate_left
          focus (intro w hSw; (try dsimp only at hSw); go_simp; first | done | with_reducible rfl)
          simp only [Act.put, List.getElem_toArray, List.getElem_cons_zero, List.getElem_cons_succ, List.setIfInBounds_toArray, List.set_cons_zero, List.set_cons_succ]
          refine wpAnyH_take (i := 16) (v := ?_) rfl (by kernel_rfl) (by kernel_rfl) (by kernel_rfl) (fun _ _ _ h => h) (Or.inl ⟨by rfl, ?_⟩) (by assumption) ?_
          rotate_left
          focus (intro w hSw; (try dsimp only at hSw); go_simp; first | done | with_reducible rfl)
          simp only [Act.put, List.getElem_toArray, List.getElem_cons_zero, List.getElem_cons_succ, List.setIfInBounds_toArray, List.set_cons_zero, List.set_cons_succ]
          refine wpAnyH_take (i := 17) (v := ?_) rfl (by kernel_rfl) (by kernel_rfl) (by kernel_rfl) (fun _ _ _ h => h) (Or.inl ⟨by rfl, ?_⟩) (by assumption) ?_
          rotate_left
          focus (intro w hSw; (try dsimp only at hSw); go_simp; first | done | with_reducible rfl)
          simp only [Act.put, List.getElem_toArray, List.getElem_cons_zero, List.getElem_cons_succ, List.setIfInBounds_toArray, List.set_cons_zero, List.set_cons_succ]
          refine wpAnyH_take (i := 18) (v := ?_) rfl (by kernel_rfl) (by kernel_rfl) (by kernel_rfl) (fun _ _ _ h => h) (Or.inl ⟨by rfl, ?_⟩) (by assumption) ?_
          rotate_left
          focus (intro w hSw; (try dsimp only at hSw); go_simp; first | done | with_reducible rfl)
          simp only [Act.put, List.getElem_toArray, List.getElem_cons_zero, List.getElem_cons_succ, List.setIfInBounds_toArray, List.set_cons_zero, List.set_cons_succ]
          refine wpAnyH_take (i := 19) (v := ?_) rfl (by kernel_rfl) (by kernel_rfl) (by kernel_rfl) (fun _ _ _ h => h) (Or.inl ⟨by rfl, ?_⟩) (by assumption) ?_
          rotate_left
          focus (intro w hSw; (try dsimp only at hSw); go_simp; first | done | with_reducible rfl)
          simp only [Act.put, List.getElem_toArray, List.getElem_cons_zero, List.getElem_cons_succ, List.setIfInBounds_toArray, List.set_cons_zero, List.set_cons_succ]
          refine wpAnyH_take (i := 20) (v := ?_) rfl (by kernel_rfl) (by kernel_rfl) (by kernel_rfl) (fun _ _ _ h => h) (Or.inl ⟨by rfl, ?_⟩) (by assumption) ?_
          rotate_left
          focus (intro w hSw; (try dsimp only at hSw); go_simp; first | done | with_reducible rfl)
          simp only [Act.put, List.getElem_toArray, List.getElem_cons_zero, List.getElem_cons_succ, List.setIfInBounds_toArray, List.set_cons_zero, List.set_cons_succ]
          refine wpAnyH_ready (rs := [21]) (by kernel_rfl) (by simp) ?_
          refine AllReadyH.cons rfl (fun K hK => ?_) AllReadyH.nil
          go_simp
          (with_reducible refine (Ret.run cW _).mono ?_)
          rintro e vz ⟨rfl, g⟩
          have g : Below wr.heap.size wr vz := lundrew2 g
          replace u := u.trans (g.mono u.size)
          replace BB0 := BB0.trans (g.mono BB0.size)
          have dc_f : vz.cell? ⟨gf, i, none⟩ = some (.int .i64 0) := (g.cell (p := ⟨gf, i, none⟩) (World.block_lt_of_cell? _ _ c_f)).trans c_f
          have dc_e : vz.cell? ⟨ge, i, none⟩ = some (.int .i64 0) := (g.cell (p := ⟨ge, i, none⟩) (World.block_lt_of_cell? _ _ c_e)).trans c_e
          have dc_l0 : vz.cell? ⟨gl, i * 4, none⟩ = some (.string l0') := (g.cell (p := ⟨gl, i * 4, none⟩) (World.block_lt_of_cell? _ _ c_l0)).trans c_l0
          have dc_l1 : vz.cell? ⟨gl, i * 4 + 1, none⟩ = some (.string l1') := (g.cell (p := ⟨gl, i * 4 + 1, none⟩) (World.block_lt_of_cell? _ _ c_l1)).trans c_l1
          have dc_l2 : vz.cell? ⟨gl, i * 4 + 2, none⟩ = some (.string l2') := (g.cell (p := ⟨gl, i * 4 + 2, none⟩) (World.block_lt_of_cell? _ _ c_l2)).trans c_l2
          have dc_l3 : vz.cell? ⟨gl, i * 4 + 3, none⟩ = some (.string l3') := (g.cell (p := ⟨gl, i * 4 + 3, none⟩) (World.block_lt_of_cell? _ _ c_l3)).trans c_l3
          have dc_m0 : vz.cell? ⟨gm, i * 4, none⟩ = some (.string m0') := (g.cell (p := ⟨gm, i * 4, none⟩) (World.block_lt_of_cell? _ _ c_m0)).trans c_m0
          have dc_m1 : vz.cell? ⟨gm, i * 4 + 1, none⟩ = some (.string m1') := (g.cell (p := ⟨gm, i * 4 + 1, none⟩) (World.block_lt_of_cell? _ _ c_m1)).trans c_m1
          have dc_m2 : vz.cell? ⟨gm, i * 4 + 2, none⟩ = some (.string m2') := (g.cell (p := ⟨gm, i * 4 + 2, none⟩) (World.block_lt_of_cell? _ _ c_m2)).trans c_m2
          have dc_m3 : vz.cell? ⟨gm, i * 4 + 3, none⟩ = some (.string m3') := (g.cell (p := ⟨gm, i * 4 + 3, none⟩) (World.block_lt_of_cell? _ _ c_m3)).trans c_m3
          clear g
          refine hK.out _ _ ⟨dc_f, dc_e, dc_l0, dc_l1, dc_l2, dc_l3, dc_m0, dc_m1, dc_m2, dc_m3⟩ (fun hHeld => ?_)
          clear hK K
          refine wpAnyH_take (i := 22) (v := ?_) rfl (by kernel_rfl) (by kernel_rfl) (by kernel_rfl) (fun _ _ _ h => h) (Or.inl ⟨by rfl, ?_⟩) (by assumption) ?_
          rotate_left
          focus (intro w hSw; (try dsimp only at hSw); go_simp; first | done | with_reducible rfl)
          simp only [Act.put, List.getElem_toArray, List.getElem_cons_zero, List.getElem_cons_succ, List.setIfInBounds_toArray, List.set_cons_zero, List.set_cons_succ]
          refine wpAnyH_take (i := 23) (v := ?_) rfl (by kernel_rfl) (by kernel_rfl) (by kernel_rfl) (fun _ _ _ h => h) (Or.inl ⟨by rfl, ?_⟩) (by assumption) ?_
          rotate_left
          focus (intro w hSw; (try dsimp only at hSw); go_simp; first | done | with_reducible rfl)
          simp only [Act.put, List.getElem_toArray, List.getElem_cons_zero, List.getElem_cons_succ, List.setIfInBounds_toArray, List.set_cons_zero, List.set_cons_succ]
          refine wpAnyH_take (i := 24) (v := ?_) rfl (by kernel_rfl) (by kernel_rfl) (by kernel_rfl) (fun _ _ _ h => h) (Or.inl ⟨by rfl, ?_⟩) (by assumption) ?_
          rotate_left
          focus (intro w hSw; (try dsimp only at hSw); go_simp; first | done | with_reducible rfl)
          simp only [Act.put, List.getElem_toArray, List.getElem_cons_zero, List.getElem_cons_succ, List.setIfInBounds_toArray, List.set_cons_zero, List.set_cons_succ]
          refine wpAnyH_take (i := 25) (v := ?_) rfl (by kernel_rfl) (by kernel_rfl) (by kernel_rfl) (fun _ _ _ h => h) (Or.inl ⟨by rfl, ?_⟩) (by assumption) ?_
          rotate_left
          focus (intro w hSw; (try dsimp only at hSw); go_simp; first | done | with_reducible rfl)
          simp only [Act.put, List.getElem_toArray, List.getElem_cons_zero, List.getElem_cons_succ, List.setIfInBounds_toArray, List.set_cons_zero, List.set_cons_succ]
          refine wpAnyH_take (i := 26) (v := ?_) rfl (by kernel_rfl) (by kernel_rfl) (by kernel_rfl) (fun _ _ _ h => h) (Or.inl ⟨by rfl, ?_⟩) (by assumption) ?_
          rotate_left
          focus (intro w hSw; (try dsimp only at hSw); go_simp; first | done | with_reducible rfl)
          simp only [Act.put, List.getElem_toArray, List.getElem_cons_zero, List.getElem_cons_succ, List.setIfInBounds_toArray, List.set_cons_zero, List.set_cons_succ]
          refine wpAnyH_take (i := 27) (v := ?_) rfl (by kernel_rfl) (by kernel_rfl) (by kernel_rfl) (fun _ _ _ h => h) (Or.inl ⟨by rfl, ?_⟩) (by assumption) ?_
          rotate_left
          focus (intro w hSw; (try dsimp only at hSw); go_simp; first | done | with_reducible rfl)
          simp only [Act.put, List.getElem_toArray, List.getElem_cons_zero, List.getElem_cons_succ, List.setIfInBounds_toArray, List.set_cons_zero, List.set_cons_succ]
          refine wpAnyH_take (i := 28) (v := ?_) rfl (by kernel_rfl) (by kernel_rfl) (by kernel_rfl) (fun _ _ _ h => h) (Or.inl ⟨by rfl, ?_⟩) (by assumption) ?_
          rotate_left
          focus (intro w hSw; (try dsimp only at hSw); go_simp; first | done | with_reducible rfl)
          simp only [Act.put, List.getElem_toArray, List.getElem_cons_zero, List.getElem_cons_succ, List.setIfInBounds_toArray, List.set_cons_zero, List.set_cons_succ]
          refine wpAnyH_take (i := 29) (v := ?_) rfl (by kernel_rfl) (by kernel_rfl) (by kernel_rfl) (fun _ _ _ h => h) (Or.inl ⟨by rfl, ?_⟩) (by assumption) ?_
          rotate_left
          focus (intro w hSw; (try dsimp only at hSw); go_simp; first | done | with_reducible rfl)
          simp only [Act.put, List.getElem_toArray, List.getElem_cons_zero, List.getElem_cons_succ, List.setIfInBounds_toArray, List.set_cons_zero, List.set_cons_succ]
          refine wpAnyH_take (i := 30) (v := ?_) rfl (by kernel_rfl) (by kernel_rfl) (by kernel_rfl) (fun _ _ _ h => h) (Or.inl ⟨by rfl, ?_⟩) (by assumption) ?_
          rotate_left
          focus (intro w hSw; (try dsimp only at hSw); go_simp; first | done | with_reducible rfl)
          simp only [Act.put, List.getElem_toArray, List.getElem_cons_zero, List.getElem_cons_succ, List.setIfInBounds_toArray, List.set_cons_zero, List.set_cons_succ]
          refine wpAnyH_take (i := 31) (v := ?_) rfl (by kernel_rfl) (by kernel_rfl) (by kernel_rfl) (fun _ _ _ h => h) (Or.inl ⟨by rfl, ?_⟩) (by assumption) ?_
          rotate_left
          focus (intro w hSw; (try dsimp only at hSw); go_simp; first | done | with_reducible rfl)
          simp only [Act.put, List.getElem_toArray, List.getElem_cons_zero, List.getElem_cons_succ, List.setIfInBounds_toArray, List.set_cons_zero, List.set_cons_succ]
          refine wpAnyH_take (i := 32) (v := ?_) rfl (by kernel_rfl) (by kernel_rfl) (by kernel_rfl) (fun _ _ _ h => h) (Or.inl ⟨by rfl, ?_⟩) (by assumption) ?_
          rotate_left
          focus (intro w hSw; (try dsimp only at hSw); go_simp; first | done | with_reducible rfl)
          simp only [Act.put, List.getElem_toArray, List.getElem_cons_zero, List.getElem_cons_succ, List.setIfInBounds_toArray, List.set_cons_zero, List.set_cons_succ]
          refine wpAnyH_take (i := 33) (v := ?_) rfl (by kernel_rfl) (by kernel_rfl) (by kernel_rfl) (fun _ _ _ h => h) (Or.inl ⟨by rfl, ?_⟩) (by assumption) ?_
          rotate_left
          focus (intro w hSw; (try dsimp only at hSw); go_simp; first | done | with_reducible rfl)
          simp only [Act.put, List.getElem_toArray, List.getElem_cons_zero, List.getElem_cons_succ, List.setIfInBounds_toArray, List.set_cons_zero, List.set_cons_succ]
          refine wpAnyH_take (i := 34) (v := ?_) rfl (by kernel_rfl) (by kernel_rfl) (by kernel_rfl) (fun _ _ _ h => h) (Or.inl ⟨by rfl, ?_⟩) (by assumption) ?_
          rotate_left
          focus (intro w hSw; (try dsimp only at hSw); go_simp; first | done | with_reducible rfl)
          simp only [Act.put, List.getElem_toArray, List.getElem_cons_zero, List.getElem_cons_succ, List.setIfInBounds_toArray, List.set_cons_zero, List.set_cons_succ]
          refine wpAnyH_take (i := 35) (v := ?_) rfl (by kernel_rfl) (by kernel_rfl) (by kernel_rfl) (fun _ _ _ h => h) (Or.inl ⟨by rfl, ?_⟩) (by assumption) ?_
          rotate_left
          focus (intro w hSw; (try dsimp only at hSw); go_simp; first | done | with_reducible rfl)
          simp only [Act.put, List.getElem_toArray, List.getElem_cons_zero, List.getElem_cons_succ, List.setIfInBounds_toArray, List.set_cons_zero, List.set_cons_succ]
          refine wpAnyH_take (i := 36) (v := ?_) rfl (by kernel_rfl) (by kernel_rfl) (by kernel_rfl) (fun _ _ _ h => h) (Or.inl ⟨by rfl, ?_⟩) (by assumption) ?_
          rotate_left
          focus (intro w hSw; (try dsimp only at hSw); go_simp; first | done | with_reducible rfl)
          simp only [Act.put, List.getElem_toArray, List.getElem_cons_zero, List.getElem_cons_succ, List.setIfInBounds_toArray, List.set_cons_zero, List.set_cons_succ]
          refine wpAnyH_take (i := 37) (v := ?_) rfl (by kernel_rfl) (by kernel_rfl) (by kernel_rfl) (fun _ _ _ h => h) (Or.inl ⟨by rfl, ?_⟩) (by assumption) ?_
          rotate_left
          focus (intro w hSw; (try dsimp only at hSw); go_simp; first | done | with_reducible rfl)
          simp only [Act.put, List.getElem_toArray, List.getElem_cons_zero, List.getElem_cons_succ, List.setIfInBounds_toArray, List.set_cons_zero, List.set_cons_succ]
          refine wpAnyH_take (i := 38) (v := undef) rfl (by kernel_rfl) (by kernel_rfl) (by kernel_rfl) (fun _ _ _ h => h) (Or.inr ⟨by rfl, rfl⟩) (by assumption) ?_
          simp only [Act.put, List.getElem_toArray, List.getElem_cons_zero, List.getElem_cons_succ, List.setIfInBounds_toArray, List.set_cons_zero, List.set_cons_succ]
          refine wpAnyH_take (i := 39) (v := undef) rfl (by kernel_rfl) (by kernel_rfl) (by kernel_rfl) (fun _ _ _ h => h) (Or.inr ⟨by rfl, rfl⟩) (by assumption) ?_
          simp only [Act.put, List.getElem_toArray, List.getElem_cons_zero, List.getElem_cons_succ, List.setIfInBounds_toArray, List.set_cons_zero, List.set_cons_succ]
          refine wpAnyH_take (i := 40) (v := ?_) rfl (by kernel_rfl) (by kernel_rfl) (by kernel_rfl) (fun _ _ _ h => h) (Or.inl ⟨by rfl, ?_⟩) (by assumption) ?_
          rotate_left
          focus (intro w hSw; (try dsimp only at hSw); go_simp; first | done | with_reducible rfl)
          simp only [Act.put, List.getElem_toArray, List.getElem_cons_zero, List.getElem_cons_succ, List.setIfInBounds_toArray, List.set_cons_zero, List.set_cons_succ]
          refine wpAnyH_take (i := 41) (v := ?_) rfl (by kernel_rfl) (by kernel_rfl) (by kernel_rfl) (fun _ _ _ h => h) (Or.inl ⟨by rfl, ?_⟩) (by assumption) ?_
          rotate_left
          focus (intro w hSw; (try dsimp only at hSw); go_simp; first | done | with_reducible rfl)
          simp only [Act.put, List.getElem_toArray, List.getElem_cons_zero, List.getElem_cons_succ, List.setIfInBounds_toArray, List.set_cons_zero, List.set_cons_succ]
          refine wpAnyH_done (by kernel_rfl) ?_ _
          clear c_f c_e c_l0 c_l1 c_l2 c_l3 c_m0 c_m1 c_m2 c_m3 dc_f dc_e dc_l0 dc_l1 dc_l2 dc_l3 dc_m0 dc_m1 dc_m2 dc_m3 n_l n_m n_e n_f
          go_wp2_with fail
          go_roundw
          case rel => exact ⟨i + 1, by omega, by first | rfl | go_num | simp, (by first | exact ⟨BB0⟩ | exact ⟨ldrew BB0⟩)⟩
          case measure => simp [intOf]; omega
        · subst h5
          have he : E 5 ≠ 0 := hE0
          clear hE0 hG
          generalize E 5 = ei at *
          have hd1 : decide (ei = 0) = false := decide_eq_false he
          have hd2 : decide (¬ ei = 0) = true := decide_eq_true he
          have hd3 : (!decide (ei = 0)) = true := by rw [hd1]; rfl
          have hd4 : (ei == 0) = false := beq_eq_false_iff_ne.2 he
          have hd5 : (ei != 0) = true := bne_iff_ne.2 he
          go_upto_region 16 with fail
          refine wp_region_held_drew (S := fun X => X.cell? ⟨gf, 5, none⟩ = some (.int .i64 0) ∧ X.cell? ⟨ge, 5, none⟩ = some (.int .i64 ei)) (by kernel_rfl) (by exact ⟨c_f, c_e⟩) (fun hHeld => ?_)
          refine wpAnyH_take (i := 0) (v := ?_) rfl (by kernel_rfl) (by kernel_rfl) (by kernel_rfl) (fun _ _ _ h => h) (Or.inl ⟨by rfl, ?_⟩) (by assumption) ?_
          rotate_left
          focus (intro w hSw; (try dsimp only at hSw); go_simp; first | done | with_reducible rfl)
          refine wpAnyH_take (i := 1) (v := ?_) rfl (by kernel_rfl) (by kernel_rfl) (by kernel_rfl) (fun _ _ _ h => h) (Or.inl ⟨by rfl, ?_⟩) (by assumption) ?_
          rotate_left
          focus (intro w hSw; (try dsimp only at hSw); go_simp; first | done | with_reducible rfl)
          simp only [Act.put, List.getElem_toArray, List.getElem_cons_zero, List.getElem_cons_succ, List.setIfInBounds_toArray, List.set_cons_zero, List.set_cons_succ]
          refine wpAnyH_take (i := 2) (v := ?_) rfl (by kernel_rfl) (by kernel_rfl) (by kernel_rfl) (fun _ _ _ h => h) (Or.inl ⟨by rfl, ?_⟩) (by assumption) ?_
          rotate_left
          focus (intro w hSw; (try dsimp only at hSw); go_simp; first | done | with_reducible rfl)
          simp only [Act.put, List.getElem_toArray, List.getElem_cons_zero, List.getElem_cons_succ, List.setIfInBounds_toArray, List.set_cons_zero, List.set_cons_succ]
          refine wpAnyH_take (i := 3) (v := ?_) rfl (by kernel_rfl) (by kernel_rfl) (by kernel_rfl) (fun _ _ _ h => h) (Or.inl ⟨by rfl, ?_⟩) (by assumption) ?_
          rotate_left
          focus (intro w hSw; (try dsimp only at hSw); go_simp; first | done | with_reducible rfl)
          simp only [Act.put, List.getElem_toArray, List.getElem_cons_zero, List.getElem_cons_succ, List.setIfInBounds_toArray, List.set_cons_zero, List.set_cons_succ]
          refine wpAnyH_take (i := 4) (v := ?_) rfl (by kernel_rfl) (by kernel_rfl) (by kernel_rfl) (fun _ _ _ h => h) (Or.inl ⟨by rfl, ?_⟩) (by assumption) ?_
          rotate_left
          focus (intro w hSw; (try dsimp only at hSw); go_simp; first | done | with_reducible rfl)
          simp only [Act.put, List.getElem_toArray, List.getElem_cons_zero, List.getElem_cons_succ, List.setIfInBounds_toArray, List.set_cons_zero, List.set_cons_succ]
          refine wpAnyH_take (i := 5) (v := ?_) rfl (by kernel_rfl) (by kernel_rfl) (by kernel_rfl) (fun _ _ _ h => h) (Or.inl ⟨by rfl, ?_⟩) (by assumption) ?_
          rotate_left
          focus (intro w hSw; (try dsimp only at hSw); go_simp; first | done | with_reducible rfl)
          simp only [Act.put, List.getElem_toArray, List.getElem_cons_zero, List.getElem_cons_succ, List.setIfInBounds_toArray, List.set_cons_zero, List.set_cons_succ]
          refine wpAnyH_take (i := 6) (v := ?_) rfl (by kernel_rfl) (by kernel_rfl) (by kernel_rfl) (fun _ _ _ h => h) (Or.inl ⟨by rfl, ?_⟩) (by assumption) ?_
          rotate_left
          focus (intro w hSw; (try dsimp only at hSw); go_simp; first | done | with_reducible rfl)
          simp only [Act.put, List.getElem_toArray, List.getElem_cons_zero, List.getElem_cons_succ, List.setIfInBounds_toArray, List.set_cons_zero, List.set_cons_succ]
          refine wpAnyH_take (i := 7) (v := ?_) rfl (by kernel_rfl) (by kernel_rfl) (by kernel_rfl) (fun _ _ _ h => h) (Or.inl ⟨by rfl, ?_⟩) (by assumption) ?_
          rotate_left
          focus (intro w hSw; (try dsimp only at hSw); go_simp; first | done | with_reducible rfl)
          simp only [Act.put, List.getElem_toArray, List.getElem_cons_zero, List.getElem_cons_succ, List.setIfInBounds_toArray, List.set_cons_zero, List.set_cons_succ]
          refine wpAnyH_take (i := 8) (v := ?_) rfl (by kernel_rfl) (by kernel_rfl) (by kernel_rfl) (fun _ _ _ h => h) (Or.inl ⟨by rfl, ?_⟩) (by assumption) ?_
          rotate_left
          focus (intro w hSw; (try dsimp only at hSw); go_simp; first | done | with_reducible rfl)
          simp only [Act.put, List.getElem_toArray, List.getElem_cons_zero, List.getElem_cons_succ, List.setIfInBounds_toArray, List.set_cons_zero, List.set_cons_succ]
          refine wpAnyH_take (i := 9) (v := ?_) rfl (by kernel_rfl) (by kernel_rfl) (by kernel_rfl) (fun _ _ _ h => h) (Or.inl ⟨by rfl, ?_⟩) (by assumption) ?_
          rotate_left
          focus (intro w hSw; (try dsimp only at hSw); go_simp; first | done | with_reducible rfl)
          simp only [Act.put, List.getElem_toArray, List.getElem_cons_zero, List.getElem_cons_succ, List.setIfInBounds_toArray, List.set_cons_zero, List.set_cons_succ]
          refine wpAnyH_take (i := 10) (v := ?_) rfl (by kernel_rfl) (by kernel_rfl) (by kernel_rfl) (fun _ _ _ h => h) (Or.inl ⟨by rfl, ?_⟩) (by assumption) ?_
          rotate_left
          focus (intro w hSw; (try dsimp only at hSw); go_simp; first | done | with_reducible rfl)
          simp only [Act.put, List.getElem_toArray, List.getElem_cons_zero, List.getElem_cons_succ, List.setIfInBounds_toArray, List.set_cons_zero, List.set_cons_succ]
          refine wpAnyH_take (i := 11) (v := ?_) rfl (by kernel_rfl) (by kernel_rfl) (by kernel_rfl) (fun _ _ _ h => h) (Or.inl ⟨by rfl, ?_⟩) (by assumption) ?_
          rotate_left
          focus (intro w hSw; (try dsimp only at hSw); go_simp; first | done | with_reducible rfl)
          simp only [Act.put, List.getElem_toArray, List.getElem_cons_zero, List.getElem_cons_succ, List.setIfInBounds_toArray, List.set_cons_zero, List.set_cons_succ]
          refine wpAnyH_take (i := 12) (v := ?_) rfl (by kernel_rfl) (by kernel_rfl) (by kernel_rfl) (fun _ _ _ h => h) (Or.inl ⟨by rfl, ?_⟩) (by assumption) ?_
          rotate_left
          focus (intro w hSw; (try dsimp only at hSw); go_simp; first | done | with_reducible rfl)
          simp only [Act.put, List.getElem_toArray, List.getElem_cons_zero, List.getElem_cons_succ, List.setIfInBounds_toArray, List.set_cons_zero, List.set_cons_succ]
          refine wpAnyH_take (i := 13) (v := undef) rfl (by kernel_rfl) (by kernel_rfl) (by kernel_rfl) (fun _ _ _ h => h) (Or.inr ⟨by rfl, rfl⟩) (by assumption) ?_
          simp only [Act.put, List.getElem_toArray, List.getElem_cons_zero, List.getElem_cons_succ, List.setIfInBounds_toArray, List.set_cons_zero, List.set_cons_succ]
          refine wpAnyH_take (i := 14) (v := undef) rfl (by kernel_rfl) (by kernel_rfl) (by kernel_rfl) (fun _ _ _ h => h) (Or.inr ⟨by rfl, rfl⟩) (by assumption) ?_
          simp only [Act.put, List.getElem_toArray, List.getElem_cons_zero, List.getElem_cons_succ, List.setIfInBounds_toArray, List.set_cons_zero, List.set_cons_succ]
          refine wpAnyH_take (i := 15) (v := undef) rfl (by kernel_rfl) (by kernel_rfl) (by kernel_rfl) (fun _ _ _ h => h) (Or.inr ⟨by rfl, rfl⟩) (by assumption) ?_
          simp only [Act.put, List.getElem_toArray, List.getElem_cons_zero, List.getElem_cons_succ, List.setIfInBounds_toArray, List.set_cons_zero, List.set_cons_succ]
          refine wpAnyH_take (i := 16) (v := undef) rfl (by kernel_rfl) (by kernel_rfl) (by kernel_rfl) (fun _ _ _ h => h) (Or.inr ⟨by rfl, rfl⟩) (by assumption) ?_
          simp only [Act.put, List.getElem_toArray, List.getElem_cons_zero, List.getElem_cons_succ, List.setIfInBounds_toArray, List.set_cons_zero, List.set_cons_succ]
          refine wpAnyH_take (i := 17) (v := undef) rfl (by kernel_rfl) (by kernel_rfl) (by kernel_rfl) (fun _ _ _ h => h) (Or.inr ⟨by rfl, rfl⟩) (by assumption) ?_
          simp only [Act.put, List.getElem_toArray, List.getElem_cons_zero, List.getElem_cons_succ, List.setIfInBounds_toArray, List.set_cons_zero, List.set_cons_succ]
          refine wpAnyH_take (i := 18) (v := undef) rfl (by kernel_rfl) (by kernel_rfl) (by kernel_rfl) (fun _ _ _ h => h) (Or.inr ⟨by rfl, rfl⟩) (by assumption) ?_
          simp only [Act.put, List.getElem_toArray, List.getElem_cons_zero, List.getElem_cons_succ, List.setIfInBounds_toArray, List.set_cons_zero, List.set_cons_succ]
          refine wpAnyH_take (i := 19) (v := undef) rfl (by kernel_rfl) (by kernel_rfl) (by kernel_rfl) (fun _ _ _ h => h) (Or.inr ⟨by rfl, rfl⟩) (by assumption) ?_
          simp only [Act.put, List.getElem_toArray, List.getElem_cons_zero, List.getElem_cons_succ, List.setIfInBounds_toArray, List.set_cons_zero, List.set_cons_succ]
          refine wpAnyH_take (i := 20) (v := undef) rfl (by kernel_rfl) (by kernel_rfl) (by kernel_rfl) (fun _ _ _ h => h) (Or.inr ⟨by rfl, rfl⟩) (by assumption) ?_
          simp only [Act.put, List.getElem_toArray, List.getElem_cons_zero, List.getElem_cons_succ, List.setIfInBounds_toArray, List.set_cons_zero, List.set_cons_succ]
          refine wpAnyH_take (i := 21) (v := undef) rfl (by kernel_rfl) (by kernel_rfl) (by kernel_rfl) (fun _ _ _ h => h) (Or.inr ⟨by rfl, rfl⟩) (by assumption) ?_
          simp only [Act.put, List.getElem_toArray, List.getElem_cons_zero, List.getElem_cons_succ, List.setIfInBounds_toArray, List.set_cons_zero, List.set_cons_succ]
          refine wpAnyH_take (i := 22) (v := undef) rfl (by kernel_rfl) (by kernel_rfl) (by kernel_rfl) (fun _ _ _ h => h) (Or.inr ⟨by rfl, rfl⟩) (by assumption) ?_
          simp only [Act.put, List.getElem_toArray, List.getElem_cons_zero, List.getElem_cons_succ, List.setIfInBounds_toArray, List.set_cons_zero, List.set_cons_succ]
          refine wpAnyH_take (i := 23) (v := ?_) rfl (by kernel_rfl) (by kernel_rfl) (by kernel_rfl) (fun _ _ _ h => h) (Or.inl ⟨by rfl, ?_⟩) (by assumption) ?_
          rotate_left
          focus (intro w hSw; (try dsimp only at hSw); go_simp; first | done | with_reducible rfl)
          simp only [Act.put, List.getElem_toArray, List.getElem_cons_zero, List.getElem_cons_succ, List.setIfInBounds_toArray, List.set_cons_zero, List.set_cons_succ]
          refine wpAnyH_take (i := 24) (v := ?_) rfl (by kernel_rfl) (by kernel_rfl) (by kernel_rfl) (fun _ _ _ h => h) (Or.inl ⟨by rfl, ?_⟩) (by assumption) ?_
          rotate_left
          focus (intro w hSw; (try dsimp only at hSw); go_simp; first | done | with_reducible rfl)
          simp only [Act.put, List.getElem_toArray, List.getElem_cons_zero, List.getElem_cons_succ, List.setIfInBounds_toArray, List.set_cons_zero, List.set_cons_succ]
          refine wpAnyH_take (i := 25) (v := ?_) rfl (by kernel_rfl) (by kernel_rfl) (by kernel_rfl) (fun _ _ _ h => h) (Or.inl ⟨by rfl, ?_⟩) (by assumption) ?_
          rotate_left
          focus (intro w hSw; (try dsimp only at hSw); go_simp; first | done | with_reducible rfl)
          simp only [Act.put, List.getElem_toArray, List.getElem_cons_zero, List.getElem_cons_succ, List.setIfInBounds_toArray, List.set_cons_zero, List.set_cons_succ]
          refine wpAnyH_take (i := 26) (v := ?_) rfl (by kernel_rfl) (by kernel_rfl) (by kernel_rfl) (fun _ _ _ h => h) (Or.inl ⟨by rfl, ?_⟩) (by assumption) ?_
          rotate_left
          focus (intro w hSw; (try dsimp only at hSw); go_simp; first | done | with_reducible rfl)
          simp only [Act.put, List.getElem_toArray, List.getElem_cons_zero, List.getElem_cons_succ, List.setIfInBounds_toArray, List.set_cons_zero, List.set_cons_succ]
          refine wpAnyH_take (i := 27) (v := ?_) rfl (by kernel_rfl) (by kernel_rfl) (by kernel_rfl) (fun _ _ _ h => h) (Or.inl ⟨by rfl, ?_⟩) (by assumption) ?_
          rotate_left
          focus (intro w hSw; (try dsimp only at hSw); go_simp; first | done | with_reducible rfl)
          simp only [Act.put, List.getElem_toArray, List.getElem_cons_zero, List.getElem_cons_succ, List.setIfInBounds_toArray, List.set_cons_zero, List.set_cons_succ]
          refine wpAnyH_take (i := 28) (v := ?_) rfl (by kernel_rfl) (by kernel_rfl) (by kernel_rfl) (fun _ _ _ h => h) (Or.inl ⟨by rfl, ?_⟩) (by assumption) ?_
          rotate_left
          focus (intro w hSw; (try dsimp only at hSw); go_simp; first | done | with_reducible rfl)
          simp only [Act.put, List.getElem_toArray, List.getElem_cons_zero, List.getElem_cons_succ, List.setIfInBounds_toArray, List.set_cons_zero, List.set_cons_succ]
          refine wpAnyH_take (i := 29) (v := ?_) rfl (by kernel_rfl) (by kernel_rfl) (by kernel_rfl) (fun _ _ _ h => h) (Or.inl ⟨by rfl, ?_⟩) (by assumption) ?_
          rotate_left
          focus (intro w hSw; (try dsimp only at hSw); go_simp; first | done | with_reducible rfl)
          simp only [Act.put, List.getElem_toArray, List.getElem_cons_zero, List.getElem_cons_succ, List.setIfInBounds_toArray, List.set_cons_zero, List.set_cons_succ]
          refine wpAnyH_take (i := 30) (v := ?_) rfl (by kernel_rfl) (by kernel_rfl) (by kernel_rfl) (fun _ _ _ h => h) (Or.inl ⟨by rfl, ?_⟩) (by assumption) ?_
          rotate_left
          focus (intro w hSw; (try dsimp only at hSw); go_simp; first | done | with_reducible rfl)
          simp only [Act.put, List.getElem_toArray, List.getElem_cons_zero, List.getElem_cons_succ, List.setIfInBounds_toArray, List.set_cons_zero, List.set_cons_succ]
          refine wpAnyH_take (i := 31) (v := ?_) rfl (by kernel_rfl) (by kernel_rfl) (by kernel_rfl) (fun _ _ _ h => h) (Or.inl ⟨by rfl, ?_⟩) (by assumption) ?_
          rotate_left
          focus (intro w hSw; (try dsimp only at hSw); go_simp; first | done | with_reducible rfl)
          simp only [Act.put, List.getElem_toArray, List.getElem_cons_zero, List.getElem_cons_succ, List.setIfInBounds_toArray, List.set_cons_zero, List.set_cons_succ]
          refine wpAnyH_take (i := 32) (v := ?_) rfl (by kernel_rfl) (by kernel_rfl) (by kernel_rfl) (fun _ _ _ h => h) (Or.inl ⟨by rfl, ?_⟩) (by assumption) ?_
          rotate_left
          focus (intro w hSw; (try dsimp only at hSw); go_simp; first | done | with_reducible rfl)
          simp only [Act.put, List.getElem_toArray, List.getElem_cons_zero, List.getElem_cons_succ, List.setIfInBounds_toArray, List.set_cons_zero, List.set_cons_succ]
          refine wpAnyH_take (i := 33) (v := ?_) rfl (by kernel_rfl) (by kernel_rfl) (by kernel_rfl) (fun _ _ _ h => h) (Or.inl ⟨by rfl, ?_⟩) (by assumption) ?_
          rotate_left
          focus (intro w hSw; (try dsimp only at hSw); go_simp; first | done | with_reducible rfl)
          simp only [Act.put, List.getElem_toArray, List.getElem_cons_zero, List.getElem_cons_succ, List.setIfInBounds_toArray, List.set_cons_zero, List.set_cons_succ]
          refine wpAnyH_take (i := 34) (v := ?_) rfl (by kernel_rfl) (by kernel_rfl) (by kernel_rfl) (fun _ _ _ h => h) (Or.inl ⟨by rfl, ?_⟩) (by assumption) ?_
          rotate_left
          focus (intro w hSw; (try dsimp only at hSw); go_simp; first | done | with_reducible rfl)
          simp only [Act.put, List.getElem_toArray, List.getElem_cons_zero, List.getElem_cons_succ, List.setIfInBounds_toArray, List.set_cons_zero, List.set_cons_succ]
          refine wpAnyH_take (i := 35) (v := ?_) rfl (by kernel_rfl) (by kernel_rfl) (by kernel_rfl) (fun _ _ _ h => h) (Or.inl ⟨by rfl, ?_⟩) (by assumption) ?_
          rotate_left
          focus (intro w hSw; (try dsimp only at hSw); go_simp; first | done | with_reducible rfl)
          simp only [Act.put, List.getElem_toArray, List.getElem_cons_zero, List.getElem_cons_succ, List.setIfInBounds_toArray, List.set_cons_zero, List.set_cons_succ]
          refine wpAnyH_take (i := 36) (v := ?_) rfl (by kernel_rfl) (by kernel_rfl) (by kernel_rfl) (fun _ _ _ h => h) (Or.inl ⟨by rfl, ?_⟩) (by assumption) ?_
          rotate_left
          focus (intro w hSw; (try dsimp only at hSw); go_simp; first | done | with_reducible rfl)
          simp only [Act.put, List.getElem_toArray, List.getElem_cons_zero, List.getElem_cons_succ, List.setIfInBounds_toArray, List.set_cons_zero, List.set_cons_succ]
          refine wpAnyH_take (i := 37) (v := ?_) rfl (by kernel_rfl) (by kernel_rfl) (by kernel_rfl) (fun _ _ _ h => h) (Or.inl ⟨by rfl, ?_⟩) (by assumption) ?_
          rotate_left
          focus (intro w hSw; (try dsimp only at hSw); go_simp; first | done | with_reducible rfl)
          simp only [Act.put, List.getElem_toArray, List.getElem_cons_zero, List.getElem_cons_succ, List.setIfInBounds_toArray, List.set_cons_zero, List.set_cons_succ]
          refine wpAnyH_take (i := 38) (v := ?_) rfl (by kernel_rfl) (by kernel_rfl) (by kernel_rfl) (fun _ _ _ h => h) (Or.inl ⟨by rfl, ?_⟩) (by assumption) ?_
          rotate_left
          focus (intro w hSw; (try dsimp only at hSw); go_simp; first | done | with_reducible rfl)
          simp only [Act.put, List.getElem_toArray, List.getElem_cons_zero, List.getElem_cons_succ, List.setIfInBounds_toArray, List.set_cons_zero, List.set_cons_succ]
          refine wpAnyH_take (i := 39) (v := ?_) rfl (by kernel_rfl) (by kernel_rfl) (by kernel_rfl) (fun _ _ _ h => h) (Or.inl ⟨by rfl, ?_⟩) (by assumption) ?_
          rotate_left
          focus (intro w hSw; (try dsimp only at hSw); go_simp; first | done | with_reducible rfl)
          simp only [Act.put, List.getElem_toArray, List.getElem_cons_zero, List.getElem_cons_succ, List.setIfInBounds_toArray, List.set_cons_zero, List.set_cons_succ]
          refine wpAnyH_take (i := 40) (v := ?_) rfl (by kernel_rfl) (by kernel_rfl) (by kernel_rfl) (fun _ _ _ h => h) (Or.inl ⟨by rfl, ?_⟩) (by assumption) ?_
          rotate_left
          focus (intro w hSw; (try dsimp only at hSw); go_simp; first | done | with_reducible rfl)
          simp only [Act.put, List.getElem_toArray, List.getElem_cons_zero, List.getElem_cons_succ, List.setIfInBounds_toArray, List.set_cons_zero, List.set_cons_succ]
          refine wpAnyH_take (i := 41) (v := ?_) rfl (by kernel_rfl) (by kernel_rfl) (by kernel_rfl) (fun _ _ _ h => h) (Or.inl ⟨by rfl, ?_⟩) (by assumption) ?_
          rotate_left
          focus (intro w hSw; (try dsimp only at hSw); go_simp; first | done | with_reducible rfl)
          simp only [Act.put, List.getElem_toArray, List.getElem_cons_zero, List.getElem_cons_succ, List.setIfInBounds_toArray, List.set_cons_zero, List.set_cons_succ]
          refine wpAnyH_done (by kernel_rfl) ?_ _
          clear c_f c_e c_l0 c_l1 c_l2 c_l3 c_m0 c_m1 c_m2 c_m3 n_l n_m n_e n_f
          go_wp2_with fail
          go_roundw
          case rel => exact ⟨5 + 1, by omega, by first | rfl | go_num | simp, (by first | exact ⟨BB0⟩ | exact ⟨ldrew BB0⟩)⟩
          case measure => simp [intOf]
      · generalize G i = gi at *
        have hd1 : decide (gi = 0) = false := decide_eq_false hG
        have hd4 : (gi == 0) = false := beq_eq_false_iff_ne.2 hG
        go_upto_region 16 with fail
        refine wp_region_held_drew (S := fun X => X.cell? ⟨gf, i, none⟩ = some (.int .i64 gi)) (by kernel_rfl) (by exact c_f) (fun hHeld => ?_)
        refine wpAnyH_take (i := 0) (v := ?_) rfl (by kernel_rfl) (by kernel_rfl) (by kernel_rfl) (fun _ _ _ h => h) (Or.inl ⟨by rfl, ?_⟩) (by assumption) ?_
        rotate_left
        focus (intro w hSw; (try dsimp only at hSw); go_simp; first | done | with_reducible rfl)
        refine wpAnyH_take (i := 1) (v := ?_) rfl (by kernel_rfl) (by kernel_rfl) (by kernel_rfl) (fun _ _ _ h => h) (Or.inl ⟨by rfl, ?_⟩) (by assumption) ?_
        rotate_left
        focus (intro w hSw; (try dsimp only at hSw); go_simp; first | done | with_reducible rfl)
        simp only [Act.put, List.getElem_toArray, List.getElem_cons_zero, List.getElem_cons_succ, List.setIfInBounds_toArray, List.set_cons_zero, List.set_cons_succ]
        refine wpAnyH_take (i := 2) (v := ?_) rfl (by kernel_rfl) (by kernel_rfl) (by kernel_rfl) (fun _ _ _ h => h) (Or.inl ⟨by rfl, ?_⟩) (by assumption) ?_
        rotate_left
        focus (intro w hSw; (try dsimp only at hSw); go_simp; first | done | with_reducible rfl)
        simp only [Act.put, List.getElem_toArray, List.getElem_cons_zero, List.getElem_cons_succ, List.setIfInBounds_toArray, List.set_cons_zero, List.set_cons_succ]
        refine wpAnyH_take (i := 3) (v := ?_) rfl (by kernel_rfl) (by kernel_rfl) (by kernel_rfl) (fun _ _ _ h => h) (Or.inl ⟨by rfl, ?_⟩) (by assumption) ?_
        rotate_left
        focus (intro w hSw; (try dsimp only at hSw); go_simp; first | done | with_reducible rfl)
        simp only [Act.put, List.getElem_toArray, List.getElem_cons_zero, List.getElem_cons_succ, List.setIfInBounds_toArray, List.set_cons_zero, List.set_cons_succ]
        refine wpAnyH_take (i := 4) (v := ?_) rfl (by kernel_rfl) (by kernel_rfl) (by kernel_rfl) (fun _ _ _ h => h) (Or.inl ⟨by rfl, ?_⟩) (by assumption) ?_
        rotate_left
        focus (intro w hSw; (try dsimp only at hSw); go_simp; first | done | with_reducible rfl)
        simp only [Act.put, List.getElem_toArray, List.getElem_cons_zero, List.getElem_cons_succ, List.setIfInBounds_toArray, List.set_cons_zero, List.set_cons_succ]
        refine wpAnyH_take (i := 5) (v := ?_) rfl (by kernel_rfl) (by kernel_rfl) (by kernel_rfl) (fun _ _ _ h => h) (Or.inl ⟨by rfl, ?_⟩) (by assumption) ?_
        rotate_left
        focus (intro w hSw; (try dsimp only at hSw); go_simp; first | done | with_reducible rfl)
        simp only [Act.put, List.getElem_toArray, List.getElem_cons_zero, List.getElem_cons_succ, List.setIfInBounds_toArray, List.set_cons_zero, List.set_cons_succ]
        refine wpAnyH_take (i := 6) (v := undef) rfl (by kernel_rfl) (by kernel_rfl) (by kernel_rfl) (fun _ _ _ h => h) (Or.inr ⟨by rfl, rfl⟩) (by assumption) ?_
        simp only [Act.put, List.getElem_toArray, List.getElem_cons_zero, List.getElem_cons_succ, List.setIfInBounds_toArray, List.set_cons_zero, List.set_cons_succ]
        refine wpAnyH_take (i := 7) (v := undef) rfl (by kernel_rfl) (by kernel_rfl) (by kernel_rfl) (fun _ _ _ h => h) (Or.inr ⟨by rfl, rfl⟩) (by assumption) ?_
        simp only [Act.put, List.getElem_toArray, List.getElem_cons_zero, List.getElem_cons_succ, List.setIfInBounds_toArray, List.set_cons_zero, List.set_cons_succ]
        refine wpAnyH_take (i := 8) (v := undef) rfl (by kernel_rfl) (by kernel_rfl) (by kernel_rfl) (fun _ _ _ h => h) (Or.inr ⟨by rfl, rfl⟩) (by assumption) ?_
        simp only [Act.put, List.getElem_toArray, List.getElem_cons_zero, List.getElem_cons_succ, List.setIfInBounds_toArray, List.set_cons_zero, List.set_cons_succ]
        refine wpAnyH_take (i := 9) (v := undef) rfl (by kernel_rfl) (by kernel_rfl) (by kernel_rfl) (fun _ _ _ h => h) (Or.inr ⟨by rfl, rfl⟩) (by assumption) ?_
        simp only [Act.put, List.getElem_toArray, List.getElem_cons_zero, List.getElem_cons_succ, List.setIfInBounds_toArray, List.set_cons_zero, List.set_cons_succ]
        refine wpAnyH_take (i := 10) (v := undef) rfl (by kernel_rfl) (by kernel_rfl) (by kernel_rfl) (fun _ _ _ h => h) (Or.inr ⟨by rfl, rfl⟩) (by assumption) ?_
        simp only [Act.put, List.getElem_toArray, List.getElem_cons_zero, List.getElem_cons_succ, List.setIfInBounds_toArray, List.set_cons_zero, List.set_cons_succ]
        refine wpAnyH_take (i := 11) (v := ?_) rfl (by kernel_rfl) (by kernel_rfl) (by kernel_rfl) (fun _ _ _ h => h) (Or.inl ⟨by rfl, ?_⟩) (by assumption) ?_
        rotate_left
        focus (intro w hSw; (try dsimp only at hSw); go_simp; first | done | with_reducible rfl)
        simp only [Act.put, List.getElem_toArray, List.getElem_cons_zero, List.getElem_cons_succ, List.setIfInBounds_toArray, List.set_cons_zero, List.set_cons_succ]
        refine wpAnyH_take (i := 12) (v := ?_) rfl (by kernel_rfl) (by kernel_rfl) (by kernel_rfl) (fun _ _ _ h => h) (Or.inl ⟨by rfl, ?_⟩) (by assumption) ?_
        rotate_left
        focus (intro w hSw; (try dsimp only at hSw); go_simp; first | done | with_reducible rfl)
        simp only [Act.put, List.getElem_toArray, List.getElem_cons_zero, List.getElem_cons_succ, List.setIfInBounds_toArray, List.set_cons_zero, List.set_cons_succ]
        refine wpAnyH_take (i := 13) (v := undef) rfl (by kernel_rfl) (by kernel_rfl) (by kernel_rfl) (fun _ _ _ h => h) (Or.inr ⟨by rfl, rfl⟩) (by assumption) ?_
        simp only [Act.put, List.getElem_toArray, List.getElem_cons_zero, List.getElem_cons_succ, List.setIfInBounds_toArray, List.set_cons_zero, List.set_cons_succ]
        refine wpAnyH_take (i := 14) (v := undef) rfl (by kernel_rfl) (by kernel_rfl) (by kernel_rfl) (fun _ _ _ h => h) (Or.inr ⟨by rfl, rfl⟩) (by assumption) ?_
        simp only [Act.put, List.getElem_toArray, List.getElem_cons_zero, List.getElem_cons_succ, List.setIfInBounds_toArray, List.set_cons_zero, List.set_cons_succ]
        refine wpAnyH_take (i := 15) (v := undef) rfl (by kernel_rfl) (by kernel_rfl) (by kernel_rfl) (fun _ _ _ h => h) (Or.inr ⟨by rfl, rfl⟩) (by assumption) ?_
        simp only [Act.put, List.getElem_toArray, List.getElem_cons_zero, List.getElem_cons_succ, List.setIfInBounds_toArray, List.set_cons_zero, List.set_cons_succ]
        refine wpAnyH_take (i := 16) (v := undef) rfl (by kernel_rfl) (by kernel_rfl) (by kernel_rfl) (fun _ _ _ h => h) (Or.inr ⟨by rfl, rfl⟩) (by assumption) ?_
        simp only [Act.put, List.getElem_toArray, List.getElem_cons_zero, List.getElem_cons_succ, List.setIfInBounds_toArray, List.set_cons_zero, List.set_cons_succ]
        refine wpAnyH_take (i := 17) (v := undef) rfl (by kernel_rfl) (by kernel_rfl) (by kernel_rfl) (fun _ _ _ h => h) (Or.inr ⟨by rfl, rfl⟩) (by assumption) ?_
        simp only [Act.put, List.getElem_toArray, List.getElem_cons_zero, List.getElem_cons_succ, List.setIfInBounds_toArray, List.set_cons_zero, List.set_cons_succ]
        refine wpAnyH_take (i := 18) (v := undef) rfl (by kernel_rfl) (by kernel_rfl) (by kernel_rfl) (fun _ _ _ h => h) (Or.inr ⟨by rfl, rfl⟩) (by assumption) ?_
        simp only [Act.put, List.getElem_toArray, List.getElem_cons_zero, List.getElem_cons_succ, List.setIfInBounds_toArray, List.set_cons_zero, List.set_cons_succ]
        refine wpAnyH_take (i := 19) (v := undef) rfl (by kernel_rfl) (by kernel_rfl) (by kernel_rfl) (fun _ _ _ h => h) (Or.inr ⟨by rfl, rfl⟩) (by assumption) ?_
        simp only [Act.put, List.getElem_toArray, List.getElem_cons_zero, List.getElem_cons_succ, List.setIfInBounds_toArray, List.set_cons_zero, List.set_cons_succ]
        refine wpAnyH_take (i := 20) (v := undef) rfl (by kernel_rfl) (by kernel_rfl) (by kernel_rfl) (fun _ _ _ h => h) (Or.inr ⟨by rfl, rfl⟩) (by assumption) ?_
        simp only [Act.put, List.getElem_toArray, List.getElem_cons_zero, List.getElem_cons_succ, List.setIfInBounds_toArray, List.set_cons_zero, List.set_cons_succ]
        refine wpAnyH_take (i := 21) (v := undef) rfl (by kernel_rfl) (by kernel_rfl) (by kernel_rfl) (fun _ _ _ h => h) (Or.inr ⟨by rfl, rfl⟩) (by assumption) ?_
        simp only [Act.put, List.getElem_toArray, List.getElem_cons_zero, List.getElem_cons_succ, List.setIfInBounds_toArray, List.set_cons_zero, List.set_cons_succ]
        refine wpAnyH_take (i := 22) (v := undef) rfl (by kernel_rfl) (by kernel_rfl) (by kernel_rfl) (fun _ _ _ h => h) (Or.inr ⟨by rfl, rfl⟩) (by assumption) ?_
        simp only [Act.put, List.getElem_toArray, List.getElem_cons_zero, List.getElem_cons_succ, List.setIfInBounds_toArray, List.set_cons_zero, List.set_cons_succ]
        refine wpAnyH_take (i := 23) (v := ?_) rfl (by kernel_rfl) (by kernel_rfl) (by kernel_rfl) (fun _ _ _ h => h) (Or.inl ⟨by rfl, ?_⟩) (by assumption) ?_
        rotate_left
        focus (intro w hSw; (try dsimp only at hSw); go_simp; first | done | with_reducible rfl)
        simp only [Act.put, List.getElem_toArray, List.getElem_cons_zero, List.getElem_cons_succ, List.setIfInBounds_toArray, List.set_cons_zero, List.set_cons_succ]
        refine wpAnyH_take (i := 24) (v := ?_) rfl (by kernel_rfl) (by kernel_rfl) (by kernel_rfl) (fun _ _ _ h => h) (Or.inl ⟨by rfl, ?_⟩) (by assumption) ?_
        rotate_left
        focus (intro w hSw; (try dsimp only at hSw); go_simp; first | done | with_reducible rfl)
        simp only [Act.put, List.getElem_toArray, List.getElem_cons_zero, List.getElem_cons_succ, List.setIfInBounds_toArray, List.set_cons_zero, List.set_cons_succ]
        refine wpAnyH_take (i := 25) (v := ?_) rfl (by kernel_rfl) (by kernel_rfl) (by kernel_rfl) (fun _ _ _ h => h) (Or.inl ⟨by rfl, ?_⟩) (by assumption) ?_
        rotate_left
        focus (intro w hSw; (try dsimp only at hSw); go_simp; first | done | with_reducible rfl)
        simp only [Act.put, List.getElem_toArray, List.getElem_cons_zero, List.getElem_cons_succ, List.setIfInBounds_toArray, List.set_cons_zero, List.set_cons_succ]
        refine wpAnyH_take (i := 26) (v := ?_) rfl (by kernel_rfl) (by kernel_rfl) (by kernel_rfl) (fun _ _ _ h => h) (Or.inl ⟨by rfl, ?_⟩) (by assumption) ?_
        rotate_left
        focus (intro w hSw; (try dsimp only at hSw); go_simp; first | done | with_reducible rfl)
        simp only [Act.put, List.getElem_toArray, List.getElem_cons_zero, List.getElem_cons_succ, List.setIfInBounds_toArray, List.set_cons_zero, List.set_cons_succ]
        refine wpAnyH_take (i := 27) (v := ?_) rfl (by kernel_rfl) (by kernel_rfl) (by kernel_rfl) (fun _ _ _ h => h) (Or.inl ⟨by rfl, ?_⟩) (by assumption) ?_
        rotate_left
        focus (intro w hSw; (try dsimp only at hSw); go_simp; first | done | with_reducible rfl)
        simp only [Act.put, List.getElem_toArray, List.getElem_cons_zero, List.getElem_cons_succ, List.setIfInBounds_toArray, List.set_cons_zero, List.set_cons_succ]
        refine wpAnyH_take (i := 28) (v := ?_) rfl (by kernel_rfl) (by kernel_rfl) (by kernel_rfl) (fun _ _ _ h => h) (Or.inl ⟨by rfl, ?_⟩) (by assumption) ?_
        rotate_left
        focus (intro w hSw; (try dsimp only at hSw); go_simp; first | done | with_reducible rfl)
        simp only [Act.put, List.getElem_toArray, List.getElem_cons_zero, List.getElem_cons_succ, List.setIfInBounds_toArray, List.set_cons_zero, List.set_cons_succ]
        refine wpAnyH_take (i := 29) (v := ?_) rfl (by kernel_rfl) (by kernel_rfl) (by kernel_rfl) (fun _ _ _ h => h) (Or.inl ⟨by rfl, ?_⟩) (by assumption) ?_
        rotate_left
        focus (intro w hSw; (try dsimp only at hSw); go_simp; first | done | with_reducible rfl)
        simp only [Act.put, List.getElem_toArray, List.getElem_cons_zero, List.getElem_cons_succ, List.setIfInBounds_toArray, List.set_cons_zero, List.set_cons_succ]
        refine wpAnyH_take (i := 30) (v := ?_) rfl (by kernel_rfl) (by kernel_rfl) (by kernel_rfl) (fun _ _ _ h => h) (Or.inl ⟨by rfl, ?_⟩) (by assumption) ?_
        rotate_left
        focus (intro w hSw; (try dsimp only at hSw); go_simp; first | done | with_reducible rfl)
        simp only [Act.put, List.getElem_toArray, List.getElem_cons_zero, List.getElem_cons_succ, List.setIfInBounds_toArray, List.set_cons_zero, List.set_cons_succ]
        refine wpAnyH_take (i := 31) (v := undef) rfl (by kernel_rfl) (by kernel_rfl) (by kernel_rfl) (fun _ _ _ h => h) (Or.inr ⟨by rfl, rfl⟩) (by assumption) ?_
        simp only [Act.put, List.getElem_toArray, List.getElem_cons_zero, List.getElem_cons_succ, List.setIfInBounds_toArray, List.set_cons_zero, List.set_cons_succ]
        refine wpAnyH_take (i := 32) (v := undef) rfl (by kernel_rfl) (by kernel_rfl) (by kernel_rfl) (fun _ _ _ h => h) (Or.inr ⟨by rfl, rfl⟩) (by assumption) ?_
        simp only [Act.put, List.getElem_toArray, List.getElem_cons_zero, List.getElem_cons_succ, List.setIfInBounds_toArray, List.set_cons_zero, List.set_cons_succ]
        refine wpAnyH_take (i := 33) (v := undef) rfl (by kernel_rfl) (by kernel_rfl) (by kernel_rfl) (fun _ _ _ h => h) (Or.inr ⟨by rfl, rfl⟩) (by assumption) ?_
        simp only [Act.put, List.getElem_toArray, List.getElem_cons_zero, List.getElem_cons_succ, List.setIfInBounds_toArray, List.set_cons_zero, List.set_cons_succ]
        refine wpAnyH_take (i := 34) (v := undef) rfl (by kernel_rfl) (by kernel_rfl) (by kernel_rfl) (fun _ _ _ h => h) (Or.inr ⟨by rfl, rfl⟩) (by assumption) ?_
        simp only [Act.put, List.getElem_toArray, List.getElem_cons_zero, List.getElem_cons_succ, List.setIfInBounds_toArray, List.set_cons_zero, List.set_cons_succ]
        refine wpAnyH_take (i := 35) (v := undef) rfl (by kernel_rfl) (by kernel_rfl) (by kernel_rfl) (fun _ _ _ h => h) (Or.inr ⟨by rfl, rfl⟩) (by assumption) ?_
        simp only [Act.put, List.getElem_toArray, List.getElem_cons_zero, List.getElem_cons_succ, List.setIfInBounds_toArray, List.set_cons_zero, List.set_cons_succ]
        refine wpAnyH_take (i := 36) (v := ?_) rfl (by kernel_rfl) (by kernel_rfl) (by kernel_rfl) (fun _ _ _ h => h) (Or.inl ⟨by rfl, ?_⟩) (by assumption) ?_
        rotate_left
        focus (intro w hSw; (try dsimp only at hSw); go_simp; first | done | with_reducible rfl)
        simp only [Act.put, List.getElem_toArray, List.getElem_cons_zero, List.getElem_cons_succ, List.setIfInBounds_toArray, List.set_cons_zero, List.set_cons_succ]
        refine wpAnyH_take (i := 37) (v := ?_) rfl (by kernel_rfl) (by kernel_rfl) (by kernel_rfl) (fun _ _ _ h => h) (Or.inl ⟨by rfl, ?_⟩) (by assumption) ?_
        rotate_left
        focus (intro w hSw; (try dsimp only at hSw); go_simp; first | done | with_reducible rfl)
        simp only [Act.put, List.getElem_toArray, List.getElem_cons_zero, List.getElem_cons_succ, List.setIfInBounds_toArray, List.set_cons_zero, List.set_cons_succ]
        refine wpAnyH_take (i := 38) (v := undef) rfl (by kernel_rfl) (by kernel_rfl) (by kernel_rfl) (fun _ _ _ h => h) (Or.inr ⟨by rfl, rfl⟩) (by assumption) ?_
        simp only [Act.put, List.getElem_toArray, List.getElem_cons_zero, List.getElem_cons_succ, List.setIfInBounds_toArray, List.set_cons_zero, List.set_cons_succ]
        refine wpAnyH_take (i := 39) (v := undef) rfl (by kernel_rfl) (by kernel_rfl) (by kernel_rfl) (fun _ _ _ h => h) (Or.inr ⟨by rfl, rfl⟩) (by assumption) ?_
        simp only [Act.put, List.getElem_toArray, List.getElem_cons_zero, List.getElem_cons_succ, List.setIfInBounds_toArray, List.set_cons_zero, List.set_cons_succ]
        refine wpAnyH_take (i := 40) (v := ?_) rfl (by kernel_rfl) (by kernel_rfl) (by kernel_rfl) (fun _ _ _ h => h) (Or.inl ⟨by rfl, ?_⟩) (by assumption) ?_
        rotate_left
        focus (intro w hSw; (try dsimp only at hSw); go_simp; first | done | with_reducible rfl)
        simp only [Act.put, List.getElem_toArray, List.getElem_cons_zero, List.getElem_cons_succ, List.setIfInBounds_toArray, List.set_cons_zero, List.set_cons_succ]
        refine wpAnyH_take (i := 41) (v := ?_) rfl (by kernel_rfl) (by kernel_rfl) (by kernel_rfl) (fun _ _ _ h => h) (Or.inl ⟨by rfl, ?_⟩) (by assumption) ?_
        rotate_left
        focus (intro w hSw; (try dsimp only at hSw); go_simp; first | done | with_reducible rfl)
        simp only [Act.put, List.getElem_toArray, List.getElem_cons_zero, List.getElem_cons_succ, List.setIfInBounds_toArray, List.set_cons_zero, List.set_cons_succ]
        refine wpAnyH_done (by kernel_rfl) ?_ _
        clear c_f c_e c_l0 c_l1 c_l2 c_l3 c_m0 c_m1 c_m2 c_m3 n_l n_m n_e n_f
        go_wp2_with fail
        go_roundw
        case rel => exact ⟨i + 1, by omega, by first | rfl | go_num | simp, (by first | exact ⟨BB0⟩ | exact ⟨ldrew BB0⟩)⟩
        case measure => simp [intOf]; omega
end En
end Go.Proofs.YtbfonkabmehlmaaGreatDoor
namespace Go.Proofs.YtbfonkabmehlmaaGreatDoor
set_option maxRecDepth 1000000
namespace En
open Go.ChangeShapes Go.WideShapes Go.ChangeAt Go.RowKit
open Go.Extern.Stop Go.Stop Go.Extern
theorem own : ownKnob Tryz.prog.godebug = none := by kernel_rfl
theorem laidOut : laidOutB Tryz.prog = true := by kernel_rfl
theorem gE : Tryz.prog.globalNamed "workpiece/enclosure.errRefused" = some 0 := by kernel_rfl
theorem gET : (Tryz.prog.globals[0]?).map (·.type) = some 127 := by kernel_rfl
theorem cellsE : Tryz.prog.cellsOf 222 = 1 := by kernel_rfl
theorem cellsStr : Tryz.prog.cellsOf 9 = 1 := by kernel_rfl
theorem starE : "*" ++ "errors.errorString" = "*errors.errorString" := by decide
theorem rowE (u : TypeId) (h : Tryz.prog.typeName? 3 u = some "*errors.errorString") : u = 200 :=
  typeName_ptr_named (nm := "errors.errorString") (by rw [starE]; kernel_rfl) (by kernel_rfl) (by decide) u (by rw [starE]; exact h)
abbrev theLaid : List (String × DataW Unit) := [("workpiece/enclosure.errRefused", Rows.laid_workpiece_enclosure_errRefused)]
theorem ref_of {W : World} (h : laidMetH Tryz.prog theLaid W) : ∃ a, Ref a W := by
  obtain ⟨a0, s0, hv0, hc0, hs0, hz0⟩ := laid_sentinel (r := []) h gE gET Tryz.underlying127 rowE Tryz.underlying200 Tryz.underlying222 rfl rfl Tryz.underlying9 cellsE cellsStr
  have h1 := World.var?_cell gE hv0 0
  simp at h1
  exact ⟨a0, h1⟩
abbrev refS : ByteArray := { data := #[101, 110, 99, 108, 111, 115, 117, 114, 101, 58, 32, 114, 101, 102, 117, 115, 101, 100] }
noncomputable def low : Nat := (World.holding Tryz.prog default ⟨#[], #[], []⟩).heap.size
noncomputable def laidWorld (os : Os) : World :=
  let w0 := World.holding Tryz.prog os ⟨#[.cells #[.string refS] 222], #[], []⟩
  { w0 with heap := w0.heap.modify 0 fun
      | .cells _ t frozen => .cells #[.iface 200 (.pointer (some ⟨low, 0, none⟩))] t frozen
      | o => o }
theorem laid_met (os : Os) (args : Array Value) : laidMet Tryz.prog theLaid ((laidWorld os).forCall (fun _ _ => 0) ⟨#[], args, []⟩).memory :=
  laidMet_of_run (ps := [.cell 0 0, .cell low 0]) 8 (by kernel_rfl) (by kernel_rfl) (by kernel_rfl)
theorem in64 {k : Int} (h : (Lit.int .i64 k).wf = true) : In64 k := Joins.in64_of_wf h
end En
end Go.Proofs.YtbfonkabmehlmaaGreatDoor
namespace Go.Proofs.YtbfonkabmehlmaaGreatDoor.enclosureNarrower
set_option maxRecDepth 1000000
open Go.ChangeShapes Go.WideShapes Go.ChangeAt Go.RowKit
open Go.ChangeMaps (open_string shut_string)
open En

theorem contract (H : Type) (enc : TypeId × Value → H) (W : World) (base : Nat) (args : Array Value) (ds gs : List (DataW H)) (before : List MemPlace)
    (hval : ∀ (j : Nat) t v, Tryz.f5.params[j]? = some t → args[j]? = some v → Value.okWide Tryz.prog W .any base t v)
    (hW : DataW.Whole enc Tryz.prog Tryz.f5.params.toList Rows.enclosureNarrowerSpec.vars false W args.toList ds gs before) (hL : laidMetH Tryz.prog Rows.enclosureNarrowerRow.laid W) :
    Calls Tryz.prog 5 args W fun e W' => ∃ v, e = .returned v ∧ Rows.enclosureNarrowerSpec.post enc Tryz.prog Tryz.f5 false true false false W args v W' := by
  have hW' := hW
  obtain ⟨p, q, hA0, hV, rfl, hfz, hnd⟩ := hW
  have hA : DataW.TrodAll enc Tryz.prog W 0 (fun _ => true) true Tryz.f5.params.toList args.toList ds p := hA0
  rw [Tryz.params5] at hA hval
  obtain ⟨v0, vs0, d0, ds0, p0, q0, hargs, rfl, rfl, h0, r0⟩ := trodAll_cons hA
  obtain ⟨v1, vs1, d1, ds1, p1, q1, rfl, rfl, rfl, h1, r1⟩ := trodAll_cons r0
  obtain ⟨v2, vs2, d2, ds2, p2, q2, rfl, rfl, rfl, h2, r2⟩ := trodAll_cons r1
  obtain ⟨v3, vs3, d3, ds3, p3, q3, rfl, rfl, rfl, h3, r3⟩ := trodAll_cons r2
  obtain ⟨rfl, rfl, rfl⟩ := trodAll_nil r3
  obtain rfl : args = #[v0, v1, v2, v3] := by cases args; simp_all
  obtain ⟨rfl, rfl⟩ := trodVars_none hV
  obtain ⟨s0, s1, s2, s3, rfl, rfl, rfl, ws⟩ := Rt.open_arr4 Tryz.underlying26 Tryz.underlying3 (by kernel_rfl) (by kernel_rfl) (hval 0 26 v0 rfl rfl) h0
  obtain ⟨t0, t1, t2, t3, rfl, rfl, rfl, wt⟩ := Rt.open_arr4 Tryz.underlying26 Tryz.underlying3 (by kernel_rfl) (by kernel_rfl) (hval 1 26 v1 rfl rfl) h1
  obtain ⟨u0, u1, u2, u3, rfl, rfl, rfl, wu⟩ := Rt.open_arr4 Tryz.underlying26 Tryz.underlying3 (by kernel_rfl) (by kernel_rfl) (hval 2 26 v2 rfl rfl) h2
  obtain ⟨v, rfl, rfl, rfl, wv⟩ := open_int Tryz.underlying3 (hval 3 3 v3 rfl rfl) h3
  clear hA0
  simp only [List.append_nil] at hW'
  obtain ⟨a, ha⟩ := ref_of hL
  refine (narrow_walk a s0 s1 s2 s3 t0 t1 t2 t3 u0 u1 u2 u3 v (in64 ws.1) (in64 ws.2.1) (in64 ws.2.2.1) (in64 ws.2.2.2) (in64 wt.1) (in64 wt.2.1) (in64 wt.2.2.1) (in64 wt.2.2.2) (in64 wu.1) (in64 wu.2.1) (in64 wu.2.2.1) (in64 wu.2.2.2) (in64 wv) W ha).mono fun e W' ⟨he, hb⟩ => ?_
  subst he
  refine ⟨_, rfl, [_, _, _, _], [], [], [], [], [], hW', trodAll_cons_mk (shut_bool Tryz.underlying4 _) trodAll_mk0, ?_, rfl, World.keptBut_mono (fun x hx => by cases hx) (hb.frame (· ∈ [])), fun h => by cases h⟩
  exact trodAll_cons_mk (Rt.shut_arr4 Tryz.underlying26 Tryz.underlying3 (by kernel_rfl) (by kernel_rfl) ws) (trodAll_cons_mk (Rt.shut_arr4 Tryz.underlying26 Tryz.underlying3 (by kernel_rfl) (by kernel_rfl) wt) (trodAll_cons_mk (Rt.shut_arr4 Tryz.underlying26 Tryz.underlying3 (by kernel_rfl) (by kernel_rfl) wu) (trodAll_cons_mk (shut_int Tryz.underlying3 wv) trodAll_mk0)))

theorem reads (os : Os) {H : Type} (enc : TypeId × Value → H) : ∃ places, DataW.whole enc Tryz.prog ((laidWorld os).forCall (fun _ _ => 0) ⟨#[], #[.agg #[.int .i64 0, .int .i64 0, .int .i64 0, .int .i64 0], .agg #[.int .i64 0, .int .i64 0, .int .i64 0, .int .i64 0], .agg #[.int .i64 0, .int .i64 0, .int .i64 0, .int .i64 0], .int .i64 0], []⟩).memory Tryz.f5.params.toList Rows.enclosureNarrowerSpec.vars false (#[.agg #[.int .i64 0, .int .i64 0, .int .i64 0, .int .i64 0], .agg #[.int .i64 0, .int .i64 0, .int .i64 0, .int .i64 0], .agg #[.int .i64 0, .int .i64 0, .int .i64 0, .int .i64 0], .int .i64 0] : Array Value).toList 8 = some ([.agg [.lit (.int .i64 0), .lit (.int .i64 0), .lit (.int .i64 0), .lit (.int .i64 0)], .agg [.lit (.int .i64 0), .lit (.int .i64 0), .lit (.int .i64 0), .lit (.int .i64 0)], .agg [.lit (.int .i64 0), .lit (.int .i64 0), .lit (.int .i64 0), .lit (.int .i64 0)], .lit (.int .i64 0)], [], places) :=
  ⟨[], by kernel_rfl⟩

theorem lifted (os : Os) (started : os.Started) (H : Type) (enc : TypeId × Value → H) (F : Stop.Interp) :
    ReturnsInHanded {} Tryz.checked os 5 .any ((OpenSpec.ofChange Rows.enclosureNarrowerSpec).preRow enc Tryz.prog Tryz.f5 Rows.enclosureNarrowerRow.domain false Rows.enclosureNarrowerRow.laid) (((OpenSpec.ofChange Rows.enclosureNarrowerSpec).at F).post enc Tryz.prog Tryz.f5 false true false false) := by
  obtain ⟨places, hx⟩ := reads os enc
  refine returnsInHanded_of_row (C := Tryz.checked) (s := OpenSpec.ofChange Rows.enclosureNarrowerSpec) own started (by kernel_rfl) Tryz.func5
    (witness_row_at (enc := enc) (C := Tryz.checked) false (laidWorld os) #[.agg #[.int .i64 0, .int .i64 0, .int .i64 0, .int .i64 0], .agg #[.int .i64 0, .int .i64 0, .int .i64 0, .int .i64 0], .agg #[.int .i64 0, .int .i64 0, .int .i64 0, .int .i64 0], .int .i64 0] rfl (by kernel_rfl) (by kernel_rfl) (by kernel_rfl)
      (OpenSpec.preRow_of_cond 8 hx (by kernel_rfl) (fun k hk => by cases hk) (by kernel_rfl) (laid_met os _))) ?_
  intro W base args ds gs before hval hW _ _ _ hL _ _
  exact contract H enc W base args ds gs before hval hW hL

theorem said : Rows.EnclosureNarrowerSaid :=
  OpenClaim.holds_of_cond 5 Tryz.f5 rfl rfl rfl rfl rfl rfl rfl ⟨rfl, rfl, rfl, rfl, rfl⟩ rfl rfl rfl rfl rfl (by kernel_rfl) Tryz.func5 (by kernel_rfl)
    (of_decide_eq_true (by kernel_rfl)) (by unfold Func.isWrapper; first | (rw [if_pos (by decide +kernel)]; kernel_rfl) | (rw [if_neg (by decide +kernel)]; exact ⟨rfl, rfl⟩))
    (fun os started H enc _ F => by rw [OpenClaim.pre_eq_preRow]; exact lifted os started H enc F)

theorem plain (f : FuncId) (fn : Func) (hf : Tryz.pinned.checked.prog.funcNamed "workpiece/workpiecelaw05.EnclosureNarrower" = some f) (hfn : Tryz.pinned.checked.prog.funcs[f]? = some fn) :
    true = Tryz.pinned.checked.prog.looks [] ∧ ∀ (j : Nat) t, fn.params[j]? = some t → Tryz.pinned.checked.prog.wantsStandIn t = false := by
  obtain rfl : f = 5 := Option.some.inj ((show Tryz.prog.funcNamed "workpiece/workpiecelaw05.EnclosureNarrower" = some 5 by kernel_rfl).symm.trans hf) |>.symm
  obtain rfl : fn = Tryz.f5 := (Option.some.inj (Tryz.func5.symm.trans hfn)).symm
  refine ⟨by kernel_rfl, fun j t ht => ?_⟩
  rw [Tryz.params5] at ht
  have hm := Array.mem_of_getElem? ht
  simp at hm
  rcases hm with rfl | rfl
  · exact (show Tryz.prog.wantsStandIn 26 = false by kernel_rfl)
  · exact (show Tryz.prog.wantsStandIn 3 = false by kernel_rfl)

/-- the card -/
theorem card : Rows.EnclosureNarrowerCardSaid :=
  Claim7.holds_tied_plain_at .later [] _ _ _ _ said (fun _ h => by cases h) (by kernel_rfl) (fun _ h => by cases h) enclosureNarrower_row_tie rfl ⟨rfl, rfl⟩ (by kernel_rfl) rfl plain (by kernel_rfl)
end Go.Proofs.YtbfonkabmehlmaaGreatDoor.enclosureNarrower
