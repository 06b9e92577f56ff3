/-
  PROVED: for any numbers, EnclosureMeets returns true (a fraction is in the meet of two intervals exactly if it is in both; the hull contains both, and its ends are theirs; there is a meet exactly if no end lies beyond), and every argument reads afterwards as it read before. Conditions: those of the given row and card: the variable enclosure.errRefused holds what the program's text lays (tied by the card); linux/amd64.
-/
import Derived.Test.YtncgigpjdjpgmaaGreatDoorMc5
import Derived.Test.YtncgigpjdjpgmaaGreatDoorMd6
import Derived.Deep.DeepCutAuto
import Derived.Test.YtncgigpjdjpgmaaGreatDoorCards
import Derived.Test.YtncgigpjdjpgmaaGreatDoorTie
import Derived.Test.YtncgigpjdjpgmaaGreatDoorRatOp
import Derived.ProofKit
import Derived.OpenShut
import Derived.Deep.DeepHandedRow
import Derived.Lib.SmallJoins
import Derived.Stop.LaidErr
namespace Go.Proofs.YtncgigpjdjpgmaaGreatDoor
set_option maxRecDepth 1000000
namespace En
open Go.RowKit Go.Extern.Stop Go.Stop Go.Extern
open Go.Proofs.YtncgigpjdjpgmaaGreatDoor.Nm Go.Proofs.YtncgigpjdjpgmaaGreatDoor.Rt
theorem zero_contains {r : Rat} (hr : FitQ r) : Ret 26 #[ivl0, .agg #[.string (txt r.num), .string (txt (r.den : Int))]] (.bool false) := by
  have hne : ((⟨#[]⟩ : ByteArray).toList == (txt r.num).toList) = false := by
    rw [str_eq]
    refine decide_eq_false (fun h => ?_)
    have h2 := valid_txt r.num hr.1
    rw [← h] at h2
    exact absurd h2 (by decide +kernel)
  have hC : Ret 35 #[frc ⟨#[]⟩ ⟨#[]⟩, frc (txt r.num) (txt (r.den : Int))] (.int .i64 0) := fun W => Compare_no _ _ _ _ _ _ W (by rw [qOf_nil]; rfl) (fun W => Valid_all _ _ (Nat.zero_le _) (Nat.zero_le _) W) (fun W => Valid_all _ _ hr.size.1 hr.size.2 W)
  exact Contains_any _ _ _ _ _ _ _ _ _ _ _ (Point_any _ _ true (rValid_q hr)) (Within_any _ _ _ _ _ _ _ _ true false false (by have := iValid_q hr hr; rw [decide_eq_true Rat.le_refl] at this; exact this) (fun _ => atMost_other _ _ _ _ _ hC (.inl hne)) (fun _ h => by cases h))
theorem max_le {p q r : Rat} : maxQ p q ≤ r ↔ p ≤ r ∧ q ≤ r := by
  rw [maxQ]; split
  · rename_i h; exact ⟨fun h2 => ⟨Rat.le_trans h h2, h2⟩, fun h2 => h2.2⟩
  · rename_i h; have h := Rat.le_of_lt (Rat.not_le.1 h); exact ⟨fun h2 => ⟨h2, Rat.le_trans h h2⟩, fun h2 => h2.1⟩
theorem le_min {p q r : Rat} : r ≤ minQ p q ↔ r ≤ p ∧ r ≤ q := by
  rw [minQ]; split
  · rename_i h; exact ⟨fun h2 => ⟨Rat.le_trans h2 h, h2⟩, fun h2 => h2.2⟩
  · rename_i h; have h := Rat.le_of_lt (Rat.not_le.1 h); exact ⟨fun h2 => ⟨h2, Rat.le_trans h2 h⟩, fun h2 => h2.1⟩
theorem min_in (p q : Rat) : minQ p q = p ∨ minQ p q = q := by rw [minQ]; split <;> simp
theorem max_in (p q : Rat) : maxQ p q = p ∨ maxQ p q = q := by rw [maxQ]; split <;> simp
/-- the meet, its code, and whether it contains r -/
theorem meet_facts (a : Addr) {p1 q1 p2 q2 r : Rat} (h1 : FitQ p1) (h2 : FitQ q1) (h3 : FitQ p2) (h4 : FitQ q2) (hr : FitQ r) (o1 : p1 ≤ q1) (o2 : p2 ≤ q2) :
    ∃ (m0 m1 m2 m3 : ByteArray) (c : Int), LC a 38 #[iq p1 q1, iq p2 q2] (.tuple #[.agg #[.string m0, .string m1, .string m2, .string m3], .int .i64 c]) ∧ ((c = 0) ↔ (p1 ≤ q2 ∧ p2 ≤ q1)) ∧ Ret 26 #[.agg #[.string m0, .string m1, .string m2, .string m3], .agg #[.string (txt r.num), .string (txt (r.den : Int))]] (.bool (decide (p1 ≤ r ∧ r ≤ q1) && decide (p2 ≤ r ∧ r ≤ q2))) := by
  have hM := Meet_I a h1 h2 h3 h4 o1 o2
  have hiff : maxQ p1 p2 ≤ minQ q1 q2 ↔ (p1 ≤ q2 ∧ p2 ≤ q1) := by
    rw [max_le, le_min, le_min]
    exact ⟨fun h => ⟨h.1.2, h.2.1⟩, fun h => ⟨⟨o1, h.1⟩, ⟨h.2, o2⟩⟩⟩
  by_cases hc : maxQ p1 p2 ≤ minQ q1 q2
  · rw [if_pos hc] at hM
    refine ⟨_, _, _, _, 0, hM, ⟨fun _ => hiff.1 hc, fun _ => rfl⟩, ?_⟩
    have hC := Contains_q (FitQ.maxQ h1 h3) (FitQ.minQ h2 h4) hr
    rw [show decide (maxQ p1 p2 ≤ r ∧ r ≤ minQ q1 q2) = (decide (p1 ≤ r ∧ r ≤ q1) && decide (p2 ≤ r ∧ r ≤ q2)) by
      rw [← Bool.decide_and, decide_eq_decide, max_le, le_min]
      exact ⟨fun h => ⟨⟨h.1.1, h.2.1⟩, ⟨h.1.2, h.2.2⟩⟩, fun h => ⟨⟨h.1.1, h.2.1⟩, ⟨h.1.2, h.2.2⟩⟩⟩] at hC
    exact hC
  · rw [if_neg hc] at hM
    refine ⟨_, _, _, _, 50, hM, ⟨fun h => absurd h (by decide), fun h => absurd (hiff.2 h) hc⟩, ?_⟩
    have hC := zero_contains hr
    rw [show (decide (p1 ≤ r ∧ r ≤ q1) && decide (p2 ≤ r ∧ r ≤ q2)) = false by
      rw [← Bool.decide_and]
      exact decide_eq_false (fun h => hc (hiff.2 ⟨Rat.le_trans h.1.1 h.2.2, Rat.le_trans h.2.1 h.1.2⟩))]
    exact hC
/-- an end of the hull is one of the ends -/
theorem hull_end {m p q : Rat} (h : m = p ∨ m = q) : (txt m.num = txt p.num ∧ txt (m.den : Int) = txt (p.den : Int)) ∨ (txt m.num = txt q.num ∧ txt (m.den : Int) = txt (q.den : Int) ∧ (((txt m.num).toList == (txt p.num).toList) = false ∨ (((txt m.num).toList == (txt p.num).toList) = true ∧ ((txt (m.den : Int)).toList == (txt (p.den : Int)).toList) = false))) := by
  by_cases e : m = p
  · subst e; exact .inl ⟨rfl, rfl⟩
  · rcases h with h | h
    · exact absurd h e
    · subst h; exact .inr ⟨rfl, rfl, pq_ne e⟩
set_option maxHeartbeats 16000000 in
theorem meets_walk (a : Addr) (x0 x1 x2 x3 y0 y1 y2 y3 z0 z1 : Int) (hx0 : In64 x0) (hx1 : In64 x1) (hx2 : In64 x2) (hx3 : In64 x3) (hy0 : In64 y0) (hy1 : In64 y1) (hy2 : In64 y2) (hy3 : In64 y3) (hz0 : In64 z0) (hz1 : In64 z1) (w : World) (hv : Ref a w) :
    Calls Tryz.prog 8 #[.agg #[.int .i64 x0, .int .i64 x1, .int .i64 x2, .int .i64 x3], .agg #[.int .i64 y0, .int .i64 y1, .int .i64 y2, .int .i64 y3], .agg #[.int .i64 z0, .int .i64 z1]] w fun e w' => e = .returned (.bool true) ∧ Below w.heap.size w w' := by
  have HV : Shut _ := ⟨hv⟩
  have CX : Shut _ := ⟨fun W => Made_any x0 x1 x2 x3 hx0 hx1 hx2 hx3 W⟩
  have CY : Shut _ := ⟨fun W => Made_any y0 y1 y2 y3 hy0 hy1 hy2 hy3 W⟩
  have CZ : Shut _ := ⟨fun W => Small_any z0 z1 hz0 hz1 W⟩
  clear hv hx0 hx1 hx2 hx3 hy0 hy1 hy2 hy3 hz0 hz1
  obtain ⟨n_x, n_y, n_z⟩ := news3 w (.cells #[.int .i64 x0, .int .i64 x1, .int .i64 x2, .int .i64 x3] 26) (.cells #[.int .i64 y0, .int .i64 y1, .int .i64 y2, .int .i64 y3] 26) (.cells #[.int .i64 z0, .int .i64 z1] 59)
  have u := below3 w (.cells #[.int .i64 x0, .int .i64 x1, .int .i64 x2, .int .i64 x3] 26) (.cells #[.int .i64 y0, .int .i64 y1, .int .i64 y2, .int .i64 y3] 26) (.cells #[.int .i64 z0, .int .i64 z1] 59)
  go_enter Tryz.func8, Tryz.ntmps8
  go_wp2_with fail
  generalize ((w.alloc (.cells #[.int .i64 x0, .int .i64 x1, .int .i64 x2, .int .i64 x3] 26)).alloc (.cells #[.int .i64 y0, .int .i64 y1, .int .i64 y2, .int .i64 y3] 26)).alloc (.cells #[.int .i64 z0, .int .i64 z1] 59) = V0 at *
  refine (sane_any a V0 (HV.o.keep u)).mono ?_
  rintro e v1 ⟨rfl, g⟩
  replace u := u.trans (g.mono u.size)
  replace n_x := lkeep n_x g
  replace n_y := lkeep n_y g
  replace n_z := lkeep n_z g
  clear g
  have c_x0 := lcell n_x 0 (v := .int .i64 x0) rfl
  have c_x1 := lcell n_x 1 (v := .int .i64 x1) rfl
  have c_x2 := lcell n_x 2 (v := .int .i64 x2) rfl
  have c_x3 := lcell n_x 3 (v := .int .i64 x3) rfl
  go_wp2_with fail
  refine (CX.o _).mono ?_
  rintro e v2 ⟨p1, q1, s1, t1, o1, rfl, g⟩
  replace u := u.trans (g.mono u.size)
  replace n_x := lkeep n_x g
  replace n_y := lkeep n_y g
  replace n_z := lkeep n_z g
  clear c_x0 c_x1 c_x2 c_x3
  clear g
  unfold iq
  have g := (Below.refl v2.heap.size v2).alloc (Nat.le_refl _) (.cells #[.string (txt p1.num), .string (txt (p1.den : Int)), .string (txt q1.num), .string (txt (q1.den : Int))] 25)
  have n_a := World.alloc_heap_new v2 (.cells #[.string (txt p1.num), .string (txt (p1.den : Int)), .string (txt q1.num), .string (txt (q1.den : Int))] 25)
  replace u := u.trans (g.mono u.size)
  replace n_x := lkeep n_x g
  replace n_y := lkeep n_y g
  replace n_z := lkeep n_z g
  clear g
  have c_y0 := lcell n_y 0 (v := .int .i64 y0) rfl
  have c_y1 := lcell n_y 1 (v := .int .i64 y1) rfl
  have c_y2 := lcell n_y 2 (v := .int .i64 y2) rfl
  have c_y3 := lcell n_y 3 (v := .int .i64 y3) rfl
  go_wp2_with fail
  generalize v2.alloc (.cells #[.string (txt p1.num), .string (txt (p1.den : Int)), .string (txt q1.num), .string (txt (q1.den : Int))] 25) = V_a at *
  generalize v2.heap.size = b_a at *
  refine (CY.o _).mono ?_
  rintro e v3 ⟨p2, q2, s2, t2, o2, rfl, g⟩
  replace u := u.trans (g.mono u.size)
  replace n_y := lkeep n_y g
  replace n_z := lkeep n_z g
  replace n_a := lkeep n_a g
  clear c_y0 c_y1 c_y2 c_y3
  clear g
  unfold iq
  have g := (Below.refl v3.heap.size v3).alloc (Nat.le_refl _) (.cells #[.string (txt p2.num), .string (txt (p2.den : Int)), .string (txt q2.num), .string (txt (q2.den : Int))] 25)
  have n_b := World.alloc_heap_new v3 (.cells #[.string (txt p2.num), .string (txt (p2.den : Int)), .string (txt q2.num), .string (txt (q2.den : Int))] 25)
  replace u := u.trans (g.mono u.size)
  replace n_y := lkeep n_y g
  replace n_z := lkeep n_z g
  replace n_a := lkeep n_a g
  clear g
  have c_z0 := lcell n_z 0 (v := .int .i64 z0) rfl
  have c_z1 := lcell n_z 1 (v := .int .i64 z1) rfl
  go_wp2_with fail
  generalize v3.alloc (.cells #[.string (txt p2.num), .string (txt (p2.den : Int)), .string (txt q2.num), .string (txt (q2.den : Int))] 25) = V_b at *
  generalize v3.heap.size = b_b at *
  refine (CZ.o _).mono ?_
  rintro e v4 ⟨r, sr, rfl, g⟩
  replace u := u.trans (g.mono u.size)
  replace n_z := lkeep n_z g
  replace n_a := lkeep n_a g
  replace n_b := lkeep n_b g
  clear c_z0 c_z1
  clear g
  unfold rq rv
  have g := (Below.refl v4.heap.size v4).alloc (Nat.le_refl _) (.cells #[.string (txt r.num), .string (txt (r.den : Int))] 23)
  have n_r := World.alloc_heap_new v4 (.cells #[.string (txt r.num), .string (txt (r.den : Int))] 23)
  replace u := u.trans (g.mono u.size)
  replace n_z := lkeep n_z g
  replace n_a := lkeep n_a g
  replace n_b := lkeep n_b g
  clear g
  obtain ⟨m0, m1, m2, m3, c, hMt, hcz, hCm⟩ := meet_facts a s1.fit t1.fit s2.fit t2.fit sr.fit o1 o2
  have hHu : LC a 39 #[iq p1 q1, iq p2 q2] (.tuple #[iq (minQ p1 p2) (maxQ q1 q2), .int .i64 0]) := Hull_I a s1.fit t1.fit s2.fit t2.fit o1 o2
  have hCa := Contains_q s1.fit t1.fit sr.fit
  have hCb := Contains_q s2.fit t2.fit sr.fit
  have hK1 : Ret 35 #[rq p1, rq q2] (.int .i64 (cmpQ p1 q2)) := fun W => Compare_q s1.fit t2.fit W
  have hK2 : Ret 35 #[rq p2, rq q1] (.int .i64 (cmpQ p2 q1)) := fun W => Compare_q s2.fit t1.fit W
  have hlo := FitQ.minQ s1.fit s2.fit
  have hhi := FitQ.maxQ t1.fit t2.fit
  have hW1 := Within_q s1.fit t1.fit hlo hhi
  have hW2 := Within_q s2.fit t2.fit hlo hhi
  have lm1 := (le_min (p := p1) (q := p2) (r := minQ p1 p2)).1 Rat.le_refl
  have lm2 := (max_le (p := q1) (q := q2) (r := maxQ q1 q2)).1 Rat.le_refl
  rw [decide_eq_true ⟨o1, lm1.1, lm2.1⟩] at hW1
  rw [decide_eq_true ⟨o2, lm1.2, lm2.2⟩] at hW2
  have hE1 := hull_end (min_in p1 p2)
  have hE2 := hull_end (max_in q1 q2)
  obtain ⟨k1, hk1⟩ : ∃ k, k = cmpQ p1 q2 := ⟨_, rfl⟩
  obtain ⟨k2, hk2⟩ : ∃ k, k = cmpQ p2 q1 := ⟨_, rfl⟩
  have hth : (c = 0) ↔ (k1 ≤ 0 ∧ k2 ≤ 0) := by rw [hk1, hk2, cmp_le, cmp_le]; exact hcz
  rw [← hk1] at hK1
  rw [← hk2] at hK2
  clear hk1 hk2 hcz lm1 lm2 hlo hhi s1 t1 s2 t2 sr o1 o2
  generalize decide (p1 ≤ r ∧ r ≤ q1) = ca at *
  generalize decide (p2 ≤ r ∧ r ≤ q2) = cb at *
  unfold iq at hHu hMt hW1 hW2 hCa hCb
  unfold rq rv at hK1 hK2
  generalize (txt (minQ p1 p2).num) = h0 at *
  generalize (txt ((minQ p1 p2).den : Int)) = h1 at *
  generalize (txt (maxQ q1 q2).num) = h2 at *
  generalize (txt ((maxQ q1 q2).den : Int)) = h3 at *
  generalize (txt p1.num) = x0' at *
  generalize (txt (p1.den : Int)) = x1' at *
  generalize (txt q1.num) = x2' at *
  generalize (txt (q1.den : Int)) = x3' at *
  generalize (txt p2.num) = y0' at *
  generalize (txt (p2.den : Int)) = y1' at *
  generalize (txt q2.num) = y2' at *
  generalize (txt (q2.den : Int)) = y3' at *
  generalize (txt r.num) = r0 at *
  generalize (txt (r.den : Int)) = r1 at *
  have CM : Shut _ := ⟨hMt⟩
  have CH : Shut _ := ⟨hHu⟩
  have CA : Shut _ := ⟨hCa⟩
  have CB : Shut _ := ⟨hCb⟩
  have CK1 : Shut _ := ⟨hK1⟩
  have CK2 : Shut _ := ⟨hK2⟩
  have CW1 : Shut _ := ⟨hW1⟩
  have CW2 : Shut _ := ⟨hW2⟩
  have CCm : Shut _ := ⟨hCm⟩
  have E1 : Shut _ := ⟨hE1⟩
  have E2 : Shut _ := ⟨hE2⟩
  have HT : Shut _ := ⟨hth⟩
  clear hMt hHu hCa hCb hK1 hK2 hW1 hW2 hCm hE1 hE2 hth CX CY CZ
  have c_a0 := lcell n_a 0 (v := .string x0') rfl
  have c_a1 := lcell n_a 1 (v := .string x1') rfl
  have c_a2 := lcell n_a 2 (v := .string x2') rfl
  have c_a3 := lcell n_a 3 (v := .string x3') rfl
  have c_b0 := lcell n_b 0 (v := .string y0') rfl
  have c_b1 := lcell n_b 1 (v := .string y1') rfl
  have c_b2 := lcell n_b 2 (v := .string y2') rfl
  have c_b3 := lcell n_b 3 (v := .string y3') rfl
  go_wp2_with fail
  generalize v4.alloc (.cells #[.string r0, .string r1] 23) = V_r at *
  generalize v4.heap.size = b_r at *
  refine (CM.o _ (HV.o.keep u)).mono ?_
  rintro e v5 ⟨rfl, g⟩
  replace u := u.trans (g.mono u.size)
  replace n_a := lkeep n_a g
  replace n_b := lkeep n_b g
  replace n_r := lkeep n_r g
  clear c_a0 c_a1 c_a2 c_a3 c_b0 c_b1 c_b2 c_b3
  clear g
  have g := (Below.refl v5.heap.size v5).alloc (Nat.le_refl _) (.cells #[.string m0, .string m1, .string m2, .string m3] 25)
  have n_m := World.alloc_heap_new v5 (.cells #[.string m0, .string m1, .string m2, .string m3] 25)
  replace u := u.trans (g.mono u.size)
  replace n_a := lkeep n_a g
  replace n_b := lkeep n_b g
  replace n_r := lkeep n_r g
  clear g
  have c_a0 := lcell n_a 0 (v := .string x0') rfl
  have c_a1 := lcell n_a 1 (v := .string x1') rfl
  have c_a2 := lcell n_a 2 (v := .string x2') rfl
  have c_a3 := lcell n_a 3 (v := .string x3') rfl
  have c_b0 := lcell n_b 0 (v := .string y0') rfl
  have c_b1 := lcell n_b 1 (v := .string y1') rfl
  have c_b2 := lcell n_b 2 (v := .string y2') rfl
  have c_b3 := lcell n_b 3 (v := .string y3') rfl
  go_wp2_with fail
  generalize v5.alloc (.cells #[.string m0, .string m1, .string m2, .string m3] 25) = V_m at *
  generalize v5.heap.size = b_m at *
  refine (CH.o _ (HV.o.keep u)).mono ?_
  rintro e v6 ⟨rfl, g⟩
  replace u := u.trans (g.mono u.size)
  replace n_a := lkeep n_a g
  replace n_b := lkeep n_b g
  replace n_r := lkeep n_r g
  replace n_m := lkeep n_m g
  clear c_a0 c_a1 c_a2 c_a3 c_b0 c_b1 c_b2 c_b3
  clear g
  have g := (Below.refl v6.heap.size v6).alloc (Nat.le_refl _) (.cells #[.string h0, .string h1, .string h2, .string h3] 25)
  have n_h := World.alloc_heap_new v6 (.cells #[.string h0, .string h1, .string h2, .string h3] 25)
  replace u := u.trans (g.mono u.size)
  replace n_a := lkeep n_a g
  replace n_b := lkeep n_b g
  replace n_r := lkeep n_r g
  replace n_m := lkeep n_m g
  clear g
  go_upto_region 7 with fail
  generalize v6.alloc (.cells #[.string h0, .string h1, .string h2, .string h3] 25) = V_h at *
  generalize v6.heap.size = b_h at *
  go_cut [15] from 36 to 43 (fun s wx => s = .bool (ca && cb) ∧ wx.heap[b_a]? = some (.cells #[.string x0', .string x1', .string x2', .string x3'] 25 (0, 0)) ∧ wx.heap[b_b]? = some (.cells #[.string y0', .string y1', .string y2', .string y3'] 25 (0, 0)) ∧ wx.heap[b_r]? = some (.cells #[.string r0, .string r1] 23 (0, 0)) ∧ wx.heap[b_m]? = some (.cells #[.string m0, .string m1, .string m2, .string m3] 25 (0, 0)) ∧ wx.heap[b_h]? = some (.cells #[.string h0, .string h1, .string h2, .string h3] 25 (0, 0)) ∧ Below w.heap.size w wx)
  case first =>
    have c_a0 := lcell n_a 0 (v := .string x0') rfl
    have c_a1 := lcell n_a 1 (v := .string x1') rfl
    have c_a2 := lcell n_a 2 (v := .string x2') rfl
    have c_a3 := lcell n_a 3 (v := .string x3') rfl
    have c_r0 := lcell n_r 0 (v := .string r0) rfl
    have c_r1 := lcell n_r 1 (v := .string r1) rfl
    go_wp2_with fail
    refine (CA.o _).mono ?_
    rintro e v7 ⟨rfl, g⟩
    replace u := u.trans (g.mono u.size)
    replace n_a := lkeep n_a g
    replace n_b := lkeep n_b g
    replace n_r := lkeep n_r g
    replace n_m := lkeep n_m g
    replace n_h := lkeep n_h g
    clear c_a0 c_a1 c_a2 c_a3 c_r0 c_r1
    clear g
    cases ca with
    | false =>
      go_wp2_with fail
      go_meet
      exact ⟨rfl, n_a, n_b, n_r, n_m, n_h, u⟩
    | true =>
    have c_b0 := lcell n_b 0 (v := .string y0') rfl
    have c_b1 := lcell n_b 1 (v := .string y1') rfl
    have c_b2 := lcell n_b 2 (v := .string y2') rfl
    have c_b3 := lcell n_b 3 (v := .string y3') rfl
    have c_r0 := lcell n_r 0 (v := .string r0) rfl
    have c_r1 := lcell n_r 1 (v := .string r1) rfl
    go_wp2_with fail
    refine (CB.o _).mono ?_
    rintro e v8 ⟨rfl, g⟩
    replace u := u.trans (g.mono u.size)
    replace n_a := lkeep n_a g
    replace n_b := lkeep n_b g
    replace n_r := lkeep n_r g
    replace n_m := lkeep n_m g
    replace n_h := lkeep n_h g
    clear c_b0 c_b1 c_b2 c_b3 c_r0 c_r1
    clear g
    go_wp2_with fail
    go_meet
    exact ⟨rfl, n_a, n_b, n_r, n_m, n_h, u⟩
  obtain ⟨rfl, n_a, n_b, n_r, n_m, n_h, u⟩ := hcut
  generalize hbo : (ca && cb) = bo at *
  go_upto_region 8 with fail
  go_cut [16] from 44 to 57 (fun s wx => s = .bool (decide (k1 ≤ 0) && decide (k2 ≤ 0)) ∧ wx.heap[b_a]? = some (.cells #[.string x0', .string x1', .string x2', .string x3'] 25 (0, 0)) ∧ wx.heap[b_b]? = some (.cells #[.string y0', .string y1', .string y2', .string y3'] 25 (0, 0)) ∧ wx.heap[b_r]? = some (.cells #[.string r0, .string r1] 23 (0, 0)) ∧ wx.heap[b_m]? = some (.cells #[.string m0, .string m1, .string m2, .string m3] 25 (0, 0)) ∧ wx.heap[b_h]? = some (.cells #[.string h0, .string h1, .string h2, .string h3] 25 (0, 0)) ∧ Below w.heap.size w wx)
  case first =>
    have c_a0 := lcell n_a 0 (v := .string x0') rfl
    have c_a1 := lcell n_a 1 (v := .string x1') rfl
    have c_a2 := lcell n_a 2 (v := .string x2') rfl
    have c_a3 := lcell n_a 3 (v := .string x3') rfl
    have c_b0 := lcell n_b 0 (v := .string y0') rfl
    have c_b1 := lcell n_b 1 (v := .string y1') rfl
    have c_b2 := lcell n_b 2 (v := .string y2') rfl
    have c_b3 := lcell n_b 3 (v := .string y3') rfl
    go_wp2_with fail
    refine (CK1.o _).mono ?_
    rintro e v7 ⟨rfl, g⟩
    replace u := u.trans (g.mono u.size)
    replace n_a := lkeep n_a g
    replace n_b := lkeep n_b g
    replace n_r := lkeep n_r g
    replace n_m := lkeep n_m g
    replace n_h := lkeep n_h g
    clear c_a0 c_a1 c_a2 c_a3 c_b0 c_b1 c_b2 c_b3
    clear g
    by_cases hk1 : k1 ≤ 0
    rotate_left
    · have hkk : 0 < k1 := by omega
      go_wp2_with fail
      go_meet
      exact ⟨by rw [decide_eq_false (show ¬ k1 ≤ 0 by omega)]; rfl, n_a, n_b, n_r, n_m, n_h, u⟩
    have c_a0 := lcell n_a 0 (v := .string x0') rfl
    have c_a1 := lcell n_a 1 (v := .string x1') rfl
    have c_a2 := lcell n_a 2 (v := .string x2') rfl
    have c_a3 := lcell n_a 3 (v := .string x3') rfl
    have c_b0 := lcell n_b 0 (v := .string y0') rfl
    have c_b1 := lcell n_b 1 (v := .string y1') rfl
    have c_b2 := lcell n_b 2 (v := .string y2') rfl
    have c_b3 := lcell n_b 3 (v := .string y3') rfl
    go_wp2_with fail
    refine (CK2.o _).mono ?_
    rintro e v8 ⟨rfl, g⟩
    replace u := u.trans (g.mono u.size)
    replace n_a := lkeep n_a g
    replace n_b := lkeep n_b g
    replace n_r := lkeep n_r g
    replace n_m := lkeep n_m g
    replace n_h := lkeep n_h g
    clear c_a0 c_a1 c_a2 c_a3 c_b0 c_b1 c_b2 c_b3
    clear g
    go_wp2_with fail
    go_meet
    exact ⟨by rw [decide_eq_true (show k1 ≤ 0 by omega)]; rfl, n_a, n_b, n_r, n_m, n_h, u⟩
  obtain ⟨rfl, n_a, n_b, n_r, n_m, n_h, u⟩ := hcut
  have hth : (c == 0) = (decide (k1 ≤ 0) && decide (k2 ≤ 0)) := by
    rw [← Bool.decide_and]
    by_cases h : c = 0
    · rw [decide_eq_true (HT.o.1 h)]; simp [h]
    · rw [decide_eq_false (fun h2 => h (HT.o.2 h2))]; simp [h]
  generalize (decide (k1 ≤ 0) && decide (k2 ≤ 0)) = th at *
  go_upto_region 9 with fail
  go_cut [99] from 58 to 99 (fun s wx => s = .bool false ∧ wx.heap[b_a]? = some (.cells #[.string x0', .string x1', .string x2', .string x3'] 25 (0, 0)) ∧ wx.heap[b_b]? = some (.cells #[.string y0', .string y1', .string y2', .string y3'] 25 (0, 0)) ∧ wx.heap[b_r]? = some (.cells #[.string r0, .string r1] 23 (0, 0)) ∧ wx.heap[b_m]? = some (.cells #[.string m0, .string m1, .string m2, .string m3] 25 (0, 0)) ∧ wx.heap[b_h]? = some (.cells #[.string h0, .string h1, .string h2, .string h3] 25 (0, 0)) ∧ Below w.heap.size w wx)
  case first =>
    have c_a0 := lcell n_a 0 (v := .string x0') rfl
    have c_a1 := lcell n_a 1 (v := .string x1') rfl
    have c_a2 := lcell n_a 2 (v := .string x2') rfl
    have c_a3 := lcell n_a 3 (v := .string x3') rfl
    have c_h0 := lcell n_h 0 (v := .string h0) rfl
    have c_h1 := lcell n_h 1 (v := .string h1) rfl
    have c_h2 := lcell n_h 2 (v := .string h2) rfl
    have c_h3 := lcell n_h 3 (v := .string h3) rfl
    go_wp2_with fail
    refine (CW1.o _).mono ?_
    rintro e v7 ⟨rfl, g⟩
    replace u := u.trans (g.mono u.size)
    replace n_a := lkeep n_a g
    replace n_b := lkeep n_b g
    replace n_r := lkeep n_r g
    replace n_m := lkeep n_m g
    replace n_h := lkeep n_h g
    clear c_a0 c_a1 c_a2 c_a3 c_h0 c_h1 c_h2 c_h3
    clear g
    have c_b0 := lcell n_b 0 (v := .string y0') rfl
    have c_b1 := lcell n_b 1 (v := .string y1') rfl
    have c_b2 := lcell n_b 2 (v := .string y2') rfl
    have c_b3 := lcell n_b 3 (v := .string y3') rfl
    have c_h0 := lcell n_h 0 (v := .string h0) rfl
    have c_h1 := lcell n_h 1 (v := .string h1) rfl
    have c_h2 := lcell n_h 2 (v := .string h2) rfl
    have c_h3 := lcell n_h 3 (v := .string h3) rfl
    go_wp2_with fail
    refine (CW2.o _).mono ?_
    rintro e v8 ⟨rfl, g⟩
    replace u := u.trans (g.mono u.size)
    replace n_a := lkeep n_a g
    replace n_b := lkeep n_b g
    replace n_r := lkeep n_r g
    replace n_m := lkeep n_m g
    replace n_h := lkeep n_h g
    clear c_b0 c_b1 c_b2 c_b3 c_h0 c_h1 c_h2 c_h3
    clear g
    have c_a0 := lcell n_a 0 (v := .string x0') rfl
    have c_a1 := lcell n_a 1 (v := .string x1') rfl
    have c_a2 := lcell n_a 2 (v := .string x2') rfl
    have c_a3 := lcell n_a 3 (v := .string x3') rfl
    have c_b0 := lcell n_b 0 (v := .string y0') rfl
    have c_b1 := lcell n_b 1 (v := .string y1') rfl
    have c_b2 := lcell n_b 2 (v := .string y2') rfl
    have c_b3 := lcell n_b 3 (v := .string y3') rfl
    have c_h0 := lcell n_h 0 (v := .string h0) rfl
    have c_h1 := lcell n_h 1 (v := .string h1) rfl
    have c_h2 := lcell n_h 2 (v := .string h2) rfl
    have c_h3 := lcell n_h 3 (v := .string h3) rfl
    have e1 := E1.o
    have e2 := E2.o
    rcases e1 with ⟨g1, g2⟩ | ⟨g1, g2, g3⟩
    · subst g1
      subst g2
      rcases e2 with ⟨g4, g5⟩ | ⟨g4, g5, g6⟩
      · subst g4
        subst g5
        go_wp2_with fail
        go_meet
        exact ⟨rfl, n_a, n_b, n_r, n_m, n_h, u⟩
      · subst g4
        subst g5
        rcases g6 with g6 | ⟨g6, g6'⟩
        all_goals (go_wp2_with fail)
        all_goals go_meet
        all_goals exact ⟨rfl, n_a, n_b, n_r, n_m, n_h, u⟩
    · subst g1
      subst g2
      rcases e2 with ⟨g4, g5⟩ | ⟨g4, g5, g6⟩
      · subst g4
        subst g5
        rcases g3 with g3 | ⟨g3, g3'⟩
        all_goals (go_wp2_with fail)
        all_goals go_meet
        all_goals exact ⟨rfl, n_a, n_b, n_r, n_m, n_h, u⟩
      · subst g4
        subst g5
        rcases g3 with g3 | ⟨g3, g3'⟩ <;> rcases g6 with g6 | ⟨g6, g6'⟩
        all_goals (go_wp2_with fail)
        all_goals go_meet
        all_goals exact ⟨rfl, n_a, n_b, n_r, n_m, n_h, u⟩
  obtain ⟨rfl, n_a, n_b, n_r, n_m, n_h, u⟩ := hcut
  have c_m0 := lcell n_m 0 (v := .string m0) rfl
  have c_m1 := lcell n_m 1 (v := .string m1) rfl
  have c_m2 := lcell n_m 2 (v := .string m2) rfl
  have c_m3 := lcell n_m 3 (v := .string m3) rfl
  have c_r0 := lcell n_r 0 (v := .string r0) rfl
  have c_r1 := lcell n_r 1 (v := .string r1) rfl
  have cCm := CCm.o
  clear HT E1 E2 CW1 CW2 CK1 CK2 CA CB CM CH CCm hbo
  cases th with
  | true =>
    obtain rfl : c = 0 := by simpa using hth
    go_wp2_with fail
    refine (cCm _).mono ?_
    rintro e vz ⟨rfl, g⟩
    replace u := u.trans (g.mono u.size)
    go_wp2_with fail
    go_ret
    exact ⟨by simp, u⟩
  | false =>
    go_wp2_with fail
    refine (cCm _).mono ?_
    rintro e vz ⟨rfl, g⟩
    replace u := u.trans (g.mono u.size)
    go_wp2_with fail
    go_ret
    exact ⟨by simp, u⟩
end En
end Go.Proofs.YtncgigpjdjpgmaaGreatDoor
namespace Go.Proofs.YtncgigpjdjpgmaaGreatDoor
set_option maxRecDepth 1000000
namespace En
open Go.ChangeShapes Go.WideShapes Go.ChangeAt Go.RowKit
open Go.Extern.Stop Go.Stop Go.Extern
theorem own : ownKnob Tryz.prog.godebug = none := by kernel_rfl
theorem laidOut : laidOutB Tryz.prog = true := by kernel_rfl
theorem gE : Tryz.prog.globalNamed "workpiece/enclosure.errRefused" = some 0 := by kernel_rfl
theorem gET : (Tryz.prog.globals[0]?).map (·.type) = some 129 := by kernel_rfl
theorem cellsE : Tryz.prog.cellsOf 224 = 1 := by kernel_rfl
theorem cellsStr : Tryz.prog.cellsOf 9 = 1 := by kernel_rfl
theorem starE : "*" ++ "errors.errorString" = "*errors.errorString" := by decide
theorem rowE (u : TypeId) (h : Tryz.prog.typeName? 3 u = some "*errors.errorString") : u = 202 :=
  typeName_ptr_named (nm := "errors.errorString") (by rw [starE]; kernel_rfl) (by kernel_rfl) (by decide) u (by rw [starE]; exact h)
abbrev theLaid : List (String × DataW Unit) := [("workpiece/enclosure.errRefused", Rows.laid_workpiece_enclosure_errRefused)]
theorem ref_of {W : World} (h : laidMetH Tryz.prog theLaid W) : ∃ a, Ref a W := by
  obtain ⟨a0, s0, hv0, hc0, hs0, hz0⟩ := laid_sentinel (r := []) h gE gET Tryz.underlying129 rowE Tryz.underlying202 Tryz.underlying224 rfl rfl Tryz.underlying9 cellsE cellsStr
  have h1 := World.var?_cell gE hv0 0
  simp at h1
  exact ⟨a0, h1⟩
abbrev refS : ByteArray := { data := #[101, 110, 99, 108, 111, 115, 117, 114, 101, 58, 32, 114, 101, 102, 117, 115, 101, 100] }
noncomputable def low : Nat := (World.holding Tryz.prog default ⟨#[], #[], []⟩).heap.size
noncomputable def laidWorld (os : Os) : World :=
  let w0 := World.holding Tryz.prog os ⟨#[.cells #[.string refS] 224], #[], []⟩
  { w0 with heap := w0.heap.modify 0 fun
      | .cells _ t frozen => .cells #[.iface 202 (.pointer (some ⟨low, 0, none⟩))] t frozen
      | o => o }
theorem laid_met (os : Os) (args : Array Value) : laidMet Tryz.prog theLaid ((laidWorld os).forCall (fun _ _ => 0) ⟨#[], args, []⟩).memory :=
  laidMet_of_run (ps := [.cell 0 0, .cell low 0]) 8 (by kernel_rfl) (by kernel_rfl) (by kernel_rfl)
theorem in64 {k : Int} (h : (Lit.int .i64 k).wf = true) : In64 k := Joins.in64_of_wf h
end En
end Go.Proofs.YtncgigpjdjpgmaaGreatDoor
namespace Go.Proofs.YtncgigpjdjpgmaaGreatDoor.enclosureMeets
set_option maxRecDepth 1000000
open Go.ChangeShapes Go.WideShapes Go.ChangeAt Go.RowKit
open Go.ChangeMaps (open_string shut_string)
open En

theorem contract (H : Type) (enc : TypeId × Value → H) (W : World) (base : Nat) (args : Array Value) (ds gs : List (DataW H)) (before : List MemPlace)
    (hval : ∀ (j : Nat) t v, Tryz.f8.params[j]? = some t → args[j]? = some v → Value.okWide Tryz.prog W .any base t v)
    (hW : DataW.Whole enc Tryz.prog Tryz.f8.params.toList Rows.enclosureMeetsSpec.vars false W args.toList ds gs before) (hL : laidMetH Tryz.prog Rows.enclosureMeetsRow.laid W) :
    Calls Tryz.prog 8 args W fun e W' => ∃ v, e = .returned v ∧ Rows.enclosureMeetsSpec.post enc Tryz.prog Tryz.f8 false true false false W args v W' := by
  have hW' := hW
  obtain ⟨p, q, hA0, hV, rfl, hfz, hnd⟩ := hW
  have hA : DataW.TrodAll enc Tryz.prog W 0 (fun _ => true) true Tryz.f8.params.toList args.toList ds p := hA0
  rw [Tryz.params8] at hA hval
  obtain ⟨v0, vs0, d0, ds0, p0, q0, hargs, rfl, rfl, h0, r0⟩ := trodAll_cons hA
  obtain ⟨v1, vs1, d1, ds1, p1, q1, rfl, rfl, rfl, h1, r1⟩ := trodAll_cons r0
  obtain ⟨v2, vs2, d2, ds2, p2, q2, rfl, rfl, rfl, h2, r2⟩ := trodAll_cons r1
  obtain ⟨rfl, rfl, rfl⟩ := trodAll_nil r2
  obtain rfl : args = #[v0, v1, v2] := by cases args; simp_all
  obtain ⟨rfl, rfl⟩ := trodVars_none hV
  obtain ⟨s0, s1, s2, s3, rfl, rfl, rfl, ws⟩ := Rt.open_arr4 Tryz.underlying26 Tryz.underlying3 (by kernel_rfl) (by kernel_rfl) (hval 0 26 v0 rfl rfl) h0
  obtain ⟨t0, t1, t2, t3, rfl, rfl, rfl, wt⟩ := Rt.open_arr4 Tryz.underlying26 Tryz.underlying3 (by kernel_rfl) (by kernel_rfl) (hval 1 26 v1 rfl rfl) h1
  obtain ⟨u0, u1, rfl, rfl, rfl, wu⟩ := Rt.open_arr2 Tryz.underlying59 Tryz.underlying3 (by kernel_rfl) (by kernel_rfl) (hval 2 59 v2 rfl rfl) h2
  clear hA0
  simp only [List.append_nil] at hW'
  obtain ⟨a, ha⟩ := ref_of hL
  refine (En.meets_walk a s0 s1 s2 s3 t0 t1 t2 t3 u0 u1 (in64 ws.1) (in64 ws.2.1) (in64 ws.2.2.1) (in64 ws.2.2.2) (in64 wt.1) (in64 wt.2.1) (in64 wt.2.2.1) (in64 wt.2.2.2) (in64 wu.1) (in64 wu.2) W ha).mono fun e W' ⟨he, hb⟩ => ?_
  subst he
  refine ⟨_, rfl, [_, _, _], [], [], [], [], [], hW', trodAll_cons_mk (shut_bool Tryz.underlying4 _) trodAll_mk0, ?_, rfl, World.keptBut_mono (fun x hx => by cases hx) (hb.frame (· ∈ [])), fun h => by cases h⟩
  exact trodAll_cons_mk (Rt.shut_arr4 Tryz.underlying26 Tryz.underlying3 (by kernel_rfl) (by kernel_rfl) ws) (trodAll_cons_mk (Rt.shut_arr4 Tryz.underlying26 Tryz.underlying3 (by kernel_rfl) (by kernel_rfl) wt) (trodAll_cons_mk (Rt.shut_arr2 Tryz.underlying59 Tryz.underlying3 (by kernel_rfl) (by kernel_rfl) wu) trodAll_mk0))

theorem reads (os : Os) {H : Type} (enc : TypeId × Value → H) : ∃ places, DataW.whole enc Tryz.prog ((laidWorld os).forCall (fun _ _ => 0) ⟨#[], #[.agg #[.int .i64 0, .int .i64 0, .int .i64 0, .int .i64 0], .agg #[.int .i64 0, .int .i64 0, .int .i64 0, .int .i64 0], .agg #[.int .i64 0, .int .i64 0]], []⟩).memory Tryz.f8.params.toList Rows.enclosureMeetsSpec.vars false (#[.agg #[.int .i64 0, .int .i64 0, .int .i64 0, .int .i64 0], .agg #[.int .i64 0, .int .i64 0, .int .i64 0, .int .i64 0], .agg #[.int .i64 0, .int .i64 0]] : Array Value).toList 8 = some ([.agg [.lit (.int .i64 0), .lit (.int .i64 0), .lit (.int .i64 0), .lit (.int .i64 0)], .agg [.lit (.int .i64 0), .lit (.int .i64 0), .lit (.int .i64 0), .lit (.int .i64 0)], .agg [.lit (.int .i64 0), .lit (.int .i64 0)]], [], places) :=
  ⟨[], by kernel_rfl⟩

theorem lifted (os : Os) (started : os.Started) (H : Type) (enc : TypeId × Value → H) (F : Stop.Interp) :
    ReturnsInHanded {} Tryz.checked os 8 .any ((OpenSpec.ofChange Rows.enclosureMeetsSpec).preRow enc Tryz.prog Tryz.f8 Rows.enclosureMeetsRow.domain false Rows.enclosureMeetsRow.laid) (((OpenSpec.ofChange Rows.enclosureMeetsSpec).at F).post enc Tryz.prog Tryz.f8 false true false false) := by
  obtain ⟨places, hx⟩ := reads os enc
  refine returnsInHanded_of_row (C := Tryz.checked) (s := OpenSpec.ofChange Rows.enclosureMeetsSpec) own started (by kernel_rfl) Tryz.func8
    (witness_row_at (enc := enc) (C := Tryz.checked) false (laidWorld os) #[.agg #[.int .i64 0, .int .i64 0, .int .i64 0, .int .i64 0], .agg #[.int .i64 0, .int .i64 0, .int .i64 0, .int .i64 0], .agg #[.int .i64 0, .int .i64 0]] rfl (by kernel_rfl) (by kernel_rfl) (by kernel_rfl)
      (OpenSpec.preRow_of_cond 8 hx (by kernel_rfl) (fun k hk => by cases hk) (by kernel_rfl) (laid_met os _))) ?_
  intro W base args ds gs before hval hW _ _ _ hL _ _
  exact contract H enc W base args ds gs before hval hW hL

theorem said : Rows.EnclosureMeetsSaid :=
  OpenClaim.holds_of_cond 8 Tryz.f8 rfl rfl rfl rfl rfl rfl rfl ⟨rfl, rfl, rfl, rfl, rfl⟩ rfl rfl rfl rfl rfl (by kernel_rfl) Tryz.func8 (by kernel_rfl)
    (of_decide_eq_true (by kernel_rfl)) (by unfold Func.isWrapper; first | (rw [if_pos (by decide +kernel)]; kernel_rfl) | (rw [if_neg (by decide +kernel)]; exact ⟨rfl, rfl⟩))
    (fun os started H enc _ F => by rw [OpenClaim.pre_eq_preRow]; exact lifted os started H enc F)

theorem plain (f : FuncId) (fn : Func) (hf : Tryz.pinned.checked.prog.funcNamed "workpiece/workpiecelaw05.EnclosureMeets" = some f) (hfn : Tryz.pinned.checked.prog.funcs[f]? = some fn) :
    true = Tryz.pinned.checked.prog.looks [] ∧ ∀ (j : Nat) t, fn.params[j]? = some t → Tryz.pinned.checked.prog.wantsStandIn t = false := by
  obtain rfl : f = 8 := Option.some.inj ((show Tryz.prog.funcNamed "workpiece/workpiecelaw05.EnclosureMeets" = some 8 by kernel_rfl).symm.trans hf) |>.symm
  obtain rfl : fn = Tryz.f8 := (Option.some.inj (Tryz.func8.symm.trans hfn)).symm
  refine ⟨by kernel_rfl, fun j t ht => ?_⟩
  rw [Tryz.params8] at ht
  have hm := Array.mem_of_getElem? ht
  simp at hm
  rcases hm with rfl | rfl
  · exact (show Tryz.prog.wantsStandIn 26 = false by kernel_rfl)
  · exact (show Tryz.prog.wantsStandIn 59 = false by kernel_rfl)

/-- the card -/
theorem card : Rows.EnclosureMeetsCardSaid :=
  Claim7.holds_tied_plain_at .later [] _ _ _ _ said (fun _ h => by cases h) (by kernel_rfl) (fun _ h => by cases h) enclosureMeets_row_tie rfl ⟨rfl, rfl⟩ (by kernel_rfl) rfl plain (by kernel_rfl)
end Go.Proofs.YtncgigpjdjpgmaaGreatDoor.enclosureMeets
