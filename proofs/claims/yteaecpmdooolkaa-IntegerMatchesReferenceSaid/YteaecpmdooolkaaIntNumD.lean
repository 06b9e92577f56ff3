/-
  Contracts of number: plus, minus.
-/
import Derived.Test.YteaecpmdooolkaaIntNumC
import Derived.Deep.Cut
namespace Go.Proofs.Yteaecpmdooolkaa
open Go.RowKit Nm

theorem same_sum {x y : Int} (h : (decide (x < 0) == decide (y < 0)) = true) : decide (x + y < 0) = decide (x < 0) ∧ (x + y).natAbs = x.natAbs + y.natAbs := by
  rw [beq_iff_eq, decide_eq_decide] at h
  rw [decide_eq_decide]
  constructor <;> omega
theorem diff_sum {x y : Int} (h : (decide (x < 0) == decide (y < 0)) = false) (hl : y.natAbs ≤ x.natAbs) : (decide (x < 0) && decide (0 < (natL (x.natAbs - y.natAbs)).length)) = decide (x + y < 0) ∧ (x + y).natAbs = x.natAbs - y.natAbs := by
  have hz : (natL (x.natAbs - y.natAbs)).length = 0 ↔ x.natAbs - y.natAbs = 0 := natL_len0
  have hn : ¬ (x < 0 ↔ y < 0) := by
    intro h2
    have h3 : decide (x < 0) = decide (y < 0) := decide_eq_decide.2 h2
    rw [h3] at h; simp at h
  refine ⟨?_, by omega⟩
  by_cases h1 : x < 0
  · rw [decide_eq_true h1, Bool.true_and, decide_eq_decide]
    constructor
    · intro h3; omega
    · intro h3
      have : x.natAbs - y.natAbs ≠ 0 := by omega
      have := mt hz.1 this; omega
  · rw [decide_eq_false h1, Bool.false_and, decide_eq_false (show ¬ x + y < 0 by omega)]

theorem swap_rows {W : World} {b : Nat} {x1 x2 y1 y2 : Value} {c : Array Value} {T : TypeId} (r1 : RowAt W b #[x1, x2] T) (r2 : RowAt W (b + 1) #[y1, y2] T) (r3 : RowAt W (b + 2) c T) :
    RowAt ((((W.setCell ⟨b, 0, none⟩ y1).setCell ⟨b, 1, none⟩ y2).setCell ⟨b + 1, 0, none⟩ x1).setCell ⟨b + 1, 1, none⟩ x2) b #[y1, y2] T ∧ RowAt ((((W.setCell ⟨b, 0, none⟩ y1).setCell ⟨b, 1, none⟩ y2).setCell ⟨b + 1, 0, none⟩ x1).setCell ⟨b + 1, 1, none⟩ x2) (b + 1) #[x1, x2] T ∧ RowAt ((((W.setCell ⟨b, 0, none⟩ y1).setCell ⟨b, 1, none⟩ y2).setCell ⟨b + 1, 0, none⟩ x1).setCell ⟨b + 1, 1, none⟩ x2) (b + 2) c T := by
  have e1 : b ≠ b + 1 := by omega
  have e2 : b + 1 ≠ b := by omega
  have e3 : b + 2 ≠ b := by omega
  have e4 : b + 2 ≠ b + 1 := by omega
  exact ⟨((RowAt.set_same (RowAt.set_same r1 0 y1) 1 y2).set_other ⟨b + 1, 0, none⟩ e1 x1).set_other ⟨b + 1, 1, none⟩ e1 x2,
    RowAt.set_same (RowAt.set_same ((RowAt.set_other r2 ⟨b, 0, none⟩ e2 y1).set_other ⟨b, 1, none⟩ e2 y2) 0 x1) 1 x2,
    (((RowAt.set_other r3 ⟨b, 0, none⟩ e3 y1).set_other ⟨b, 1, none⟩ e3 y2).set_other ⟨b + 1, 0, none⟩ e4 x1).set_other ⟨b + 1, 1, none⟩ e4 x2⟩
theorem cmpNA (a b : Nat) (pa pb : Option Addr) (ca cb : Nat) (W : World) (h1 : NA W (.slice pa (natL a).length ca) (natL a)) (h2 : NA W (.slice pb (natL b).length cb) (natL b)) (h3 : (natL a).length ≤ 1000) (h4 : (natL b).length ≤ 1000) :
    Calls Try.prog 58 #[.slice pa (natL a).length ca, .slice pb (natL b).length cb] W fun e w' => e = .returned (.int .i64 (cmpN a b)) ∧ ∃ m, w' = W.drewN m := by
  obtain ⟨p1, c1, g1, o1, e1, _, _, hp1, hu1⟩ := h1.open
  obtain ⟨p2, c2, g2, o2, e2, _, _, hp2, hu2⟩ := h2.open
  injection e1 with e11 e12 e13
  injection e2 with e21 e22 e23
  subst e11; subst e13; subst e21; subst e23
  exact compare_any a b pa ca g1 o1 pb cb g2 o2 W (fun h => (hp1 h).1) hu1 (fun h => (hp2 h).1) hu2 (by omega) (by omega)
set_option maxHeartbeats 4000000 in
theorem numPlus_any (x y : Int) (u v : Value) (w : World) (hx : IsN w u x) (hy : IsN w v y) (hl : (natL x.natAbs).length ≤ 1000) (hl2 : (natL y.natAbs).length ≤ 1000) :
    Calls Try.prog 39 #[u, v] w fun e w' => ∃ r, e = .returned r ∧ IsN w' r (x + y) ∧ Below w.heap.size w w' := by
  obtain ⟨p, cap, rfl, hN⟩ := hx
  obtain ⟨q, cap', rfl, hN'⟩ := hy
  have HB0 : Shut _ := ⟨box3_below w #[.bool (decide (x < 0)), .slice p (natL x.natAbs).length cap] #[.bool (decide (y < 0)), .slice q (natL y.natAbs).length cap'] #[.bool false, .slice none 0 0]⟩
  obtain ⟨r1, r2, r3⟩ := box3_row w #[.bool (decide (x < 0)), .slice p (natL x.natAbs).length cap] #[.bool (decide (y < 0)), .slice q (natL y.natAbs).length cap'] #[.bool false, .slice none 0 0]
  go_enter Try.func39, Try.ntmps39
  go_upto_region 1 with fail
  rw [show ((w.alloc (.cells #[.bool (decide (x < 0)), .slice p (natL x.natAbs).length cap] 54)).alloc (.cells #[.bool (decide (y < 0)), .slice q (natL y.natAbs).length cap'] 54)).alloc (.cells #[.bool false, .slice none 0 0] 54) = box3 w #[.bool (decide (x < 0)), .slice p (natL x.natAbs).length cap] #[.bool (decide (y < 0)), .slice q (natL y.natAbs).length cap'] #[.bool false, .slice none 0 0] from rfl]
  generalize box3 w #[.bool (decide (x < 0)), .slice p (natL x.natAbs).length cap] #[.bool (decide (y < 0)), .slice q (natL y.natAbs).length cap'] #[.bool false, .slice none 0 0] = W0 at *
  have hd : Below W0.heap.size W0 W0.drew := (Below.refl _ _).drew
  have hwd : Below w.heap.size w W0.drew := HB0.o.drew
  obtain ⟨a1, a2, a3, a4⟩ := keepNum r1 (Below.refl _ W0)
  obtain ⟨b1, b2, b3, b4⟩ := keepNum r2 (Below.refl _ W0)
  obtain ⟨d1, d2, d3, d4⟩ := keepNum r3 (Below.refl _ W0)
  have HR1 : Shut _ := ⟨r1⟩
  have HR2 : Shut _ := ⟨r2⟩
  have HR3 : Shut _ := ⟨r3⟩
  have HN : Shut _ := ⟨hN⟩
  have HN' : Shut _ := ⟨hN'⟩
  have n1 : ¬ (w.heap.size = w.heap.size + 1 + 1) := by omega
  have n2 : ¬ (w.heap.size + 1 + 1 = w.heap.size) := by omega
  clear r1 r2 r3 hN hN'
  cases hs : (decide (x < 0) == decide (y < 0)) with
  | true =>
    have HS : Shut _ := ⟨same_sum hs⟩
    have ct := plus_any x.natAbs y.natAbs (.slice p (natL x.natAbs).length cap) (.slice q (natL y.natAbs).length cap') W0.drew (HN.o.below hwd (Nat.le_refl _)) (HN'.o.below hwd (Nat.le_refl _)) hl hl2
    go_upto_region 2 with fail
    go_region_held3 (fun w' => w'.cell? ⟨w.heap.size, 0, none⟩ = some (.bool (decide (x < 0))) ∧ w'.cell? ⟨w.heap.size, 1, none⟩ = some (.slice p (natL x.natAbs).length cap) ∧ w'.cell? ⟨w.heap.size + 1, 0, none⟩ = some (.bool (decide (y < 0))) ∧ w'.cell? ⟨w.heap.size + 1, 1, none⟩ = some (.slice q (natL y.natAbs).length cap')) (go_keep) (first | (go_at_call 63; refine ct.mono ?_; rintro e w1 ⟨v1, rfl, hv1, hB1⟩; obtain ⟨p1, cp1, rfl, hv1'⟩ := hv1.out; have hB1' := hd.trans hB1; obtain ⟨e1, e2, _, _⟩ := keepNum HR1.o hB1'; obtain ⟨f1, f2, _, _⟩ := keepNum HR2.o hB1'; obtain ⟨g1, g2, g3, g4⟩ := keepNum HR3.o hB1'))
    all_goals go_wp2
    all_goals (have hF := ((HB0.o.trans (hB1'.mono HB0.o.size)).setCell (p := ⟨w.heap.size + 1 + 1, 0, none⟩) (by show w.heap.size ≤ w.heap.size + 1 + 1; omega) (.bool (decide (x < 0)))).setCell (p := ⟨w.heap.size + 1 + 1, 1, none⟩) (by show w.heap.size ≤ w.heap.size + 1 + 1; omega) (.slice p1 (natL (x.natAbs + y.natAbs)).length cp1))
    all_goals (have hv2 := hv1.setNum2 (RowAt.below HR3.o hB1' (RowAt.lt HR3.o)) (fun _ _ => by simp) (fun _ _ => by simp) (decide (x < 0)) (.slice p1 (natL (x.natAbs + y.natAbs)).length cp1))
    all_goals refine bodyPost_ret (v := .agg #[.bool (decide (x < 0)), .slice p1 (natL (x.natAbs + y.natAbs)).length cp1]) (by simp [results, Try.results39, go_sem, g1, g2]) rfl ⟨_, rfl, ⟨p1, cp1, by rw [HS.o.1, HS.o.2], by rw [HS.o.2]; exact hv2⟩, hF⟩
  | false =>
    have cc := cmpNA x.natAbs y.natAbs p q cap cap' W0 (HN.o.below HB0.o (Nat.le_refl _)) (HN'.o.below HB0.o (Nat.le_refl _)) hl hl2
    by_cases hle : y.natAbs ≤ x.natAbs
    · have HCM : 0 ≤ cmpN x.natAbs y.natAbs := by unfold cmpN; (repeat' split) <;> omega
      have HS : Shut _ := ⟨diff_sum hs hle⟩
      have hcm : ¬ cmpN x.natAbs y.natAbs < 0 := by omega
      generalize cmpN x.natAbs y.natAbs = cv at *
      clear HCM
      go_upto_region 5 with (go_at_call 58; refine cc.mono ?_; rintro e w9 ⟨rfl, m, rfl⟩)
      have hB9 : Below W0.heap.size W0 (W0.drewN m) := below_drewN (Below.refl _ _) m
      generalize W0.drewN m = W1 at *
      obtain ⟨a1, a2, a3, a4⟩ := keepNum HR1.o hB9
      obtain ⟨b1, b2, b3, b4⟩ := keepNum HR2.o hB9
      obtain ⟨d1, d2, d3, d4⟩ := keepNum HR3.o hB9
      have hd9 : Below W0.heap.size W0 W1.drew := hB9.drew
      have hw9 : Below w.heap.size w W1.drew := HB0.o.trans (hd9.mono HB0.o.size)
      have cm := minus_any x.natAbs y.natAbs hle (.slice p (natL x.natAbs).length cap) (.slice q (natL y.natAbs).length cap') W1.drew (HN.o.below hw9 (Nat.le_refl _)) (HN'.o.below hw9 (Nat.le_refl _)) hl
      go_region_held3 (fun w' => w'.cell? ⟨w.heap.size, 0, none⟩ = some (.bool (decide (x < 0))) ∧ w'.cell? ⟨w.heap.size, 1, none⟩ = some (.slice p (natL x.natAbs).length cap) ∧ w'.cell? ⟨w.heap.size + 1, 1, none⟩ = some (.slice q (natL y.natAbs).length cap')) (go_keep) (first | (go_at_call 65; refine cm.mono ?_; rintro e w1 ⟨v1, rfl, hv1, hB1⟩; obtain ⟨p1, cp1, rfl, hv1'⟩ := hv1.out; have hB1' := hd9.trans (hB1.mono hd9.size); obtain ⟨e1, e2, _, _⟩ := keepNum HR1.o hB1'; obtain ⟨f1, f2, _, _⟩ := keepNum HR2.o hB1'; obtain ⟨g1, g2, g3, g4⟩ := keepNum HR3.o hB1') | (go_at_call 64; refine (signed_any _ p1 _ cp1 _).mono ?_; rintro e w2 ⟨rfl, hB2⟩; have hB2' := hB1'.trans (hB2.mono hB1'.size); obtain ⟨h1, h2, _, _⟩ := keepNum HR1.o hB2'; obtain ⟨i1, i2, _, _⟩ := keepNum HR2.o hB2'; obtain ⟨j1, j2, j3, j4⟩ := keepNum HR3.o hB2'))
      all_goals go_wp2
      all_goals (have hF := ((HB0.o.trans (hB2'.mono HB0.o.size)).setCell (p := ⟨w.heap.size + 1 + 1, 0, none⟩) (by show w.heap.size ≤ w.heap.size + 1 + 1; omega) (.bool (decide (x < 0) && decide (0 < (natL (x.natAbs - y.natAbs)).length)))).setCell (p := ⟨w.heap.size + 1 + 1, 1, none⟩) (by show w.heap.size ≤ w.heap.size + 1 + 1; omega) (.slice p1 (natL (x.natAbs - y.natAbs)).length cp1))
      all_goals (have hv2 := (hv1.below hB2 (Nat.le_refl _)).setNum2 (RowAt.below HR3.o hB2' (RowAt.lt HR3.o)) (fun _ _ => by simp) (fun _ _ => by simp) (decide (x < 0) && decide (0 < (natL (x.natAbs - y.natAbs)).length)) (.slice p1 (natL (x.natAbs - y.natAbs)).length cp1))
      all_goals refine bodyPost_ret (v := .agg #[.bool (decide (x < 0) && decide (0 < (natL (x.natAbs - y.natAbs)).length)), .slice p1 (natL (x.natAbs - y.natAbs)).length cp1]) (by simp [results, Try.results39, go_sem, j1, j2]) rfl ⟨_, rfl, ⟨p1, cp1, by rw [HS.o.1, HS.o.2], by rw [HS.o.2]; exact hv2⟩, hF⟩
    · have hcm : cmpN x.natAbs y.natAbs < 0 := by unfold cmpN; (repeat' split) <;> omega
      have hs' : (decide (y < 0) == decide (x < 0)) = false := by rw [← hs]; exact Bool.beq_comm
      have HS : Shut _ := ⟨diff_sum hs' (show x.natAbs ≤ y.natAbs by omega)⟩
      generalize cmpN x.natAbs y.natAbs = cv at *
      go_upto_region 5 with (go_at_call 58; refine cc.mono ?_; rintro e w9 ⟨rfl, m, rfl⟩)
      have hB9 : Below W0.heap.size W0 (W0.drewN m) := below_drewN (Below.refl _ _) m
      have hQ := swap_rows (RowAt.drewN HR1.o m) (RowAt.drewN HR2.o m) (RowAt.drewN HR3.o m)
      have hQB := ((((HB0.o.trans (hB9.mono HB0.o.size)).setCell (p := ⟨w.heap.size, 0, none⟩) (Nat.le_refl _) (.bool (decide (y < 0)))).setCell (p := ⟨w.heap.size, 1, none⟩) (Nat.le_refl _) (.slice q (natL y.natAbs).length cap')).setCell (p := ⟨w.heap.size + 1, 0, none⟩) (Nat.le_succ _) (.bool (decide (x < 0)))).setCell (p := ⟨w.heap.size + 1, 1, none⟩) (Nat.le_succ _) (.slice p (natL x.natAbs).length cap)
      generalize ((((W0.drewN m).setCell ⟨w.heap.size, 0, none⟩ (.bool (decide (y < 0)))).setCell ⟨w.heap.size, 1, none⟩ (.slice q (natL y.natAbs).length cap')).setCell ⟨w.heap.size + 1, 0, none⟩ (.bool (decide (x < 0)))).setCell ⟨w.heap.size + 1, 1, none⟩ (.slice p (natL x.natAbs).length cap) = W1 at *
      have QR1 : Shut _ := ⟨hQ.1⟩
      have QR2 : Shut _ := ⟨hQ.2.1⟩
      have QR3 : Shut _ := ⟨hQ.2.2⟩
      have QB0 : Shut _ := ⟨hQB⟩
      clear hQ hQB a1 a2 a3 a4 b1 b2 b3 b4 d1 d2 d3 d4
      obtain ⟨a1, a2, a3, a4⟩ := keepNum QR1.o (Below.refl _ W1)
      obtain ⟨b1, b2, b3, b4⟩ := keepNum QR2.o (Below.refl _ W1)
      obtain ⟨d1, d2, d3, d4⟩ := keepNum QR3.o (Below.refl _ W1)
      have hd9 : Below W1.heap.size W1 W1.drew := (Below.refl _ _).drew
      have hw9 : Below w.heap.size w W1.drew := QB0.o.drew
      have cm := minus_any y.natAbs x.natAbs (by omega) (.slice q (natL y.natAbs).length cap') (.slice p (natL x.natAbs).length cap) W1.drew (HN'.o.below hw9 (Nat.le_refl _)) (HN.o.below hw9 (Nat.le_refl _)) hl2
      go_region_held3 (fun w' => w'.cell? ⟨w.heap.size, 0, none⟩ = some (.bool (decide (y < 0))) ∧ w'.cell? ⟨w.heap.size, 1, none⟩ = some (.slice q (natL y.natAbs).length cap') ∧ w'.cell? ⟨w.heap.size + 1, 1, none⟩ = some (.slice p (natL x.natAbs).length cap)) (go_keep) (first | (go_at_call 65; refine cm.mono ?_; rintro e w1 ⟨v1, rfl, hv1, hB1⟩; obtain ⟨p1, cp1, rfl, hv1'⟩ := hv1.out; have hB1' := hd9.trans (hB1.mono hd9.size); obtain ⟨e1, e2, _, _⟩ := keepNum QR1.o hB1'; obtain ⟨f1, f2, _, _⟩ := keepNum QR2.o hB1'; obtain ⟨g1, g2, g3, g4⟩ := keepNum QR3.o hB1') | (go_at_call 64; refine (signed_any _ p1 _ cp1 _).mono ?_; rintro e w2 ⟨rfl, hB2⟩; have hB2' := hB1'.trans (hB2.mono hB1'.size); obtain ⟨h1, h2, _, _⟩ := keepNum QR1.o hB2'; obtain ⟨i1, i2, _, _⟩ := keepNum QR2.o hB2'; obtain ⟨j1, j2, j3, j4⟩ := keepNum QR3.o hB2'))
      all_goals go_wp2
      all_goals (have hF := ((QB0.o.trans (hB2'.mono QB0.o.size)).setCell (p := ⟨w.heap.size + 1 + 1, 0, none⟩) (by show w.heap.size ≤ w.heap.size + 1 + 1; omega) (.bool (decide (y < 0) && decide (0 < (natL (y.natAbs - x.natAbs)).length)))).setCell (p := ⟨w.heap.size + 1 + 1, 1, none⟩) (by show w.heap.size ≤ w.heap.size + 1 + 1; omega) (.slice p1 (natL (y.natAbs - x.natAbs)).length cp1))
      all_goals (have hv2 := (hv1.below hB2 (Nat.le_refl _)).setNum2 (RowAt.below QR3.o hB2' (RowAt.lt QR3.o)) (fun _ _ => by simp) (fun _ _ => by simp) (decide (y < 0) && decide (0 < (natL (y.natAbs - x.natAbs)).length)) (.slice p1 (natL (y.natAbs - x.natAbs)).length cp1))
      all_goals refine bodyPost_ret (v := .agg #[.bool (decide (y < 0) && decide (0 < (natL (y.natAbs - x.natAbs)).length)), .slice p1 (natL (y.natAbs - x.natAbs)).length cp1]) (by simp [results, Try.results39, go_sem, j1, j2]) rfl ⟨_, rfl, ⟨p1, cp1, by rw [Int.add_comm, HS.o.1, HS.o.2], by rw [Int.add_comm, HS.o.2]; exact hv2⟩, hF⟩
end Go.Proofs.Yteaecpmdooolkaa
