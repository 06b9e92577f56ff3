/-
  Contracts of number: minus.
-/
import Derived.Test.YteaecpmdooolkaaIntNumD
namespace Go.Proofs.Yteaecpmdooolkaa
open Go.RowKit Nm

set_option maxHeartbeats 2000000 in
theorem numMinus_any (x y : Int) (u v : Value) (w : World) (hx : IsN w u x) (hy : IsN w v y) (hl : (natL x.natAbs).length ≤ 1000) (hl2 : (natL y.natAbs).length ≤ 1000) :
    Calls Try.prog 42 #[u, v] w fun e w' => ∃ r, e = .returned r ∧ IsN w' r (x - y) ∧ Below w.heap.size w w' := by
  have HX := hx
  have HY := hy
  obtain ⟨p, cap, rfl, hN⟩ := hx
  obtain ⟨q, cap', rfl, hN'⟩ := hy
  have HB0 : Shut _ := ⟨box3_below w #[.bool (decide (x < 0)), .slice p (natL x.natAbs).length cap] #[.bool (decide (y < 0)), .slice q (natL y.natAbs).length cap'] #[.bool false, .slice none 0 0]⟩
  obtain ⟨r1, r2, r3⟩ := box3_row w #[.bool (decide (x < 0)), .slice p (natL x.natAbs).length cap] #[.bool (decide (y < 0)), .slice q (natL y.natAbs).length cap'] #[.bool false, .slice none 0 0]
  go_enter Try.func42, Try.ntmps42
  go_wp2
  rw [show ((w.alloc (.cells #[.bool (decide (x < 0)), .slice p (natL x.natAbs).length cap] 54)).alloc (.cells #[.bool (decide (y < 0)), .slice q (natL y.natAbs).length cap'] 54)).alloc (.cells #[.bool false, .slice none 0 0] 54) = box3 w #[.bool (decide (x < 0)), .slice p (natL x.natAbs).length cap] #[.bool (decide (y < 0)), .slice q (natL y.natAbs).length cap'] #[.bool false, .slice none 0 0] from rfl]
  generalize box3 w #[.bool (decide (x < 0)), .slice p (natL x.natAbs).length cap] #[.bool (decide (y < 0)), .slice q (natL y.natAbs).length cap'] #[.bool false, .slice none 0 0] = W0 at *
  have hd : Below W0.heap.size W0 W0.drew := (Below.refl _ _).drew
  have hwd : Below w.heap.size w W0.drew := HB0.o.drew
  obtain ⟨a1, a2, _, _⟩ := keepNum r1 (Below.refl _ W0)
  obtain ⟨b1, b2, _, _⟩ := keepNum r2 (Below.refl _ W0)
  obtain ⟨d1, d2, d3, d4⟩ := keepNum r3 (Below.refl _ W0)
  have cn := negated_any y _ W0.drew (HY.below hwd (Nat.le_refl _))
  have HXS : Shut _ := ⟨HX⟩
  have hl3 : (natL (-y).natAbs).length ≤ 1000 := by rw [Int.natAbs_neg]; exact hl2
  have HR1 : Shut _ := ⟨r1⟩
  have HR2 : Shut _ := ⟨r2⟩
  have HR3 : Shut _ := ⟨r3⟩
  have n1 : ¬ (w.heap.size = w.heap.size + 1 + 1) := by omega
  have n2 : ¬ (w.heap.size + 1 + 1 = w.heap.size) := by omega
  clear r1 r2 r3 hN hN' HX HY
  go_region_held3 (fun w' => w'.cell? ⟨w.heap.size, 0, none⟩ = some (.bool (decide (x < 0))) ∧ w'.cell? ⟨w.heap.size, 1, none⟩ = some (.slice p (natL x.natAbs).length cap) ∧ w'.cell? ⟨w.heap.size + 1, 0, none⟩ = some (.bool (decide (y < 0))) ∧ w'.cell? ⟨w.heap.size + 1, 1, none⟩ = some (.slice q (natL y.natAbs).length cap')) (go_keep) (first | (go_at_call 66; refine cn.mono ?_; rintro e w1 ⟨v1, rfl, hv1, hB1⟩; have hB1' := hd.trans hB1; obtain ⟨e1, e2, _, _⟩ := keepNum HR1.o hB1'; obtain ⟨f1, f2, _, _⟩ := keepNum HR2.o hB1'; obtain ⟨g1, g2, g3, g4⟩ := keepNum HR3.o hB1'; have hw1 := HB0.o.trans (hB1'.mono HB0.o.size)) | (go_at_call 39; refine (numPlus_any x (-y) _ _ _ (HXS.o.below hw1 (Nat.le_refl _)) hv1 hl hl3).mono ?_; rintro e w2 ⟨r9, rfl, hr9, hB2⟩; obtain ⟨p9, c9, rfl, hn9⟩ := hr9; have hB2' := hB1'.trans (hB2.mono hB1'.size); obtain ⟨h1, h2, _, _⟩ := keepNum HR1.o hB2'; obtain ⟨i1, i2, _, _⟩ := keepNum HR2.o hB2'; obtain ⟨j1, j2, j3, j4⟩ := keepNum HR3.o hB2'))
  all_goals go_wp2
  all_goals (have hF := ((HB0.o.trans (hB2'.mono HB0.o.size)).setCell (p := ⟨w.heap.size + 1 + 1, 0, none⟩) (by show w.heap.size ≤ w.heap.size + 1 + 1; omega) (.bool (decide (x + -y < 0)))).setCell (p := ⟨w.heap.size + 1 + 1, 1, none⟩) (by show w.heap.size ≤ w.heap.size + 1 + 1; omega) (.slice p9 (natL (x + -y).natAbs).length c9))
  all_goals (have hv2 := hn9.setNum2 (RowAt.below HR3.o hB2' (RowAt.lt HR3.o)) (fun _ _ => by simp) (fun _ _ => by simp) (decide (x + -y < 0)) (.slice p9 (natL (x + -y).natAbs).length c9))
  all_goals refine bodyPost_ret (v := .agg #[.bool (decide (x + -y < 0)), .slice p9 (natL (x + -y).natAbs).length c9]) (by simp [results, Try.results42, go_sem, j1, j2]) rfl ⟨_, rfl, ⟨p9, c9, by rw [Int.sub_eq_add_neg], by rw [Int.sub_eq_add_neg]; exact hv2⟩, hF⟩
end Go.Proofs.Yteaecpmdooolkaa
