/-
  Contracts of number: plus, minus, times.
-/
import Derived.Test.YteaecpmdooolkaaIntNumB
namespace Go.Proofs.Yteaecpmdooolkaa
open Go.RowKit Nm

/-- three boxes: two numbers and a result -/
def box3 (w : World) (a b c : Array Value) : World := ((w.alloc (.cells a 54)).alloc (.cells b 54)).alloc (.cells c 54)
theorem box3_below (w : World) (a b c : Array Value) : Below w.heap.size w (box3 w a b c) := (((Below.refl _ w).alloc (Nat.le_refl _) _).alloc (by rw [World.size_alloc]; omega) _).alloc (by rw [World.size_alloc, World.size_alloc]; omega) _
theorem box3_size (w : World) (a b c : Array Value) : (box3 w a b c).heap.size = w.heap.size + 3 := by rw [box3, World.size_alloc, World.size_alloc, World.size_alloc]
theorem box3_row (w : World) (a b c : Array Value) : RowAt (box3 w a b c) w.heap.size a 54 ∧ RowAt (box3 w a b c) (w.heap.size + 1) b 54 ∧ RowAt (box3 w a b c) (w.heap.size + 2) c 54 := by
  have h1 := ((RowAt.new w a 54).alloc (.cells b 54)).alloc (.cells c 54)
  have h2 := (RowAt.new (w.alloc (.cells a 54)) b 54).alloc (.cells c 54)
  have h3 := RowAt.new ((w.alloc (.cells a 54)).alloc (.cells b 54)) c 54
  rw [World.size_alloc] at h2
  rw [World.size_alloc, World.size_alloc] at h3
  exact ⟨h1, h2, h3⟩

theorem NA.setNum {W : World} {v : Value} {l : List Nat} {b : Nat} {x y : Value} (h : NA W v l) (hr : RowAt W b #[x, y] 54) (hx : ∀ k n, x ≠ .int k n) (hy : ∀ k n, y ≠ .int k n) (i : Nat) (z : Value) : NA (W.setCell ⟨b, i, none⟩ z) v l := by
  obtain ⟨p, cap, rfl, h1, h2, h3 | ⟨g, o, rfl, hg, hu⟩⟩ := h
  · exact ⟨p, cap, rfl, h1, h2, .inl h3⟩
  · refine ⟨_, cap, rfl, h1, h2, .inr ⟨g, o, rfl, by simp only [World.setCell, Array.size_modify]; exact hg, fun j hj => ?_⟩⟩
    have hc := hu j hj
    by_cases hgb : g = b
    · subst hgb
      rw [RowAt.cell hr (o + j)] at hc
      rcases Nat.lt_or_ge (o + j) 2 with h5 | h5
      · rcases (show o + j = 0 ∨ o + j = 1 by omega) with h6 | h6
        · rw [h6] at hc; exact absurd (Option.some.inj hc) (hx _ _)
        · rw [h6] at hc; exact absurd (Option.some.inj hc) (hy _ _)
      · rw [Array.getElem?_eq_none (by simpa using h5)] at hc; cases hc
    · have e : (W.setCell ⟨b, i, none⟩ z).cell? ⟨g, o + j, none⟩ = W.cell? ⟨g, o + j, none⟩ := by
        unfold World.cell?
        rw [show (W.setCell ⟨b, i, none⟩ z).heap[(⟨g, o + j, none⟩ : Addr).block]? = W.heap[g]? from heap_setCell_other W ⟨b, i, none⟩ g z hgb]
      exact e.trans hc
theorem NA.setNum2 {W : World} {v : Value} {l : List Nat} {b : Nat} {x y : Value} (h : NA W v l) (hr : RowAt W b #[x, y] 54) (hx : ∀ k n, x ≠ .int k n) (hy : ∀ k n, y ≠ .int k n) (B : Bool) (z : Value) : NA ((W.setCell ⟨b, 0, none⟩ (.bool B)).setCell ⟨b, 1, none⟩ z) v l :=
  (h.setNum hr hx hy 0 (.bool B)).setNum (x := .bool B) (y := y) (RowAt.set_same hr 0 (.bool B)) (fun _ _ => by simp) hy 1 z
theorem NA.out {W : World} {v : Value} {l : List Nat} (h : NA W v l) : ∃ (p : Option Addr) (cap : Nat), v = .slice p l.length cap ∧ NA W (.slice p l.length cap) l := by
  obtain ⟨p, cap, rfl, h1⟩ := h; exact ⟨p, cap, rfl, p, cap, rfl, h1⟩
theorem sgn_mul (x y : Int) : (!(decide (x < 0) == decide (y < 0)) && decide (0 < (natL (x.natAbs * y.natAbs)).length)) = decide (x * y < 0) := by
  have hz : (natL (x.natAbs * y.natAbs)).length = 0 ↔ x.natAbs * y.natAbs = 0 := natL_len0
  by_cases hx : x = 0
  · subst hx
    rw [Int.zero_mul, show (0 : Int).natAbs * y.natAbs = 0 by simp, natL_zero]; simp
  · by_cases hy : y = 0
    · subst hy
      rw [Int.mul_zero, show x.natAbs * (0 : Int).natAbs = 0 by simp, natL_zero]; simp
    · have hp : x.natAbs * y.natAbs ≠ 0 := Nat.mul_ne_zero (by omega) (by omega)
      have hl : decide (0 < (natL (x.natAbs * y.natAbs)).length) = true := decide_eq_true (by have := mt hz.1 hp; omega)
      rw [hl, Bool.and_true]
      by_cases h1 : x < 0
      · by_cases h2 : y < 0
        · have := Int.mul_pos_of_neg_of_neg h1 h2
          rw [decide_eq_true h1, decide_eq_true h2, decide_eq_false (show ¬ x * y < 0 by omega)]; rfl
        · have := Int.mul_neg_of_neg_of_pos h1 (show 0 < y by omega)
          rw [decide_eq_true h1, decide_eq_false h2, decide_eq_true this]; rfl
      · by_cases h2 : y < 0
        · have := Int.mul_neg_of_pos_of_neg (show 0 < x by omega) h2
          rw [decide_eq_false h1, decide_eq_true h2, decide_eq_true this]; rfl
        · have := Int.mul_pos (show 0 < x by omega) (show 0 < y by omega)
          rw [decide_eq_false h1, decide_eq_false h2, decide_eq_false (show ¬ x * y < 0 by omega)]; rfl
set_option maxHeartbeats 2000000 in
theorem numTimes_any (x y : Int) (u v : Value) (w : World) (hx : IsN w u x) (hy : IsN w v y) (hl : (natL x.natAbs).length ≤ 1000) (hl2 : (natL y.natAbs).length ≤ 1000) :
    Calls Try.prog 43 #[u, v] w fun e w' => ∃ r, e = .returned r ∧ IsN w' r (x * y) ∧ Below w.heap.size w w' := by
  obtain ⟨p, cap, rfl, hN⟩ := hx
  obtain ⟨q, cap', rfl, hN'⟩ := hy
  have HB0 : Shut _ := ⟨box3_below w #[.bool (decide (x < 0)), .slice p (natL x.natAbs).length cap] #[.bool (decide (y < 0)), .slice q (natL y.natAbs).length cap'] #[.bool false, .slice none 0 0]⟩
  have hZ := box3_size w #[.bool (decide (x < 0)), .slice p (natL x.natAbs).length cap] #[.bool (decide (y < 0)), .slice q (natL y.natAbs).length cap'] #[.bool false, .slice none 0 0]
  obtain ⟨r1, r2, r3⟩ := box3_row w #[.bool (decide (x < 0)), .slice p (natL x.natAbs).length cap] #[.bool (decide (y < 0)), .slice q (natL y.natAbs).length cap'] #[.bool false, .slice none 0 0]
  go_enter Try.func43, Try.ntmps43
  go_wp2
  rw [show ((w.alloc (.cells #[.bool (decide (x < 0)), .slice p (natL x.natAbs).length cap] 54)).alloc (.cells #[.bool (decide (y < 0)), .slice q (natL y.natAbs).length cap'] 54)).alloc (.cells #[.bool false, .slice none 0 0] 54) = box3 w #[.bool (decide (x < 0)), .slice p (natL x.natAbs).length cap] #[.bool (decide (y < 0)), .slice q (natL y.natAbs).length cap'] #[.bool false, .slice none 0 0] from rfl]
  generalize box3 w #[.bool (decide (x < 0)), .slice p (natL x.natAbs).length cap] #[.bool (decide (y < 0)), .slice q (natL y.natAbs).length cap'] #[.bool false, .slice none 0 0] = W0 at *
  have hd : Below W0.heap.size W0 W0.drew := (Below.refl _ _).drew
  have hwd : Below w.heap.size w W0.drew := HB0.o.drew
  obtain ⟨a1, a2, _, _⟩ := keepNum r1 (Below.refl _ W0)
  obtain ⟨b1, b2, _, _⟩ := keepNum r2 (Below.refl _ W0)
  obtain ⟨d1, d2, d3, d4⟩ := keepNum r3 (Below.refl _ W0)
  have ct := times_any x.natAbs y.natAbs (.slice p (natL x.natAbs).length cap) (.slice q (natL y.natAbs).length cap') W0.drew (hN.below hwd (Nat.le_refl _)) (hN'.below hwd (Nat.le_refl _)) hl hl2
  have HR1 : Shut _ := ⟨r1⟩
  have HR2 : Shut _ := ⟨r2⟩
  have HR3 : Shut _ := ⟨r3⟩
  have n1 : ¬ (w.heap.size = w.heap.size + 1 + 1) := by omega
  have n2 : ¬ (w.heap.size + 1 + 1 = w.heap.size) := by omega
  clear r1 r2 r3 hN hN'
  go_region_held3 (fun w' => w'.cell? ⟨w.heap.size, 0, none⟩ = some (.bool (decide (x < 0))) ∧ w'.cell? ⟨w.heap.size, 1, none⟩ = some (.slice p (natL x.natAbs).length cap) ∧ w'.cell? ⟨w.heap.size + 1, 0, none⟩ = some (.bool (decide (y < 0))) ∧ w'.cell? ⟨w.heap.size + 1, 1, none⟩ = some (.slice q (natL y.natAbs).length cap')) (go_keep) (first | (go_at_call 67; refine ct.mono ?_; rintro e w1 ⟨v1, rfl, hv1, hB1⟩; obtain ⟨p1, cp1, rfl, hv1'⟩ := hv1.out; have hB1' := hd.trans hB1; obtain ⟨e1, e2, _, _⟩ := keepNum HR1.o hB1'; obtain ⟨f1, f2, _, _⟩ := keepNum HR2.o hB1'; obtain ⟨g1, g2, g3, g4⟩ := keepNum HR3.o hB1') | (go_at_call 64; refine (signed_any _ p1 _ cp1 _).mono ?_; rintro e w2 ⟨rfl, hB2⟩; have hB2' := hB1'.trans (hB2.mono hB1'.size); obtain ⟨h1, h2, _, _⟩ := keepNum HR1.o hB2'; obtain ⟨i1, i2, _, _⟩ := keepNum HR2.o hB2'; obtain ⟨j1, j2, j3, j4⟩ := keepNum HR3.o hB2'))
  all_goals go_wp2
  all_goals (have hF := ((HB0.o.trans (hB2'.mono HB0.o.size)).setCell (p := ⟨w.heap.size + 1 + 1, 0, none⟩) (by show w.heap.size ≤ w.heap.size + 1 + 1; omega) (.bool (!(decide (x < 0) == decide (y < 0)) && decide (0 < (natL (x.natAbs * y.natAbs)).length)))).setCell (p := ⟨w.heap.size + 1 + 1, 1, none⟩) (by show w.heap.size ≤ w.heap.size + 1 + 1; omega) (.slice p1 (natL (x.natAbs * y.natAbs)).length cp1))
  all_goals (have hv2 := (hv1.below hB2 (Nat.le_refl _)).setNum2 (RowAt.below HR3.o hB2' (RowAt.lt HR3.o)) (fun _ _ => by simp) (fun _ _ => by simp) (!(decide (x < 0) == decide (y < 0)) && decide (0 < (natL (x.natAbs * y.natAbs)).length)) (.slice p1 (natL (x.natAbs * y.natAbs)).length cp1))
  all_goals refine bodyPost_ret (v := .agg #[.bool (!(decide (x < 0) == decide (y < 0)) && decide (0 < (natL (x.natAbs * y.natAbs)).length)), .slice p1 (natL (x.natAbs * y.natAbs)).length cp1]) (by simp [results, Try.results43, go_sem, j1, j2]) rfl ⟨_, rfl, ⟨p1, cp1, by rw [Int.natAbs_mul, sgn_mul], by rw [Int.natAbs_mul]; exact hv2⟩, hF⟩
end Go.Proofs.Yteaecpmdooolkaa
