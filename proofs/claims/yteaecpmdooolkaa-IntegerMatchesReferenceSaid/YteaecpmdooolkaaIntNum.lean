/-
  Contracts of number: signed, isZero, negated, text.
-/
import Derived.Test.YteaecpmdooolkaaIntOfD
namespace Go.Proofs.Yteaecpmdooolkaa
open Go.RowKit Nm

set_option maxHeartbeats 1000000 in
theorem signed_any (neg : Bool) (p : Option Addr) (n cap : Nat) (w : World) :
    Calls Try.prog 64 #[.bool neg, .slice p n cap] w fun e w' => e = .returned (.agg #[.bool (neg && decide (0 < n)), .slice p n cap]) ∧ Below w.heap.size w w' := by
  go_enter Try.func64, Try.ntmps64
  cases neg with
  | true =>
    go_wp2
    refine bodyPost_ret (v := .agg #[.bool (decide (0 < n)), .slice p n cap]) (by simp [results, Try.results64, go_sem]) rfl ⟨by rw [Bool.true_and], (Below.refl _ w).alloc (Nat.le_refl _) _⟩
  | false =>
    go_wp2
    refine bodyPost_ret (v := .agg #[.bool false, .slice p n cap]) (by simp [results, Try.results64, go_sem]) rfl ⟨by rw [Bool.false_and], (Below.refl _ w).alloc (Nat.le_refl _) _⟩

theorem keepNum {w0 w1 : World} {b : Nat} {x y : Value} (h : RowAt w0 b #[x, y] 54) (hB : Below w0.heap.size w0 w1) : w1.cell? ⟨b, 0, none⟩ = some x ∧ w1.cell? ⟨b, 1, none⟩ = some y ∧ w1.frozen? ⟨b, 0, none⟩ = false ∧ w1.frozen? ⟨b, 1, none⟩ = false := by
  have h1 := RowAt.below h hB (RowAt.lt h)
  exact ⟨RowAt.cell h1 0, RowAt.cell h1 1, RowAt.frozen h1 0, RowAt.frozen h1 1⟩
theorem box2 (w : World) (o : Obj) (x y : Value) : RowAt ((w.alloc o).alloc (.cells #[x, y] 54)) (w.heap.size + 1) #[x, y] 54 := by
  have := RowAt.new (w.alloc o) #[x, y] 54
  rwa [World.size_alloc] at this
/-- a number -/
def IsN (W : World) (u : Value) (z : Int) : Prop := ∃ (p : Option Addr) (cap : Nat), u = .agg #[.bool (decide (z < 0)), .slice p (natL z.natAbs).length cap] ∧ NA W (.slice p (natL z.natAbs).length cap) (natL z.natAbs)
theorem IsN.below {W W' : World} {u : Value} {z : Int} (h : IsN W u z) {B : Nat} (hB : Below B W W') (hw : W.heap.size ≤ B) : IsN W' u z := by
  obtain ⟨p, cap, e, h⟩ := h; exact ⟨p, cap, e, h.below hB hw⟩

set_option maxHeartbeats 1000000 in
theorem isZero_any (z : Int) (u : Value) (w : World) (h : IsN w u z) :
    Calls Try.prog 47 #[u] w fun e w' => e = .returned (.bool (decide (z = 0))) ∧ Below w.heap.size w w' := by
  obtain ⟨p, cap, rfl, hN⟩ := h
  have hz : (natL z.natAbs).length = 0 ↔ z = 0 := by rw [natL_len0]; omega
  go_enter Try.func47, Try.ntmps47
  have HZ : Shut (((((natL z.natAbs).length : Nat) : Int) == 0) = decide (z = 0)) := ⟨by
    by_cases h0 : z = 0
    · rw [decide_eq_true h0, hz.2 h0]; rfl
    · have := mt hz.1 h0
      rw [decide_eq_false h0, beq_eq_false_iff_ne]; omega⟩
  clear hz hN
  go_wp2
  go_ret
  refine ⟨by rw [← HZ.o]; rfl, (Below.refl _ w).alloc (Nat.le_refl _) _⟩

set_option maxHeartbeats 1000000 in
theorem negated_any (z : Int) (u : Value) (w : World) (h : IsN w u z) :
    Calls Try.prog 66 #[u] w fun e w' => ∃ v, e = .returned v ∧ IsN w' v (-z) ∧ Below w.heap.size w w' := by
  obtain ⟨p, cap, rfl, hN⟩ := h
  have HZ : Shut ((!decide (z < 0) && decide (0 < (natL z.natAbs).length)) = decide (-z < 0)) := ⟨by
    have hz : (natL z.natAbs).length = 0 ↔ z = 0 := by rw [natL_len0]; omega
    by_cases h0 : z < 0
    · rw [decide_eq_true h0, decide_eq_false (show ¬ -z < 0 by omega)]; rfl
    · rw [decide_eq_false h0]
      by_cases h1 : z = 0
      · rw [hz.2 h1, decide_eq_false (show ¬ -z < 0 by omega)]; rfl
      · have := mt hz.1 h1
        rw [decide_eq_true (show -z < 0 by omega), decide_eq_true (show 0 < (natL z.natAbs).length by omega)]; rfl⟩
  have HN : Shut _ := ⟨hN⟩
  have hB0 : Below w.heap.size w ((w.alloc (.cells #[.bool (decide (z < 0)), .slice p (natL z.natAbs).length cap] 54)).alloc (.cells #[.bool false, .slice none 0 0] 54)) := ((Below.refl _ w).alloc (Nat.le_refl _) _).alloc (by rw [World.size_alloc]; omega) _
  have HR : Shut _ := ⟨box2 w (.cells #[.bool (decide (z < 0)), .slice p (natL z.natAbs).length cap] 54) (.bool false) (.slice none 0 0)⟩
  have HB0 : Shut _ := ⟨hB0⟩
  go_enter Try.func66, Try.ntmps66
  clear hN hB0
  go_wp2_with (go_at_call 64; refine (signed_any _ p _ cap _).mono ?_; rintro e w1 ⟨rfl, hB1⟩; obtain ⟨k1, k2, k3, k4⟩ := keepNum HR.o hB1)
  have hF := ((HB0.o.trans (hB1.mono HB0.o.size)).setCell (p := ⟨w.heap.size + 1, 0, none⟩) (Nat.le_succ _) (.bool (!decide (z < 0) && decide (0 < (natL z.natAbs).length)))).setCell (p := ⟨w.heap.size + 1, 1, none⟩) (Nat.le_succ _) (.slice p (natL z.natAbs).length cap)
  refine bodyPost_ret (v := .agg #[.bool (!decide (z < 0) && decide (0 < (natL z.natAbs).length)), .slice p (natL z.natAbs).length cap]) (by simp [results, Try.results66, go_sem, k1, k2]) rfl ⟨_, rfl, ⟨p, cap, by rw [Int.natAbs_neg, HZ.o], by rw [Int.natAbs_neg]; exact HN.o.below hF (Nat.le_refl _)⟩, hF⟩
end Go.Proofs.Yteaecpmdooolkaa
