/-
  Contracts: Parse.
-/
import Derived.Test.YtappobhpdpfojaaGreatRatK
namespace Go.Proofs.YtappobhpdpfojaaGreat
set_option maxRecDepth 1000000
namespace Rt
open Go.RowKit Go.Proofs.YtappobhpdpfojaaGreat.Nm

theorem redR_size {s t a b : ByteArray} (h : redR s t = some (a, b)) : a.size ≤ 1000000 ∧ b.size ≤ 1000000 := by
  cases hs : zOf s with
  | none =>
    rw [red_bad (by rw [zOf_none hs]; rfl)] at h; cases h
  | some x =>
    cases ht : zOf t with
    | none => rw [red_bad (by rw [zOf_none ht, Bool.and_false])] at h; cases h
    | some y =>
      obtain ⟨rfl, hx⟩ := zOf_some hs
      obtain ⟨rfl, hy⟩ := zOf_some ht
      by_cases h0 : y = 0
      · rw [red_q0 hy h0] at h; cases h
      · rw [red_q hx hy h0] at h
        injection h with h
        injection h with h1 h2
        subst h1; subst h2
        exact (FitQ.div hx hy h0).size
/-- what stands before and behind the slash, 1 where there is none -/
def twoS (s : ByteArray) : ByteArray × ByteArray := ((cutS s).1, if (cutS s).2.2 then (cutS s).2.1 else ⟨#[49]⟩)
theorem cutS_size (s : ByteArray) (hs : s.size ≤ 1000000) : (twoS s).1.size ≤ 1000000 ∧ (twoS s).2.size ≤ 1000000 := by
  rw [twoS, cutS]
  split
  · refine ⟨hs, ?_⟩
    show (⟨#[49]⟩ : ByteArray).size ≤ _
    decide
  · refine ⟨?_, ?_⟩
    · show (s.extract 0 _).size ≤ _
      rw [ByteArray.size_extract]; omega
    · show (s.extract _ _).size ≤ _
      rw [ByteArray.size_extract]; omega
/-- what Parse answers -/
noncomputable def parseR (s : ByteArray) : Option (ByteArray × ByteArray) := match redR (twoS s).1 (twoS s).2 with | some (a, b) => if printR a b = s then some (a, b) else none | none => none
set_option maxHeartbeats 1000000 in
theorem Parse_any (s p q : ByteArray) (f : Bool) (n d x : ByteArray) (e0 : Int) (w : World)
    (hC : ∀ W : World, Calls Tryz.prog 64 #[.string s, .string ⟨#[47]⟩] W fun e w' => e = .returned (.tuple #[.string p, .string q, .bool f]) ∧ Below W.heap.size W w')
    (hM : ∀ W : World, Calls Tryz.prog 26 #[.string p, .string (if f then q else ⟨#[49]⟩)] W fun e w' => e = .returned (.tuple #[.agg #[.string n, .string d], .int .i64 e0]) ∧ Below W.heap.size W w')
    (hP : ∀ W : World, Calls Tryz.prog 32 #[.agg #[.string n, .string d]] W fun e w' => e = .returned (.string x) ∧ Below W.heap.size W w') :
    Calls Tryz.prog 33 #[.string s] w fun e w' => e = .returned (if e0 = 0 ∧ x = s then .tuple #[.agg #[.string n, .string d], .int .i64 0] else bR none) ∧ Below w.heap.size w w' := by
  have hx := str_eq x s
  cases f with
  | true =>
    rw [if_pos rfl] at hM
    by_cases h0 : e0 = 0
    · subst h0
      by_cases h1 : x = s
      · rw [if_pos ⟨rfl, h1⟩]
        rw [decide_eq_true h1] at hx
        clear h1
        go_enter Tryz.func33, Tryz.ntmps33
        go_wp2_with (first | (go_at_call 64; refine (hC _).mono ?_; rintro e w1 ⟨rfl, hB1⟩; have hz1 := hB1.size; rw [World.size_alloc] at hz1) | (go_at_call 26; refine (hM _).mono ?_; rintro e w2 ⟨rfl, hB2⟩; have hz2 := hB2.size; have hr2 := (hB2.block w.heap.size (by omega)).trans ((hB1.block w.heap.size (by simp)).trans (World.alloc_heap_new w _)); obtain ⟨c0, c1, z0, z1⟩ := cell_box hr2; have f1 : w.heap.size < w2.heap.size := (by omega)) | (go_at_call 32; refine (hP _).mono ?_; rintro e w3 ⟨rfl, hB3⟩; obtain ⟨r0, r1, y0, y1⟩ := cell_box ((hB3.block w2.heap.size (by simp)).trans (World.alloc_heap_new w2 _)); obtain ⟨d0, d1, x0, x1⟩ := cell_box ((hB3.block w.heap.size (by simp; omega)).trans ((Below.heap_alloc w2 _ w.heap.size (by omega)).trans hr2))))
        have k0 := cell_two w3 w.heap.size (.string n) (.string d) _ _ d0 d1
        have hB5 := (((((Below.refl w.heap.size w).alloc (Nat.le_refl _) _).trans (hB1.mono (by simp))).trans (hB2.mono (by omega))).alloc (by omega) _).trans (hB3.mono (by simp; omega))
        refine bodyPost_ret (v := .tuple #[.agg #[.string n, .string d], .int .i64 0]) (by simp [results, Tryz.results33, go_sem, k0.1, k0.2]) rfl ⟨rfl, (hB5.setCell (Nat.le_refl _) _).setCell (Nat.le_refl _) _⟩
      · rw [if_neg (fun h => h1 h.2)]
        rw [decide_eq_false h1] at hx
        clear h1
        unfold bR rv
        go_enter Tryz.func33, Tryz.ntmps33
        go_wp2_with (first | (go_at_call 64; refine (hC _).mono ?_; rintro e w1 ⟨rfl, hB1⟩; have hz1 := hB1.size; rw [World.size_alloc] at hz1) | (go_at_call 26; refine (hM _).mono ?_; rintro e w2 ⟨rfl, hB2⟩; have hz2 := hB2.size; have hr2 := (hB2.block w.heap.size (by omega)).trans ((hB1.block w.heap.size (by simp)).trans (World.alloc_heap_new w _)); obtain ⟨c0, c1, z0, z1⟩ := cell_box hr2; have f1 : w.heap.size < w2.heap.size := (by omega)) | (go_at_call 32; refine (hP _).mono ?_; rintro e w3 ⟨rfl, hB3⟩; obtain ⟨r0, r1, y0, y1⟩ := cell_box ((hB3.block w2.heap.size (by simp)).trans (World.alloc_heap_new w2 _)); obtain ⟨d0, d1, x0, x1⟩ := cell_box ((hB3.block w.heap.size (by simp; omega)).trans ((Below.heap_alloc w2 _ w.heap.size (by omega)).trans hr2))))
        have k0 := cell_two w3 w.heap.size (.string ⟨#[]⟩) (.string ⟨#[]⟩) _ _ d0 d1
        have hB5 := (((((Below.refl w.heap.size w).alloc (Nat.le_refl _) _).trans (hB1.mono (by simp))).trans (hB2.mono (by omega))).alloc (by omega) _).trans (hB3.mono (by simp; omega))
        refine bodyPost_ret (v := .tuple #[.agg #[.string ⟨#[]⟩, .string ⟨#[]⟩], .int .i64 40]) (by simp [results, Tryz.results33, go_sem, k0.1, k0.2]) rfl ⟨rfl, (hB5.setCell (Nat.le_refl _) _).setCell (Nat.le_refl _) _⟩
    · rw [if_neg (fun h => h0 h.1)]
      have h2 : (e0 != 0) = true := by simp [h0]
      clear h0 hx
      unfold bR rv
      go_enter Tryz.func33, Tryz.ntmps33
      go_wp2_with (first | (go_at_call 64; refine (hC _).mono ?_; rintro e w1 ⟨rfl, hB1⟩; have hz1 := hB1.size; rw [World.size_alloc] at hz1) | (go_at_call 26; refine (hM _).mono ?_; rintro e w2 ⟨rfl, hB2⟩; have hz2 := hB2.size; have hr2 := (hB2.block w.heap.size (by omega)).trans ((hB1.block w.heap.size (by simp)).trans (World.alloc_heap_new w _)); obtain ⟨c0, c1, z0, z1⟩ := cell_box hr2; have f1 : w.heap.size < w2.heap.size := (by omega)) | (go_at_call 32; refine (hP _).mono ?_; rintro e w3 ⟨rfl, hB3⟩; obtain ⟨r0, r1, y0, y1⟩ := cell_box ((hB3.block w2.heap.size (by simp)).trans (World.alloc_heap_new w2 _)); obtain ⟨d0, d1, x0, x1⟩ := cell_box ((hB3.block w.heap.size (by simp; omega)).trans ((Below.heap_alloc w2 _ w.heap.size (by omega)).trans hr2))))
      have k0 := cell_two w2 w.heap.size (.string ⟨#[]⟩) (.string ⟨#[]⟩) _ _ c0 c1
      have hB5 : Below w.heap.size w w2 := (((Below.refl w.heap.size w).alloc (Nat.le_refl _) _).trans (hB1.mono (by simp))).trans (hB2.mono (by omega))
      have hB6 := (hB5.setCell (p := ⟨w.heap.size, 0, none⟩) (Nat.le_refl _) (.string ⟨#[]⟩)).setCell (p := ⟨w.heap.size, 1, none⟩) (Nat.le_refl _) (.string ⟨#[]⟩)
      have hz6 : ((w2.setCell ⟨w.heap.size, 0, none⟩ (.string ⟨#[]⟩)).setCell ⟨w.heap.size, 1, none⟩ (.string ⟨#[]⟩)).heap.size = w2.heap.size := by simp [World.setCell]
      generalize (w2.setCell ⟨w.heap.size, 0, none⟩ (.string ⟨#[]⟩)).setCell ⟨w.heap.size, 1, none⟩ (.string ⟨#[]⟩) = w4 at *
      have q0 := (World.cell?_of_block (a := ⟨w.heap.size, 0, none⟩) (Below.heap_alloc w4 (.cells #[.string n, .string d] 23) w.heap.size (by omega))).trans k0.1
      have q1 := (World.cell?_of_block (a := ⟨w.heap.size, 1, none⟩) (Below.heap_alloc w4 (.cells #[.string n, .string d] 23) w.heap.size (by omega))).trans k0.2
      refine bodyPost_ret (v := .tuple #[.agg #[.string ⟨#[]⟩, .string ⟨#[]⟩], .int .i64 40]) (by simp [results, Tryz.results33, go_sem, q0, q1]) rfl ⟨rfl, hB6.alloc (by omega) _⟩
  | false =>
    rw [if_neg (by decide)] at hM
    by_cases h0 : e0 = 0
    · subst h0
      by_cases h1 : x = s
      · rw [if_pos ⟨rfl, h1⟩]
        rw [decide_eq_true h1] at hx
        clear h1
        go_enter Tryz.func33, Tryz.ntmps33
        go_wp2_with (first | (go_at_call 64; refine (hC _).mono ?_; rintro e w1 ⟨rfl, hB1⟩; have hz1 := hB1.size; rw [World.size_alloc] at hz1) | (go_at_call 26; refine (hM _).mono ?_; rintro e w2 ⟨rfl, hB2⟩; have hz2 := hB2.size; have hr2 := (hB2.block w.heap.size (by omega)).trans ((hB1.block w.heap.size (by simp)).trans (World.alloc_heap_new w _)); obtain ⟨c0, c1, z0, z1⟩ := cell_box hr2; have f1 : w.heap.size < w2.heap.size := (by omega)) | (go_at_call 32; refine (hP _).mono ?_; rintro e w3 ⟨rfl, hB3⟩; obtain ⟨r0, r1, y0, y1⟩ := cell_box ((hB3.block w2.heap.size (by simp)).trans (World.alloc_heap_new w2 _)); obtain ⟨d0, d1, x0, x1⟩ := cell_box ((hB3.block w.heap.size (by simp; omega)).trans ((Below.heap_alloc w2 _ w.heap.size (by omega)).trans hr2))))
        have k0 := cell_two w3 w.heap.size (.string n) (.string d) _ _ d0 d1
        have hB5 := (((((Below.refl w.heap.size w).alloc (Nat.le_refl _) _).trans (hB1.mono (by simp))).trans (hB2.mono (by omega))).alloc (by omega) _).trans (hB3.mono (by simp; omega))
        refine bodyPost_ret (v := .tuple #[.agg #[.string n, .string d], .int .i64 0]) (by simp [results, Tryz.results33, go_sem, k0.1, k0.2]) rfl ⟨rfl, (hB5.setCell (Nat.le_refl _) _).setCell (Nat.le_refl _) _⟩
      · rw [if_neg (fun h => h1 h.2)]
        rw [decide_eq_false h1] at hx
        clear h1
        unfold bR rv
        go_enter Tryz.func33, Tryz.ntmps33
        go_wp2_with (first | (go_at_call 64; refine (hC _).mono ?_; rintro e w1 ⟨rfl, hB1⟩; have hz1 := hB1.size; rw [World.size_alloc] at hz1) | (go_at_call 26; refine (hM _).mono ?_; rintro e w2 ⟨rfl, hB2⟩; have hz2 := hB2.size; have hr2 := (hB2.block w.heap.size (by omega)).trans ((hB1.block w.heap.size (by simp)).trans (World.alloc_heap_new w _)); obtain ⟨c0, c1, z0, z1⟩ := cell_box hr2; have f1 : w.heap.size < w2.heap.size := (by omega)) | (go_at_call 32; refine (hP _).mono ?_; rintro e w3 ⟨rfl, hB3⟩; obtain ⟨r0, r1, y0, y1⟩ := cell_box ((hB3.block w2.heap.size (by simp)).trans (World.alloc_heap_new w2 _)); obtain ⟨d0, d1, x0, x1⟩ := cell_box ((hB3.block w.heap.size (by simp; omega)).trans ((Below.heap_alloc w2 _ w.heap.size (by omega)).trans hr2))))
        have k0 := cell_two w3 w.heap.size (.string ⟨#[]⟩) (.string ⟨#[]⟩) _ _ d0 d1
        have hB5 := (((((Below.refl w.heap.size w).alloc (Nat.le_refl _) _).trans (hB1.mono (by simp))).trans (hB2.mono (by omega))).alloc (by omega) _).trans (hB3.mono (by simp; omega))
        refine bodyPost_ret (v := .tuple #[.agg #[.string ⟨#[]⟩, .string ⟨#[]⟩], .int .i64 40]) (by simp [results, Tryz.results33, go_sem, k0.1, k0.2]) rfl ⟨rfl, (hB5.setCell (Nat.le_refl _) _).setCell (Nat.le_refl _) _⟩
    · rw [if_neg (fun h => h0 h.1)]
      have h2 : (e0 != 0) = true := by simp [h0]
      clear h0 hx
      unfold bR rv
      go_enter Tryz.func33, Tryz.ntmps33
      go_wp2_with (first | (go_at_call 64; refine (hC _).mono ?_; rintro e w1 ⟨rfl, hB1⟩; have hz1 := hB1.size; rw [World.size_alloc] at hz1) | (go_at_call 26; refine (hM _).mono ?_; rintro e w2 ⟨rfl, hB2⟩; have hz2 := hB2.size; have hr2 := (hB2.block w.heap.size (by omega)).trans ((hB1.block w.heap.size (by simp)).trans (World.alloc_heap_new w _)); obtain ⟨c0, c1, z0, z1⟩ := cell_box hr2; have f1 : w.heap.size < w2.heap.size := (by omega)) | (go_at_call 32; refine (hP _).mono ?_; rintro e w3 ⟨rfl, hB3⟩; obtain ⟨r0, r1, y0, y1⟩ := cell_box ((hB3.block w2.heap.size (by simp)).trans (World.alloc_heap_new w2 _)); obtain ⟨d0, d1, x0, x1⟩ := cell_box ((hB3.block w.heap.size (by simp; omega)).trans ((Below.heap_alloc w2 _ w.heap.size (by omega)).trans hr2))))
      have k0 := cell_two w2 w.heap.size (.string ⟨#[]⟩) (.string ⟨#[]⟩) _ _ c0 c1
      have hB5 : Below w.heap.size w w2 := (((Below.refl w.heap.size w).alloc (Nat.le_refl _) _).trans (hB1.mono (by simp))).trans (hB2.mono (by omega))
      have hB6 := (hB5.setCell (p := ⟨w.heap.size, 0, none⟩) (Nat.le_refl _) (.string ⟨#[]⟩)).setCell (p := ⟨w.heap.size, 1, none⟩) (Nat.le_refl _) (.string ⟨#[]⟩)
      have hz6 : ((w2.setCell ⟨w.heap.size, 0, none⟩ (.string ⟨#[]⟩)).setCell ⟨w.heap.size, 1, none⟩ (.string ⟨#[]⟩)).heap.size = w2.heap.size := by simp [World.setCell]
      generalize (w2.setCell ⟨w.heap.size, 0, none⟩ (.string ⟨#[]⟩)).setCell ⟨w.heap.size, 1, none⟩ (.string ⟨#[]⟩) = w4 at *
      have q0 := (World.cell?_of_block (a := ⟨w.heap.size, 0, none⟩) (Below.heap_alloc w4 (.cells #[.string n, .string d] 23) w.heap.size (by omega))).trans k0.1
      have q1 := (World.cell?_of_block (a := ⟨w.heap.size, 1, none⟩) (Below.heap_alloc w4 (.cells #[.string n, .string d] 23) w.heap.size (by omega))).trans k0.2
      refine bodyPost_ret (v := .tuple #[.agg #[.string ⟨#[]⟩, .string ⟨#[]⟩], .int .i64 40]) (by simp [results, Tryz.results33, go_sem, q0, q1]) rfl ⟨rfl, hB6.alloc (by omega) _⟩
theorem Parse_all (s : ByteArray) (hs : s.size ≤ 1000000) (w : World) : Calls Tryz.prog 33 #[.string s] w fun e w' => e = .returned (bR (parseR s)) ∧ Below w.heap.size w w' := by
  obtain ⟨h1, h2⟩ := cutS_size s hs
  cases ho : redR (twoS s).1 (twoS s).2 with
  | none =>
    have e : parseR s = none := by rw [parseR, ho]
    rw [e]
    refine (Parse_any s (cutS s).1 (cutS s).2.1 (cutS s).2.2 ⟨#[]⟩ ⟨#[]⟩ (printR ⟨#[]⟩ ⟨#[]⟩) 40 w (fun W => Cut_all s hs W) (fun W => ?_) (fun W => Print_all ⟨#[]⟩ ⟨#[]⟩ (by decide) (by decide) W)).mono ?_
    · have := Make_all (twoS s).1 (twoS s).2 h1 h2 W
      rw [ho] at this
      exact this
    · rintro e w' ⟨rfl, hB⟩
      exact ⟨by rw [if_neg (fun h => absurd h.1 (by decide))], hB⟩
  | some p =>
    obtain ⟨a, b⟩ := p
    obtain ⟨g1, g2⟩ := redR_size ho
    refine (Parse_any s (cutS s).1 (cutS s).2.1 (cutS s).2.2 a b (printR a b) 0 w (fun W => Cut_all s hs W) (fun W => ?_) (fun W => Print_all a b g1 g2 W)).mono ?_
    · have := Make_all (twoS s).1 (twoS s).2 h1 h2 W
      rw [ho] at this
      exact this
    · rintro e w' ⟨rfl, hB⟩
      refine ⟨?_, hB⟩
      rw [parseR, ho]
      show _ = Ending.returned (bR (if printR a b = s then some (a, b) else none))
      by_cases h : printR a b = s
      · rw [if_pos ⟨rfl, h⟩, if_pos h]; rfl
      · rw [if_neg (fun h' => h h'.2), if_neg h]
end Rt
end Go.Proofs.YtappobhpdpfojaaGreat
