/-
  Contracts: parse, parseBoth.
-/
import Derived.Test.YteaecpmdooolkaaIntValid
import Derived.Deep.Cut
namespace Go.Proofs.Yteaecpmdooolkaa
open Go.RowKit Nm

theorem txt_size {z : Int} (h : Fits z) : (txt z).size ≤ 201 := by
  unfold Fits at h
  rw [← bl_len, txt_bl]
  split
  · simp
  · split
    · simp; omega
    · omega
set_option maxHeartbeats 1000000 in
theorem parse_ok (z : Int) (h : Fits z) (w : World) :
    Calls Try.prog 54 #[.string (txt z)] w fun e w' => ∃ u, e = .returned (.tuple #[u, .bool true]) ∧ IsN w' u z ∧ Below w.heap.size w w' := by
  have hsz := txt_size h
  have hB0 : Below w.heap.size w (w.alloc (.cells #[.bool false, .slice none 0 0] 54)) := (Below.refl _ w).alloc (Nat.le_refl _) _
  have HR : Shut _ := ⟨RowAt.new w #[.bool false, .slice none 0 0] 54⟩
  have HB0 : Shut _ := ⟨hB0⟩
  have cv := fun W => Valid_any (txt z) (by omega) W
  rw [valid_txt z h] at cv
  have cc := fun W => cutSign_any (txt z) (by omega) W
  rw [cut_txt] at cc
  have hdl : ∀ y ∈ bl (ba (if z = 0 then [48] else decN z.natAbs)), 48 ≤ y ∧ y < 58 := by
    intro y hy
    rw [bl_ba _ (fun y hy => by split at hy; (simp at hy; omega); (have := decN_dig _ y hy; omega))] at hy
    split at hy
    · simp at hy; omega
    · exact decN_dig _ y hy
  have hdv : dvl (bl (ba (if z = 0 then [48] else decN z.natAbs))) = z.natAbs := by
    rw [bl_ba _ (fun y hy => by split at hy; (simp at hy; omega); (have := decN_dig _ y hy; omega))]
    split
    · rename_i h0; subst h0; rfl
    · exact decN_dvl _
  have hds : (ba (if z = 0 then [48] else decN z.natAbs)).size ≤ 1000 := by
    unfold Fits at h
    rw [ba_size]; split
    · simp
    · omega
  have co := fun W => ofDigits_any (ba (if z = 0 then [48] else decN z.natAbs)) hds hdl W
  rw [hdv] at co
  generalize ba (if z = 0 then [48] else decN z.natAbs) = ds at *
  generalize txt z = s at *
  clear hdl hdv hds hB0
  go_enter Try.func54, Try.ntmps54
  go_wp2_with (first | (go_at_call 29; refine (cv _).mono ?_; rintro e w1 ⟨rfl, m1, rfl⟩) | (go_at_call 61; refine (cc _).mono ?_; rintro e w2 ⟨rfl, m2, rfl⟩) | (go_at_call 71; refine (co _).mono ?_; rintro e w3 ⟨v3, rfl, hv3, hB3⟩; obtain ⟨p3, c3, rfl, hv3'⟩ := hv3.out; have hB3' := (below_drewN (Below.refl _ (w.alloc (.cells #[.bool false, .slice none 0 0] 54))) (m1 + m2)).trans hB3; obtain ⟨k1, k2, k3, k4⟩ := keepNum HR.o hB3'))
  have hw3 := HB0.o.trans (hB3'.mono HB0.o.size)
  have hF := (hw3.setCell (p := ⟨w.heap.size, 0, none⟩) (Nat.le_refl _) (.bool (decide (z < 0)))).setCell (p := ⟨w.heap.size, 1, none⟩) (Nat.le_refl _) (.slice p3 (natL z.natAbs).length c3)
  have hv2 := hv3.setNum2 (RowAt.below HR.o hB3' (RowAt.lt HR.o)) (fun _ _ => by simp) (fun _ _ => by simp) (decide (z < 0)) (.slice p3 (natL z.natAbs).length c3)
  refine bodyPost_ret (v := .tuple #[.agg #[.bool (decide (z < 0)), .slice p3 (natL z.natAbs).length c3], .bool true]) (by simp [results, Try.results54, go_sem, k1, k2]) rfl ⟨_, rfl, ⟨p3, c3, rfl, hv2⟩, hF⟩

set_option maxHeartbeats 1000000 in
theorem parse_bad (s : ByteArray) (hs : s.size ≤ 1000000) (h : validB s = false) (w : World) :
    Calls Try.prog 54 #[.string s] w fun e w' => e = .returned (.tuple #[.agg #[.bool false, .slice none 0 0], .bool false]) ∧ Below w.heap.size w w' := by
  have hB0 : Below w.heap.size w (w.alloc (.cells #[.bool false, .slice none 0 0] 54)) := (Below.refl _ w).alloc (Nat.le_refl _) _
  have HR : Shut _ := ⟨RowAt.new w #[.bool false, .slice none 0 0] 54⟩
  have HB0 : Shut _ := ⟨hB0⟩
  have cv := fun W => Valid_any s hs W
  rw [h] at cv
  go_enter Try.func54, Try.ntmps54
  clear hB0
  go_wp2_with (first | (go_at_call 29; refine (cv _).mono ?_; rintro e w1 ⟨rfl, m1, rfl⟩; obtain ⟨k1, k2, k3, k4⟩ := keepNum HR.o (below_drewN (Below.refl _ _) m1)))
  have hF := ((below_drewN HB0.o m1).setCell (p := ⟨w.heap.size, 0, none⟩) (Nat.le_refl _) (.bool false)).setCell (p := ⟨w.heap.size, 1, none⟩) (Nat.le_refl _) (.slice none 0 0)
  refine bodyPost_ret (v := .tuple #[.agg #[.bool false, .slice none 0 0], .bool false]) (by simp [results, Try.results54, go_sem, k1, k2]) rfl ⟨rfl, hF⟩

theorem parse_any (s : ByteArray) (hs : s.size ≤ 1000000) (w : World) :
    Calls Try.prog 54 #[.string s] w fun e w' => ∃ b p n c, e = .returned (.tuple #[.agg #[.bool b, .slice p n c], .bool (validB s)]) ∧ (∀ z, s = txt z → Fits z → IsN w' (.agg #[.bool b, .slice p n c]) z) ∧ Below w.heap.size w w' := by
  by_cases h : validB s = true
  · obtain ⟨z, rfl, hz⟩ := valid_is h
    refine (parse_ok z hz w).mono ?_
    rintro e w' ⟨u, rfl, hu, hB⟩
    obtain ⟨p, c, rfl, hn⟩ := hu
    refine ⟨_, _, _, _, by rw [h], fun z' hz' _ => ?_, hB⟩
    rw [← txt_inj hz']
    exact ⟨p, c, rfl, hn⟩
  · have hf : validB s = false := by simpa using h
    refine (parse_bad s hs hf w).mono ?_
    rintro e w' ⟨rfl, hB⟩
    refine ⟨_, _, _, _, by rw [hf], fun z' hz' hft => ?_, hB⟩
    rw [hz', valid_txt z' hft] at hf
    cases hf

theorem NA.set4 {W : World} {v : Value} {l : List Nat} {a : Nat} (h : NA W v l) (h1 : RowAt W a #[.bool false, .slice none 0 0] 54) (h2 : RowAt W (a + 1) #[.bool false, .slice none 0 0] 54) (B B' : Bool) (p p' : Option Addr) (n n' c c' : Nat) :
    NA ((((W.setCell ⟨a, 0, none⟩ (.bool B)).setCell ⟨a, 1, none⟩ (.slice p n c)).setCell ⟨a + 1, 0, none⟩ (.bool B')).setCell ⟨a + 1, 1, none⟩ (.slice p' n' c')) v l := by
  have e : a + 1 ≠ a := by omega
  have h3 := h.setNum2 h1 (fun _ _ => by simp) (fun _ _ => by simp) B (.slice p n c)
  have h4 := (RowAt.set_other h2 ⟨a, 0, none⟩ e (.bool B)).set_other ⟨a, 1, none⟩ e (.slice p n c)
  exact h3.setNum2 h4 (fun _ _ => by simp) (fun _ _ => by simp) B' (.slice p' n' c')
set_option maxHeartbeats 2000000 in
theorem parseBoth_any (s t : ByteArray) (hs : s.size ≤ 1000000) (ht : t.size ≤ 1000000) (w : World) :
    Calls Try.prog 46 #[.string s, .string t] w fun e w' => ∃ b p n c b' p' n' c', e = .returned (.tuple #[.agg #[.bool b, .slice p n c], .agg #[.bool b', .slice p' n' c'], .bool (validB s && validB t)]) ∧ (∀ z, s = txt z → Fits z → IsN w' (.agg #[.bool b, .slice p n c]) z) ∧ (∀ z, t = txt z → Fits z → IsN w' (.agg #[.bool b', .slice p' n' c']) z) ∧ Below w.heap.size w w' := by
  have c1 := fun W => parse_any s hs W
  have c2 := fun W => parse_any t ht W
  go_enter Try.func46, Try.ntmps46
  go_upto_region 2 with (go_at_call 54; refine (c1 _).mono ?_; rintro e w1 ⟨b, p, n, c, rfl, hz1, hB1⟩)
  have hz0 : ((w.alloc (.cells #[.bool false, .slice none 0 0] 54)).alloc (.cells #[.bool false, .slice none 0 0] 54)).heap.size = w.heap.size + 2 := by rw [World.size_alloc, World.size_alloc]
  have hB0 : Below w.heap.size w ((w.alloc (.cells #[.bool false, .slice none 0 0] 54)).alloc (.cells #[.bool false, .slice none 0 0] 54)) := ((Below.refl _ w).alloc (Nat.le_refl _) _).alloc (by rw [World.size_alloc]; omega) _
  have r4 := (RowAt.new w #[.bool false, .slice none 0 0] 54).alloc (.cells #[.bool false, .slice none 0 0] 54)
  have r5 := box2 w (.cells #[.bool false, .slice none 0 0] 54) (.bool false) (.slice none 0 0)
  generalize (w.alloc (.cells #[.bool false, .slice none 0 0] 54)).alloc (.cells #[.bool false, .slice none 0 0] 54) = W0 at *
  have hs1 := hB1.size
  have hB2 : Below w1.heap.size w1 (w1.alloc (.cells #[.bool b, .slice p n c] 54)) := (Below.refl _ _).alloc (Nat.le_refl _) _
  have r7 := RowAt.new w1 #[.bool b, .slice p n c] 54
  have hz2 : (w1.alloc (.cells #[.bool b, .slice p n c] 54)).heap.size = w1.heap.size + 1 := World.size_alloc _ _
  generalize w1.alloc (.cells #[.bool b, .slice p n c] 54) = W2 at *
  go_upto_region 3 with (go_at_call 54; refine (c2 _).mono ?_; rintro e w3 ⟨b', p', n', c', rfl, hz3, hB3⟩)
  have hs3 := hB3.size
  have hB4 : Below w3.heap.size w3 (w3.alloc (.cells #[.bool b', .slice p' n' c'] 54)) := (Below.refl _ _).alloc (Nat.le_refl _) _
  have r9 := RowAt.new w3 #[.bool b', .slice p' n' c'] 54
  have hz4 : (w3.alloc (.cells #[.bool b', .slice p' n' c'] 54)).heap.size = w3.heap.size + 1 := World.size_alloc _ _
  generalize w3.alloc (.cells #[.bool b', .slice p' n' c'] 54) = W4 at *
  have hB24 : Below W2.heap.size W2 W4 := hB3.trans (hB4.mono hB3.size)
  have hB14 : Below w1.heap.size w1 W4 := hB2.trans (hB24.mono hB2.size)
  have hB04 : Below W0.heap.size W0 W4 := hB1.trans (hB14.mono hB1.size)
  have hBw4 : Below w.heap.size w W4 := hB0.trans (hB04.mono hB0.size)
  have hN1 : ∀ z, s = txt z → Fits z → IsN W4 (.agg #[.bool b, .slice p n c]) z := fun z h1 h2 => (hz1 z h1 h2).below hB14 (Nat.le_refl _)
  have hN2 : ∀ z, t = txt z → Fits z → IsN W4 (.agg #[.bool b', .slice p' n' c']) z := fun z h1 h2 => (hz3 z h1 h2).below hB4 (Nat.le_refl _)
  have R4 := RowAt.below r4 hB04 (RowAt.lt r4)
  have R5 := RowAt.below r5 hB04 (RowAt.lt r5)
  have R7 := RowAt.below r7 hB24 (RowAt.lt r7)
  have HF : Shut (∀ z, s = txt z → Fits z → IsN ((((W4.drew.setCell ⟨w.heap.size, 0, none⟩ (.bool b)).setCell ⟨w.heap.size, 1, none⟩ (.slice p n c)).setCell ⟨w.heap.size + 1, 0, none⟩ (.bool b')).setCell ⟨w.heap.size + 1, 1, none⟩ (.slice p' n' c')) (.agg #[.bool b, .slice p n c]) z) := ⟨fun z h1 h2 => by
    obtain ⟨pp, cc, e, hna⟩ := hN1 z h1 h2
    exact ⟨pp, cc, e, NA.set4 (W := W4.drew) hna R4 R5 _ _ _ _ _ _ _ _⟩⟩
  have HF2 : Shut (∀ z, t = txt z → Fits z → IsN ((((W4.drew.setCell ⟨w.heap.size, 0, none⟩ (.bool b)).setCell ⟨w.heap.size, 1, none⟩ (.slice p n c)).setCell ⟨w.heap.size + 1, 0, none⟩ (.bool b')).setCell ⟨w.heap.size + 1, 1, none⟩ (.slice p' n' c')) (.agg #[.bool b', .slice p' n' c']) z) := ⟨fun z h1 h2 => by
    obtain ⟨pp, cc, e, hna⟩ := hN2 z h1 h2
    exact ⟨pp, cc, e, NA.set4 (W := W4.drew) hna R4 R5 _ _ _ _ _ _ _ _⟩⟩
  have HB : Shut _ := ⟨(((hBw4.drew.setCell (p := ⟨w.heap.size, 0, none⟩) (Nat.le_refl _) (.bool b)).setCell (p := ⟨w.heap.size, 1, none⟩) (Nat.le_refl _) (.slice p n c)).setCell (p := ⟨w.heap.size + 1, 0, none⟩) (Nat.le_succ _) (.bool b')).setCell (p := ⟨w.heap.size + 1, 1, none⟩) (Nat.le_succ _) (.slice p' n' c')⟩
  obtain ⟨a1, a2, a3, a4⟩ := keepNum R4 (Below.refl _ _)
  obtain ⟨b1, b2, b3, b4⟩ := keepNum R5 (Below.refl _ _)
  obtain ⟨d1, d2, d3, d4⟩ := keepNum R7 (Below.refl _ _)
  obtain ⟨e1, e2, e3, e4⟩ := keepNum r9 (Below.refl _ _)
  obtain ⟨b7, hb7⟩ : ∃ b7, b7 = w1.heap.size := ⟨_, rfl⟩
  obtain ⟨b9, hb9⟩ : ∃ b9, b9 = w3.heap.size := ⟨_, rfl⟩
  rw [← hb7] at d1 d2 d3 d4 ⊢
  rw [← hb9] at e1 e2 e3 e4 ⊢
  have q1 : ¬ b7 = w.heap.size := by omega
  have q2 : ¬ b7 = w.heap.size + 1 := by omega
  have q3 : ¬ b9 = w.heap.size := by omega
  have q4 : ¬ b9 = w.heap.size + 1 := by omega
  have q5 : ¬ b7 = b9 := by omega
  have q6 : ¬ b9 = b7 := by omega
  have q7 : ¬ w.heap.size = b7 := by omega
  have q8 : ¬ w.heap.size = b9 := by omega
  have q9 : ¬ w.heap.size + 1 = b7 := by omega
  have q10 : ¬ w.heap.size + 1 = b9 := by omega
  clear hb7 hb9 r4 r5 r7 r9 R4 R5 R7 hN1 hN2 hz1 hz3 hB0 hB1 hB2 hB3 hB4 hB24 hB14 hB04 hBw4 hz0 hz2 hz4 hs1 hs3 c1 c2
  cases hv1 : validB s with
  | true =>
    go_region
    all_goals go_wp2
    all_goals refine bodyPost_ret (v := .tuple #[.agg #[.bool b, .slice p n c], .agg #[.bool b', .slice p' n' c'], .bool (validB t)]) (by simp [results, Try.results46, go_sem, a1, a2, b1, b2]) rfl ⟨_, _, _, _, _, _, _, _, by first | rfl | rw [Bool.true_and] | simp [hv1], HF.o, HF2.o, HB.o⟩
  | false =>
    go_region
    all_goals go_wp2
    all_goals refine bodyPost_ret (v := .tuple #[.agg #[.bool b, .slice p n c], .agg #[.bool b', .slice p' n' c'], .bool false]) (by simp [results, Try.results46, go_sem, a1, a2, b1, b2]) rfl ⟨_, _, _, _, _, _, _, _, by first | rfl | rw [Bool.false_and] | simp [hv1], HF.o, HF2.o, HB.o⟩
end Go.Proofs.Yteaecpmdooolkaa
