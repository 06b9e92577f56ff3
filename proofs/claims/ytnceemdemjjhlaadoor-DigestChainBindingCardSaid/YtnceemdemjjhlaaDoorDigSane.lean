/-
  The fixed examples: sane returns true.
-/
import Derived.Test.YtnceemdemjjhlaaDoorDigHex
namespace Go.Proofs.YtnceemdemjjhlaaDoor
open Go.RowKit

def hexE : ByteArray := ⟨#[101, 51, 98, 48, 99, 52, 52, 50, 57, 56, 102, 99, 49, 99, 49, 52, 57, 97, 102, 98, 102, 52, 99, 56, 57, 57, 54, 102, 98, 57, 50, 52, 50, 55, 97, 101, 52, 49, 101, 52, 54, 52, 57, 98, 57, 51, 52, 99, 97, 52, 57, 53, 57, 57, 49, 98, 55, 56, 53, 50, 98, 56, 53, 53]⟩
def hexC : ByteArray := ⟨#[98, 97, 55, 56, 49, 54, 98, 102, 56, 102, 48, 49, 99, 102, 101, 97, 52, 49, 52, 49, 52, 48, 100, 101, 53, 100, 97, 101, 50, 50, 50, 51, 98, 48, 48, 51, 54, 49, 97, 51, 57, 54, 49, 55, 55, 97, 57, 99, 98, 52, 49, 48, 102, 102, 54, 49, 102, 50, 48, 48, 49, 53, 97, 100]⟩
theorem hex_e : hexF (Sh.sha ⟨#[]⟩) 32 = hexE := by
  have e : Sh.bl ⟨#[]⟩ = [] := rfl
  rw [Sh.sha, e, k_e]
  decide +kernel
theorem hex_c : hexF (Sh.sha ⟨#[97, 98, 99]⟩) 32 = hexC := by
  have e : Sh.bl ⟨#[97, 98, 99]⟩ = [97, 98, 99] := rfl
  rw [Sh.sha, e, k_abc]
  decide +kernel
theorem s_abc : Small [sA, sB, sC] := by
  intro s hs
  simp at hs
  rcases hs with rfl | rfl | rfl
  · show 1 ≤ 1000; omega
  · show 1 ≤ 1000; omega
  · show 1 ≤ 1000; omega
theorem s_n1 : Small [n1] := by intro s hs; simp at hs; subst hs; rw [n1, node_size]; omega
theorem s_bc : Small [leafB sB, leafB sC] := by intro s hs; simp at hs; rcases hs with rfl | rfl <;> rw [leaf_size] <;> omega

set_option maxRecDepth 100000 in
set_option maxHeartbeats 2000000 in
theorem sane_any (w : World) (ht : Tab w) :
    Calls Tryd.prog 11 #[] w fun e w' => e = .returned (.bool true) ∧ Below w.heap.size w w' := by
  have hge := ht.2.2
  go_enter Tryd.func11, Tryd.ntmps11
  go_upto_region 2 with fail
  have hB0 : Below w.heap.size w (w.alloc (.cells #[.string { data := #[97] }, .string { data := #[98] }, .string { data := #[99] }] 9)) := (Below.refl _ w).alloc (Nat.le_refl _) _
  have hA0 : SA (w.alloc (.cells #[.string { data := #[97] }, .string { data := #[98] }, .string { data := #[99] }] 9)) w.heap.size 0 [sA, sB, sC] := fun i h => by
    rw [Nat.zero_add]; exact parts3 w sA sB sC _ i h
  have hz : w.heap.size < (w.alloc (.cells #[.string { data := #[97] }, .string { data := #[98] }, .string { data := #[99] }] 9)).heap.size := by rw [World.size_alloc]; omega
  have ht0 := ht.below hB0 hge
  generalize w.alloc (.cells #[.string { data := #[97] }, .string { data := #[98] }, .string { data := #[99] }] 9) = w0 at *
  generalize hg : w.heap.size = g at *
  clear ht
  have c1 : ∀ W, Below w0.heap.size w0 W → Calls Tryd.prog 21 #[.slice (some ⟨g, 0, none⟩) 3 3, .int .i64 2] W fun e w' => ∃ v, e = .returned (.tuple #[v, .int .i64 0]) ∧ OwnS w' W.heap.size v [n1] ∧ Below W.heap.size W w' := fun W hW => by
    have := proof_in [sA, sB, sC] 2 g 0 3 W (by simp) (by simp) (by simp) (by omega) s_abc (ht0.below hW (by omega)) (hA0.below hW)
    rw [path_abc] at this; exact this
  have c2 : ∀ W, Below w0.heap.size w0 W → Calls Tryd.prog 23 #[.slice (some ⟨g, 0, none⟩) 3 3, .int .i64 1] W fun e w' => ∃ v, e = .returned (.tuple #[v, .int .i64 0]) ∧ OwnS w' W.heap.size v [leafB sB, leafB sC] ∧ Below W.heap.size W w' := fun W hW => by
    have := ext_in [sA, sB, sC] 1 g 0 3 (some ⟨g, 0, none⟩) (fun _ => rfl) W (by simp) (by simp) (by simp) (by omega) s_abc (ht0.below hW (by omega)) (hA0.below hW)
    rw [ext_abc] at this; exact this
  have c3 : ∀ W, Calls Tryd.prog 21 #[.slice (some ⟨g, 0, none⟩) 3 3, .int .i64 3] W fun e w' => e = .returned (.tuple #[.slice none 0 0, .int .i64 2]) ∧ W = w' := fun W => proof_out _ 3 3 3 (.inr (by omega)) W
  have c4 : ∀ W, Below w0.heap.size w0 W → Calls Tryd.prog 26 #[.slice (some ⟨g, 0, none⟩) 3 3] W fun e w' => e = .returned (.string rABC) ∧ Below W.heap.size W w' := fun W hW => by
    have := root_any [sA, sB, sC] g 0 3 W (by simp) (by simp) (by omega) s_abc (ht0.below hW (by omega)) (hA0.below hW)
    rw [root_abc] at this; exact this
  have c5 : ∀ W, Below w0.heap.size w0 W → Calls Tryd.prog 26 #[.slice (some ⟨g, 0, none⟩) 1 3] W fun e w' => e = .returned (.string (leafB sA)) ∧ Below W.heap.size W w' := fun W hW => by
    have := root_any [sA] g 0 3 W (by simp) (by simp) (by omega) (s_abc.take 1) (ht0.below hW (by omega)) ((hA0.take 1).below hW)
    rw [root_one] at this; exact this
  have c6 : ∀ W, Below w0.heap.size w0 W → Calls Tryd.prog 26 #[.slice (some ⟨g, 0, none⟩) 2 3] W fun e w' => e = .returned (.string n1) ∧ Below W.heap.size W w' := fun W hW => by
    have := root_any [sA, sB] g 0 3 W (by simp) (by simp) (by omega) (s_abc.take 2) (ht0.below hW (by omega)) ((hA0.take 2).below hW)
    rw [root_ab] at this; exact this
  have c7 : ∀ W, Below w0.heap.size w0 W → Calls Tryd.prog 12 #[.string { data := #[] }] W fun e w' => e = .returned (.string (Sh.sha ⟨#[]⟩)) ∧ Below W.heap.size W w' := fun W hW => sum_any ⟨#[]⟩ (by show 0 ≤ _; omega) W (ht0.below hW (by omega))
  have c8 : ∀ W, Below w0.heap.size w0 W → Calls Tryd.prog 12 #[.string { data := #[97, 98, 99] }] W fun e w' => e = .returned (.string (Sh.sha ⟨#[97, 98, 99]⟩)) ∧ Below W.heap.size W w' := fun W hW => sum_any ⟨#[97, 98, 99]⟩ (by show 3 ≤ _; omega) W (ht0.below hW (by omega))
  have c9 : ∀ W, Calls Tryd.prog 36 #[.string (Sh.sha ⟨#[]⟩)] W fun e w' => e = .returned (.string hexE) ∧ ∃ m, w' = W.drewN m := fun W => by
    have := hex_any (Sh.sha ⟨#[]⟩) (by rw [Sh.sha_size]; omega) W
    rw [Sh.sha_size, hex_e] at this; exact this
  have c10 : ∀ W, Calls Tryd.prog 36 #[.string (Sh.sha ⟨#[97, 98, 99]⟩)] W fun e w' => e = .returned (.string hexC) ∧ ∃ m, w' = W.drewN m := fun W => by
    have := hex_any (Sh.sha ⟨#[97, 98, 99]⟩) (by rw [Sh.sha_size]; omega) W
    rw [Sh.sha_size, hex_c] at this; exact this
  have c11 : ∀ (s : ByteArray) (W : World) (p : Option Addr) (cap b : Nat), s.size ≤ 100000 → Below w0.heap.size w0 W → (p = some ⟨b, 0, none⟩) → SA W b 0 [n1] → 1 ≤ cap → cap ≤ maxLen → Calls Tryd.prog 29 #[.string rABC, .int .i64 3, .int .i64 2, .string s, .slice p 1 cap] W fun e w' => e = .returned (.bool (verB rABC 3 2 s [n1])) ∧ Below W.heap.size W w' := fun s W p cap b hs hW hp hA h1 h2 =>
    ver_any rABC s 3 2 (by omega) hs [n1] s_n1 (by simp) p b 0 cap (by unfold maxLen at h2; omega) (by simpa using h1) (fun _ => hp) W (ht0.below hW (by omega)) hA
  have c12 : ∀ (s : ByteArray) (W : World) (p : Option Addr) (cap b : Nat), Below w0.heap.size w0 W → (p = some ⟨b, 0, none⟩) → SA W b 0 [leafB sB, leafB sC] → 2 ≤ cap → cap ≤ maxLen → Calls Tryd.prog 30 #[.string s, .int .i64 1, .string rABC, .int .i64 3, .slice p 2 cap] W fun e w' => e = .returned (.bool (verE s 1 rABC 3 [leafB sB, leafB sC])) ∧ Below W.heap.size W w' := fun s W p cap b hW hp hA h1 h2 =>
    verE_any s rABC 1 3 (by omega) [leafB sB, leafB sC] s_bc (by simp) p b 0 cap (by unfold maxLen at h2; omega) (by simpa using h1) (fun _ => hp) W (ht0.below hW (by omega)) hA
  have HT : Shut _ := ⟨ht0⟩
  clear ht0 hA0
  have k1 : verB rABC 3 2 { data := #[99] } [n1] = true := ver_c
  have k2 : verB rABC 3 2 { data := #[100] } [n1] = false := ver_d
  have k3 := verE_a
  have k4 := verE_ab
  have q1 : (hexE.toList == [101, 51, 98, 48, 99, 52, 52, 50, 57, 56, 102, 99, 49, 99, 49, 52, 57, 97, 102, 98, 102, 52, 99, 56, 57, 57, 54, 102, 98, 57, 50, 52, 50, 55, 97, 101, 52, 49, 101, 52, 54, 52, 57, 98, 57, 51, 52, 99, 97, 52, 57, 53, 57, 57, 49, 98, 55, 56, 53, 50, 98, 56, 53, 53]) = true := by rw [ByteArray.toList_eq]; rfl
  have q2 : (hexC.toList == [98, 97, 55, 56, 49, 54, 98, 102, 56, 102, 48, 49, 99, 102, 101, 97, 52, 49, 52, 49, 52, 48, 100, 101, 53, 100, 97, 101, 50, 50, 50, 51, 98, 48, 48, 51, 54, 49, 97, 51, 57, 54, 49, 55, 55, 97, 57, 99, 98, 52, 49, 48, 102, 102, 54, 49, 102, 50, 48, 48, 49, 53, 97, 100]) = true := by rw [ByteArray.toList_eq]; rfl
  generalize hexE = xe at *
  generalize hexC = xc at *
  have hsC : sC.size ≤ 100000 := by show 1 ≤ _; omega
  have hsD : sD.size ≤ 100000 := by show 1 ≤ _; omega
  go_upto_region 3 with (go_at_call 21; refine (c1 _ (Below.refl _ _)).mono ?_; rintro e w1 ⟨v1, rfl, hO1, hB1⟩)
  obtain ⟨p1, cp1, g1, rfl, hp1, hA1, hc1, hm1⟩ := hO1.open
  go_upto_region 4 with (go_at_call 23; refine (c2 _ hB1).mono ?_; rintro e w2 ⟨v2, rfl, hO2, hB2⟩)
  obtain ⟨p2, cp2, g2, rfl, hp2, hA2, hc2, hm2⟩ := hO2.open
  have hB2' := hB1.trans (hB2.mono hB1.size)
  go_upto_region 5 with (go_at_call 21; refine (c3 _).mono ?_; rintro e w3 ⟨rfl, rfl⟩)
  go_upto_region 6 with (go_at_call 26; refine (c4 _ hB2').mono ?_; rintro e w4 ⟨rfl, hB4⟩)
  have hB4' := hB2'.trans (hB4.mono hB2'.size)
  go_upto_region 7 with (first | (go_at_call_of 12 (Value.string { data := #[] }); refine (c7 _ hB4').mono ?_; rintro e w5 ⟨rfl, hB5⟩; have hB5' := hB4'.trans (hB5.mono hB4'.size)) | (go_at_call_of 36 (Value.string (Sh.sha ⟨#[]⟩)); refine (c9 _).mono ?_; rintro e w6 ⟨rfl, m6, rfl⟩; have hB6' := below_drewN hB5' m6) | (go_at_call_of 12 (Value.string { data := #[97, 98, 99] }); refine (c8 _ hB6').mono ?_; rintro e w7 ⟨rfl, hB7⟩; have hB7' := hB6'.trans (hB7.mono hB6'.size)) | (go_at_call_of 36 (Value.string (Sh.sha ⟨#[97, 98, 99]⟩)); refine (c10 _).mono ?_; rintro e w8 ⟨rfl, m8, rfl⟩; have hB8' := below_drewN hB7' m8))
  go_upto_region 8 with fail
  have hC4 := hB2.trans (hB4.mono hB2.size)
  have hC5 := hC4.trans (hB5.mono hC4.size)
  have hC6 := below_drewN hC5 m6
  have hC7 := hC6.trans (hB7.mono hC6.size)
  have hP0 := hA1.below (below_drewN hC7 m8)
  have hD5 := hB4.trans (hB5.mono hB4.size)
  have hD6 := below_drewN hD5 m6
  have hD7 := hD6.trans (hB7.mono hD6.size)
  have hQ0 := hA2.below (below_drewN hD7 m8)
  have hE0 := hB8'
  have hF0 := hB0.trans (hB8'.mono (by omega))
  clear hC4 hC5 hC6 hC7 hD5 hD6 hD7 hB1 hB2 hB2' hB4 hB4' hB5 hB5' hB6' hB7 hB7' hB8' hA1 hA2 hO1 hO2 hB0
  generalize w7.drewN m8 = w8 at *
  go_wp2_with (first | (go_at_call 29; refine (c11 _ _ _ _ g1 (by show 1 ≤ 100000; omega) hE0 rfl hP0 hc1 hm1).mono ?_; rintro e wv ⟨rfl, hBv⟩; have hP0 := hP0.below hBv; have hQ0 := hQ0.below hBv; have hF0 := hF0.trans (hBv.mono (Nat.le_trans (Nat.le_of_lt hz) hE0.size)); have hE0 := hE0.trans (hBv.mono hE0.size)) | (go_at_call_of 26 (Value.slice (some ⟨g, 0, none⟩) 1 3); refine (c5 _ hE0).mono ?_; rintro e wv ⟨rfl, hBv⟩; have hP0 := hP0.below hBv; have hQ0 := hQ0.below hBv; have hF0 := hF0.trans (hBv.mono (Nat.le_trans (Nat.le_of_lt hz) hE0.size)); have hE0 := hE0.trans (hBv.mono hE0.size)) | (go_at_call_of 26 (Value.slice (some ⟨g, 0, none⟩) 2 3); refine (c6 _ hE0).mono ?_; rintro e wv ⟨rfl, hBv⟩; have hP0 := hP0.below hBv; have hQ0 := hQ0.below hBv; have hF0 := hF0.trans (hBv.mono (Nat.le_trans (Nat.le_of_lt hz) hE0.size)); have hE0 := hE0.trans (hBv.mono hE0.size)) | (go_at_call 30; refine (c12 _ _ _ _ g2 hE0 rfl hQ0 hc2 hm2).mono ?_; rintro e wv ⟨rfl, hBv⟩; have hP0 := hP0.below hBv; have hQ0 := hQ0.below hBv; have hF0 := hF0.trans (hBv.mono (Nat.le_trans (Nat.le_of_lt hz) hE0.size)); have hE0 := hE0.trans (hBv.mono hE0.size)))
  go_ret
  exact ⟨rfl, by rw [hg]; exact hF0⟩
end Go.Proofs.YtnceemdemjjhlaaDoor
