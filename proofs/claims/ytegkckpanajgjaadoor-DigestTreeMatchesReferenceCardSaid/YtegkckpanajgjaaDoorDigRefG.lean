/-
  The reference: Proof.
-/
import Derived.Test.YtegkckpanajgjaaDoorDigRefT
namespace Go.Proofs.YtegkckpanajgjaaDoor
open Go.RowKit

set_option maxHeartbeats 2000000 in
theorem proofR_ind : ∀ (N : Nat) (ls : List ByteArray) (i b o cap : Nat) (w : World), ls.length ≤ N → i < ls.length → ls.length ≤ 1000 → ls.length ≤ cap → cap ≤ 9223372036854775807 → Small ls → SA w b o ls →
    Calls Tryd.prog 22 #[.slice (some ⟨b, o, none⟩) ls.length cap, .int .i64 i] w fun e w' => ∃ v, e = .returned (.tuple #[v, .int .i64 0]) ∧ OwnS w' w.heap.size v (pathR ls i).reverse ∧ (pathR ls i).length + 1 ≤ ls.length ∧ Below w.heap.size w w' := by
  intro N
  induction N with
  | zero => intro ls i b o cap w h1 h2; omega
  | succ N ih =>
    intro ls i b o cap w hN hi hth hcap hc hS hA
    by_cases hl : ls.length = 1
    · have HP : Shut (pathR ls i = []) := ⟨by rw [pathR, dif_pos (by omega)]⟩
      have hii : (i : Int) < (ls.length : Int) := by omega
      clear hA hS ih
      go_enter Tryd.func22, Tryd.ntmps22
      go_wp2
      go_ret2
      exact ⟨_, rfl, by rw [HP.o]; exact OwnS.nil _ _, by rw [HP.o]; simp; omega, Below.refl _ _⟩
    · have h2 : 2 ≤ ls.length := by omega
      have hk := spl_lt ls.length h2
      have hk1 := spl_pos ls.length
      have hh := fun W => rleft_any ls.length h2 (by omega) W
      have e1 : (ls.take (spl ls.length)).length = spl ls.length := by rw [List.length_take]; omega
      have e2 : (ls.drop (spl ls.length)).length = ls.length - spl ls.length := by rw [List.length_drop]
      have r1 : ∀ W, Below w.heap.size w W → Calls Tryd.prog 27 #[.slice (some ⟨b, o, none⟩) (spl ls.length) cap] W fun e w' => e = .returned (.string (rootB (ls.take (spl ls.length)))) ∧ Below W.heap.size W w' := fun W hW => by
        have := rootR_ind (ls.take (spl ls.length)).length (ls.take (spl ls.length)) b o cap W (Nat.le_refl _) (by omega) (by omega) hc (hS.take _) ((hA.take _).below hW)
        rwa [e1] at this
      have r2 : ∀ W, Below w.heap.size w W → Calls Tryd.prog 27 #[.slice (some ⟨b, o + spl ls.length, none⟩) (ls.length - spl ls.length) (cap - spl ls.length)] W fun e w' => e = .returned (.string (rootB (ls.drop (spl ls.length)))) ∧ Below W.heap.size W w' := fun W hW => by
        have := rootR_ind (ls.drop (spl ls.length)).length (ls.drop (spl ls.length)) b (o + spl ls.length) (cap - spl ls.length) W (Nat.le_refl _) (by omega) (by omega) (by omega) (hS.drop _) ((hA.drop _).below hW)
        rwa [e2] at this
      by_cases hik : i < spl ls.length
      · have HP : Shut (pathR ls i = rootB (ls.drop (spl ls.length)) :: pathR (ls.take (spl ls.length)) i) := ⟨by rw [pathR, dif_neg (by omega), if_pos hik]⟩
        have c1 : ∀ W, Below w.heap.size w W → Calls Tryd.prog 22 #[.slice (some ⟨b, o, none⟩) (spl ls.length) cap, .int .i64 i] W fun e w' => ∃ v, e = .returned (.tuple #[v, .int .i64 0]) ∧ OwnS w' W.heap.size v (pathR (ls.take (spl ls.length)) i).reverse ∧ (pathR (ls.take (spl ls.length)) i).length + 1 ≤ spl ls.length ∧ Below W.heap.size W w' := fun W hW => by
          have := ih (ls.take (spl ls.length)) i b o cap W (by omega) (by omega) (by omega) (by omega) hc (hS.take _) ((hA.take _).below hW)
          rwa [e1] at this
        clear hA hS ih e1 e2 r1
        generalize rootB (ls.drop (spl ls.length)) = rt at *
        generalize pathR (ls.take (spl ls.length)) i = pr at *
        generalize spl ls.length = k at *
        have k1 : (0 : Int) ≤ (k : Int) := by omega
        have k2 : (k : Int) ≤ (cap : Int) := by omega
        have k3 : (k : Int) ≤ (ls.length : Int) := by omega
        have k4 : k ≤ cap := by omega
        have k5 : k ≤ ls.length := by omega
        have k7 : (ls.length : Int) ≤ (cap : Int) := by omega
        have hl1 : ¬ (ls.length : Int) = 1 := by omega
        have hii : (i : Int) < (ls.length : Int) := by omega
        have hik2 : (i : Int) < (k : Int) := by omega
        go_enter Tryd.func22, Tryd.ntmps22
        go_wp2_with (first | (go_at_call 41; refine (hh _).mono ?_; rintro e w1 ⟨rfl, rfl⟩))
        refine (c1 _ (Below.refl _ _)).mono ?_
        rintro e w1 ⟨v1, rfl, hO1, hpl, hD0⟩
        have hplr : pr.reverse.length + [rt].length ≤ 1000 := by rw [List.length_reverse]; simp; omega
        go_wp2_with (first | (go_at_call 27; refine (r2 _ hD0).mono ?_; rintro e w2 ⟨rfl, hB2⟩; have hB2' := hD0.trans (hB2.mono hD0.size); have hO2 := hO1.below hB2) | (at_builtin; go_must (refine append_strs rfl _ _ rfl w.heap.size _ pr.reverse rfl (hO2.below ((Below.refl _ w2).alloc (Nat.le_refl _) _)) w.heap.size _ [rt] _ rfl (OwnS.one w2 w.heap.size rt hB2'.size) rfl hplr (by rw [World.size_alloc]; have := hB2'.size; omega) ?_); intro v7 w7 hO7 hB7; have hB8 := (hB2'.alloc hB2'.size _).trans hB7))
        go_ret2
        exact ⟨v7, rfl, by rw [HP.o, List.reverse_cons]; exact hO7, by rw [HP.o]; simp; omega, hB8⟩
      · have HP : Shut (pathR ls i = rootB (ls.take (spl ls.length)) :: pathR (ls.drop (spl ls.length)) (i - spl ls.length)) := ⟨by rw [pathR, dif_neg (by omega), if_neg hik]⟩
        have c1 : ∀ W, Below w.heap.size w W → Calls Tryd.prog 22 #[.slice (some ⟨b, o + spl ls.length, none⟩) (ls.length - spl ls.length) (cap - spl ls.length), .int .i64 ((i : Int) - (spl ls.length : Int))] W fun e w' => ∃ v, e = .returned (.tuple #[v, .int .i64 0]) ∧ OwnS w' W.heap.size v (pathR (ls.drop (spl ls.length)) (i - spl ls.length)).reverse ∧ (pathR (ls.drop (spl ls.length)) (i - spl ls.length)).length + 1 ≤ ls.length - spl ls.length ∧ Below W.heap.size W w' := fun W hW => by
          have := ih (ls.drop (spl ls.length)) (i - spl ls.length) b (o + spl ls.length) (cap - spl ls.length) W (by omega) (by omega) (by omega) (by omega) (by omega) (hS.drop _) ((hA.drop _).below hW)
          rwa [e2, show ((i - spl ls.length : Nat) : Int) = (i : Int) - (spl ls.length : Int) by omega] at this
        clear hA hS ih e1 e2 r2
        generalize rootB (ls.take (spl ls.length)) = rt at *
        generalize pathR (ls.drop (spl ls.length)) (i - spl ls.length) = pr at *
        generalize spl ls.length = k at *
        have k1 : (0 : Int) ≤ (k : Int) := by omega
        have k2 : (k : Int) ≤ (cap : Int) := by omega
        have k3 : (k : Int) ≤ (ls.length : Int) := by omega
        have k4 : k ≤ cap := by omega
        have k5 : k ≤ ls.length := by omega
        have k7 : (ls.length : Int) ≤ (cap : Int) := by omega
        have hl1 : ¬ (ls.length : Int) = 1 := by omega
        have hii : (i : Int) < (ls.length : Int) := by omega
        have hik2 : ¬ (i : Int) < (k : Int) := by omega
        go_enter Tryd.func22, Tryd.ntmps22
        go_wp2_with (first | (go_at_call 41; refine (hh _).mono ?_; rintro e w1 ⟨rfl, rfl⟩))
        refine (c1 _ (Below.refl _ _)).mono ?_
        rintro e w1 ⟨v1, rfl, hO1, hpl, hD0⟩
        have hplr : pr.reverse.length + [rt].length ≤ 1000 := by rw [List.length_reverse]; simp; omega
        go_wp2_with (first | (go_at_call 27; refine (r1 _ hD0).mono ?_; rintro e w2 ⟨rfl, hB2⟩; have hB2' := hD0.trans (hB2.mono hD0.size); have hO2 := hO1.below hB2) | (at_builtin; go_must (refine append_strs rfl _ _ rfl w.heap.size _ pr.reverse rfl (hO2.below ((Below.refl _ w2).alloc (Nat.le_refl _) _)) w.heap.size _ [rt] _ rfl (OwnS.one w2 w.heap.size rt hB2'.size) rfl hplr (by rw [World.size_alloc]; have := hB2'.size; omega) ?_); intro v7 w7 hO7 hB7; have hB8 := (hB2'.alloc hB2'.size _).trans hB7))
        go_ret2
        exact ⟨v7, rfl, by rw [HP.o, List.reverse_cons]; exact hO7, by rw [HP.o]; simp; omega, hB8⟩
end Go.Proofs.YtegkckpanajgjaaDoor
