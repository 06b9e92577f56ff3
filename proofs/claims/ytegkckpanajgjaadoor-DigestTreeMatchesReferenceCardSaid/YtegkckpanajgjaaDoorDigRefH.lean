/-
  The reference: part and Extension.
-/
import Derived.Test.YtegkckpanajgjaaDoorDigRefG
namespace Go.Proofs.YtegkckpanajgjaaDoor
open Go.RowKit

theorem plr {pr : List ByteArray} {rt : ByteArray} {k : Nat} (h : pr.length ≤ k) (hk : k ≤ 999) : pr.reverse.length + [rt].length ≤ 1000 := by
  rw [List.length_reverse, List.length_singleton]; omega
set_option maxHeartbeats 2000000 in
theorem partR_ind : ∀ (N : Nat) (ls : List ByteArray) (mm : Nat) (whole : Bool) (b o cap : Nat) (w : World), ls.length ≤ N → 1 ≤ mm → mm ≤ ls.length → ls.length ≤ 900 → ls.length ≤ cap → cap ≤ 9223372036854775807 → Small ls → SA w b o ls →
    Calls Tryd.prog 43 #[.slice (some ⟨b, o, none⟩) ls.length cap, .int .i64 mm, .bool whole] w fun e w' => ∃ v, e = .returned v ∧ OwnS w' w.heap.size v (partR ls mm whole).reverse ∧ (partR ls mm whole).length ≤ ls.length ∧ Below w.heap.size w w' := by
  intro N
  induction N with
  | zero => intro ls mm whole b o cap w h1 h2; omega
  | succ N ih =>
    intro ls mm whole b o cap w hN hm1 hm2 hth hcap hc hS hA
    by_cases hl : mm = ls.length
    · have hr : ∀ W, Below w.heap.size w W → Calls Tryd.prog 27 #[.slice (some ⟨b, o, none⟩) ls.length cap] W fun e w' => e = .returned (.string (rootB ls)) ∧ Below W.heap.size W w' := fun W hW =>
        rootR_ind ls.length ls b o cap W (Nat.le_refl _) (by omega) hcap hc hS (hA.below hW)
      subst hl
      have hbe : (((ls.length : Nat) : Int) == ((ls.length : Nat) : Int)) = true := beq_self_eq_true _
      cases whole with
      | true =>
        have HP : Shut (partR ls ls.length true = []) := ⟨by rw [partR, dif_pos (by omega)]; rfl⟩
        clear hA hS ih hr
        go_enter Tryd.func43, Tryd.ntmps43
        go_wp2
        go_ret
        exact ⟨_, rfl, by rw [HP.o]; exact OwnS.nil _ _, by rw [HP.o]; simp, Below.refl _ _⟩
      | false =>
        have HP : Shut (partR ls ls.length false = [rootB ls]) := ⟨by rw [partR, dif_pos (by omega)]; rfl⟩
        clear hA hS ih
        generalize rootB ls = rt at *
        go_enter Tryd.func43, Tryd.ntmps43
        go_wp2_with (go_at_call 27; refine (hr _ (Below.refl _ _)).mono ?_; rintro e w2 ⟨rfl, hB2⟩)
        go_ret
        exact ⟨_, rfl, by rw [HP.o]; exact OwnS.one w2 w.heap.size rt hB2.size, by rw [HP.o]; simp; omega, hB2.alloc hB2.size _⟩
    · have h2 : 2 ≤ ls.length := by omega
      have hk := spl_lt ls.length h2
      have hk1 := spl_pos ls.length
      have hh := fun W => rleft_any ls.length h2 (by omega) W
      have e1 : (ls.take (spl ls.length)).length = spl ls.length := by rw [List.length_take]; omega
      have e2 : (ls.drop (spl ls.length)).length = ls.length - spl ls.length := by rw [List.length_drop]
      have r1 : ∀ W, Below w.heap.size w W → Calls Tryd.prog 27 #[.slice (some ⟨b, o, none⟩) (spl ls.length) cap] W fun e w' => e = .returned (.string (rootB (ls.take (spl ls.length)))) ∧ Below W.heap.size W w' := fun W hW => by
        have := rootR_ind (ls.take (spl ls.length)).length (ls.take (spl ls.length)) b o cap W (Nat.le_refl _) (by omega) (by omega) hc (hS.take _) ((hA.take _).below hW)
        rwa [e1] at this
      have r2 : ∀ W, Below w.heap.size w W → Calls Tryd.prog 27 #[.slice (some ⟨b, o + spl ls.length, none⟩) (ls.length - spl ls.length) (cap - spl ls.length)] W fun e w' => e = .returned (.string (rootB (ls.drop (spl ls.length)))) ∧ Below W.heap.size W w' := fun W hW => by
        have := rootR_ind (ls.drop (spl ls.length)).length (ls.drop (spl ls.length)) b (o + spl ls.length) (cap - spl ls.length) W (Nat.le_refl _) (by omega) (by omega) (by omega) (hS.drop _) ((hA.drop _).below hW)
        rwa [e2] at this
      by_cases hik : mm ≤ spl ls.length
      · have HP : Shut (partR ls mm whole = rootB (ls.drop (spl ls.length)) :: partR (ls.take (spl ls.length)) mm whole) := ⟨by rw [partR, dif_neg (by omega), if_pos hik]⟩
        have c1 : ∀ W, Below w.heap.size w W → Calls Tryd.prog 43 #[.slice (some ⟨b, o, none⟩) (spl ls.length) cap, .int .i64 mm, .bool whole] W fun e w' => ∃ v, e = .returned v ∧ OwnS w' W.heap.size v (partR (ls.take (spl ls.length)) mm whole).reverse ∧ (partR (ls.take (spl ls.length)) mm whole).length ≤ spl ls.length ∧ Below W.heap.size W w' := fun W hW => by
          have := ih (ls.take (spl ls.length)) mm whole b o cap W (by omega) (by omega) (by omega) (by omega) (by omega) hc (hS.take _) ((hA.take _).below hW)
          rwa [e1] at this
        clear hA hS ih e1 e2 r1
        generalize rootB (ls.drop (spl ls.length)) = rt at *
        generalize partR (ls.take (spl ls.length)) mm whole = pr at *
        generalize spl ls.length = k at *
        have k1 : (0 : Int) ≤ (k : Int) := by omega
        have k2 : (k : Int) ≤ (cap : Int) := by omega
        have k3 : (k : Int) ≤ (ls.length : Int) := by omega
        have k4 : k ≤ cap := by omega
        have k5 : k ≤ ls.length := by omega
        have hck : ¬ cap = k := by omega
        have k7 : (ls.length : Int) ≤ (cap : Int) := by omega
        have k8 : IntKind.i64.wrap ((mm : Int) - (k : Int)) = (mm : Int) - (k : Int) := by simp [IntKind.wrap, IntKind.signed, IntKind.bits]; omega
        have hl1 : (((mm : Nat) : Int) == ((ls.length : Nat) : Int)) = false := by rw [beq_eq_false_iff_ne]; omega
        have hk9 : k ≤ 999 := by omega
        have hl2 : ¬ (mm : Int) = (ls.length : Int) := by omega
        have hik2 : (mm : Int) ≤ (k : Int) := by omega
        go_enter Tryd.func43, Tryd.ntmps43
        go_wp2_with (first | (go_at_call 41; refine (hh _).mono ?_; rintro e w1 ⟨rfl, rfl⟩))
        have hd : Below w.heap.size w w.drew := (Below.refl _ _).drew
        go_region_held3 (fun _ => True) (exact trivial) (first | (go_at_call 43; refine (c1 _ hd).mono ?_; rintro e w1 ⟨v1, rfl, hO1, hpl, hD0⟩; have hD1 := hd.trans hD0) | (go_at_call 27; refine (r2 _ hD1).mono ?_; rintro e w2 ⟨rfl, hB2⟩; have hB2' := hD1.trans (hB2.mono hD1.size); have hO2 := hO1.below hB2; have hal : Below w2.heap.size w2 (w2.alloc (.cells #[.string rt] 9)) := (Below.refl _ _).alloc (Nat.le_refl _) _) | ((with_reducible refine Ds.step_append_at 33 27 32 w.heap.size pr.reverse w2.heap.size [rt] (pr.reverse ++ [rt]) ?_ ?_ rfl ?_ ?_ ?_); (next => exact hO2.below hal); (next => exact OwnS.one w2 w2.heap.size rt (Nat.le_refl _)); (next => exact plr hpl hk9); (next => exact Nat.le_trans hB2'.size hal.size); intro v7 w7 hO7 hB7 _; have hB8 := (hB2'.trans (hal.mono hB2'.size)).trans hB7) | fail)
        go_wp2
        go_ret
        exact ⟨v7, rfl, by rw [HP.o, List.reverse_cons]; exact hO7, by rw [HP.o]; simp; omega, hB8⟩
      · have HP : Shut (partR ls mm whole = rootB (ls.take (spl ls.length)) :: partR (ls.drop (spl ls.length)) (mm - spl ls.length) false) := ⟨by rw [partR, dif_neg (by omega), if_neg hik]⟩
        have c1 : ∀ W, Below w.heap.size w W → Calls Tryd.prog 43 #[.slice (some ⟨b, o + spl ls.length, none⟩) (ls.length - spl ls.length) (cap - spl ls.length), .int .i64 ((mm : Int) - (spl ls.length : Int)), .bool false] W fun e w' => ∃ v, e = .returned v ∧ OwnS w' W.heap.size v (partR (ls.drop (spl ls.length)) (mm - spl ls.length) false).reverse ∧ (partR (ls.drop (spl ls.length)) (mm - spl ls.length) false).length ≤ ls.length - spl ls.length ∧ Below W.heap.size W w' := fun W hW => by
          have := ih (ls.drop (spl ls.length)) (mm - spl ls.length) false b (o + spl ls.length) (cap - spl ls.length) W (by omega) (by omega) (by omega) (by omega) (by omega) (by omega) (hS.drop _) ((hA.drop _).below hW)
          rwa [e2, show ((mm - spl ls.length : Nat) : Int) = (mm : Int) - (spl ls.length : Int) by omega] at this
        clear hA hS ih e1 e2 r2
        generalize rootB (ls.take (spl ls.length)) = rt at *
        generalize partR (ls.drop (spl ls.length)) (mm - spl ls.length) false = pr at *
        generalize spl ls.length = k at *
        have k1 : (0 : Int) ≤ (k : Int) := by omega
        have k2 : (k : Int) ≤ (cap : Int) := by omega
        have k3 : (k : Int) ≤ (ls.length : Int) := by omega
        have k4 : k ≤ cap := by omega
        have k5 : k ≤ ls.length := by omega
        have hck : ¬ cap = k := by omega
        have k7 : (ls.length : Int) ≤ (cap : Int) := by omega
        have k8 : IntKind.i64.wrap ((mm : Int) - (k : Int)) = (mm : Int) - (k : Int) := by simp [IntKind.wrap, IntKind.signed, IntKind.bits]; omega
        have hl1 : (((mm : Nat) : Int) == ((ls.length : Nat) : Int)) = false := by rw [beq_eq_false_iff_ne]; omega
        have hk9 : ls.length - k ≤ 999 := by omega
        have hl2 : ¬ (mm : Int) = (ls.length : Int) := by omega
        have hik2 : ¬ (mm : Int) ≤ (k : Int) := by omega
        go_enter Tryd.func43, Tryd.ntmps43
        go_wp2_with (first | (go_at_call 41; refine (hh _).mono ?_; rintro e w1 ⟨rfl, rfl⟩))
        have hd : Below w.heap.size w w.drew := (Below.refl _ _).drew
        go_region_held3 (fun _ => True) (exact trivial) (first | (go_at_call 43; refine (c1 _ hd).mono ?_; rintro e w1 ⟨v1, rfl, hO1, hpl, hD0⟩; have hD1 := hd.trans hD0) | (go_at_call 27; refine (r1 _ hD1).mono ?_; rintro e w2 ⟨rfl, hB2⟩; have hB2' := hD1.trans (hB2.mono hD1.size); have hO2 := hO1.below hB2; have hal : Below w2.heap.size w2 (w2.alloc (.cells #[.string rt] 9)) := (Below.refl _ _).alloc (Nat.le_refl _) _) | ((with_reducible refine Ds.step_append_at 46 40 45 w.heap.size pr.reverse w2.heap.size [rt] (pr.reverse ++ [rt]) ?_ ?_ rfl ?_ ?_ ?_); (next => exact hO2.below hal); (next => exact OwnS.one w2 w2.heap.size rt (Nat.le_refl _)); (next => exact plr hpl hk9); (next => exact Nat.le_trans hB2'.size hal.size); intro v7 w7 hO7 hB7 _; have hB8 := (hB2'.trans (hal.mono hB2'.size)).trans hB7) | fail)
        go_wp2
        go_ret
        exact ⟨v7, rfl, by rw [HP.o, List.reverse_cons]; exact hO7, by rw [HP.o]; simp; omega, hB8⟩
end Go.Proofs.YtegkckpanajgjaaDoor
