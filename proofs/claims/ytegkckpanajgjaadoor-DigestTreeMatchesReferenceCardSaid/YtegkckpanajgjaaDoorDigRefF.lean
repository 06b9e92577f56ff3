/-
  The reference: Root.
-/
import Derived.Test.YtegkckpanajgjaaDoorDigRefE
import Derived.Test.YtegkckpanajgjaaDoorDigPath
import Derived.Deep.RegionHeld3
namespace Go.Proofs.YtegkckpanajgjaaDoor
open Go.RowKit

set_option maxHeartbeats 1000000 in
theorem rootR_ind : ∀ (N : Nat) (ls : List ByteArray) (b o cap : Nat) (w : World), ls.length ≤ N → 1 ≤ ls.length → ls.length ≤ cap → cap ≤ 9223372036854775807 → Small ls → SA w b o ls →
    Calls Tryd.prog 27 #[.slice (some ⟨b, o, none⟩) ls.length cap] w fun e w' => e = .returned (.string (rootB ls)) ∧ Below w.heap.size w w' := by
  intro N
  induction N with
  | zero => intro ls b o cap w h1 h2; omega
  | succ N ih =>
    intro ls b o cap w hN h1 hcap hc hS hA
    by_cases hl : ls.length = 1
    · obtain ⟨s, rfl⟩ : ∃ s, ls = [s] := List.length_eq_one_iff.1 hl
      have h0 : w.cell? ⟨b, o, none⟩ = some (.string s) := hA 0 (by simp)
      have hsz : s.size ≤ 1000 := hS s (by simp)
      have c := fun W => Leaf_ref s (by omega) W
      have HR : Shut _ := ⟨root_one s⟩
      clear hA hS ih
      go_enter Tryd.func27, Tryd.ntmps27
      go_wp2_with (go_at_call 15; refine (c _).mono ?_; rintro e w1 ⟨rfl, hB⟩)
      go_ret
      exact ⟨by rw [HR.o]; rfl, hB⟩
    · have h2 : 2 ≤ ls.length := by omega
      have hk := spl_lt ls.length h2
      have hk1 := spl_pos ls.length
      have hh := fun W => rleft_any ls.length h2 (by omega) W
      have e1 : (ls.take (spl ls.length)).length = spl ls.length := by rw [List.length_take]; omega
      have e2 : (ls.drop (spl ls.length)).length = ls.length - spl ls.length := by rw [List.length_drop]
      have c1 : ∀ W, Below w.heap.size w W → Calls Tryd.prog 27 #[.slice (some ⟨b, o, none⟩) (spl ls.length) cap] W fun e w' => e = .returned (.string (rootB (ls.take (spl ls.length)))) ∧ Below W.heap.size W w' := fun W hW => by
        have := ih (ls.take (spl ls.length)) b o cap W (by omega) (by omega) (by omega) hc (hS.take _) ((hA.take _).below hW)
        rwa [e1] at this
      have c2 : ∀ W, Below w.heap.size w W → Calls Tryd.prog 27 #[.slice (some ⟨b, o + spl ls.length, none⟩) (ls.length - spl ls.length) (cap - spl ls.length)] W fun e w' => e = .returned (.string (rootB (ls.drop (spl ls.length)))) ∧ Below W.heap.size W w' := fun W hW => by
        have := ih (ls.drop (spl ls.length)) b (o + spl ls.length) (cap - spl ls.length) W (by omega) (by omega) (by omega) (by omega) (hS.drop _) ((hA.drop _).below hW)
        rwa [e2] at this
      have HR : Shut _ := ⟨root_many ls h2⟩
      have z1 := root_size (ls.take (spl ls.length))
      have z2 := root_size (ls.drop (spl ls.length))
      clear hA hS ih e1 e2
      generalize rootB (ls.take (spl ls.length)) = r1 at *
      generalize rootB (ls.drop (spl ls.length)) = r2 at *
      generalize spl ls.length = k at *
      have cn := fun W => Node_ref r1 r2 (by omega) (by omega) W
      have k1 : (0 : Int) ≤ (k : Int) := by omega
      have k2 : (k : Int) ≤ (cap : Int) := by omega
      have k3 : (k : Int) ≤ (ls.length : Int) := by omega
      have k4 : k ≤ cap := by omega
      have k5 : k ≤ ls.length := by omega
      have k6 : ls.length ≤ cap := hcap
      have k7 : (ls.length : Int) ≤ (cap : Int) := by omega
      have hl1 : ¬ (ls.length : Int) = 1 := by omega
      have hl0 : ¬ (ls.length : Int) = 0 := by omega
      go_enter Tryd.func27, Tryd.ntmps27
      go_wp2_with (go_at_call 41; refine (hh _).mono ?_; rintro e w1 ⟨rfl, rfl⟩)
      have hd : Below w.heap.size w w.drew := (Below.refl _ _).drew
      go_region_held3 (fun _ => True) (exact trivial) (first | (go_at_call_of 27 (Value.slice (some ⟨b, o, none⟩) k cap); refine (c1 _ hd).mono ?_; rintro e wa ⟨rfl, hBa⟩; have hBa' := hd.trans hBa) | (go_at_call_of 27 (Value.slice (some ⟨b, o + k, none⟩) (ls.length - k) (cap - k)); refine (c2 wa hBa').mono ?_; rintro e wb ⟨rfl, hBb⟩; have hBb' := hBa'.trans (hBb.mono hBa'.size)) | (go_at_call 17; refine (cn _).mono ?_; rintro e wc ⟨rfl, hBc⟩))
      go_wp2
      go_ret
      exact ⟨by rw [HR.o]; rfl, hBb'.trans (hBc.mono hBb'.size)⟩
end Go.Proofs.YtegkckpanajgjaaDoor
