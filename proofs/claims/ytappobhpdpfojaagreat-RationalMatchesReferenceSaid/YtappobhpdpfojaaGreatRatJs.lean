/-
  Contracts: Sub.
-/
import Derived.Test.YtappobhpdpfojaaGreatRatJ
namespace Go.Proofs.YtappobhpdpfojaaGreat
set_option maxRecDepth 1000000
namespace Rt
open Go.RowKit Go.Proofs.YtappobhpdpfojaaGreat.Nm
set_option maxHeartbeats 1000000 in
theorem Sub_all (s t u v : ByteArray) (hs : s.size ≤ 1000000) (ht : t.size ≤ 1000000) (hu : u.size ≤ 1000000) (hv : v.size ≤ 1000000) (w : World) :
    Calls Tryz.prog 39 #[rv s t, rv u v] w fun e w' => e = .returned (bR (sumR opSub s t u v)) ∧ Below w.heap.size w w' := by
  have hC := fun W => sum_all s t u v hs ht hu hv 69 opSub (enters_of Tryz.func69 (by kernel_rfl) rfl) opC_Sub op2_small W
  obtain ⟨n, d, e0, ho⟩ := bR_form (sumR opSub s t u v)
  rw [ho] at hC ⊢
  clear ho
  unfold rv at hC ⊢
  go_enter Tryz.func39, Tryz.ntmps39
  go_wp2_with (go_at_call 65; refine (hC _).mono ?_; rintro e w5 ⟨rfl, hB4⟩; obtain ⟨c0, c1, z0, z1⟩ := cell_box ((hB4.block (w.heap.size + 1 + 1) (by simp)).trans (res_three w _ _ _)))
  have k0 := cell_two w5 (w.heap.size + 1 + 1) (.string n) (.string d) _ _ c0 c1
  have hB5 : Below w.heap.size w w5 := ((((Below.refl w.heap.size w).alloc (Nat.le_refl _) _).alloc (by simp) _).alloc (by simp; omega) _).trans (hB4.mono (by simp; omega))
  refine bodyPost_ret (v := .tuple #[.agg #[.string n, .string d], .int .i64 e0]) (by simp [results, Tryz.results39, go_sem, k0.1, k0.2]) rfl ⟨rfl, (hB5.setCell (by simp; omega) _).setCell (by simp; omega) _⟩
end Rt
end Go.Proofs.YtappobhpdpfojaaGreat
