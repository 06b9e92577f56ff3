/-
  Contracts: Add, Down, Up, Of.
-/
import Derived.Test.YtappobhpdpfojaaGreatRatI
namespace Go.Proofs.YtappobhpdpfojaaGreat
set_option maxRecDepth 1000000
namespace Rt
open Go.RowKit Go.Proofs.YtappobhpdpfojaaGreat.Nm
theorem res_two (w : World) (a r : Obj) : ((w.alloc a).alloc r).heap[w.heap.size + 1]? = some r := by
  have := World.alloc_heap_new (w.alloc a) r
  rwa [World.size_alloc] at this
theorem res_three (w : World) (a b r : Obj) : (((w.alloc a).alloc b).alloc r).heap[w.heap.size + 1 + 1]? = some r := by
  have := World.alloc_heap_new ((w.alloc a).alloc b) r
  rwa [World.size_alloc, World.size_alloc] at this
set_option maxHeartbeats 1000000 in
theorem Add_all (s t u v : ByteArray) (hs : s.size ≤ 1000000) (ht : t.size ≤ 1000000) (hu : u.size ≤ 1000000) (hv : v.size ≤ 1000000) (w : World) :
    Calls Tryz.prog 37 #[rv s t, rv u v] w fun e w' => e = .returned (bR (sumR opAdd s t u v)) ∧ Below w.heap.size w w' := by
  have hC := fun W => sum_all s t u v hs ht hu hv 66 opAdd (enters_of Tryz.func66 (by kernel_rfl) rfl) opC_Add op2_small W
  obtain ⟨n, d, e0, ho⟩ := bR_form (sumR opAdd s t u v)
  rw [ho] at hC ⊢
  clear ho
  unfold rv at hC ⊢
  go_enter Tryz.func37, Tryz.ntmps37
  go_wp2_with (go_at_call 65; refine (hC _).mono ?_; rintro e w5 ⟨rfl, hB4⟩; obtain ⟨c0, c1, z0, z1⟩ := cell_box ((hB4.block (w.heap.size + 1 + 1) (by simp)).trans (res_three w _ _ _)))
  have k0 := cell_two w5 (w.heap.size + 1 + 1) (.string n) (.string d) _ _ c0 c1
  have hB5 : Below w.heap.size w w5 := ((((Below.refl w.heap.size w).alloc (Nat.le_refl _) _).alloc (by simp) _).alloc (by simp; omega) _).trans (hB4.mono (by simp; omega))
  refine bodyPost_ret (v := .tuple #[.agg #[.string n, .string d], .int .i64 e0]) (by simp [results, Tryz.results37, go_sem, k0.1, k0.2]) rfl ⟨rfl, (hB5.setCell (by simp; omega) _).setCell (by simp; omega) _⟩
/-- what Down answers -/
noncomputable def downR (s t : ByteArray) (c : Int) : Option (ByteArray × ByteArray) := if 0 ≤ c ∧ c ≤ 30 then rndR opFloor s t c.toNat else none
set_option maxHeartbeats 1000000 in
theorem Down_all (s t : ByteArray) (hs : s.size ≤ 1000000) (ht : t.size ≤ 1000000) (c : Int) (w : World) :
    Calls Tryz.prog 22 #[rv s t, .int .i64 c] w fun e w' => e = .returned (bR (downR s t c)) ∧ Below w.heap.size w w' := by
  have hC : ∀ W : World, Calls Tryz.prog 55 #[rv s t, .int .i64 c, .func (.func 56) #[] #[]] W fun e w' => e = .returned (bR (downR s t c)) ∧ Below W.heap.size W w' := fun W => by
    unfold downR
    by_cases hc : 0 ≤ c ∧ c ≤ 30
    · rw [if_pos hc]
      have := rounded_all s t hs ht c.toNat (by omega) 56 opFloor (enters_of Tryz.func56 (by kernel_rfl) rfl) opC_floor op2_small W
      rwa [Int.toNat_of_nonneg hc.1] at this
    · rw [if_neg hc]
      exact rounded_bad s t c (by omega) _ W
  obtain ⟨n, d, e0, ho⟩ := bR_form (downR s t c)
  rw [ho] at hC ⊢
  clear ho
  unfold rv at hC ⊢
  go_enter Tryz.func22, Tryz.ntmps22
  go_wp2_with (go_at_call 55; refine (hC _).mono ?_; rintro e w5 ⟨rfl, hB4⟩; obtain ⟨c0, c1, z0, z1⟩ := cell_box ((hB4.block (w.heap.size + 1) (by simp)).trans (res_two w _ _)))
  have k0 := cell_two w5 (w.heap.size + 1) (.string n) (.string d) _ _ c0 c1
  have hB5 : Below w.heap.size w w5 := (((Below.refl w.heap.size w).alloc (Nat.le_refl _) _).alloc (by simp) _).trans (hB4.mono (by simp; omega))
  refine bodyPost_ret (v := .tuple #[.agg #[.string n, .string d], .int .i64 e0]) (by simp [results, Tryz.results22, go_sem, k0.1, k0.2]) rfl ⟨rfl, (hB5.setCell (by simp) _).setCell (by simp) _⟩
/-- what Up answers -/
noncomputable def upR (s t : ByteArray) (c : Int) : Option (ByteArray × ByteArray) := if 0 ≤ c ∧ c ≤ 30 then rndR opCeil s t c.toNat else none
set_option maxHeartbeats 1000000 in
theorem Up_all (s t : ByteArray) (hs : s.size ≤ 1000000) (ht : t.size ≤ 1000000) (c : Int) (w : World) :
    Calls Tryz.prog 24 #[rv s t, .int .i64 c] w fun e w' => e = .returned (bR (upR s t c)) ∧ Below w.heap.size w w' := by
  have hC : ∀ W : World, Calls Tryz.prog 55 #[rv s t, .int .i64 c, .func (.func 58) #[] #[]] W fun e w' => e = .returned (bR (upR s t c)) ∧ Below W.heap.size W w' := fun W => by
    unfold upR
    by_cases hc : 0 ≤ c ∧ c ≤ 30
    · rw [if_pos hc]
      have := rounded_all s t hs ht c.toNat (by omega) 58 opCeil (enters_of Tryz.func58 (by kernel_rfl) rfl) opC_ceiling op2_small W
      rwa [Int.toNat_of_nonneg hc.1] at this
    · rw [if_neg hc]
      exact rounded_bad s t c (by omega) _ W
  obtain ⟨n, d, e0, ho⟩ := bR_form (upR s t c)
  rw [ho] at hC ⊢
  clear ho
  unfold rv at hC ⊢
  go_enter Tryz.func24, Tryz.ntmps24
  go_wp2_with (go_at_call 55; refine (hC _).mono ?_; rintro e w5 ⟨rfl, hB4⟩; obtain ⟨c0, c1, z0, z1⟩ := cell_box ((hB4.block (w.heap.size + 1) (by simp)).trans (res_two w _ _)))
  have k0 := cell_two w5 (w.heap.size + 1) (.string n) (.string d) _ _ c0 c1
  have hB5 : Below w.heap.size w w5 := (((Below.refl w.heap.size w).alloc (Nat.le_refl _) _).alloc (by simp) _).trans (hB4.mono (by simp; omega))
  refine bodyPost_ret (v := .tuple #[.agg #[.string n, .string d], .int .i64 e0]) (by simp [results, Tryz.results24, go_sem, k0.1, k0.2]) rfl ⟨rfl, (hB5.setCell (by simp) _).setCell (by simp) _⟩
set_option maxHeartbeats 1000000 in
theorem Of_all (n d : Int) (n1 : -9223372036854775808 ≤ n) (n2 : n ≤ 9223372036854775807) (d1 : -9223372036854775808 ≤ d) (d2 : d ≤ 9223372036854775807) (w : World) :
    Calls Tryz.prog 30 #[.int .i64 n, .int .i64 d] w fun e w' => e = .returned (bR (redR (txt n) (txt d))) ∧ Below w.heap.size w w' := by
  have f1 : Fits n := fits_small (Nat.lt_trans (show n.natAbs < 10 ^ 20 by omega) (by decide))
  have f2 : Fits d := fits_small (Nat.lt_trans (show d.natAbs < 10 ^ 20 by omega) (by decide))
  have cn := fun W => FromInt_any n n1 n2 W
  have cd := fun W => FromInt_any d d1 d2 W
  have hC := fun W => Make_all (txt n) (txt d) (txt_size6 f1) (txt_size6 f2) W
  obtain ⟨n', d', e0, ho⟩ := bR_form (redR (txt n) (txt d))
  rw [ho] at hC ⊢
  clear ho
  generalize txt n = a at *
  generalize txt d = b at *
  go_enter Tryz.func30, Tryz.ntmps30
  go_wp2_with (first | (go_at_call 63; with_reducible refine (cn _).mono ?_; rintro e w1 ⟨rfl, hB1⟩) | (go_at_call 63; with_reducible refine (cd _).mono ?_; rintro e w2 ⟨rfl, hB2⟩) | (go_at_call 26; refine (hC _).mono ?_; rintro e w3 ⟨rfl, hB3⟩; obtain ⟨c0, c1, z0, z1⟩ := cell_box ((hB3.block w.heap.size (by have h1 := hB1.size; rw [World.size_alloc] at h1; have h2 := hB2.size; omega)).trans ((hB2.block w.heap.size (by have h1 := hB1.size; rw [World.size_alloc] at h1; omega)).trans ((hB1.block w.heap.size (by simp)).trans (World.alloc_heap_new w _))))))
  have k0 := cell_two w3 w.heap.size (.string n') (.string d') _ _ c0 c1
  have h1 := hB1.size
  rw [World.size_alloc] at h1
  have h2 := hB2.size
  have hB5 : Below w.heap.size w w3 := ((((Below.refl w.heap.size w).alloc (Nat.le_refl _) _).trans (hB1.mono (by simp))).trans (hB2.mono (by omega))).trans (hB3.mono (by omega))
  refine bodyPost_ret (v := .tuple #[.agg #[.string n', .string d'], .int .i64 e0]) (by simp [results, Tryz.results30, go_sem, k0.1, k0.2]) rfl ⟨rfl, (hB5.setCell (by simp) _).setCell (by simp) _⟩
end Rt
end Go.Proofs.YtappobhpdpfojaaGreat
