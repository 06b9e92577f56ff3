/-
  Package enclosure: least, greatest.
-/
import Derived.Test.YtbfonkabmehlmaaGreatDoorEnO
import Derived.Deep.RegionHeld
namespace Go.Proofs.YtbfonkabmehlmaaGreatDoor
set_option maxRecDepth 1000000
namespace En
open Go.RowKit Go.Extern.Stop Go.Stop Go.Extern
theorem ldrew {B : Nat} {w w' : World} (h : Below B w w') : Below B w w'.drew := ⟨h.os, h.tape, h.output, h.size, h.block⟩
theorem lundrew2 {B : Nat} {w w' : World} (h : Below B w.drew w') : Below B w w' := ⟨h.os, h.tape, h.output, h.size, h.block⟩
set_option maxHeartbeats 4000000 in
theorem least_any (P : P2 → Prop) (A : P2 → P2 → Bool) (hA : ∀ p q, P p → P q → Ret 68 #[frc p.1 p.2, frc q.1 q.2] (.bool (A p q))) (L : Nat → P2) (m bi cap : Nat) (h1 : 1 ≤ m) (hm : m ≤ 1000) (hcap : m ≤ cap) (hL : ∀ i, i < m → P (L i)) (w : World)
    (hcs : ∀ W, Below w.heap.size w W → ∀ j, j < m → W.cell? ⟨bi, j * 2, none⟩ = some (.string (L j).1) ∧ W.cell? ⟨bi, j * 2 + 1, none⟩ = some (.string (L j).2)) :
    Calls Tryz.prog 90 #[.slice (some ⟨bi, 0, none⟩) m cap] w fun e w' => e = .returned (frc (pickN A (L 0) (fun i => L (i + 1)) (m - 1)).1 (pickN A (L 0) (fun i => L (i + 1)) (m - 1)).2) ∧ Below w.heap.size w w' := by
  obtain ⟨m, rfl⟩ : ∃ k, m = k + 1 := ⟨m - 1, by omega⟩
  obtain ⟨cap, rfl⟩ : ∃ k, cap = k + 1 := ⟨cap - 1, by omega⟩
  have n_r : (w.alloc (.cells #[.string ⟨#[]⟩, .string ⟨#[]⟩] 23)).heap[w.heap.size]? = _ := World.alloc_heap_new w _
  have u := (Below.refl w.heap.size w).alloc (Nat.le_refl _) (.cells #[.string ⟨#[]⟩, .string ⟨#[]⟩] 23)
  have cF := fun (off cap : Nat) (ho : 0 < m → off = 2) (W : World) (hB : Below w.heap.size w W) => first_any 68 (enters_of Tryz.func68 (by kernel_rfl) rfl) P A hA (fun i => L (i + 1)) (L 0) (hL 0 (by omega)) m bi off cap (by omega) (fun i hi => hL (i + 1) (by omega)) W (fun V hV j hj => by
    have := hcs V (hB.trans (hV.mono hB.size)) (j + 1) (by omega)
    rw [ho (by omega)]
    rwa [show (j + 1) * 2 = 2 + j * 2 by omega] at this)
  obtain ⟨y0, y1⟩ := hcs _ u 0 (by omega)
  have CF : Shut _ := ⟨cF⟩
  have HC : Shut _ := ⟨fun W hW => hcs W hW 0 (by omega)⟩
  have nx := Nat.ne_of_lt (World.block_lt_of_cell? w _ (hcs w (Below.refl _ _) 0 (by omega)).1)
  have nx2 := nx.symm
  have hm1 : (m + 1 - 1 : Nat) = m := rfl
  rw [hm1]
  clear hcs cF hA
  unfold frc at *
  generalize hpk : pickN A (L 0) (fun i => L (i + 1)) m = pk at *
  generalize L 0 = l0 at *
  rcases Nat.eq_zero_or_pos cap with rfl | hcp
  · obtain rfl : m = 0 := (by omega)
    go_enter Tryz.func90, Tryz.ntmps90
    go_wp2_with fail
    generalize (w.alloc (.cells #[.string ⟨#[]⟩, .string ⟨#[]⟩] 23)) = W0 at *
    have k0 := lcell n_r 0 (v := .string ⟨#[]⟩) rfl
    have f0 := lfree n_r 0
    have k1 := lcell n_r 1 (v := .string ⟨#[]⟩) rfl
    have f1 := lfree n_r 1
    have y0 : W0.cell? ⟨bi, 0, none⟩ = some (.string l0.1) := y0
    have y1 : W0.cell? ⟨bi, 1, none⟩ = some (.string l0.2) := y1
    go_region_held (fun X => X.cell? ⟨bi, 0, none⟩ = some (.string l0.1) ∧ X.cell? ⟨bi, 1, none⟩ = some (.string l0.2)) (go_keep) (first | (go_at_call 142; (with_reducible refine (CF.o _ _ (fun hh => absurd hh (by omega)) _ (ldrew u)).mono ?_); rintro e v1 ⟨rfl, g⟩; have g : Below W0.heap.size W0 v1 := lundrew2 g; replace u := u.trans (g.mono u.size); replace n_r := lkeep n_r g; clear g; obtain ⟨q0, q1⟩ := HC.o _ u; have y0 : v1.cell? ⟨bi, 0, none⟩ = some (.string l0.1) := q0; have y1 : v1.cell? ⟨bi, 1, none⟩ = some (.string l0.2) := q1; clear q0 q1; have k0 := lcell n_r 0 (v := .string ⟨#[]⟩) rfl; have f0 := lfree n_r 0; have k1 := lcell n_r 1 (v := .string ⟨#[]⟩) rfl; have f1 := lfree n_r 1))
    have s_r := box2_setx (x := .string pk.1) (y := .string pk.2) n_r
    have z0 := lcell s_r 0 (v := .string pk.1) rfl
    have z1 := lcell s_r 1 (v := .string pk.2) rfl
    go_wp
    exact bodyPost_ret (v := .agg #[.string pk.1, .string pk.2]) (by simp [results, Tryz.results90, go_sem, z0, z1]) rfl ⟨rfl, (u.setCell (Nat.le_refl _) _).setCell (Nat.le_refl _) _⟩
  · obtain ⟨c, rfl⟩ : ∃ c, cap = c + 1 := ⟨cap - 1, by omega⟩
    have hc3 : ¬ (c + 1 + 1 = 1) := (by omega)
    have hc4 : (1 : Int) ≤ ((m + 1 : Nat) : Int) := (by omega)
    go_enter Tryz.func90, Tryz.ntmps90
    go_wp2_with fail
    generalize (w.alloc (.cells #[.string ⟨#[]⟩, .string ⟨#[]⟩] 23)) = W0 at *
    have k0 := lcell n_r 0 (v := .string ⟨#[]⟩) rfl
    have f0 := lfree n_r 0
    have k1 := lcell n_r 1 (v := .string ⟨#[]⟩) rfl
    have f1 := lfree n_r 1
    have y0 : W0.cell? ⟨bi, 0, none⟩ = some (.string l0.1) := y0
    have y1 : W0.cell? ⟨bi, 1, none⟩ = some (.string l0.2) := y1
    go_region_held (fun X => X.cell? ⟨bi, 0, none⟩ = some (.string l0.1) ∧ X.cell? ⟨bi, 1, none⟩ = some (.string l0.2)) (go_keep) (first | (go_at_call 142; (with_reducible refine (CF.o _ _ (fun hh => rfl) _ (ldrew u)).mono ?_); rintro e v1 ⟨rfl, g⟩; have g : Below W0.heap.size W0 v1 := lundrew2 g; replace u := u.trans (g.mono u.size); replace n_r := lkeep n_r g; clear g; obtain ⟨q0, q1⟩ := HC.o _ u; have y0 : v1.cell? ⟨bi, 0, none⟩ = some (.string l0.1) := q0; have y1 : v1.cell? ⟨bi, 1, none⟩ = some (.string l0.2) := q1; clear q0 q1; have k0 := lcell n_r 0 (v := .string ⟨#[]⟩) rfl; have f0 := lfree n_r 0; have k1 := lcell n_r 1 (v := .string ⟨#[]⟩) rfl; have f1 := lfree n_r 1))
    have s_r := box2_setx (x := .string pk.1) (y := .string pk.2) n_r
    have z0 := lcell s_r 0 (v := .string pk.1) rfl
    have z1 := lcell s_r 1 (v := .string pk.2) rfl
    go_wp
    exact bodyPost_ret (v := .agg #[.string pk.1, .string pk.2]) (by simp [results, Tryz.results90, go_sem, z0, z1]) rfl ⟨rfl, (u.setCell (Nat.le_refl _) _).setCell (Nat.le_refl _) _⟩
set_option maxHeartbeats 4000000 in
theorem greatest_any (P : P2 → Prop) (A : P2 → P2 → Bool) (hA : ∀ p q, P p → P q → Ret 143 #[frc p.1 p.2, frc q.1 q.2] (.bool (A p q))) (L : Nat → P2) (m bi cap : Nat) (h1 : 1 ≤ m) (hm : m ≤ 1000) (hcap : m ≤ cap) (hL : ∀ i, i < m → P (L i)) (w : World)
    (hcs : ∀ W, Below w.heap.size w W → ∀ j, j < m → W.cell? ⟨bi, j * 2, none⟩ = some (.string (L j).1) ∧ W.cell? ⟨bi, j * 2 + 1, none⟩ = some (.string (L j).2)) :
    Calls Tryz.prog 89 #[.slice (some ⟨bi, 0, none⟩) m cap] w fun e w' => e = .returned (frc (pickN A (L 0) (fun i => L (i + 1)) (m - 1)).1 (pickN A (L 0) (fun i => L (i + 1)) (m - 1)).2) ∧ Below w.heap.size w w' := by
  obtain ⟨m, rfl⟩ : ∃ k, m = k + 1 := ⟨m - 1, by omega⟩
  obtain ⟨cap, rfl⟩ : ∃ k, cap = k + 1 := ⟨cap - 1, by omega⟩
  have n_r : (w.alloc (.cells #[.string ⟨#[]⟩, .string ⟨#[]⟩] 23)).heap[w.heap.size]? = _ := World.alloc_heap_new w _
  have u := (Below.refl w.heap.size w).alloc (Nat.le_refl _) (.cells #[.string ⟨#[]⟩, .string ⟨#[]⟩] 23)
  have cF := fun (off cap : Nat) (ho : 0 < m → off = 2) (W : World) (hB : Below w.heap.size w W) => first_any 143 (enters_of Tryz.func143 (by kernel_rfl) rfl) P A hA (fun i => L (i + 1)) (L 0) (hL 0 (by omega)) m bi off cap (by omega) (fun i hi => hL (i + 1) (by omega)) W (fun V hV j hj => by
    have := hcs V (hB.trans (hV.mono hB.size)) (j + 1) (by omega)
    rw [ho (by omega)]
    rwa [show (j + 1) * 2 = 2 + j * 2 by omega] at this)
  obtain ⟨y0, y1⟩ := hcs _ u 0 (by omega)
  have CF : Shut _ := ⟨cF⟩
  have HC : Shut _ := ⟨fun W hW => hcs W hW 0 (by omega)⟩
  have nx := Nat.ne_of_lt (World.block_lt_of_cell? w _ (hcs w (Below.refl _ _) 0 (by omega)).1)
  have nx2 := nx.symm
  have hm1 : (m + 1 - 1 : Nat) = m := rfl
  rw [hm1]
  clear hcs cF hA
  unfold frc at *
  generalize hpk : pickN A (L 0) (fun i => L (i + 1)) m = pk at *
  generalize L 0 = l0 at *
  rcases Nat.eq_zero_or_pos cap with rfl | hcp
  · obtain rfl : m = 0 := (by omega)
    go_enter Tryz.func89, Tryz.ntmps89
    go_wp2_with fail
    generalize (w.alloc (.cells #[.string ⟨#[]⟩, .string ⟨#[]⟩] 23)) = W0 at *
    have k0 := lcell n_r 0 (v := .string ⟨#[]⟩) rfl
    have f0 := lfree n_r 0
    have k1 := lcell n_r 1 (v := .string ⟨#[]⟩) rfl
    have f1 := lfree n_r 1
    have y0 : W0.cell? ⟨bi, 0, none⟩ = some (.string l0.1) := y0
    have y1 : W0.cell? ⟨bi, 1, none⟩ = some (.string l0.2) := y1
    go_region_held (fun X => X.cell? ⟨bi, 0, none⟩ = some (.string l0.1) ∧ X.cell? ⟨bi, 1, none⟩ = some (.string l0.2)) (go_keep) (first | (go_at_call 142; (with_reducible refine (CF.o _ _ (fun hh => absurd hh (by omega)) _ (ldrew u)).mono ?_); rintro e v1 ⟨rfl, g⟩; have g : Below W0.heap.size W0 v1 := lundrew2 g; replace u := u.trans (g.mono u.size); replace n_r := lkeep n_r g; clear g; obtain ⟨q0, q1⟩ := HC.o _ u; have y0 : v1.cell? ⟨bi, 0, none⟩ = some (.string l0.1) := q0; have y1 : v1.cell? ⟨bi, 1, none⟩ = some (.string l0.2) := q1; clear q0 q1; have k0 := lcell n_r 0 (v := .string ⟨#[]⟩) rfl; have f0 := lfree n_r 0; have k1 := lcell n_r 1 (v := .string ⟨#[]⟩) rfl; have f1 := lfree n_r 1))
    have s_r := box2_setx (x := .string pk.1) (y := .string pk.2) n_r
    have z0 := lcell s_r 0 (v := .string pk.1) rfl
    have z1 := lcell s_r 1 (v := .string pk.2) rfl
    go_wp
    exact bodyPost_ret (v := .agg #[.string pk.1, .string pk.2]) (by simp [results, Tryz.results89, go_sem, z0, z1]) rfl ⟨rfl, (u.setCell (Nat.le_refl _) _).setCell (Nat.le_refl _) _⟩
  · obtain ⟨c, rfl⟩ : ∃ c, cap = c + 1 := ⟨cap - 1, by omega⟩
    have hc3 : ¬ (c + 1 + 1 = 1) := (by omega)
    have hc4 : (1 : Int) ≤ ((m + 1 : Nat) : Int) := (by omega)
    go_enter Tryz.func89, Tryz.ntmps89
    go_wp2_with fail
    generalize (w.alloc (.cells #[.string ⟨#[]⟩, .string ⟨#[]⟩] 23)) = W0 at *
    have k0 := lcell n_r 0 (v := .string ⟨#[]⟩) rfl
    have f0 := lfree n_r 0
    have k1 := lcell n_r 1 (v := .string ⟨#[]⟩) rfl
    have f1 := lfree n_r 1
    have y0 : W0.cell? ⟨bi, 0, none⟩ = some (.string l0.1) := y0
    have y1 : W0.cell? ⟨bi, 1, none⟩ = some (.string l0.2) := y1
    go_region_held (fun X => X.cell? ⟨bi, 0, none⟩ = some (.string l0.1) ∧ X.cell? ⟨bi, 1, none⟩ = some (.string l0.2)) (go_keep) (first | (go_at_call 142; (with_reducible refine (CF.o _ _ (fun hh => rfl) _ (ldrew u)).mono ?_); rintro e v1 ⟨rfl, g⟩; have g : Below W0.heap.size W0 v1 := lundrew2 g; replace u := u.trans (g.mono u.size); replace n_r := lkeep n_r g; clear g; obtain ⟨q0, q1⟩ := HC.o _ u; have y0 : v1.cell? ⟨bi, 0, none⟩ = some (.string l0.1) := q0; have y1 : v1.cell? ⟨bi, 1, none⟩ = some (.string l0.2) := q1; clear q0 q1; have k0 := lcell n_r 0 (v := .string ⟨#[]⟩) rfl; have f0 := lfree n_r 0; have k1 := lcell n_r 1 (v := .string ⟨#[]⟩) rfl; have f1 := lfree n_r 1))
    have s_r := box2_setx (x := .string pk.1) (y := .string pk.2) n_r
    have z0 := lcell s_r 0 (v := .string pk.1) rfl
    have z1 := lcell s_r 1 (v := .string pk.2) rfl
    go_wp
    exact bodyPost_ret (v := .agg #[.string pk.1, .string pk.2]) (by simp [results, Tryz.results89, go_sem, z0, z1]) rfl ⟨rfl, (u.setCell (Nat.le_refl _) _).setCell (Nat.le_refl _) _⟩
end En
end Go.Proofs.YtbfonkabmehlmaaGreatDoor
