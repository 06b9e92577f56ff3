/-
  Package enclosure: the closures of Hull and Meet.
-/
import Derived.Test.YtbfonkabmehlmaaGreatDoorEnR
namespace Go.Proofs.YtbfonkabmehlmaaGreatDoor
set_option maxRecDepth 1000000
namespace En
open Go.RowKit Go.Extern.Stop Go.Stop Go.Extern
/-- what stays while the ends are found -/
structure Hu (w W : World) (Bx By : Nat) (X Y : Array Value) : Prop where
  x : W.heap[Bx]? = some (.cells X 25 (0, 0))
  y : W.heap[By]? = some (.cells Y 25 (0, 0))
  r : W.heap[w.heap.size]? = some (.cells #[.string ⟨#[]⟩, .string ⟨#[]⟩, .string ⟨#[]⟩, .string ⟨#[]⟩] 25 (0, 0))
  u : Below w.heap.size w W
theorem Hu.below {w W W' : World} {Bx By : Nat} {X Y : Array Value} (h : Hu w W Bx By X Y) (g : Below W.heap.size W W') : Hu w W' Bx By X Y := ⟨lkeep h.x g, lkeep h.y g, lkeep h.r g, h.u.trans (g.mono h.u.size)⟩
theorem Hu.alloc {w W : World} {Bx By : Nat} {X Y : Array Value} (h : Hu w W Bx By X Y) (o : Obj) : Hu w (W.alloc o) Bx By X Y := h.below ((Below.refl W.heap.size W).alloc (Nat.le_refl _) o)
theorem Hu.draw {w W : World} {Bx By : Nat} {X Y : Array Value} (h : Hu w W Bx By X Y) : Hu w W.drew Bx By X Y := ⟨h.x, h.y, h.r, ldrew h.u⟩
theorem huS {w W : World} {Bx By : Nat} {x0 x1 x2 x3 y0 y1 y2 y3 : ByteArray} (h : Hu w W Bx By #[.string x0, .string x1, .string x2, .string x3] #[.string y0, .string y1, .string y2, .string y3]) : W.cell? ⟨Bx, 0, none⟩ = some (.string x0) ∧ W.cell? ⟨Bx, 1, none⟩ = some (.string x1) ∧ W.cell? ⟨Bx, 2, none⟩ = some (.string x2) ∧ W.cell? ⟨Bx, 3, none⟩ = some (.string x3) ∧ W.cell? ⟨By, 0, none⟩ = some (.string y0) ∧ W.cell? ⟨By, 1, none⟩ = some (.string y1) ∧ W.cell? ⟨By, 2, none⟩ = some (.string y2) ∧ W.cell? ⟨By, 3, none⟩ = some (.string y3) := ⟨lcell h.x 0 rfl, lcell h.x 1 rfl, lcell h.x 2 rfl, lcell h.x 3 rfl, lcell h.y 0 rfl, lcell h.y 1 rfl, lcell h.y 2 rfl, lcell h.y 3 rfl⟩
theorem lset4 {W : World} {b zb : Nat} {o : Obj} (h : W.heap[b]? = some o) (hn : b ≠ zb) (p q r s : Value) : ((((W.setCell ⟨zb, 0, none⟩ p).setCell ⟨zb, 1, none⟩ q).setCell ⟨zb, 2, none⟩ r).setCell ⟨zb, 3, none⟩ s).heap[b]? = some o := (Below.heap_setCell _ _ _ _ hn).trans ((Below.heap_setCell _ _ _ _ hn).trans ((Below.heap_setCell _ _ _ _ hn).trans ((Below.heap_setCell _ _ _ _ hn).trans h)))
theorem Hu.set4 {w W : World} {Bx By : Nat} {X Y : Array Value} (h : Hu w W Bx By X Y) (zb : Nat) (h1 : Bx < zb) (h2 : By < zb) (h3 : w.heap.size < zb) (p q r s : Value) : Hu w ((((W.setCell ⟨zb, 0, none⟩ p).setCell ⟨zb, 1, none⟩ q).setCell ⟨zb, 2, none⟩ r).setCell ⟨zb, 3, none⟩ s) Bx By X Y :=
  have hb : ∀ i, w.heap.size ≤ (⟨zb, i, none⟩ : Addr).block := fun _ => Nat.le_of_lt h3
  ⟨lset4 h.x (Nat.ne_of_lt h1) p q r s, lset4 h.y (Nat.ne_of_lt h2) p q r s, lset4 h.r (Nat.ne_of_lt h3) p q r s, (((h.u.setCell (hb 0) _).setCell (hb 1) _).setCell (hb 2) _).setCell (hb 3) _⟩
theorem new3c (w : World) (a b c : Obj) : (((w.alloc a).alloc b).alloc c).heap[w.heap.size + 1 + 1]? = some c := (new3 w a b c).2.2
theorem ldrow {W : World} {b : Nat} {o : Obj} (h : W.heap[b]? = some o) : W.drew.heap[b]? = some o := h
theorem lold {W : World} {b : Nat} {o o' : Obj} (h : W.heap[b]? = some o) : (W.alloc o').heap[b]? = some o := (Below.heap_alloc W _ _ (Array.getElem?_eq_some_iff.1 h).1).trans h
set_option maxHeartbeats 8000000 in
theorem hull_clo (a : Addr) (Bx By : Nat) (x0 x1 x2 x3 y0 y1 y2 y3 : ByteArray) (lo hi : P2)
    (hA1 : ∀ (b : Nat) (W : World), W.heap[b]? = some (.cells #[.string x0, .string x1, .string y0, .string y1] 23 (0, 0)) → Calls Tryz.prog 90 #[.slice (some ⟨b, 0, none⟩) 2 2] W fun e W' => e = .returned (frc lo.1 lo.2) ∧ Below W.heap.size W W')
    (hA2 : ∀ (b : Nat) (W : World), W.heap[b]? = some (.cells #[.string x2, .string x3, .string y2, .string y3] 23 (0, 0)) → Calls Tryz.prog 89 #[.slice (some ⟨b, 0, none⟩) 2 2] W fun e W' => e = .returned (frc hi.1 hi.2) ∧ Below W.heap.size W W')
    (w : World) (hv : Ref a w) (hx : w.heap[Bx]? = some (.cells #[.string x0, .string x1, .string x2, .string x3] 25 (0, 0))) (hy : w.heap[By]? = some (.cells #[.string y0, .string y1, .string y2, .string y3] 25 (0, 0))) :
    Calls Tryz.prog 91 #[.pointer (some ⟨Bx, 0, none⟩), .pointer (some ⟨By, 0, none⟩)] w fun e w' => e = .returned (ivl lo.1 lo.2 hi.1 hi.2) ∧ Below w.heap.size w w' := by
  have h_W0 : Hu w (w.alloc (.cells #[.string ⟨#[]⟩, .string ⟨#[]⟩, .string ⟨#[]⟩, .string ⟨#[]⟩] 25)) Bx By #[.string x0, .string x1, .string x2, .string x3] #[.string y0, .string y1, .string y2, .string y3] := ⟨lold hx, lold hy, World.alloc_heap_new w _, (Below.refl w.heap.size w).alloc (Nat.le_refl _) _⟩
  have nx := Nat.ne_of_lt (Array.getElem?_eq_some_iff.1 hx).1
  have ny := Nat.ne_of_lt (Array.getElem?_eq_some_iff.1 hy).1
  have nx2 := nx.symm
  have ny2 := ny.symm
  have HV : Shut _ := ⟨hv⟩
  have CA1 : Shut _ := ⟨hA1⟩
  have CA2 : Shut _ := ⟨hA2⟩
  clear hx hy hv hA1 hA2
  unfold ivl frc at *
  go_enter Tryz.func91, Tryz.ntmps91
  go_wp2_with fail
  generalize w.alloc (.cells #[.string ⟨#[]⟩, .string ⟨#[]⟩, .string ⟨#[]⟩, .string ⟨#[]⟩] 25) = W0 at *
  have cx0 : W0.cell? ⟨Bx, 0, none⟩ = some (.string x0) := lcell h_W0.x 0 rfl
  have cx1 : W0.cell? ⟨Bx, 1, none⟩ = some (.string x1) := lcell h_W0.x 1 rfl
  have cx2 : W0.cell? ⟨Bx, 2, none⟩ = some (.string x2) := lcell h_W0.x 2 rfl
  have cx3 : W0.cell? ⟨Bx, 3, none⟩ = some (.string x3) := lcell h_W0.x 3 rfl
  have cy0 : W0.cell? ⟨By, 0, none⟩ = some (.string y0) := lcell h_W0.y 0 rfl
  have cy1 : W0.cell? ⟨By, 1, none⟩ = some (.string y1) := lcell h_W0.y 1 rfl
  have cy2 : W0.cell? ⟨By, 2, none⟩ = some (.string y2) := lcell h_W0.y 2 rfl
  have cy3 : W0.cell? ⟨By, 3, none⟩ = some (.string y3) := lcell h_W0.y 3 rfl
  have k0 := lcell h_W0.r 0 (v := .string ⟨#[]⟩) rfl
  have f0 := lfree h_W0.r 0
  have k1 := lcell h_W0.r 1 (v := .string ⟨#[]⟩) rfl
  have f1 := lfree h_W0.r 1
  have k2 := lcell h_W0.r 2 (v := .string ⟨#[]⟩) rfl
  have f2 := lfree h_W0.r 2
  have k3 := lcell h_W0.r 3 (v := .string ⟨#[]⟩) rfl
  have f3 := lfree h_W0.r 3
  have h_D := h_W0.draw
  go_region_held (fun X => X.cell? ⟨Bx, 0, none⟩ = some (.string x0) ∧ X.cell? ⟨Bx, 1, none⟩ = some (.string x1) ∧ X.cell? ⟨Bx, 2, none⟩ = some (.string x2) ∧ X.cell? ⟨Bx, 3, none⟩ = some (.string x3) ∧ X.cell? ⟨By, 0, none⟩ = some (.string y0) ∧ X.cell? ⟨By, 1, none⟩ = some (.string y1) ∧ X.cell? ⟨By, 2, none⟩ = some (.string y2) ∧ X.cell? ⟨By, 3, none⟩ = some (.string y3)) (go_keep) (first | (go_at_call 90; (with_reducible refine (CA1.o _ _ (by repeat (first | with_reducible refine ldrow ?_ | exact World.alloc_heap_new _ _ | exact res_two _ _ _ | exact (new3 _ _ _ _).2.2 | assumption | with_reducible refine lold ?_ | refine lkeep ?_ g1))).mono ?_); rintro e v1 ⟨rfl, g1⟩; have h_v1 : Hu w v1 Bx By #[.string x0, .string x1, .string x2, .string x3] #[.string y0, .string y1, .string y2, .string y3] := Hu.below (by repeat (first | assumption | refine Hu.draw ?_ | refine Hu.alloc ?_ _)) g1; have cx0 : v1.cell? ⟨Bx, 0, none⟩ = some (.string x0) := lcell h_v1.x 0 rfl; have cx1 : v1.cell? ⟨Bx, 1, none⟩ = some (.string x1) := lcell h_v1.x 1 rfl; have cx2 : v1.cell? ⟨Bx, 2, none⟩ = some (.string x2) := lcell h_v1.x 2 rfl; have cx3 : v1.cell? ⟨Bx, 3, none⟩ = some (.string x3) := lcell h_v1.x 3 rfl; have cy0 : v1.cell? ⟨By, 0, none⟩ = some (.string y0) := lcell h_v1.y 0 rfl; have cy1 : v1.cell? ⟨By, 1, none⟩ = some (.string y1) := lcell h_v1.y 1 rfl; have cy2 : v1.cell? ⟨By, 2, none⟩ = some (.string y2) := lcell h_v1.y 2 rfl; have cy3 : v1.cell? ⟨By, 3, none⟩ = some (.string y3) := lcell h_v1.y 3 rfl; have k0 := lcell h_v1.r 0 (v := .string ⟨#[]⟩) rfl; have f0 := lfree h_v1.r 0; have k1 := lcell h_v1.r 1 (v := .string ⟨#[]⟩) rfl; have f1 := lfree h_v1.r 1; have k2 := lcell h_v1.r 2 (v := .string ⟨#[]⟩) rfl; have f2 := lfree h_v1.r 2; have k3 := lcell h_v1.r 3 (v := .string ⟨#[]⟩) rfl; have f3 := lfree h_v1.r 3; have hq1 := 0) | (go_at_call 89; (with_reducible refine (CA2.o _ _ (by repeat (first | with_reducible refine ldrow ?_ | exact World.alloc_heap_new _ _ | exact res_two _ _ _ | exact (new3 _ _ _ _).2.2 | assumption | with_reducible refine lold ?_ | refine lkeep ?_ g1))).mono ?_); rintro e v2 ⟨rfl, g2⟩; have h_v2 : Hu w v2 Bx By #[.string x0, .string x1, .string x2, .string x3] #[.string y0, .string y1, .string y2, .string y3] := Hu.below (by repeat (first | assumption | refine Hu.draw ?_ | refine Hu.alloc ?_ _)) g2; have cx0 : v2.cell? ⟨Bx, 0, none⟩ = some (.string x0) := lcell h_v2.x 0 rfl; have cx1 : v2.cell? ⟨Bx, 1, none⟩ = some (.string x1) := lcell h_v2.x 1 rfl; have cx2 : v2.cell? ⟨Bx, 2, none⟩ = some (.string x2) := lcell h_v2.x 2 rfl; have cx3 : v2.cell? ⟨Bx, 3, none⟩ = some (.string x3) := lcell h_v2.x 3 rfl; have cy0 : v2.cell? ⟨By, 0, none⟩ = some (.string y0) := lcell h_v2.y 0 rfl; have cy1 : v2.cell? ⟨By, 1, none⟩ = some (.string y1) := lcell h_v2.y 1 rfl; have cy2 : v2.cell? ⟨By, 2, none⟩ = some (.string y2) := lcell h_v2.y 2 rfl; have cy3 : v2.cell? ⟨By, 3, none⟩ = some (.string y3) := lcell h_v2.y 3 rfl; have k0 := lcell h_v2.r 0 (v := .string ⟨#[]⟩) rfl; have f0 := lfree h_v2.r 0; have k1 := lcell h_v2.r 1 (v := .string ⟨#[]⟩) rfl; have f1 := lfree h_v2.r 1; have k2 := lcell h_v2.r 2 (v := .string ⟨#[]⟩) rfl; have f2 := lfree h_v2.r 2; have k3 := lcell h_v2.r 3 (v := .string ⟨#[]⟩) rfl; have f3 := lfree h_v2.r 3; have hq2 := 0))
  all_goals (
    have s_r := box4_set (x := .string lo.1) (y := .string lo.2) (z := .string hi.1) (t := .string hi.2) h_v2.r
    have z0 := lcell s_r 0 (v := .string lo.1) rfl
    have z1 := lcell s_r 1 (v := .string lo.2) rfl
    have z2 := lcell s_r 2 (v := .string hi.1) rfl
    have z3 := lcell s_r 3 (v := .string hi.2) rfl
    have hb : ∀ i, w.heap.size ≤ (⟨w.heap.size, i, none⟩ : Addr).block := fun _ => Nat.le_refl _
    go_wp
    exact bodyPost_ret (v := .agg #[.string lo.1, .string lo.2, .string hi.1, .string hi.2]) (by simp [results, Tryz.results91, go_sem, z0, z1, z2, z3]) rfl ⟨rfl, (((h_v2.u.setCell (hb 0) _).setCell (hb 1) _).setCell (hb 2) _).setCell (hb 3) _⟩)
end En
end Go.Proofs.YtbfonkabmehlmaaGreatDoor
