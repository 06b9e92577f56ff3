/-
  Package enclosure: Valid.
-/
import Derived.Test.YtbfonkabmehlmaaGreatDoorEnJ
namespace Go.Proofs.YtbfonkabmehlmaaGreatDoor
set_option maxRecDepth 1000000
namespace En
open Go.RowKit Go.Extern.Stop Go.Stop Go.Extern
theorem Valid_same (x0 x1 : ByteArray) (v : Bool) (hV : ∀ W : World, Calls Tryz.prog 66 #[.agg #[.string x0, .string x1]] W fun e W' => e = .returned (.bool v) ∧ Below W.heap.size W W') (w : World) :
    Calls Tryz.prog 20 #[.agg #[.string x0, .string x1, .string x0, .string x1]] w fun e w' => e = .returned (.bool v) ∧ Below w.heap.size w w' := by
  have n_x : (w.alloc (.cells #[.string x0, .string x1, .string x0, .string x1] 25)).heap[w.heap.size]? = _ := World.alloc_heap_new w _
  have u := (Below.refl w.heap.size w).alloc (Nat.le_refl _) (.cells #[.string x0, .string x1, .string x0, .string x1] 25)
  have CV : Shut _ := ⟨hV⟩
  clear hV
  go_enter Tryz.func20, Tryz.ntmps20
  have y0 := lcell n_x 0 (v := .string x0) rfl
  have y1 := lcell n_x 1 (v := .string x1) rfl
  have y2 := lcell n_x 2 (v := .string x0) rfl
  have y3 := lcell n_x 3 (v := .string x1) rfl
  have e0 : (x0.toList == x0.toList) = true := beq_self_eq_true _
  have e1 : (x1.toList == x1.toList) = true := beq_self_eq_true _
  go_wp2_with fail
  refine (CV.o _).mono ?_
  rintro e v1 ⟨rfl, g⟩
  replace u := u.trans (g.mono (by simp))
  clear g y0 y1 y2 y3 e0 e1 n_x
  go_wp2_with fail
  go_ret
  exact ⟨rfl, u⟩
theorem Valid_other (x0 x1 x2 x3 : ByteArray) (k : Int) (hC : ∀ W : World, Calls Tryz.prog 32 #[.agg #[.string x0, .string x1], .agg #[.string x2, .string x3]] W fun e W' => e = .returned (.int .i64 k) ∧ Below W.heap.size W W')
    (hne : (x0.toList == x2.toList) = false ∨ ((x0.toList == x2.toList) = true ∧ (x1.toList == x3.toList) = false)) (w : World) :
    Calls Tryz.prog 20 #[.agg #[.string x0, .string x1, .string x2, .string x3]] w fun e w' => e = .returned (.bool (decide (k < 0))) ∧ Below w.heap.size w w' := by
  have n_x : (w.alloc (.cells #[.string x0, .string x1, .string x2, .string x3] 25)).heap[w.heap.size]? = _ := World.alloc_heap_new w _
  have u := (Below.refl w.heap.size w).alloc (Nat.le_refl _) (.cells #[.string x0, .string x1, .string x2, .string x3] 25)
  have CC : Shut _ := ⟨hC⟩
  clear hC
  go_enter Tryz.func20, Tryz.ntmps20
  have y0 := lcell n_x 0 (v := .string x0) rfl
  have y1 := lcell n_x 1 (v := .string x1) rfl
  have y2 := lcell n_x 2 (v := .string x2) rfl
  have y3 := lcell n_x 3 (v := .string x3) rfl
  rcases hne with e0 | ⟨e0, e1⟩
  · go_wp2_with fail
    refine (CC.o _).mono ?_
    rintro e v1 ⟨rfl, g⟩
    replace u := u.trans (g.mono (by simp))
    clear g y0 y1 y2 y3 e0 n_x
    go_wp2_with fail
    go_ret
    exact ⟨rfl, u⟩
  · go_wp2_with fail
    refine (CC.o _).mono ?_
    rintro e v1 ⟨rfl, g⟩
    replace u := u.trans (g.mono (by simp))
    clear g y0 y1 y2 y3 e0 e1 n_x
    go_wp2_with fail
    go_ret
    exact ⟨rfl, u⟩
end En
end Go.Proofs.YtbfonkabmehlmaaGreatDoor
