/-
  Package enclosure: atMost, and what greatest turns round.
-/
import Derived.Test.YtbfonkabmehlmaaGreatDoorEnM
namespace Go.Proofs.YtbfonkabmehlmaaGreatDoor
set_option maxRecDepth 1000000
namespace En
open Go.RowKit Go.Extern.Stop Go.Stop Go.Extern
theorem news2 (w : World) (a b : Obj) : ((w.alloc a).alloc b).heap[w.heap.size]? = some a ∧ ((w.alloc a).alloc b).heap[w.heap.size + 1]? = some b := ⟨(Below.heap_alloc _ _ _ (by simp)).trans (World.alloc_heap_new w a), res_two w a b⟩
theorem below2 (w : World) (a b : Obj) : Below w.heap.size w ((w.alloc a).alloc b) := ((Below.refl w.heap.size w).alloc (Nat.le_refl _) a).alloc (by simp) b
theorem atMost_same (x0 x1 : ByteArray) : Ret 68 #[frc x0 x1, frc x0 x1] (.bool true) := by
  intro w
  unfold frc
  obtain ⟨n_x, n_y⟩ := news2 w (.cells #[.string x0, .string x1] 23) (.cells #[.string x0, .string x1] 23)
  have u := below2 w (.cells #[.string x0, .string x1] 23) (.cells #[.string x0, .string x1] 23)
  go_enter Tryz.func68, Tryz.ntmps68
  have y0 := lcell n_x 0 (v := .string x0) rfl
  have y1 := lcell n_x 1 (v := .string x1) rfl
  have y2 := lcell n_y 0 (v := .string x0) rfl
  have y3 := lcell n_y 1 (v := .string x1) rfl
  have e0 : (x0.toList == x0.toList) = true := beq_self_eq_true _
  have e1 : (x1.toList == x1.toList) = true := beq_self_eq_true _
  go_wp2_with fail
  go_ret
  exact ⟨rfl, u⟩
theorem atMost_other (x0 x1 x2 x3 : ByteArray) (k : Int) (hC : Ret 32 #[frc x0 x1, frc x2 x3] (.int .i64 k))
    (hne : (x0.toList == x2.toList) = false ∨ ((x0.toList == x2.toList) = true ∧ (x1.toList == x3.toList) = false)) : Ret 68 #[frc x0 x1, frc x2 x3] (.bool (decide (k < 0))) := by
  intro w
  unfold frc at *
  obtain ⟨n_x, n_y⟩ := news2 w (.cells #[.string x0, .string x1] 23) (.cells #[.string x2, .string x3] 23)
  have u := below2 w (.cells #[.string x0, .string x1] 23) (.cells #[.string x2, .string x3] 23)
  have CC : Shut _ := ⟨hC⟩
  clear hC
  go_enter Tryz.func68, Tryz.ntmps68
  have y0 := lcell n_x 0 (v := .string x0) rfl
  have y1 := lcell n_x 1 (v := .string x1) rfl
  have y2 := lcell n_y 0 (v := .string x2) rfl
  have y3 := lcell n_y 1 (v := .string x3) rfl
  rcases hne with e0 | ⟨e0, e1⟩
  · go_wp2_with fail
    refine (CC.o _).mono ?_
    rintro e v1 ⟨rfl, g⟩
    replace u := u.trans (g.mono u.size)
    clear g y0 y1 y2 y3 e0 n_x n_y
    go_wp2_with fail
    go_ret
    exact ⟨rfl, u⟩
  · go_wp2_with fail
    refine (CC.o _).mono ?_
    rintro e v1 ⟨rfl, g⟩
    replace u := u.trans (g.mono u.size)
    clear g y0 y1 y2 y3 e0 e1 n_x n_y
    go_wp2_with fail
    go_ret
    exact ⟨rfl, u⟩
theorem turned_any (x0 x1 x2 x3 : ByteArray) (b : Bool) (hA : Ret 68 #[frc x2 x3, frc x0 x1] (.bool b)) : Ret 143 #[frc x0 x1, frc x2 x3] (.bool b) := by
  intro w
  unfold frc at *
  obtain ⟨n_x, n_y⟩ := news2 w (.cells #[.string x0, .string x1] 23) (.cells #[.string x2, .string x3] 23)
  have u := below2 w (.cells #[.string x0, .string x1] 23) (.cells #[.string x2, .string x3] 23)
  have CC : Shut _ := ⟨hA⟩
  clear hA
  go_enter Tryz.func143, Tryz.ntmps143
  have y0 := lcell n_x 0 (v := .string x0) rfl
  have y1 := lcell n_x 1 (v := .string x1) rfl
  have y2 := lcell n_y 0 (v := .string x2) rfl
  have y3 := lcell n_y 1 (v := .string x3) rfl
  go_wp2_with fail
  refine (CC.o _).mono ?_
  rintro e v1 ⟨rfl, g⟩
  replace u := u.trans (g.mono u.size)
  clear g y0 y1 y2 y3 n_x n_y
  go_wp2_with fail
  go_ret
  exact ⟨rfl, u⟩
end En
end Go.Proofs.YtbfonkabmehlmaaGreatDoor
