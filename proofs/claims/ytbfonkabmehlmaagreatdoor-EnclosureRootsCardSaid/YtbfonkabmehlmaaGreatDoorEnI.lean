/-
  Package enclosure: the closure of Width.
-/
import Derived.Test.YtbfonkabmehlmaaGreatDoorEnH
namespace Go.Proofs.YtbfonkabmehlmaaGreatDoor
set_option maxRecDepth 1000000
namespace En
open Go.RowKit Go.Extern.Stop Go.Stop Go.Extern
set_option maxHeartbeats 1000000 in
theorem width_clo (a : Addr) (B : Nat) (x0 x1 x2 x3 n d : ByteArray) (c : Int) (hS : ∀ W : World, Calls Tryz.prog 29 #[.agg #[.string x2, .string x3], .agg #[.string x0, .string x1]] W fun e W' => e = .returned (.tuple #[.agg #[.string n, .string d], .int .i64 c]) ∧ Below W.heap.size W W') (w : World) (hv : Ref a w)
    (hx : w.heap[B]? = some (.cells #[.string x0, .string x1, .string x2, .string x3] 25 (0, 0))) :
    Calls Tryz.prog 64 #[.pointer (some ⟨B, 0, none⟩)] w fun e w' => e = (if c = 0 then .returned (.agg #[.string n, .string d]) else .panicked (refP a)) ∧ Below w.heap.size w w' := by
  have n_x : (w.alloc (.cells #[.string ⟨#[]⟩, .string ⟨#[]⟩] 23)).heap[B]? = _ := (Below.heap_alloc w _ _ (Array.getElem?_eq_some_iff.1 hx).1).trans hx
  have n_r : (w.alloc (.cells #[.string ⟨#[]⟩, .string ⟨#[]⟩] 23)).heap[w.heap.size]? = _ := World.alloc_heap_new w _
  have u := (Below.refl w.heap.size w).alloc (Nat.le_refl _) (.cells #[.string ⟨#[]⟩, .string ⟨#[]⟩] 23)
  have HV : Shut _ := ⟨hv⟩
  clear hx hv
  go_enter Tryz.func64, Tryz.ntmps64
  have y0 := lcell n_x 0 (v := .string x0) rfl
  have y1 := lcell n_x 1 (v := .string x1) rfl
  have y2 := lcell n_x 2 (v := .string x2) rfl
  have y3 := lcell n_x 3 (v := .string x3) rfl
  go_wp2_with fail
  refine (hS _).mono ?_
  rintro e v1 ⟨rfl, g⟩
  replace u := u.trans (g.mono (by simp))
  replace n_r := lkeep n_r g
  clear g y0 y1 y2 y3 n_x hS
  have cM := must_att a n d c v1 (HV.o.keep u)
  go_wp2_with fail
  refine cM.mono ?_
  rintro e v2 ⟨rfl, g⟩
  replace u := u.trans (g.mono u.size)
  replace n_r := lkeep n_r g
  clear g cM
  by_cases hc : c = 0
  · rw [if_pos hc]
    have d0 := lcell n_r 0 (v := .string ⟨#[]⟩) rfl
    have d1 := lcell n_r 1 (v := .string ⟨#[]⟩) rfl
    have h0 := lfree n_r 0
    have h1 := lfree n_r 1
    have s_r := box2_set (x := .string n) (y := .string d) n_r
    have z0 := lcell s_r 0 (v := .string n) rfl
    have z1 := lcell s_r 1 (v := .string d) rfl
    dsimp only
    go_wp
    exact bodyPost_ret (v := .agg #[.string n, .string d]) (by simp [results, Tryz.results64, go_sem, z0, z1]) rfl ⟨(if_pos hc).symm, (u.setCell (Nat.le_refl _) _).setCell (Nat.le_refl _) _⟩
  · rw [if_neg hc]
    dsimp +zetaDelta only [Exit.then, Exit.inBlock]
    exact ⟨rfl, (if_neg hc).symm, u⟩
end En
end Go.Proofs.YtbfonkabmehlmaaGreatDoor
