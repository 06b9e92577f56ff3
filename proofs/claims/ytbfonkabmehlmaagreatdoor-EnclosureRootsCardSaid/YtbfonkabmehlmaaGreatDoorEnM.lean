/-
  Package enclosure: the functions over their closures.
-/
import Derived.Test.YtbfonkabmehlmaaGreatDoorEnK
namespace Go.Proofs.YtbfonkabmehlmaaGreatDoor
set_option maxRecDepth 1000000
namespace En
open Go.RowKit Go.Extern.Stop Go.Stop Go.Extern
/-- the call answers v, whatever the world -/
def Ret (f : Nat) (args : Array Value) (v : Value) : Prop := ∀ W : World, Calls Tryz.prog f args W fun e W' => e = .returned v ∧ Below W.heap.size W W'
def g8 (a b c d x y z t : ByteArray) : Nat → ByteArray
  | 0 => a | 1 => b | 2 => c | 3 => d | 4 => x | 5 => y | 6 => z | _ => t
theorem news4 (w : World) (a b c d : Obj) : ((((w.alloc a).alloc b).alloc c).alloc d).heap[w.heap.size]? = some a ∧ ((((w.alloc a).alloc b).alloc c).alloc d).heap[w.heap.size + 1]? = some b ∧ ((((w.alloc a).alloc b).alloc c).alloc d).heap[w.heap.size + 1 + 1]? = some c ∧ ((((w.alloc a).alloc b).alloc c).alloc d).heap[w.heap.size + 1 + 1 + 1]? = some d := by
  obtain ⟨h1, h2, h3⟩ := new3 w a b c
  refine ⟨(Below.heap_alloc _ _ _ (by simp only [World.size_alloc]; omega)).trans h1, (Below.heap_alloc _ _ _ (by simp only [World.size_alloc]; omega)).trans h2, (Below.heap_alloc _ _ _ (by simp only [World.size_alloc]; omega)).trans h3, ?_⟩
  have := World.alloc_heap_new (((w.alloc a).alloc b).alloc c) d
  rwa [World.size_alloc, World.size_alloc, World.size_alloc] at this
theorem below4 (w : World) (a b c d : Obj) : Below w.heap.size w ((((w.alloc a).alloc b).alloc c).alloc d) := ((((Below.refl w.heap.size w).alloc (Nat.le_refl _) a).alloc (by simp) b).alloc (by simp; omega) c).alloc (by simp; omega) d
set_option maxHeartbeats 1000000 in
theorem liftAdd (a : Addr) (x0 x1 x2 x3 y0 y1 y2 y3 r0 r1 r2 r3 : ByteArray) (okx oky bad : Bool)
    (hC : okx = true → oky = true → ∀ (Bx By : Nat) (W : World), Ref a W → W.heap[Bx]? = some (.cells #[.string x0, .string x1, .string x2, .string x3] 25 (0, 0)) → W.heap[By]? = some (.cells #[.string y0, .string y1, .string y2, .string y3] 25 (0, 0)) → Calls Tryz.prog 106 #[.pointer (some ⟨Bx, 0, none⟩), .pointer (some ⟨By, 0, none⟩)] W fun e W' => e = (if bad then .panicked (refP a) else .returned (ivl r0 r1 r2 r3)) ∧ Below W.heap.size W W')
    (hX : Ret 20 #[ivl x0 x1 x2 x3] (.bool okx)) (hY : Ret 20 #[ivl y0 y1 y2 y3] (.bool oky)) (w : World) (hv : Ref a w) :
    Calls Tryz.prog 53 #[.agg #[.string x0, .string x1, .string x2, .string x3], .agg #[.string y0, .string y1, .string y2, .string y3]] w fun e w' => e = .returned (if okx = true ∧ oky = true ∧ bad = false then .tuple #[ivl r0 r1 r2 r3, .int .i64 0] else .tuple #[ivl0, .int .i64 50]) ∧ Below w.heap.size w w' := by
  have hmf : ∀ (fn : Fn) (first cap : Array Value) (w : World), (Instr.makeFunc fn first cap).run Tryz.prog w = .ok (.func fn first cap) w := fun _ _ _ _ => rfl
  have CC : Shut _ := ⟨hC⟩
  have CX : Shut _ := ⟨hX⟩
  have CY : Shut _ := ⟨hY⟩
  have HV : Shut _ := ⟨hv⟩
  clear hC hX hY hv
  unfold ivl0 ivl at *
  go_enter Tryz.func53, Tryz.ntmps53
  go_wp2_with fail
  obtain ⟨n_x, n_y, n_r, n_s⟩ := news4 w (.cells #[.string x0, .string x1, .string x2, .string x3] 25) (.cells #[.string y0, .string y1, .string y2, .string y3] 25) (.cells #[.string ⟨#[]⟩, .string ⟨#[]⟩, .string ⟨#[]⟩, .string ⟨#[]⟩] 25) (.cells #[.string x0, .string x1, .string x2, .string x3, .string y0, .string y1, .string y2, .string y3] 25)
  have u := below4 w (.cells #[.string x0, .string x1, .string x2, .string x3] 25) (.cells #[.string y0, .string y1, .string y2, .string y3] 25) (.cells #[.string ⟨#[]⟩, .string ⟨#[]⟩, .string ⟨#[]⟩, .string ⟨#[]⟩] 25) (.cells #[.string x0, .string x1, .string x2, .string x3, .string y0, .string y1, .string y2, .string y3] 25)
  generalize ((((w.alloc (.cells #[.string x0, .string x1, .string x2, .string x3] 25)).alloc (.cells #[.string y0, .string y1, .string y2, .string y3] 25)).alloc (.cells #[.string ⟨#[]⟩, .string ⟨#[]⟩, .string ⟨#[]⟩, .string ⟨#[]⟩] 25)).alloc (.cells #[.string x0, .string x1, .string x2, .string x3, .string y0, .string y1, .string y2, .string y3] 25)) = W4 at *
  have cA := attemptI 106 #[.pointer (some ⟨w.heap.size, 0, none⟩), .pointer (some ⟨w.heap.size + 1, 0, none⟩)] (enters_of Tryz.func106 (by kernel_rfl) rfl) a (fun W => W.heap[w.heap.size]? = some (.cells #[.string x0, .string x1, .string x2, .string x3] 25 (0, 0)) ∧ W.heap[w.heap.size + 1]? = some (.cells #[.string y0, .string y1, .string y2, .string y3] 25 (0, 0))) (fun W W' h hB => ⟨lkeep h.1 hB, lkeep h.2 hB⟩) r0 r1 r2 r3 bad
    2 (w.heap.size + 1 + 1 + 1) 2 (g8 x0 x1 x2 x3 y0 y1 y2 y3) (fun j => if j = 0 then okx else oky) (by omega)
    (fun ho W hr hi => CC.o (ho 0 (by omega)) (ho 1 (by omega)) _ _ W hr hi.1 hi.2)
    (fun j hj W => by
      rcases (show j = 0 ∨ j = 1 by omega) with rfl | rfl
      · exact CX.o W
      · exact CY.o W) W4 (HV.o.keep u) ⟨n_x, n_y⟩
    (fun W hB j hj => by
      have q := lkeep n_s hB
      rcases (show j = 0 ∨ j = 1 ∨ j = 2 ∨ j = 3 ∨ j = 4 ∨ j = 5 ∨ j = 6 ∨ j = 7 by omega) with rfl | rfl | rfl | rfl | rfl | rfl | rfl | rfl
      · exact lcell q 0 rfl
      · exact lcell q 1 rfl
      · exact lcell q 2 rfl
      · exact lcell q 3 rfl
      · exact lcell q 4 rfl
      · exact lcell q 5 rfl
      · exact lcell q 6 rfl
      · exact lcell q 7 rfl)
  unfold ivl0 ivl at *
  refine cA.mono ?_
  rintro e v1 ⟨rfl, g⟩
  replace u := u.trans (g.mono u.size)
  replace n_r := lkeep n_r g
  clear g cA n_x n_y n_s hmf
  have d0 := lcell n_r 0 (v := .string ⟨#[]⟩) rfl
  have d1 := lcell n_r 1 (v := .string ⟨#[]⟩) rfl
  have d2 := lcell n_r 2 (v := .string ⟨#[]⟩) rfl
  have d3 := lcell n_r 3 (v := .string ⟨#[]⟩) rfl
  have h0 := lfree n_r 0
  have h1 := lfree n_r 1
  have h2 := lfree n_r 2
  have h3 := lfree n_r 3
  have hb : ∀ i, w.heap.size ≤ (⟨w.heap.size + 1 + 1, i, none⟩ : Addr).block := fun _ => Nat.le_trans (Nat.le_succ _) (Nat.le_succ _)
  by_cases hP : okx = true ∧ oky = true ∧ bad = false
  · have hQ : (∀ j : Nat, j < 2 → (fun j : Nat => if j = 0 then okx else oky) j = true) ∧ bad = false := ⟨fun j hj => (show j = 0 ∨ j = 1 by omega).elim (fun h => by subst h; exact hP.1) (fun h => by subst h; exact hP.2.1), hP.2.2⟩
    rw [if_pos hQ]
    have s_r := box4_set (x := .string r0) (y := .string r1) (z := .string r2) (t := .string r3) n_r
    have z0 := lcell s_r 0 (v := .string r0) rfl
    have z1 := lcell s_r 1 (v := .string r1) rfl
    have z2 := lcell s_r 2 (v := .string r2) rfl
    have z3 := lcell s_r 3 (v := .string r3) rfl
    dsimp only
    go_wp
    exact bodyPost_ret (v := .tuple #[.agg #[.string r0, .string r1, .string r2, .string r3], .int .i64 0]) (by simp [results, Tryz.results53, go_sem, z0, z1, z2, z3]) rfl ⟨by rw [if_pos hP], (((u.setCell (hb 0) _).setCell (hb 1) _).setCell (hb 2) _).setCell (hb 3) _⟩
  · have hQ : ¬ ((∀ j : Nat, j < 2 → (fun j : Nat => if j = 0 then okx else oky) j = true) ∧ bad = false) := fun h => hP ⟨h.1 0 (by omega), h.1 1 (by omega), h.2⟩
    rw [if_neg hQ]
    have s_r := box4_set (x := .string ⟨#[]⟩) (y := .string ⟨#[]⟩) (z := .string ⟨#[]⟩) (t := .string ⟨#[]⟩) n_r
    have z0 := lcell s_r 0 (v := .string ⟨#[]⟩) rfl
    have z1 := lcell s_r 1 (v := .string ⟨#[]⟩) rfl
    have z2 := lcell s_r 2 (v := .string ⟨#[]⟩) rfl
    have z3 := lcell s_r 3 (v := .string ⟨#[]⟩) rfl
    dsimp only
    go_wp
    exact bodyPost_ret (v := .tuple #[.agg #[.string ⟨#[]⟩, .string ⟨#[]⟩, .string ⟨#[]⟩, .string ⟨#[]⟩], .int .i64 50]) (by simp [results, Tryz.results53, go_sem, z0, z1, z2, z3]) rfl ⟨by rw [if_neg hP], (((u.setCell (hb 0) _).setCell (hb 1) _).setCell (hb 2) _).setCell (hb 3) _⟩
set_option maxHeartbeats 1000000 in
theorem liftSub (a : Addr) (x0 x1 x2 x3 y0 y1 y2 y3 r0 r1 r2 r3 : ByteArray) (okx oky bad : Bool)
    (hC : okx = true → oky = true → ∀ (Bx By : Nat) (W : World), Ref a W → W.heap[Bx]? = some (.cells #[.string x0, .string x1, .string x2, .string x3] 25 (0, 0)) → W.heap[By]? = some (.cells #[.string y0, .string y1, .string y2, .string y3] 25 (0, 0)) → Calls Tryz.prog 107 #[.pointer (some ⟨Bx, 0, none⟩), .pointer (some ⟨By, 0, none⟩)] W fun e W' => e = (if bad then .panicked (refP a) else .returned (ivl r0 r1 r2 r3)) ∧ Below W.heap.size W W')
    (hX : Ret 20 #[ivl x0 x1 x2 x3] (.bool okx)) (hY : Ret 20 #[ivl y0 y1 y2 y3] (.bool oky)) (w : World) (hv : Ref a w) :
    Calls Tryz.prog 54 #[.agg #[.string x0, .string x1, .string x2, .string x3], .agg #[.string y0, .string y1, .string y2, .string y3]] w fun e w' => e = .returned (if okx = true ∧ oky = true ∧ bad = false then .tuple #[ivl r0 r1 r2 r3, .int .i64 0] else .tuple #[ivl0, .int .i64 50]) ∧ Below w.heap.size w w' := by
  have hmf : ∀ (fn : Fn) (first cap : Array Value) (w : World), (Instr.makeFunc fn first cap).run Tryz.prog w = .ok (.func fn first cap) w := fun _ _ _ _ => rfl
  have CC : Shut _ := ⟨hC⟩
  have CX : Shut _ := ⟨hX⟩
  have CY : Shut _ := ⟨hY⟩
  have HV : Shut _ := ⟨hv⟩
  clear hC hX hY hv
  unfold ivl0 ivl at *
  go_enter Tryz.func54, Tryz.ntmps54
  go_wp2_with fail
  obtain ⟨n_x, n_y, n_r, n_s⟩ := news4 w (.cells #[.string x0, .string x1, .string x2, .string x3] 25) (.cells #[.string y0, .string y1, .string y2, .string y3] 25) (.cells #[.string ⟨#[]⟩, .string ⟨#[]⟩, .string ⟨#[]⟩, .string ⟨#[]⟩] 25) (.cells #[.string x0, .string x1, .string x2, .string x3, .string y0, .string y1, .string y2, .string y3] 25)
  have u := below4 w (.cells #[.string x0, .string x1, .string x2, .string x3] 25) (.cells #[.string y0, .string y1, .string y2, .string y3] 25) (.cells #[.string ⟨#[]⟩, .string ⟨#[]⟩, .string ⟨#[]⟩, .string ⟨#[]⟩] 25) (.cells #[.string x0, .string x1, .string x2, .string x3, .string y0, .string y1, .string y2, .string y3] 25)
  generalize ((((w.alloc (.cells #[.string x0, .string x1, .string x2, .string x3] 25)).alloc (.cells #[.string y0, .string y1, .string y2, .string y3] 25)).alloc (.cells #[.string ⟨#[]⟩, .string ⟨#[]⟩, .string ⟨#[]⟩, .string ⟨#[]⟩] 25)).alloc (.cells #[.string x0, .string x1, .string x2, .string x3, .string y0, .string y1, .string y2, .string y3] 25)) = W4 at *
  have cA := attemptI 107 #[.pointer (some ⟨w.heap.size, 0, none⟩), .pointer (some ⟨w.heap.size + 1, 0, none⟩)] (enters_of Tryz.func107 (by kernel_rfl) rfl) a (fun W => W.heap[w.heap.size]? = some (.cells #[.string x0, .string x1, .string x2, .string x3] 25 (0, 0)) ∧ W.heap[w.heap.size + 1]? = some (.cells #[.string y0, .string y1, .string y2, .string y3] 25 (0, 0))) (fun W W' h hB => ⟨lkeep h.1 hB, lkeep h.2 hB⟩) r0 r1 r2 r3 bad
    2 (w.heap.size + 1 + 1 + 1) 2 (g8 x0 x1 x2 x3 y0 y1 y2 y3) (fun j => if j = 0 then okx else oky) (by omega)
    (fun ho W hr hi => CC.o (ho 0 (by omega)) (ho 1 (by omega)) _ _ W hr hi.1 hi.2)
    (fun j hj W => by
      rcases (show j = 0 ∨ j = 1 by omega) with rfl | rfl
      · exact CX.o W
      · exact CY.o W) W4 (HV.o.keep u) ⟨n_x, n_y⟩
    (fun W hB j hj => by
      have q := lkeep n_s hB
      rcases (show j = 0 ∨ j = 1 ∨ j = 2 ∨ j = 3 ∨ j = 4 ∨ j = 5 ∨ j = 6 ∨ j = 7 by omega) with rfl | rfl | rfl | rfl | rfl | rfl | rfl | rfl
      · exact lcell q 0 rfl
      · exact lcell q 1 rfl
      · exact lcell q 2 rfl
      · exact lcell q 3 rfl
      · exact lcell q 4 rfl
      · exact lcell q 5 rfl
      · exact lcell q 6 rfl
      · exact lcell q 7 rfl)
  unfold ivl0 ivl at *
  refine cA.mono ?_
  rintro e v1 ⟨rfl, g⟩
  replace u := u.trans (g.mono u.size)
  replace n_r := lkeep n_r g
  clear g cA n_x n_y n_s hmf
  have d0 := lcell n_r 0 (v := .string ⟨#[]⟩) rfl
  have d1 := lcell n_r 1 (v := .string ⟨#[]⟩) rfl
  have d2 := lcell n_r 2 (v := .string ⟨#[]⟩) rfl
  have d3 := lcell n_r 3 (v := .string ⟨#[]⟩) rfl
  have h0 := lfree n_r 0
  have h1 := lfree n_r 1
  have h2 := lfree n_r 2
  have h3 := lfree n_r 3
  have hb : ∀ i, w.heap.size ≤ (⟨w.heap.size + 1 + 1, i, none⟩ : Addr).block := fun _ => Nat.le_trans (Nat.le_succ _) (Nat.le_succ _)
  by_cases hP : okx = true ∧ oky = true ∧ bad = false
  · have hQ : (∀ j : Nat, j < 2 → (fun j : Nat => if j = 0 then okx else oky) j = true) ∧ bad = false := ⟨fun j hj => (show j = 0 ∨ j = 1 by omega).elim (fun h => by subst h; exact hP.1) (fun h => by subst h; exact hP.2.1), hP.2.2⟩
    rw [if_pos hQ]
    have s_r := box4_set (x := .string r0) (y := .string r1) (z := .string r2) (t := .string r3) n_r
    have z0 := lcell s_r 0 (v := .string r0) rfl
    have z1 := lcell s_r 1 (v := .string r1) rfl
    have z2 := lcell s_r 2 (v := .string r2) rfl
    have z3 := lcell s_r 3 (v := .string r3) rfl
    dsimp only
    go_wp
    exact bodyPost_ret (v := .tuple #[.agg #[.string r0, .string r1, .string r2, .string r3], .int .i64 0]) (by simp [results, Tryz.results54, go_sem, z0, z1, z2, z3]) rfl ⟨by rw [if_pos hP], (((u.setCell (hb 0) _).setCell (hb 1) _).setCell (hb 2) _).setCell (hb 3) _⟩
  · have hQ : ¬ ((∀ j : Nat, j < 2 → (fun j : Nat => if j = 0 then okx else oky) j = true) ∧ bad = false) := fun h => hP ⟨h.1 0 (by omega), h.1 1 (by omega), h.2⟩
    rw [if_neg hQ]
    have s_r := box4_set (x := .string ⟨#[]⟩) (y := .string ⟨#[]⟩) (z := .string ⟨#[]⟩) (t := .string ⟨#[]⟩) n_r
    have z0 := lcell s_r 0 (v := .string ⟨#[]⟩) rfl
    have z1 := lcell s_r 1 (v := .string ⟨#[]⟩) rfl
    have z2 := lcell s_r 2 (v := .string ⟨#[]⟩) rfl
    have z3 := lcell s_r 3 (v := .string ⟨#[]⟩) rfl
    dsimp only
    go_wp
    exact bodyPost_ret (v := .tuple #[.agg #[.string ⟨#[]⟩, .string ⟨#[]⟩, .string ⟨#[]⟩, .string ⟨#[]⟩], .int .i64 50]) (by simp [results, Tryz.results54, go_sem, z0, z1, z2, z3]) rfl ⟨by rw [if_neg hP], (((u.setCell (hb 0) _).setCell (hb 1) _).setCell (hb 2) _).setCell (hb 3) _⟩
set_option maxHeartbeats 1000000 in
theorem liftMul (a : Addr) (x0 x1 x2 x3 y0 y1 y2 y3 r0 r1 r2 r3 : ByteArray) (okx oky bad : Bool)
    (hC : okx = true → oky = true → ∀ (Bx By : Nat) (W : World), Ref a W → W.heap[Bx]? = some (.cells #[.string x0, .string x1, .string x2, .string x3] 25 (0, 0)) → W.heap[By]? = some (.cells #[.string y0, .string y1, .string y2, .string y3] 25 (0, 0)) → Calls Tryz.prog 92 #[.pointer (some ⟨Bx, 0, none⟩), .pointer (some ⟨By, 0, none⟩)] W fun e W' => e = (if bad then .panicked (refP a) else .returned (ivl r0 r1 r2 r3)) ∧ Below W.heap.size W W')
    (hX : Ret 20 #[ivl x0 x1 x2 x3] (.bool okx)) (hY : Ret 20 #[ivl y0 y1 y2 y3] (.bool oky)) (w : World) (hv : Ref a w) :
    Calls Tryz.prog 38 #[.agg #[.string x0, .string x1, .string x2, .string x3], .agg #[.string y0, .string y1, .string y2, .string y3]] w fun e w' => e = .returned (if okx = true ∧ oky = true ∧ bad = false then .tuple #[ivl r0 r1 r2 r3, .int .i64 0] else .tuple #[ivl0, .int .i64 50]) ∧ Below w.heap.size w w' := by
  have hmf : ∀ (fn : Fn) (first cap : Array Value) (w : World), (Instr.makeFunc fn first cap).run Tryz.prog w = .ok (.func fn first cap) w := fun _ _ _ _ => rfl
  have CC : Shut _ := ⟨hC⟩
  have CX : Shut _ := ⟨hX⟩
  have CY : Shut _ := ⟨hY⟩
  have HV : Shut _ := ⟨hv⟩
  clear hC hX hY hv
  unfold ivl0 ivl at *
  go_enter Tryz.func38, Tryz.ntmps38
  go_wp2_with fail
  obtain ⟨n_x, n_y, n_r, n_s⟩ := news4 w (.cells #[.string x0, .string x1, .string x2, .string x3] 25) (.cells #[.string y0, .string y1, .string y2, .string y3] 25) (.cells #[.string ⟨#[]⟩, .string ⟨#[]⟩, .string ⟨#[]⟩, .string ⟨#[]⟩] 25) (.cells #[.string x0, .string x1, .string x2, .string x3, .string y0, .string y1, .string y2, .string y3] 25)
  have u := below4 w (.cells #[.string x0, .string x1, .string x2, .string x3] 25) (.cells #[.string y0, .string y1, .string y2, .string y3] 25) (.cells #[.string ⟨#[]⟩, .string ⟨#[]⟩, .string ⟨#[]⟩, .string ⟨#[]⟩] 25) (.cells #[.string x0, .string x1, .string x2, .string x3, .string y0, .string y1, .string y2, .string y3] 25)
  generalize ((((w.alloc (.cells #[.string x0, .string x1, .string x2, .string x3] 25)).alloc (.cells #[.string y0, .string y1, .string y2, .string y3] 25)).alloc (.cells #[.string ⟨#[]⟩, .string ⟨#[]⟩, .string ⟨#[]⟩, .string ⟨#[]⟩] 25)).alloc (.cells #[.string x0, .string x1, .string x2, .string x3, .string y0, .string y1, .string y2, .string y3] 25)) = W4 at *
  have cA := attemptI 92 #[.pointer (some ⟨w.heap.size, 0, none⟩), .pointer (some ⟨w.heap.size + 1, 0, none⟩)] (enters_of Tryz.func92 (by kernel_rfl) rfl) a (fun W => W.heap[w.heap.size]? = some (.cells #[.string x0, .string x1, .string x2, .string x3] 25 (0, 0)) ∧ W.heap[w.heap.size + 1]? = some (.cells #[.string y0, .string y1, .string y2, .string y3] 25 (0, 0))) (fun W W' h hB => ⟨lkeep h.1 hB, lkeep h.2 hB⟩) r0 r1 r2 r3 bad
    2 (w.heap.size + 1 + 1 + 1) 2 (g8 x0 x1 x2 x3 y0 y1 y2 y3) (fun j => if j = 0 then okx else oky) (by omega)
    (fun ho W hr hi => CC.o (ho 0 (by omega)) (ho 1 (by omega)) _ _ W hr hi.1 hi.2)
    (fun j hj W => by
      rcases (show j = 0 ∨ j = 1 by omega) with rfl | rfl
      · exact CX.o W
      · exact CY.o W) W4 (HV.o.keep u) ⟨n_x, n_y⟩
    (fun W hB j hj => by
      have q := lkeep n_s hB
      rcases (show j = 0 ∨ j = 1 ∨ j = 2 ∨ j = 3 ∨ j = 4 ∨ j = 5 ∨ j = 6 ∨ j = 7 by omega) with rfl | rfl | rfl | rfl | rfl | rfl | rfl | rfl
      · exact lcell q 0 rfl
      · exact lcell q 1 rfl
      · exact lcell q 2 rfl
      · exact lcell q 3 rfl
      · exact lcell q 4 rfl
      · exact lcell q 5 rfl
      · exact lcell q 6 rfl
      · exact lcell q 7 rfl)
  unfold ivl0 ivl at *
  refine cA.mono ?_
  rintro e v1 ⟨rfl, g⟩
  replace u := u.trans (g.mono u.size)
  replace n_r := lkeep n_r g
  clear g cA n_x n_y n_s hmf
  have d0 := lcell n_r 0 (v := .string ⟨#[]⟩) rfl
  have d1 := lcell n_r 1 (v := .string ⟨#[]⟩) rfl
  have d2 := lcell n_r 2 (v := .string ⟨#[]⟩) rfl
  have d3 := lcell n_r 3 (v := .string ⟨#[]⟩) rfl
  have h0 := lfree n_r 0
  have h1 := lfree n_r 1
  have h2 := lfree n_r 2
  have h3 := lfree n_r 3
  have hb : ∀ i, w.heap.size ≤ (⟨w.heap.size + 1 + 1, i, none⟩ : Addr).block := fun _ => Nat.le_trans (Nat.le_succ _) (Nat.le_succ _)
  by_cases hP : okx = true ∧ oky = true ∧ bad = false
  · have hQ : (∀ j : Nat, j < 2 → (fun j : Nat => if j = 0 then okx else oky) j = true) ∧ bad = false := ⟨fun j hj => (show j = 0 ∨ j = 1 by omega).elim (fun h => by subst h; exact hP.1) (fun h => by subst h; exact hP.2.1), hP.2.2⟩
    rw [if_pos hQ]
    have s_r := box4_set (x := .string r0) (y := .string r1) (z := .string r2) (t := .string r3) n_r
    have z0 := lcell s_r 0 (v := .string r0) rfl
    have z1 := lcell s_r 1 (v := .string r1) rfl
    have z2 := lcell s_r 2 (v := .string r2) rfl
    have z3 := lcell s_r 3 (v := .string r3) rfl
    dsimp only
    go_wp
    exact bodyPost_ret (v := .tuple #[.agg #[.string r0, .string r1, .string r2, .string r3], .int .i64 0]) (by simp [results, Tryz.results38, go_sem, z0, z1, z2, z3]) rfl ⟨by rw [if_pos hP], (((u.setCell (hb 0) _).setCell (hb 1) _).setCell (hb 2) _).setCell (hb 3) _⟩
  · have hQ : ¬ ((∀ j : Nat, j < 2 → (fun j : Nat => if j = 0 then okx else oky) j = true) ∧ bad = false) := fun h => hP ⟨h.1 0 (by omega), h.1 1 (by omega), h.2⟩
    rw [if_neg hQ]
    have s_r := box4_set (x := .string ⟨#[]⟩) (y := .string ⟨#[]⟩) (z := .string ⟨#[]⟩) (t := .string ⟨#[]⟩) n_r
    have z0 := lcell s_r 0 (v := .string ⟨#[]⟩) rfl
    have z1 := lcell s_r 1 (v := .string ⟨#[]⟩) rfl
    have z2 := lcell s_r 2 (v := .string ⟨#[]⟩) rfl
    have z3 := lcell s_r 3 (v := .string ⟨#[]⟩) rfl
    dsimp only
    go_wp
    exact bodyPost_ret (v := .tuple #[.agg #[.string ⟨#[]⟩, .string ⟨#[]⟩, .string ⟨#[]⟩, .string ⟨#[]⟩], .int .i64 50]) (by simp [results, Tryz.results38, go_sem, z0, z1, z2, z3]) rfl ⟨by rw [if_neg hP], (((u.setCell (hb 0) _).setCell (hb 1) _).setCell (hb 2) _).setCell (hb 3) _⟩
set_option maxHeartbeats 1000000 in
theorem liftDiv (a : Addr) (x0 x1 x2 x3 y0 y1 y2 y3 r0 r1 r2 r3 : ByteArray) (okx oky bad : Bool)
    (hC : okx = true → oky = true → ∀ (Bx By : Nat) (W : World), Ref a W → W.heap[Bx]? = some (.cells #[.string x0, .string x1, .string x2, .string x3] 25 (0, 0)) → W.heap[By]? = some (.cells #[.string y0, .string y1, .string y2, .string y3] 25 (0, 0)) → Calls Tryz.prog 94 #[.pointer (some ⟨By, 0, none⟩), .pointer (some ⟨Bx, 0, none⟩)] W fun e W' => e = (if bad then .panicked (refP a) else .returned (ivl r0 r1 r2 r3)) ∧ Below W.heap.size W W')
    (hX : Ret 20 #[ivl x0 x1 x2 x3] (.bool okx)) (hY : Ret 20 #[ivl y0 y1 y2 y3] (.bool oky)) (w : World) (hv : Ref a w) :
    Calls Tryz.prog 40 #[.agg #[.string x0, .string x1, .string x2, .string x3], .agg #[.string y0, .string y1, .string y2, .string y3]] w fun e w' => e = .returned (if okx = true ∧ oky = true ∧ bad = false then .tuple #[ivl r0 r1 r2 r3, .int .i64 0] else .tuple #[ivl0, .int .i64 50]) ∧ Below w.heap.size w w' := by
  have hmf : ∀ (fn : Fn) (first cap : Array Value) (w : World), (Instr.makeFunc fn first cap).run Tryz.prog w = .ok (.func fn first cap) w := fun _ _ _ _ => rfl
  have CC : Shut _ := ⟨hC⟩
  have CX : Shut _ := ⟨hX⟩
  have CY : Shut _ := ⟨hY⟩
  have HV : Shut _ := ⟨hv⟩
  clear hC hX hY hv
  unfold ivl0 ivl at *
  go_enter Tryz.func40, Tryz.ntmps40
  go_wp2_with fail
  obtain ⟨n_x, n_y, n_r, n_s⟩ := news4 w (.cells #[.string x0, .string x1, .string x2, .string x3] 25) (.cells #[.string y0, .string y1, .string y2, .string y3] 25) (.cells #[.string ⟨#[]⟩, .string ⟨#[]⟩, .string ⟨#[]⟩, .string ⟨#[]⟩] 25) (.cells #[.string x0, .string x1, .string x2, .string x3, .string y0, .string y1, .string y2, .string y3] 25)
  have u := below4 w (.cells #[.string x0, .string x1, .string x2, .string x3] 25) (.cells #[.string y0, .string y1, .string y2, .string y3] 25) (.cells #[.string ⟨#[]⟩, .string ⟨#[]⟩, .string ⟨#[]⟩, .string ⟨#[]⟩] 25) (.cells #[.string x0, .string x1, .string x2, .string x3, .string y0, .string y1, .string y2, .string y3] 25)
  generalize ((((w.alloc (.cells #[.string x0, .string x1, .string x2, .string x3] 25)).alloc (.cells #[.string y0, .string y1, .string y2, .string y3] 25)).alloc (.cells #[.string ⟨#[]⟩, .string ⟨#[]⟩, .string ⟨#[]⟩, .string ⟨#[]⟩] 25)).alloc (.cells #[.string x0, .string x1, .string x2, .string x3, .string y0, .string y1, .string y2, .string y3] 25)) = W4 at *
  have cA := attemptI 94 #[.pointer (some ⟨w.heap.size + 1, 0, none⟩), .pointer (some ⟨w.heap.size, 0, none⟩)] (enters_of Tryz.func94 (by kernel_rfl) rfl) a (fun W => W.heap[w.heap.size]? = some (.cells #[.string x0, .string x1, .string x2, .string x3] 25 (0, 0)) ∧ W.heap[w.heap.size + 1]? = some (.cells #[.string y0, .string y1, .string y2, .string y3] 25 (0, 0))) (fun W W' h hB => ⟨lkeep h.1 hB, lkeep h.2 hB⟩) r0 r1 r2 r3 bad
    2 (w.heap.size + 1 + 1 + 1) 2 (g8 x0 x1 x2 x3 y0 y1 y2 y3) (fun j => if j = 0 then okx else oky) (by omega)
    (fun ho W hr hi => CC.o (ho 0 (by omega)) (ho 1 (by omega)) _ _ W hr hi.1 hi.2)
    (fun j hj W => by
      rcases (show j = 0 ∨ j = 1 by omega) with rfl | rfl
      · exact CX.o W
      · exact CY.o W) W4 (HV.o.keep u) ⟨n_x, n_y⟩
    (fun W hB j hj => by
      have q := lkeep n_s hB
      rcases (show j = 0 ∨ j = 1 ∨ j = 2 ∨ j = 3 ∨ j = 4 ∨ j = 5 ∨ j = 6 ∨ j = 7 by omega) with rfl | rfl | rfl | rfl | rfl | rfl | rfl | rfl
      · exact lcell q 0 rfl
      · exact lcell q 1 rfl
      · exact lcell q 2 rfl
      · exact lcell q 3 rfl
      · exact lcell q 4 rfl
      · exact lcell q 5 rfl
      · exact lcell q 6 rfl
      · exact lcell q 7 rfl)
  unfold ivl0 ivl at *
  refine cA.mono ?_
  rintro e v1 ⟨rfl, g⟩
  replace u := u.trans (g.mono u.size)
  replace n_r := lkeep n_r g
  clear g cA n_x n_y n_s hmf
  have d0 := lcell n_r 0 (v := .string ⟨#[]⟩) rfl
  have d1 := lcell n_r 1 (v := .string ⟨#[]⟩) rfl
  have d2 := lcell n_r 2 (v := .string ⟨#[]⟩) rfl
  have d3 := lcell n_r 3 (v := .string ⟨#[]⟩) rfl
  have h0 := lfree n_r 0
  have h1 := lfree n_r 1
  have h2 := lfree n_r 2
  have h3 := lfree n_r 3
  have hb : ∀ i, w.heap.size ≤ (⟨w.heap.size + 1 + 1, i, none⟩ : Addr).block := fun _ => Nat.le_trans (Nat.le_succ _) (Nat.le_succ _)
  by_cases hP : okx = true ∧ oky = true ∧ bad = false
  · have hQ : (∀ j : Nat, j < 2 → (fun j : Nat => if j = 0 then okx else oky) j = true) ∧ bad = false := ⟨fun j hj => (show j = 0 ∨ j = 1 by omega).elim (fun h => by subst h; exact hP.1) (fun h => by subst h; exact hP.2.1), hP.2.2⟩
    rw [if_pos hQ]
    have s_r := box4_set (x := .string r0) (y := .string r1) (z := .string r2) (t := .string r3) n_r
    have z0 := lcell s_r 0 (v := .string r0) rfl
    have z1 := lcell s_r 1 (v := .string r1) rfl
    have z2 := lcell s_r 2 (v := .string r2) rfl
    have z3 := lcell s_r 3 (v := .string r3) rfl
    dsimp only
    go_wp
    exact bodyPost_ret (v := .tuple #[.agg #[.string r0, .string r1, .string r2, .string r3], .int .i64 0]) (by simp [results, Tryz.results40, go_sem, z0, z1, z2, z3]) rfl ⟨by rw [if_pos hP], (((u.setCell (hb 0) _).setCell (hb 1) _).setCell (hb 2) _).setCell (hb 3) _⟩
  · have hQ : ¬ ((∀ j : Nat, j < 2 → (fun j : Nat => if j = 0 then okx else oky) j = true) ∧ bad = false) := fun h => hP ⟨h.1 0 (by omega), h.1 1 (by omega), h.2⟩
    rw [if_neg hQ]
    have s_r := box4_set (x := .string ⟨#[]⟩) (y := .string ⟨#[]⟩) (z := .string ⟨#[]⟩) (t := .string ⟨#[]⟩) n_r
    have z0 := lcell s_r 0 (v := .string ⟨#[]⟩) rfl
    have z1 := lcell s_r 1 (v := .string ⟨#[]⟩) rfl
    have z2 := lcell s_r 2 (v := .string ⟨#[]⟩) rfl
    have z3 := lcell s_r 3 (v := .string ⟨#[]⟩) rfl
    dsimp only
    go_wp
    exact bodyPost_ret (v := .tuple #[.agg #[.string ⟨#[]⟩, .string ⟨#[]⟩, .string ⟨#[]⟩, .string ⟨#[]⟩], .int .i64 50]) (by simp [results, Tryz.results40, go_sem, z0, z1, z2, z3]) rfl ⟨by rw [if_neg hP], (((u.setCell (hb 0) _).setCell (hb 1) _).setCell (hb 2) _).setCell (hb 3) _⟩
set_option maxHeartbeats 1000000 in
theorem liftHull (a : Addr) (x0 x1 x2 x3 y0 y1 y2 y3 r0 r1 r2 r3 : ByteArray) (okx oky bad : Bool)
    (hC : okx = true → oky = true → ∀ (Bx By : Nat) (W : World), Ref a W → W.heap[Bx]? = some (.cells #[.string x0, .string x1, .string x2, .string x3] 25 (0, 0)) → W.heap[By]? = some (.cells #[.string y0, .string y1, .string y2, .string y3] 25 (0, 0)) → Calls Tryz.prog 91 #[.pointer (some ⟨Bx, 0, none⟩), .pointer (some ⟨By, 0, none⟩)] W fun e W' => e = (if bad then .panicked (refP a) else .returned (ivl r0 r1 r2 r3)) ∧ Below W.heap.size W W')
    (hX : Ret 20 #[ivl x0 x1 x2 x3] (.bool okx)) (hY : Ret 20 #[ivl y0 y1 y2 y3] (.bool oky)) (w : World) (hv : Ref a w) :
    Calls Tryz.prog 37 #[.agg #[.string x0, .string x1, .string x2, .string x3], .agg #[.string y0, .string y1, .string y2, .string y3]] w fun e w' => e = .returned (if okx = true ∧ oky = true ∧ bad = false then .tuple #[ivl r0 r1 r2 r3, .int .i64 0] else .tuple #[ivl0, .int .i64 50]) ∧ Below w.heap.size w w' := by
  have hmf : ∀ (fn : Fn) (first cap : Array Value) (w : World), (Instr.makeFunc fn first cap).run Tryz.prog w = .ok (.func fn first cap) w := fun _ _ _ _ => rfl
  have CC : Shut _ := ⟨hC⟩
  have CX : Shut _ := ⟨hX⟩
  have CY : Shut _ := ⟨hY⟩
  have HV : Shut _ := ⟨hv⟩
  clear hC hX hY hv
  unfold ivl0 ivl at *
  go_enter Tryz.func37, Tryz.ntmps37
  go_wp2_with fail
  obtain ⟨n_x, n_y, n_r, n_s⟩ := news4 w (.cells #[.string x0, .string x1, .string x2, .string x3] 25) (.cells #[.string y0, .string y1, .string y2, .string y3] 25) (.cells #[.string ⟨#[]⟩, .string ⟨#[]⟩, .string ⟨#[]⟩, .string ⟨#[]⟩] 25) (.cells #[.string x0, .string x1, .string x2, .string x3, .string y0, .string y1, .string y2, .string y3] 25)
  have u := below4 w (.cells #[.string x0, .string x1, .string x2, .string x3] 25) (.cells #[.string y0, .string y1, .string y2, .string y3] 25) (.cells #[.string ⟨#[]⟩, .string ⟨#[]⟩, .string ⟨#[]⟩, .string ⟨#[]⟩] 25) (.cells #[.string x0, .string x1, .string x2, .string x3, .string y0, .string y1, .string y2, .string y3] 25)
  generalize ((((w.alloc (.cells #[.string x0, .string x1, .string x2, .string x3] 25)).alloc (.cells #[.string y0, .string y1, .string y2, .string y3] 25)).alloc (.cells #[.string ⟨#[]⟩, .string ⟨#[]⟩, .string ⟨#[]⟩, .string ⟨#[]⟩] 25)).alloc (.cells #[.string x0, .string x1, .string x2, .string x3, .string y0, .string y1, .string y2, .string y3] 25)) = W4 at *
  have cA := attemptI 91 #[.pointer (some ⟨w.heap.size, 0, none⟩), .pointer (some ⟨w.heap.size + 1, 0, none⟩)] (enters_of Tryz.func91 (by kernel_rfl) rfl) a (fun W => W.heap[w.heap.size]? = some (.cells #[.string x0, .string x1, .string x2, .string x3] 25 (0, 0)) ∧ W.heap[w.heap.size + 1]? = some (.cells #[.string y0, .string y1, .string y2, .string y3] 25 (0, 0))) (fun W W' h hB => ⟨lkeep h.1 hB, lkeep h.2 hB⟩) r0 r1 r2 r3 bad
    2 (w.heap.size + 1 + 1 + 1) 2 (g8 x0 x1 x2 x3 y0 y1 y2 y3) (fun j => if j = 0 then okx else oky) (by omega)
    (fun ho W hr hi => CC.o (ho 0 (by omega)) (ho 1 (by omega)) _ _ W hr hi.1 hi.2)
    (fun j hj W => by
      rcases (show j = 0 ∨ j = 1 by omega) with rfl | rfl
      · exact CX.o W
      · exact CY.o W) W4 (HV.o.keep u) ⟨n_x, n_y⟩
    (fun W hB j hj => by
      have q := lkeep n_s hB
      rcases (show j = 0 ∨ j = 1 ∨ j = 2 ∨ j = 3 ∨ j = 4 ∨ j = 5 ∨ j = 6 ∨ j = 7 by omega) with rfl | rfl | rfl | rfl | rfl | rfl | rfl | rfl
      · exact lcell q 0 rfl
      · exact lcell q 1 rfl
      · exact lcell q 2 rfl
      · exact lcell q 3 rfl
      · exact lcell q 4 rfl
      · exact lcell q 5 rfl
      · exact lcell q 6 rfl
      · exact lcell q 7 rfl)
  unfold ivl0 ivl at *
  refine cA.mono ?_
  rintro e v1 ⟨rfl, g⟩
  replace u := u.trans (g.mono u.size)
  replace n_r := lkeep n_r g
  clear g cA n_x n_y n_s hmf
  have d0 := lcell n_r 0 (v := .string ⟨#[]⟩) rfl
  have d1 := lcell n_r 1 (v := .string ⟨#[]⟩) rfl
  have d2 := lcell n_r 2 (v := .string ⟨#[]⟩) rfl
  have d3 := lcell n_r 3 (v := .string ⟨#[]⟩) rfl
  have h0 := lfree n_r 0
  have h1 := lfree n_r 1
  have h2 := lfree n_r 2
  have h3 := lfree n_r 3
  have hb : ∀ i, w.heap.size ≤ (⟨w.heap.size + 1 + 1, i, none⟩ : Addr).block := fun _ => Nat.le_trans (Nat.le_succ _) (Nat.le_succ _)
  by_cases hP : okx = true ∧ oky = true ∧ bad = false
  · have hQ : (∀ j : Nat, j < 2 → (fun j : Nat => if j = 0 then okx else oky) j = true) ∧ bad = false := ⟨fun j hj => (show j = 0 ∨ j = 1 by omega).elim (fun h => by subst h; exact hP.1) (fun h => by subst h; exact hP.2.1), hP.2.2⟩
    rw [if_pos hQ]
    have s_r := box4_set (x := .string r0) (y := .string r1) (z := .string r2) (t := .string r3) n_r
    have z0 := lcell s_r 0 (v := .string r0) rfl
    have z1 := lcell s_r 1 (v := .string r1) rfl
    have z2 := lcell s_r 2 (v := .string r2) rfl
    have z3 := lcell s_r 3 (v := .string r3) rfl
    dsimp only
    go_wp
    exact bodyPost_ret (v := .tuple #[.agg #[.string r0, .string r1, .string r2, .string r3], .int .i64 0]) (by simp [results, Tryz.results37, go_sem, z0, z1, z2, z3]) rfl ⟨by rw [if_pos hP], (((u.setCell (hb 0) _).setCell (hb 1) _).setCell (hb 2) _).setCell (hb 3) _⟩
  · have hQ : ¬ ((∀ j : Nat, j < 2 → (fun j : Nat => if j = 0 then okx else oky) j = true) ∧ bad = false) := fun h => hP ⟨h.1 0 (by omega), h.1 1 (by omega), h.2⟩
    rw [if_neg hQ]
    have s_r := box4_set (x := .string ⟨#[]⟩) (y := .string ⟨#[]⟩) (z := .string ⟨#[]⟩) (t := .string ⟨#[]⟩) n_r
    have z0 := lcell s_r 0 (v := .string ⟨#[]⟩) rfl
    have z1 := lcell s_r 1 (v := .string ⟨#[]⟩) rfl
    have z2 := lcell s_r 2 (v := .string ⟨#[]⟩) rfl
    have z3 := lcell s_r 3 (v := .string ⟨#[]⟩) rfl
    dsimp only
    go_wp
    exact bodyPost_ret (v := .tuple #[.agg #[.string ⟨#[]⟩, .string ⟨#[]⟩, .string ⟨#[]⟩, .string ⟨#[]⟩], .int .i64 50]) (by simp [results, Tryz.results37, go_sem, z0, z1, z2, z3]) rfl ⟨by rw [if_neg hP], (((u.setCell (hb 0) _).setCell (hb 1) _).setCell (hb 2) _).setCell (hb 3) _⟩
set_option maxHeartbeats 1000000 in
theorem liftMeet (a : Addr) (x0 x1 x2 x3 y0 y1 y2 y3 r0 r1 r2 r3 : ByteArray) (okx oky bad : Bool)
    (hC : okx = true → oky = true → ∀ (Bx By : Nat) (W : World), Ref a W → W.heap[Bx]? = some (.cells #[.string x0, .string x1, .string x2, .string x3] 25 (0, 0)) → W.heap[By]? = some (.cells #[.string y0, .string y1, .string y2, .string y3] 25 (0, 0)) → Calls Tryz.prog 88 #[.pointer (some ⟨Bx, 0, none⟩), .pointer (some ⟨By, 0, none⟩)] W fun e W' => e = (if bad then .panicked (refP a) else .returned (ivl r0 r1 r2 r3)) ∧ Below W.heap.size W W')
    (hX : Ret 20 #[ivl x0 x1 x2 x3] (.bool okx)) (hY : Ret 20 #[ivl y0 y1 y2 y3] (.bool oky)) (w : World) (hv : Ref a w) :
    Calls Tryz.prog 36 #[.agg #[.string x0, .string x1, .string x2, .string x3], .agg #[.string y0, .string y1, .string y2, .string y3]] w fun e w' => e = .returned (if okx = true ∧ oky = true ∧ bad = false then .tuple #[ivl r0 r1 r2 r3, .int .i64 0] else .tuple #[ivl0, .int .i64 50]) ∧ Below w.heap.size w w' := by
  have hmf : ∀ (fn : Fn) (first cap : Array Value) (w : World), (Instr.makeFunc fn first cap).run Tryz.prog w = .ok (.func fn first cap) w := fun _ _ _ _ => rfl
  have CC : Shut _ := ⟨hC⟩
  have CX : Shut _ := ⟨hX⟩
  have CY : Shut _ := ⟨hY⟩
  have HV : Shut _ := ⟨hv⟩
  clear hC hX hY hv
  unfold ivl0 ivl at *
  go_enter Tryz.func36, Tryz.ntmps36
  go_wp2_with fail
  obtain ⟨n_x, n_y, n_r, n_s⟩ := news4 w (.cells #[.string x0, .string x1, .string x2, .string x3] 25) (.cells #[.string y0, .string y1, .string y2, .string y3] 25) (.cells #[.string ⟨#[]⟩, .string ⟨#[]⟩, .string ⟨#[]⟩, .string ⟨#[]⟩] 25) (.cells #[.string x0, .string x1, .string x2, .string x3, .string y0, .string y1, .string y2, .string y3] 25)
  have u := below4 w (.cells #[.string x0, .string x1, .string x2, .string x3] 25) (.cells #[.string y0, .string y1, .string y2, .string y3] 25) (.cells #[.string ⟨#[]⟩, .string ⟨#[]⟩, .string ⟨#[]⟩, .string ⟨#[]⟩] 25) (.cells #[.string x0, .string x1, .string x2, .string x3, .string y0, .string y1, .string y2, .string y3] 25)
  generalize ((((w.alloc (.cells #[.string x0, .string x1, .string x2, .string x3] 25)).alloc (.cells #[.string y0, .string y1, .string y2, .string y3] 25)).alloc (.cells #[.string ⟨#[]⟩, .string ⟨#[]⟩, .string ⟨#[]⟩, .string ⟨#[]⟩] 25)).alloc (.cells #[.string x0, .string x1, .string x2, .string x3, .string y0, .string y1, .string y2, .string y3] 25)) = W4 at *
  have cA := attemptI 88 #[.pointer (some ⟨w.heap.size, 0, none⟩), .pointer (some ⟨w.heap.size + 1, 0, none⟩)] (enters_of Tryz.func88 (by kernel_rfl) rfl) a (fun W => W.heap[w.heap.size]? = some (.cells #[.string x0, .string x1, .string x2, .string x3] 25 (0, 0)) ∧ W.heap[w.heap.size + 1]? = some (.cells #[.string y0, .string y1, .string y2, .string y3] 25 (0, 0))) (fun W W' h hB => ⟨lkeep h.1 hB, lkeep h.2 hB⟩) r0 r1 r2 r3 bad
    2 (w.heap.size + 1 + 1 + 1) 2 (g8 x0 x1 x2 x3 y0 y1 y2 y3) (fun j => if j = 0 then okx else oky) (by omega)
    (fun ho W hr hi => CC.o (ho 0 (by omega)) (ho 1 (by omega)) _ _ W hr hi.1 hi.2)
    (fun j hj W => by
      rcases (show j = 0 ∨ j = 1 by omega) with rfl | rfl
      · exact CX.o W
      · exact CY.o W) W4 (HV.o.keep u) ⟨n_x, n_y⟩
    (fun W hB j hj => by
      have q := lkeep n_s hB
      rcases (show j = 0 ∨ j = 1 ∨ j = 2 ∨ j = 3 ∨ j = 4 ∨ j = 5 ∨ j = 6 ∨ j = 7 by omega) with rfl | rfl | rfl | rfl | rfl | rfl | rfl | rfl
      · exact lcell q 0 rfl
      · exact lcell q 1 rfl
      · exact lcell q 2 rfl
      · exact lcell q 3 rfl
      · exact lcell q 4 rfl
      · exact lcell q 5 rfl
      · exact lcell q 6 rfl
      · exact lcell q 7 rfl)
  unfold ivl0 ivl at *
  refine cA.mono ?_
  rintro e v1 ⟨rfl, g⟩
  replace u := u.trans (g.mono u.size)
  replace n_r := lkeep n_r g
  clear g cA n_x n_y n_s hmf
  have d0 := lcell n_r 0 (v := .string ⟨#[]⟩) rfl
  have d1 := lcell n_r 1 (v := .string ⟨#[]⟩) rfl
  have d2 := lcell n_r 2 (v := .string ⟨#[]⟩) rfl
  have d3 := lcell n_r 3 (v := .string ⟨#[]⟩) rfl
  have h0 := lfree n_r 0
  have h1 := lfree n_r 1
  have h2 := lfree n_r 2
  have h3 := lfree n_r 3
  have hb : ∀ i, w.heap.size ≤ (⟨w.heap.size + 1 + 1, i, none⟩ : Addr).block := fun _ => Nat.le_trans (Nat.le_succ _) (Nat.le_succ _)
  by_cases hP : okx = true ∧ oky = true ∧ bad = false
  · have hQ : (∀ j : Nat, j < 2 → (fun j : Nat => if j = 0 then okx else oky) j = true) ∧ bad = false := ⟨fun j hj => (show j = 0 ∨ j = 1 by omega).elim (fun h => by subst h; exact hP.1) (fun h => by subst h; exact hP.2.1), hP.2.2⟩
    rw [if_pos hQ]
    have s_r := box4_set (x := .string r0) (y := .string r1) (z := .string r2) (t := .string r3) n_r
    have z0 := lcell s_r 0 (v := .string r0) rfl
    have z1 := lcell s_r 1 (v := .string r1) rfl
    have z2 := lcell s_r 2 (v := .string r2) rfl
    have z3 := lcell s_r 3 (v := .string r3) rfl
    dsimp only
    go_wp
    exact bodyPost_ret (v := .tuple #[.agg #[.string r0, .string r1, .string r2, .string r3], .int .i64 0]) (by simp [results, Tryz.results36, go_sem, z0, z1, z2, z3]) rfl ⟨by rw [if_pos hP], (((u.setCell (hb 0) _).setCell (hb 1) _).setCell (hb 2) _).setCell (hb 3) _⟩
  · have hQ : ¬ ((∀ j : Nat, j < 2 → (fun j : Nat => if j = 0 then okx else oky) j = true) ∧ bad = false) := fun h => hP ⟨h.1 0 (by omega), h.1 1 (by omega), h.2⟩
    rw [if_neg hQ]
    have s_r := box4_set (x := .string ⟨#[]⟩) (y := .string ⟨#[]⟩) (z := .string ⟨#[]⟩) (t := .string ⟨#[]⟩) n_r
    have z0 := lcell s_r 0 (v := .string ⟨#[]⟩) rfl
    have z1 := lcell s_r 1 (v := .string ⟨#[]⟩) rfl
    have z2 := lcell s_r 2 (v := .string ⟨#[]⟩) rfl
    have z3 := lcell s_r 3 (v := .string ⟨#[]⟩) rfl
    dsimp only
    go_wp
    exact bodyPost_ret (v := .tuple #[.agg #[.string ⟨#[]⟩, .string ⟨#[]⟩, .string ⟨#[]⟩, .string ⟨#[]⟩], .int .i64 50]) (by simp [results, Tryz.results36, go_sem, z0, z1, z2, z3]) rfl ⟨by rw [if_neg hP], (((u.setCell (hb 0) _).setCell (hb 1) _).setCell (hb 2) _).setCell (hb 3) _⟩
set_option maxHeartbeats 1000000 in
theorem liftSqrt (a : Addr) (x0 x1 x2 x3 r0 r1 r2 r3 : ByteArray) (p : Int) (okx bad : Bool)
    (hC : okx = true → ∀ (Bx Bp : Nat) (W : World), Ref a W → W.heap[Bx]? = some (.cells #[.string x0, .string x1, .string x2, .string x3] 25 (0, 0)) → W.heap[Bp]? = some (.cells #[.int .i64 p] 3 (0, 0)) → Calls Tryz.prog 82 #[.pointer (some ⟨Bp, 0, none⟩), .pointer (some ⟨Bx, 0, none⟩)] W fun e W' => e = (if bad then .panicked (refP a) else .returned (ivl r0 r1 r2 r3)) ∧ Below W.heap.size W W')
    (hX : Ret 20 #[ivl x0 x1 x2 x3] (.bool okx)) (w : World) (hv : Ref a w) :
    Calls Tryz.prog 34 #[.agg #[.string x0, .string x1, .string x2, .string x3], .int .i64 p] w fun e w' => e = .returned (if okx = true ∧ bad = false then .tuple #[ivl r0 r1 r2 r3, .int .i64 0] else .tuple #[ivl0, .int .i64 50]) ∧ Below w.heap.size w w' := by
  have hmf : ∀ (fn : Fn) (first cap : Array Value) (w : World), (Instr.makeFunc fn first cap).run Tryz.prog w = .ok (.func fn first cap) w := fun _ _ _ _ => rfl
  have CC : Shut _ := ⟨hC⟩
  have CX : Shut _ := ⟨hX⟩
  have HV : Shut _ := ⟨hv⟩
  clear hC hX hv
  unfold ivl0 ivl at *
  go_enter Tryz.func34, Tryz.ntmps34
  go_wp2_with fail
  obtain ⟨n_x, n_p, n_r, n_s⟩ := news4 w (.cells #[.string x0, .string x1, .string x2, .string x3] 25) (.cells #[.int .i64 p] 3) (.cells #[.string ⟨#[]⟩, .string ⟨#[]⟩, .string ⟨#[]⟩, .string ⟨#[]⟩] 25) (.cells #[.string x0, .string x1, .string x2, .string x3] 25)
  have u := below4 w (.cells #[.string x0, .string x1, .string x2, .string x3] 25) (.cells #[.int .i64 p] 3) (.cells #[.string ⟨#[]⟩, .string ⟨#[]⟩, .string ⟨#[]⟩, .string ⟨#[]⟩] 25) (.cells #[.string x0, .string x1, .string x2, .string x3] 25)
  generalize ((((w.alloc (.cells #[.string x0, .string x1, .string x2, .string x3] 25)).alloc (.cells #[.int .i64 p] 3)).alloc (.cells #[.string ⟨#[]⟩, .string ⟨#[]⟩, .string ⟨#[]⟩, .string ⟨#[]⟩] 25)).alloc (.cells #[.string x0, .string x1, .string x2, .string x3] 25)) = W4 at *
  have cA := attemptI 82 #[.pointer (some ⟨w.heap.size + 1, 0, none⟩), .pointer (some ⟨w.heap.size, 0, none⟩)] (enters_of Tryz.func82 (by kernel_rfl) rfl) a (fun W => W.heap[w.heap.size]? = some (.cells #[.string x0, .string x1, .string x2, .string x3] 25 (0, 0)) ∧ W.heap[w.heap.size + 1]? = some (.cells #[.int .i64 p] 3 (0, 0))) (fun W W' h hB => ⟨lkeep h.1 hB, lkeep h.2 hB⟩) r0 r1 r2 r3 bad
    1 (w.heap.size + 1 + 1 + 1) 1 (g4 x0 x1 x2 x3) (fun _ => okx) (by omega)
    (fun ho W hr hi => CC.o (ho 0 (by omega)) _ _ W hr hi.1 hi.2)
    (fun j hj W => by obtain rfl : j = 0 := (by omega); exact CX.o W) W4 (HV.o.keep u) ⟨n_x, n_p⟩
    (fun W hB j hj => by
      have q := lkeep n_s hB
      rcases (show j = 0 ∨ j = 1 ∨ j = 2 ∨ j = 3 by omega) with rfl | rfl | rfl | rfl
      · exact lcell q 0 rfl
      · exact lcell q 1 rfl
      · exact lcell q 2 rfl
      · exact lcell q 3 rfl)
  unfold ivl0 ivl at *
  refine cA.mono ?_
  rintro e v1 ⟨rfl, g⟩
  replace u := u.trans (g.mono u.size)
  replace n_r := lkeep n_r g
  clear g cA n_x n_p n_s hmf
  have d0 := lcell n_r 0 (v := .string ⟨#[]⟩) rfl
  have d1 := lcell n_r 1 (v := .string ⟨#[]⟩) rfl
  have d2 := lcell n_r 2 (v := .string ⟨#[]⟩) rfl
  have d3 := lcell n_r 3 (v := .string ⟨#[]⟩) rfl
  have h0 := lfree n_r 0
  have h1 := lfree n_r 1
  have h2 := lfree n_r 2
  have h3 := lfree n_r 3
  have hb : ∀ i, w.heap.size ≤ (⟨w.heap.size + 1 + 1, i, none⟩ : Addr).block := fun _ => Nat.le_trans (Nat.le_succ _) (Nat.le_succ _)
  by_cases hP : okx = true ∧ bad = false
  · have hQ : (∀ j : Nat, j < 1 → (fun _ : Nat => okx) j = true) ∧ bad = false := ⟨fun _ _ => hP.1, hP.2⟩
    rw [if_pos hQ]
    have s_r := box4_set (x := .string r0) (y := .string r1) (z := .string r2) (t := .string r3) n_r
    have z0 := lcell s_r 0 (v := .string r0) rfl
    have z1 := lcell s_r 1 (v := .string r1) rfl
    have z2 := lcell s_r 2 (v := .string r2) rfl
    have z3 := lcell s_r 3 (v := .string r3) rfl
    dsimp only
    go_wp
    exact bodyPost_ret (v := .tuple #[.agg #[.string r0, .string r1, .string r2, .string r3], .int .i64 0]) (by simp [results, Tryz.results34, go_sem, z0, z1, z2, z3]) rfl ⟨by rw [if_pos hP], (((u.setCell (hb 0) _).setCell (hb 1) _).setCell (hb 2) _).setCell (hb 3) _⟩
  · have hQ : ¬ ((∀ j : Nat, j < 1 → (fun _ : Nat => okx) j = true) ∧ bad = false) := fun h => hP ⟨h.1 0 (by omega), h.2⟩
    rw [if_neg hQ]
    have s_r := box4_set (x := .string ⟨#[]⟩) (y := .string ⟨#[]⟩) (z := .string ⟨#[]⟩) (t := .string ⟨#[]⟩) n_r
    have z0 := lcell s_r 0 (v := .string ⟨#[]⟩) rfl
    have z1 := lcell s_r 1 (v := .string ⟨#[]⟩) rfl
    have z2 := lcell s_r 2 (v := .string ⟨#[]⟩) rfl
    have z3 := lcell s_r 3 (v := .string ⟨#[]⟩) rfl
    dsimp only
    go_wp
    exact bodyPost_ret (v := .tuple #[.agg #[.string ⟨#[]⟩, .string ⟨#[]⟩, .string ⟨#[]⟩, .string ⟨#[]⟩], .int .i64 50]) (by simp [results, Tryz.results34, go_sem, z0, z1, z2, z3]) rfl ⟨by rw [if_neg hP], (((u.setCell (hb 0) _).setCell (hb 1) _).setCell (hb 2) _).setCell (hb 3) _⟩
set_option maxHeartbeats 1000000 in
theorem liftRound (a : Addr) (x0 x1 x2 x3 r0 r1 r2 r3 : ByteArray) (p : Int) (okx bad : Bool)
    (hC : okx = true → ∀ (Bx Bp : Nat) (W : World), Ref a W → W.heap[Bx]? = some (.cells #[.string x0, .string x1, .string x2, .string x3] 25 (0, 0)) → W.heap[Bp]? = some (.cells #[.int .i64 p] 3 (0, 0)) → Calls Tryz.prog 95 #[.pointer (some ⟨Bx, 0, none⟩), .pointer (some ⟨Bp, 0, none⟩)] W fun e W' => e = (if bad then .panicked (refP a) else .returned (ivl r0 r1 r2 r3)) ∧ Below W.heap.size W W')
    (hX : Ret 20 #[ivl x0 x1 x2 x3] (.bool okx)) (w : World) (hv : Ref a w) :
    Calls Tryz.prog 41 #[.agg #[.string x0, .string x1, .string x2, .string x3], .int .i64 p] w fun e w' => e = .returned (if okx = true ∧ bad = false then .tuple #[ivl r0 r1 r2 r3, .int .i64 0] else .tuple #[ivl0, .int .i64 50]) ∧ Below w.heap.size w w' := by
  have hmf : ∀ (fn : Fn) (first cap : Array Value) (w : World), (Instr.makeFunc fn first cap).run Tryz.prog w = .ok (.func fn first cap) w := fun _ _ _ _ => rfl
  have CC : Shut _ := ⟨hC⟩
  have CX : Shut _ := ⟨hX⟩
  have HV : Shut _ := ⟨hv⟩
  clear hC hX hv
  unfold ivl0 ivl at *
  go_enter Tryz.func41, Tryz.ntmps41
  go_wp2_with fail
  obtain ⟨n_x, n_p, n_r, n_s⟩ := news4 w (.cells #[.string x0, .string x1, .string x2, .string x3] 25) (.cells #[.int .i64 p] 3) (.cells #[.string ⟨#[]⟩, .string ⟨#[]⟩, .string ⟨#[]⟩, .string ⟨#[]⟩] 25) (.cells #[.string x0, .string x1, .string x2, .string x3] 25)
  have u := below4 w (.cells #[.string x0, .string x1, .string x2, .string x3] 25) (.cells #[.int .i64 p] 3) (.cells #[.string ⟨#[]⟩, .string ⟨#[]⟩, .string ⟨#[]⟩, .string ⟨#[]⟩] 25) (.cells #[.string x0, .string x1, .string x2, .string x3] 25)
  generalize ((((w.alloc (.cells #[.string x0, .string x1, .string x2, .string x3] 25)).alloc (.cells #[.int .i64 p] 3)).alloc (.cells #[.string ⟨#[]⟩, .string ⟨#[]⟩, .string ⟨#[]⟩, .string ⟨#[]⟩] 25)).alloc (.cells #[.string x0, .string x1, .string x2, .string x3] 25)) = W4 at *
  have cA := attemptI 95 #[.pointer (some ⟨w.heap.size, 0, none⟩), .pointer (some ⟨w.heap.size + 1, 0, none⟩)] (enters_of Tryz.func95 (by kernel_rfl) rfl) a (fun W => W.heap[w.heap.size]? = some (.cells #[.string x0, .string x1, .string x2, .string x3] 25 (0, 0)) ∧ W.heap[w.heap.size + 1]? = some (.cells #[.int .i64 p] 3 (0, 0))) (fun W W' h hB => ⟨lkeep h.1 hB, lkeep h.2 hB⟩) r0 r1 r2 r3 bad
    1 (w.heap.size + 1 + 1 + 1) 1 (g4 x0 x1 x2 x3) (fun _ => okx) (by omega)
    (fun ho W hr hi => CC.o (ho 0 (by omega)) _ _ W hr hi.1 hi.2)
    (fun j hj W => by obtain rfl : j = 0 := (by omega); exact CX.o W) W4 (HV.o.keep u) ⟨n_x, n_p⟩
    (fun W hB j hj => by
      have q := lkeep n_s hB
      rcases (show j = 0 ∨ j = 1 ∨ j = 2 ∨ j = 3 by omega) with rfl | rfl | rfl | rfl
      · exact lcell q 0 rfl
      · exact lcell q 1 rfl
      · exact lcell q 2 rfl
      · exact lcell q 3 rfl)
  unfold ivl0 ivl at *
  refine cA.mono ?_
  rintro e v1 ⟨rfl, g⟩
  replace u := u.trans (g.mono u.size)
  replace n_r := lkeep n_r g
  clear g cA n_x n_p n_s hmf
  have d0 := lcell n_r 0 (v := .string ⟨#[]⟩) rfl
  have d1 := lcell n_r 1 (v := .string ⟨#[]⟩) rfl
  have d2 := lcell n_r 2 (v := .string ⟨#[]⟩) rfl
  have d3 := lcell n_r 3 (v := .string ⟨#[]⟩) rfl
  have h0 := lfree n_r 0
  have h1 := lfree n_r 1
  have h2 := lfree n_r 2
  have h3 := lfree n_r 3
  have hb : ∀ i, w.heap.size ≤ (⟨w.heap.size + 1 + 1, i, none⟩ : Addr).block := fun _ => Nat.le_trans (Nat.le_succ _) (Nat.le_succ _)
  by_cases hP : okx = true ∧ bad = false
  · have hQ : (∀ j : Nat, j < 1 → (fun _ : Nat => okx) j = true) ∧ bad = false := ⟨fun _ _ => hP.1, hP.2⟩
    rw [if_pos hQ]
    have s_r := box4_set (x := .string r0) (y := .string r1) (z := .string r2) (t := .string r3) n_r
    have z0 := lcell s_r 0 (v := .string r0) rfl
    have z1 := lcell s_r 1 (v := .string r1) rfl
    have z2 := lcell s_r 2 (v := .string r2) rfl
    have z3 := lcell s_r 3 (v := .string r3) rfl
    dsimp only
    go_wp
    exact bodyPost_ret (v := .tuple #[.agg #[.string r0, .string r1, .string r2, .string r3], .int .i64 0]) (by simp [results, Tryz.results41, go_sem, z0, z1, z2, z3]) rfl ⟨by rw [if_pos hP], (((u.setCell (hb 0) _).setCell (hb 1) _).setCell (hb 2) _).setCell (hb 3) _⟩
  · have hQ : ¬ ((∀ j : Nat, j < 1 → (fun _ : Nat => okx) j = true) ∧ bad = false) := fun h => hP ⟨h.1 0 (by omega), h.2⟩
    rw [if_neg hQ]
    have s_r := box4_set (x := .string ⟨#[]⟩) (y := .string ⟨#[]⟩) (z := .string ⟨#[]⟩) (t := .string ⟨#[]⟩) n_r
    have z0 := lcell s_r 0 (v := .string ⟨#[]⟩) rfl
    have z1 := lcell s_r 1 (v := .string ⟨#[]⟩) rfl
    have z2 := lcell s_r 2 (v := .string ⟨#[]⟩) rfl
    have z3 := lcell s_r 3 (v := .string ⟨#[]⟩) rfl
    dsimp only
    go_wp
    exact bodyPost_ret (v := .tuple #[.agg #[.string ⟨#[]⟩, .string ⟨#[]⟩, .string ⟨#[]⟩, .string ⟨#[]⟩], .int .i64 50]) (by simp [results, Tryz.results41, go_sem, z0, z1, z2, z3]) rfl ⟨by rw [if_neg hP], (((u.setCell (hb 0) _).setCell (hb 1) _).setCell (hb 2) _).setCell (hb 3) _⟩
end En
end Go.Proofs.YtbfonkabmehlmaaGreatDoor
