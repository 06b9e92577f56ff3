/-
  Package enclosure: Width.
-/
import Derived.Test.YtbfonkabmehlmaaGreatDoorEnI
namespace Go.Proofs.YtbfonkabmehlmaaGreatDoor
set_option maxRecDepth 1000000
namespace En
open Go.RowKit Go.Extern.Stop Go.Stop Go.Extern
def g4 (a b c d : ByteArray) : Nat → ByteArray
  | 0 => a | 1 => b | 2 => c | _ => d
theorem new3 (w : World) (a b c : Obj) : (((w.alloc a).alloc b).alloc c).heap[w.heap.size]? = some a ∧ (((w.alloc a).alloc b).alloc c).heap[w.heap.size + 1]? = some b ∧ (((w.alloc a).alloc b).alloc c).heap[w.heap.size + 1 + 1]? = some c := by
  refine ⟨(Below.heap_alloc _ _ _ (by simp; omega)).trans ((Below.heap_alloc _ _ _ (by simp)).trans (World.alloc_heap_new w a)), (Below.heap_alloc _ _ _ (by simp)).trans (res_two w a b), ?_⟩
  have := res_two (w.alloc a) b c
  rwa [World.size_alloc] at this
set_option maxHeartbeats 1000000 in
theorem Width_any (a : Addr) (x0 x1 x2 x3 n d : ByteArray) (c : Int) (ok : Bool) (hS : ok = true → ∀ W : World, Calls Tryz.prog 29 #[.agg #[.string x2, .string x3], .agg #[.string x0, .string x1]] W fun e W' => e = .returned (.tuple #[.agg #[.string n, .string d], .int .i64 c]) ∧ Below W.heap.size W W')
    (hV : ∀ W : World, Calls Tryz.prog 20 #[ivl x0 x1 x2 x3] W fun e W' => e = .returned (.bool ok) ∧ Below W.heap.size W W') (w : World) (hv : Ref a w) :
    Calls Tryz.prog 18 #[.agg #[.string x0, .string x1, .string x2, .string x3]] w fun e w' => e = .returned (if ok = true ∧ c = 0 then .tuple #[.agg #[.string n, .string d], .int .i64 0] else .tuple #[.agg #[.string ⟨#[]⟩, .string ⟨#[]⟩], .int .i64 50]) ∧ Below w.heap.size w w' := by
  have hmf : ∀ (fn : Fn) (first cap : Array Value) (w : World), (Instr.makeFunc fn first cap).run Tryz.prog w = .ok (.func fn first cap) w := fun _ _ _ _ => rfl
  have CS : Shut _ := ⟨hS⟩
  have CV : Shut _ := ⟨hV⟩
  have HV : Shut _ := ⟨hv⟩
  clear hS hV hv
  go_enter Tryz.func18, Tryz.ntmps18
  go_wp2_with fail
  obtain ⟨n_b, n_r, n_s⟩ := new3 w (.cells #[.string x0, .string x1, .string x2, .string x3] 25) (.cells #[.string ⟨#[]⟩, .string ⟨#[]⟩] 23) (.cells #[.string x0, .string x1, .string x2, .string x3] 25)
  have u := (((Below.refl w.heap.size w).alloc (Nat.le_refl _) (.cells #[.string x0, .string x1, .string x2, .string x3] 25)).alloc (by simp) (.cells #[.string ⟨#[]⟩, .string ⟨#[]⟩] 23)).alloc (by simp; omega) (.cells #[.string x0, .string x1, .string x2, .string x3] 25)
  generalize (((w.alloc (.cells #[.string x0, .string x1, .string x2, .string x3] 25)).alloc (.cells #[.string ⟨#[]⟩, .string ⟨#[]⟩] 23)).alloc (.cells #[.string x0, .string x1, .string x2, .string x3] 25)) = W3 at *
  have cA := attemptR 64 #[.pointer (some ⟨w.heap.size, 0, none⟩)] (enters_of Tryz.func64 (by kernel_rfl) rfl) a (fun W => W.heap[w.heap.size]? = some (.cells #[.string x0, .string x1, .string x2, .string x3] 25 (0, 0))) (fun W W' h hB => lkeep h hB) n d (!(c == 0))
    1 (w.heap.size + 1 + 1) 1 (g4 x0 x1 x2 x3) (fun _ => ok) (by omega)
    (fun ho W hr hi => (width_clo a _ x0 x1 x2 x3 n d c (CS.o (ho 0 (by omega))) W hr hi).mono (fun e W' h => ⟨by rw [h.1]; by_cases hc : c = 0 <;> simp [hc], h.2⟩))
    (fun j hj W => by obtain rfl : j = 0 := (by omega); exact CV.o W) W3 (HV.o.keep u) n_b
    (fun W hB j hj => by
      have q := lkeep n_s hB
      rcases (show j = 0 ∨ j = 1 ∨ j = 2 ∨ j = 3 by omega) with rfl | rfl | rfl | rfl
      · exact lcell q 0 rfl
      · exact lcell q 1 rfl
      · exact lcell q 2 rfl
      · exact lcell q 3 rfl)
  refine cA.mono ?_
  rintro e v1 ⟨rfl, g⟩
  replace u := u.trans (g.mono u.size)
  replace n_r := lkeep n_r g
  clear g cA n_b n_s hmf
  have d0 := lcell n_r 0 (v := .string ⟨#[]⟩) rfl
  have d1 := lcell n_r 1 (v := .string ⟨#[]⟩) rfl
  have h0 := lfree n_r 0
  have h1 := lfree n_r 1
  by_cases hP : ok = true ∧ c = 0
  · have hQ : (∀ j : Nat, j < 1 → (fun _ : Nat => ok) j = true) ∧ (!(c == 0)) = false := ⟨fun _ _ => hP.1, by simp [hP.2]⟩
    rw [if_pos hQ]
    have s_r := box2_set (x := .string n) (y := .string d) n_r
    have z0 := lcell s_r 0 (v := .string n) rfl
    have z1 := lcell s_r 1 (v := .string d) rfl
    dsimp only
    go_wp
    exact bodyPost_ret (v := .tuple #[.agg #[.string n, .string d], .int .i64 0]) (by simp [results, Tryz.results18, go_sem, z0, z1]) rfl ⟨by rw [if_pos hP], (u.setCell (show w.heap.size ≤ (⟨w.heap.size + 1, 0, none⟩ : Addr).block from Nat.le_succ _) _).setCell (show w.heap.size ≤ (⟨w.heap.size + 1, 1, none⟩ : Addr).block from Nat.le_succ _) _⟩
  · have hQ : ¬ ((∀ j : Nat, j < 1 → (fun _ : Nat => ok) j = true) ∧ (!(c == 0)) = false) := fun h => hP ⟨h.1 0 (by omega), by simpa using h.2⟩
    rw [if_neg hQ]
    have s_r := box2_set (x := .string ⟨#[]⟩) (y := .string ⟨#[]⟩) n_r
    have z0 := lcell s_r 0 (v := .string ⟨#[]⟩) rfl
    have z1 := lcell s_r 1 (v := .string ⟨#[]⟩) rfl
    dsimp only
    go_wp
    exact bodyPost_ret (v := .tuple #[.agg #[.string ⟨#[]⟩, .string ⟨#[]⟩], .int .i64 50]) (by simp [results, Tryz.results18, go_sem, z0, z1]) rfl ⟨by rw [if_neg hP], (u.setCell (show w.heap.size ≤ (⟨w.heap.size + 1, 0, none⟩ : Addr).block from Nat.le_succ _) _).setCell (show w.heap.size ≤ (⟨w.heap.size + 1, 1, none⟩ : Addr).block from Nat.le_succ _) _⟩
end En
end Go.Proofs.YtbfonkabmehlmaaGreatDoor
