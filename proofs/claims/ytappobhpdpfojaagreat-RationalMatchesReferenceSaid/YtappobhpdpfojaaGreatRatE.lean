/-
  Contracts: Mul.
-/
import Derived.Test.YtappobhpdpfojaaGreatRatD
namespace Go.Proofs.YtappobhpdpfojaaGreat
set_option maxRecDepth 1000000
namespace Rt
open Go.RowKit Nm

theorem below_calls {w w2 w3 w4 : World} (os : List Obj) {o : Obj} (h1 : Below (allocs w os).heap.size (allocs w os) w2) (h2 : Below w2.heap.size w2 w3) (h4 : Below w.heap.size (w3.alloc o) w4) : Below w.heap.size w w4 := by
  have h0 := allocs_below w os
  have := h0.size
  have := h1.size
  have := h2.size
  exact (((h0.trans (h1.mono (by omega))).trans (h2.mono (by omega))).alloc (by omega) o).trans h4
/-- what Mul answers, by strings -/
noncomputable def mulR (s t u v : ByteArray) : Option (ByteArray × ByteArray) := if qsOk [(s, t), (u, v)] then (opMul s u).bind fun n => (opMul t v).bind fun d => redR n d else none
theorem mul_out (f1 f2 f3 : Nat × Array Value) (l : List (ByteArray × ByteArray)) (st : St) : outR [(f1, fun st => if qsOk l then some st else none), (f2, fun st => (opMul (st 2) (st 4)).map (upd st 0)), (f3, fun st => (opMul (st 3) (st 5)).map (upd st 1))] st = if qsOk l then (opMul (st 2) (st 4)).bind fun n => (opMul (st 3) (st 5)).bind fun d => redR n d else none := by
  simp only [outR, run, List.map_cons, List.map_nil, List.foldl_cons, List.foldl_nil, Option.bind_some]
  cases qsOk l with
  | false => rfl
  | true =>
    simp only [if_true, Option.bind_some]
    cases opMul (st 2) (st 4) with
    | none => rfl
    | some n =>
      simp only [Option.map_some, Option.bind_some]
      rw [show upd st 0 n 3 = st 3 from rfl, show upd st 0 n 5 = st 5 from rfl]
      cases opMul (st 3) (st 5) with
      | none => rfl
      | some d => rfl
def osMul (w : World) (s t u v : ByteArray) : List Obj := [.cells #[.string s, .string t] 23, .cells #[.string u, .string v] 23, .cells #[.string ⟨#[]⟩, .string ⟨#[]⟩] 23, .cells #[.string ⟨#[]⟩, .string ⟨#[]⟩] 23, .cells #[.string s, .string t, .string u, .string v] 23, .cells #[.slice (some ⟨w.heap.size + 1 + 1 + 1 + 1, 0, none⟩) 2 2] 30]
theorem mul_build (s t u v : ByteArray) (hs : s.size ≤ 1000000) (ht : t.size ≤ 1000000) (hu : u.size ≤ 1000000) (hv : v.size ≤ 1000000) {w w2 w3 : World}
    (hI1 : IntoAt w2 (allocs w (osMul w s t u v)).heap.size ⟨w.heap.size + 1 + 1 + 1, 0, none⟩ (.func (.func 49) #[] #[]) ⟨w.heap.size, 0, none⟩ ⟨w.heap.size + 1, 0, none⟩) (hB1 : Below (allocs w (osMul w s t u v)).heap.size (allocs w (osMul w s t u v)) w2) (hs1 : (allocs w (osMul w s t u v)).heap.size + 4 ≤ w2.heap.size)
    (hI2 : IntoAt w3 w2.heap.size ⟨w.heap.size + 1 + 1 + 1, 1, none⟩ (.func (.func 49) #[] #[]) ⟨w.heap.size, 1, none⟩ ⟨w.heap.size + 1, 1, none⟩) (hB2 : Below w2.heap.size w2 w3) (hs2 : w2.heap.size + 4 ≤ w3.heap.size) :
    Calls Tryz.prog 59 #[.pointer (some ⟨w.heap.size + 1 + 1 + 1, 0, none⟩), .slice (some ⟨w3.heap.size, 0, none⟩) 3 3] (w3.alloc (.cells #[.func (.func 93) #[] #[.pointer (some ⟨w.heap.size + 1 + 1 + 1 + 1 + 1, 0, none⟩)], clo (w.heap.size + 1 + 1 + 1 + 1 + 1 + 1), clo w2.heap.size] 79)) fun e w' => e = .returned (bR (mulR s t u v)) ∧ Below w.heap.size (w3.alloc (.cells #[.func (.func 93) #[] #[.pointer (some ⟨w.heap.size + 1 + 1 + 1 + 1 + 1, 0, none⟩)], clo (w.heap.size + 1 + 1 + 1 + 1 + 1 + 1), clo w2.heap.size] 79)) w' ∧ w'.heap[w.heap.size + 1 + 1]? = some (.cells #[.string ⟨#[]⟩, .string ⟨#[]⟩] 23 (0, 0)) := by
  have hsz : (allocs w (osMul w s t u v)).heap.size = w.heap.size + 6 := allocs_size _ _
  have hBw : Below (w.heap.size + 6) (allocs w (osMul w s t u v)) w3 := by rw [hsz] at hB1; exact hB1.trans (hB2.mono (by omega))
  have g2 := allocs_get w (osMul w s t u v) 2 _ rfl
  have g4 := allocs_get w (osMul w s t u v) 4 _ rfl
  have g5 := allocs_get w (osMul w s t u v) 5 _ rfl
  rw [hsz] at hI1 hs1
  have k4 := (hBw.block (w.heap.size + 4) (by omega)).trans g4
  have k5 := (hBw.block (w.heap.size + 5) (by omega)).trans g5
  have hk : Enters Tryz.prog 49 := enters_of Tryz.func49 (by kernel_rfl) rfl
  have hR := ready_gen (w := w) (W := w3) (os := osMul w s t u v) (rI := 3) (n0 := ⟨#[]⟩) (d0 := ⟨#[]⟩) (es' := [(0, 0, s), (0, 1, t), (1, 0, u), (1, 1, v)])
    (ps := [((93, #[.pointer (some ⟨w.heap.size + 1 + 1 + 1 + 1 + 1, 0, none⟩)]), fun st => if qsOk [(s, t), (u, v)] then some st else none), (cloF (w.heap.size + 6), fun st => (opMul (st 2) (st 4)).map (upd st 0)), (cloF w2.heap.size, fun st => (opMul (st 3) (st 5)).map (upd st 1))])
    (by
      intro e he
      simp only [List.mem_cons, List.not_mem_nil, or_false] at he
      rcases he with rfl | rfl | rfl | rfl | rfl | rfl
      · exact ⟨⟨_, _, rfl, rfl, by decide⟩, by decide⟩
      · exact ⟨⟨_, _, rfl, rfl, by decide⟩, by decide⟩
      · exact ⟨⟨_, _, rfl, rfl, by decide⟩, hs⟩
      · exact ⟨⟨_, _, rfl, rfl, by decide⟩, ht⟩
      · exact ⟨⟨_, _, rfl, rfl, by decide⟩, hu⟩
      · exact ⟨⟨_, _, rfl, rfl, by decide⟩, hv⟩)
    (by simp) hBw (by simp)
    (by
      intro p hp
      simp only [List.mem_cons, List.not_mem_nil, or_false] at hp
      rcases hp with rfl | rfl | rfl
      · refine .inr ⟨w.heap.size + 5, w.heap.size + 4, 2, [(s, t), (u, v)], rfl, k5, by simp, ?_, ?_, by have := hs2; omega, by have := hs2; omega⟩
        · intro i hi
          match i, hi with
          | 0, _ => exact ⟨cell_of_row w3 _ 0 _ _ _ k4, cell_of_row w3 _ 1 _ _ _ k4, hs, ht⟩
          | 1, _ => exact ⟨cell_of_row w3 _ 2 _ _ _ k4, cell_of_row w3 _ 3 _ _ _ k4, hu, hv⟩
        · intro e he
          simp only [List.mem_cons, List.not_mem_nil, or_false] at he
          rcases he with rfl | rfl | rfl | rfl | rfl | rfl <;> constructor <;> simp
      · exact .inl ⟨0, 2, 4, _, opMul, w.heap.size + 6, by simp, by simp, by simp, rfl, hk, opC_Mul, op2_small, by decide, hI1.keep (Rim.of_below (bs := fun _ => False) hB2) (fun _ _ _ h => h), by show _ + 6 ≤ _; omega, by omega⟩
      · exact .inl ⟨1, 3, 5, _, opMul, w2.heap.size, by simp, by simp, by simp, rfl, hk, opC_Mul, op2_small, by decide, hI2, by show _ + 6 ≤ _; omega, by omega⟩)
  have k2 := (hBw.block (w.heap.size + 2) (by omega)).trans g2
  have hw3 := hBw.size
  rw [hsz] at hw3
  have := build_any _ _ _ _ _ _ _ hR
  rw [mul_out] at this
  refine this.mono ?_
  rintro e w' ⟨h1, h2, h3⟩
  refine ⟨h1, h2, h3.heap (k := w.heap.size + 2) ((Below.heap_alloc w3 _ _ (by omega)).trans k2) ?_⟩
  rintro (⟨a, ha, hk⟩ | hk)
  · simp only [List.map_cons, List.map_nil, List.mem_cons, List.not_mem_nil, or_false, adE] at ha
    rcases ha with rfl | rfl | rfl | rfl | rfl | rfl <;> simp at hk
  · simp [Value.ownBlock] at hk; omega
set_option maxHeartbeats 2000000 in
theorem Mul_all (s t u v : ByteArray) (hs : s.size ≤ 1000000) (ht : t.size ≤ 1000000) (hu : u.size ≤ 1000000) (hv : v.size ≤ 1000000) (w : World) :
    Calls Tryz.prog 38 #[rv s t, rv u v] w fun e w' => e = .returned (bR (mulR s t u v)) ∧ Below w.heap.size w w' := by
  have hb := fun (w2 w3 : World) => mul_build s t u v hs ht hu hv (w := w) (w2 := w2) (w3 := w3)
  obtain ⟨n, d, c, ho⟩ := bR_form (mulR s t u v)
  rw [ho] at hb ⊢
  clear ho
  unfold clo at hb
  unfold rv
  go_enter Tryz.func38, Tryz.ntmps38
  go_wp2_with (first | (go_at_call 67; refine (valid_any _ 2 _ 2 _ rfl).mono ?_; rintro e w1 ⟨rfl, rfl⟩) | (go_at_call 68; (have q := hI1; clear q); refine (into_any _ _ _ _ _).mono ?_; rintro e w3 ⟨rfl, hI2, hB2, hs2⟩) | (go_at_call 68; refine (into_any _ _ _ _ _).mono ?_; rintro e w2 ⟨rfl, hI1, hB1, hs1⟩) | (go_at_call 59; refine (hb w2 w3 hI1 hB1 hs1 hI2 hB2 hs2).mono ?_; rintro e w4 ⟨rfl, hB4, hq⟩; obtain ⟨c0, c1, z0, z1⟩ := cell_box hq))
  have k0 := cell_two w4 (w.heap.size + 1 + 1) (.string n) (.string d) _ _ c0 c1
  have hB5 : Below w.heap.size w w4 := below_calls (osMul w s t u v) hB1 hB2 hB4
  refine bodyPost_ret (v := .tuple #[.agg #[.string n, .string d], .int .i64 c]) (by simp [results, Tryz.results38, go_sem, k0.1, k0.2]) rfl ⟨rfl, (hB5.setCell (by simp; omega) _).setCell (by simp; omega) _⟩
end Rt
end Go.Proofs.YtappobhpdpfojaaGreat
