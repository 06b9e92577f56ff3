/-
  Contracts: sum.
-/
import Derived.Test.YtappobhpdpfojaaGreatRatF
namespace Go.Proofs.YtappobhpdpfojaaGreat
set_option maxRecDepth 1000000
namespace Rt
open Go.RowKit Nm

/-- what sum answers, by strings -/
noncomputable def sumR (op : ByteArray → ByteArray → Option ByteArray) (s t u v : ByteArray) : Option (ByteArray × ByteArray) := if qsOk [(s, t), (u, v)] then (opMul s v).bind fun x => (opMul u t).bind fun y => (op x y).bind fun n => (opMul t v).bind fun d => redR n d else none
theorem sum_out (op : ByteArray → ByteArray → Option ByteArray) (f1 f2 f3 f4 f5 : Nat × Array Value) (l : List (ByteArray × ByteArray)) (st : St) : outR [(f1, fun st => if qsOk l then some st else none), (f2, fun st => (opMul (st 2) (st 5)).map (upd st 6)), (f3, fun st => (opMul (st 4) (st 3)).map (upd st 7)), (f4, fun st => (op (st 6) (st 7)).map (upd st 0)), (f5, fun st => (opMul (st 3) (st 5)).map (upd st 1))] st = if qsOk l then (opMul (st 2) (st 5)).bind fun x => (opMul (st 4) (st 3)).bind fun y => (op x y).bind fun n => (opMul (st 3) (st 5)).bind fun d => redR n d else none := by
  simp only [outR, run, List.map_cons, List.map_nil, List.foldl_cons, List.foldl_nil, Option.bind_some]
  cases qsOk l with
  | false => rfl
  | true =>
    simp only [if_true, Option.bind_some]
    cases opMul (st 2) (st 5) with
    | none => rfl
    | some x =>
      simp only [Option.map_some, Option.bind_some]
      rw [show upd st 6 x 4 = st 4 from rfl, show upd st 6 x 3 = st 3 from rfl]
      cases opMul (st 4) (st 3) with
      | none => rfl
      | some y =>
        simp only [Option.map_some, Option.bind_some]
        rw [show upd (upd st 6 x) 7 y 6 = x from rfl, show upd (upd st 6 x) 7 y 7 = y from rfl]
        cases op x y with
        | none => rfl
        | some n =>
          simp only [Option.map_some, Option.bind_some]
          rw [show upd (upd (upd st 6 x) 7 y) 0 n 3 = st 3 from rfl, show upd (upd (upd st 6 x) 7 y) 0 n 5 = st 5 from rfl]
          cases opMul (st 3) (st 5) with
          | none => rfl
          | some d => rfl
def osSum (w : World) (s t u v : ByteArray) : List Obj := [.cells #[.string s, .string t] 23, .cells #[.string u, .string v] 23, .cells #[.string ⟨#[]⟩, .string ⟨#[]⟩] 23, .cells #[.string ⟨#[]⟩] 9, .cells #[.string ⟨#[]⟩] 9, .cells #[.string ⟨#[]⟩, .string ⟨#[]⟩] 23, .cells #[.string s, .string t, .string u, .string v] 23, .cells #[.slice (some ⟨w.heap.size + 1 + 1 + 1 + 1 + 1 + 1, 0, none⟩) 2 2] 30]
theorem sum_build (s t u v : ByteArray) (hs : s.size ≤ 1000000) (ht : t.size ≤ 1000000) (hu : u.size ≤ 1000000) (hv : v.size ≤ 1000000) (k : Nat) (op : ByteArray → ByteArray → Option ByteArray) (hke : Enters Tryz.prog k) (hop : OpC k op) (hsm : ∀ s t u : ByteArray, s.size ≤ 1000000 → op s t = some u → u.size ≤ 1000000) {w w2 w3 w4 w5 : World}
    (hI1 : IntoAt w2 (allocs w (osSum w s t u v)).heap.size ⟨w.heap.size + 1 + 1 + 1, 0, none⟩ (.func (.func 49) #[] #[]) ⟨w.heap.size, 0, none⟩ ⟨w.heap.size + 1, 1, none⟩) (hB1 : Below (allocs w (osSum w s t u v)).heap.size (allocs w (osSum w s t u v)) w2) (hs1 : (allocs w (osSum w s t u v)).heap.size + 4 ≤ w2.heap.size)
    (hI2 : IntoAt w3 w2.heap.size ⟨w.heap.size + 1 + 1 + 1 + 1, 0, none⟩ (.func (.func 49) #[] #[]) ⟨w.heap.size + 1, 0, none⟩ ⟨w.heap.size, 1, none⟩) (hB2 : Below w2.heap.size w2 w3) (hs2 : w2.heap.size + 4 ≤ w3.heap.size)
    (hI3 : IntoAt w4 w3.heap.size ⟨w.heap.size + 1 + 1 + 1 + 1 + 1, 0, none⟩ (.func (.func k) #[] #[]) ⟨w.heap.size + 1 + 1 + 1, 0, none⟩ ⟨w.heap.size + 1 + 1 + 1 + 1, 0, none⟩) (hB3 : Below w3.heap.size w3 w4) (hs3 : w3.heap.size + 4 ≤ w4.heap.size)
    (hI4 : IntoAt w5 w4.heap.size ⟨w.heap.size + 1 + 1 + 1 + 1 + 1, 1, none⟩ (.func (.func 49) #[] #[]) ⟨w.heap.size, 1, none⟩ ⟨w.heap.size + 1, 1, none⟩) (hB4 : Below w4.heap.size w4 w5) (hs4 : w4.heap.size + 4 ≤ w5.heap.size) :
    Calls Tryz.prog 59 #[.pointer (some ⟨w.heap.size + 1 + 1 + 1 + 1 + 1, 0, none⟩), .slice (some ⟨w5.heap.size, 0, none⟩) 5 5] (w5.alloc (.cells #[.func (.func 93) #[] #[.pointer (some ⟨w.heap.size + 1 + 1 + 1 + 1 + 1 + 1 + 1, 0, none⟩)], clo (w.heap.size + 1 + 1 + 1 + 1 + 1 + 1 + 1 + 1), clo w2.heap.size, clo w3.heap.size, clo w4.heap.size] 79)) fun e w' => e = .returned (bR (sumR op s t u v)) ∧ Below w.heap.size (w5.alloc (.cells #[.func (.func 93) #[] #[.pointer (some ⟨w.heap.size + 1 + 1 + 1 + 1 + 1 + 1 + 1, 0, none⟩)], clo (w.heap.size + 1 + 1 + 1 + 1 + 1 + 1 + 1 + 1), clo w2.heap.size, clo w3.heap.size, clo w4.heap.size] 79)) w' ∧ w'.heap[w.heap.size + 1 + 1]? = some (.cells #[.string ⟨#[]⟩, .string ⟨#[]⟩] 23 (0, 0)) := by
  have hsz : (allocs w (osSum w s t u v)).heap.size = w.heap.size + 8 := allocs_size _ _
  have c2 : Below w3.heap.size w3 w5 := hB3.trans (hB4.mono (by omega))
  have c1 : Below w2.heap.size w2 w5 := hB2.trans (c2.mono (by omega))
  have hBw : Below (w.heap.size + 8) (allocs w (osSum w s t u v)) w5 := by rw [hsz] at hB1; exact hB1.trans (c1.mono (by omega))
  have g2 := allocs_get w (osSum w s t u v) 2 _ rfl
  have g6 := allocs_get w (osSum w s t u v) 6 _ rfl
  have g7 := allocs_get w (osSum w s t u v) 7 _ rfl
  rw [hsz] at hI1 hs1
  have k6 := (hBw.block (w.heap.size + 6) (by omega)).trans g6
  have k7 := (hBw.block (w.heap.size + 7) (by omega)).trans g7
  have hk : Enters Tryz.prog 49 := enters_of Tryz.func49 (by kernel_rfl) rfl
  have hR := ready_gen (w := w) (W := w5) (os := osSum w s t u v) (rI := 5) (n0 := ⟨#[]⟩) (d0 := ⟨#[]⟩) (es' := [(0, 0, s), (0, 1, t), (1, 0, u), (1, 1, v), (3, 0, ⟨#[]⟩), (4, 0, ⟨#[]⟩)])
    (ps := [((93, #[.pointer (some ⟨w.heap.size + 1 + 1 + 1 + 1 + 1 + 1 + 1, 0, none⟩)]), fun st => if qsOk [(s, t), (u, v)] then some st else none), (cloF (w.heap.size + 8), fun st => (opMul (st 2) (st 5)).map (upd st 6)), (cloF w2.heap.size, fun st => (opMul (st 4) (st 3)).map (upd st 7)), (cloF w3.heap.size, fun st => (op (st 6) (st 7)).map (upd st 0)), (cloF w4.heap.size, fun st => (opMul (st 3) (st 5)).map (upd st 1))])
    (by
      intro e he
      simp only [List.mem_cons, List.not_mem_nil, or_false] at he
      rcases he with rfl | rfl | rfl | rfl | rfl | rfl | rfl | rfl
      · exact ⟨⟨_, _, rfl, rfl, by decide⟩, by decide⟩
      · exact ⟨⟨_, _, rfl, rfl, by decide⟩, by decide⟩
      · exact ⟨⟨_, _, rfl, rfl, by decide⟩, hs⟩
      · exact ⟨⟨_, _, rfl, rfl, by decide⟩, ht⟩
      · exact ⟨⟨_, _, rfl, rfl, by decide⟩, hu⟩
      · exact ⟨⟨_, _, rfl, rfl, by decide⟩, hv⟩
      · exact ⟨⟨_, _, rfl, rfl, by decide⟩, by decide⟩
      · exact ⟨⟨_, _, rfl, rfl, by decide⟩, by decide⟩)
    (by simp) hBw (by simp)
    (by
      intro p hp
      simp only [List.mem_cons, List.not_mem_nil, or_false] at hp
      rcases hp with rfl | rfl | rfl | rfl | rfl
      · refine .inr ⟨w.heap.size + 7, w.heap.size + 6, 2, [(s, t), (u, v)], rfl, k7, by simp, ?_, ?_, by omega, by omega⟩
        · intro i hi
          match i, hi with
          | 0, _ => exact ⟨cell_of_row w5 _ 0 _ _ _ k6, cell_of_row w5 _ 1 _ _ _ k6, hs, ht⟩
          | 1, _ => exact ⟨cell_of_row w5 _ 2 _ _ _ k6, cell_of_row w5 _ 3 _ _ _ k6, hu, hv⟩
        · intro e he
          simp only [List.mem_cons, List.not_mem_nil, or_false] at he
          rcases he with rfl | rfl | rfl | rfl | rfl | rfl | rfl | rfl <;> constructor <;> simp
      · exact .inl ⟨6, 2, 5, _, opMul, w.heap.size + 8, by simp, by simp, by simp, rfl, hk, opC_Mul, op2_small, by decide, hI1.keep (Rim.of_below (bs := fun _ => False) c1) (fun _ _ _ h => h), by show _ + 8 ≤ _; omega, by omega⟩
      · exact .inl ⟨7, 4, 3, _, opMul, w2.heap.size, by simp, by simp, by simp, rfl, hk, opC_Mul, op2_small, by decide, hI2.keep (Rim.of_below (bs := fun _ => False) c2) (fun _ _ _ h => h), by show _ + 8 ≤ _; omega, by omega⟩
      · exact .inl ⟨0, 6, 7, k, op, w3.heap.size, by simp, by simp, by simp, rfl, hke, hop, hsm, by decide, hI3.keep (Rim.of_below (bs := fun _ => False) hB4) (fun _ _ _ h => h), by show _ + 8 ≤ _; omega, by omega⟩
      · exact .inl ⟨1, 3, 5, _, opMul, w4.heap.size, by simp, by simp, by simp, rfl, hk, opC_Mul, op2_small, by decide, hI4, by show _ + 8 ≤ _; omega, by omega⟩)
  have k2 := (hBw.block (w.heap.size + 2) (by omega)).trans g2
  have hw5 := hBw.size
  rw [hsz] at hw5
  have := build_any _ _ _ _ _ _ _ hR
  rw [sum_out] at this
  refine this.mono ?_
  rintro e w' ⟨h1, h2, h3⟩
  refine ⟨h1, h2, h3.heap (k := w.heap.size + 2) ((Below.heap_alloc w5 _ _ (by omega)).trans k2) ?_⟩
  rintro (⟨a, ha, hk⟩ | hk)
  · simp only [List.map_cons, List.map_nil, List.mem_cons, List.not_mem_nil, or_false, adE] at ha
    rcases ha with rfl | rfl | rfl | rfl | rfl | rfl | rfl | rfl <;> simp at hk
  · simp [Value.ownBlock] at hk; omega
theorem below_calls4 {w w2 w3 w4 w5 w6 : World} (os : List Obj) {o : Obj} (h1 : Below (allocs w os).heap.size (allocs w os) w2) (h2 : Below w2.heap.size w2 w3) (h3 : Below w3.heap.size w3 w4) (h4 : Below w4.heap.size w4 w5) (h5 : Below w.heap.size (w5.alloc o) w6) : Below w.heap.size w w6 := by
  have h0 := allocs_below w os
  have := h0.size
  have := h1.size
  have := h2.size
  have := h3.size
  have := h4.size
  exact (((((h0.trans (h1.mono (by omega))).trans (h2.mono (by omega))).trans (h3.mono (by omega))).trans (h4.mono (by omega))).alloc (by omega) o).trans h5
set_option maxHeartbeats 2000000 in
theorem sum_all (s t u v : ByteArray) (hs : s.size ≤ 1000000) (ht : t.size ≤ 1000000) (hu : u.size ≤ 1000000) (hv : v.size ≤ 1000000) (k : Nat) (op : ByteArray → ByteArray → Option ByteArray) (hke : Enters Tryz.prog k) (hop : OpC k op) (hsm : ∀ s t u : ByteArray, s.size ≤ 1000000 → op s t = some u → u.size ≤ 1000000) (w : World) :
    Calls Tryz.prog 65 #[rv s t, rv u v, .func (.func k) #[] #[]] w fun e w' => e = .returned (bR (sumR op s t u v)) ∧ Below w.heap.size w w' := by
  have hb := fun (w2 w3 w4 w5 : World) => sum_build s t u v hs ht hu hv k op hke hop hsm (w := w) (w2 := w2) (w3 := w3) (w4 := w4) (w5 := w5)
  obtain ⟨n, d, c, ho⟩ := bR_form (sumR op s t u v)
  rw [ho] at hb ⊢
  clear ho hop hsm hke
  unfold clo at hb
  unfold rv
  go_enter Tryz.func65, Tryz.ntmps65
  go_wp2_with (first | (go_at_call 67; refine (valid_any _ 2 _ 2 _ rfl).mono ?_; rintro e w1 ⟨rfl, rfl⟩) | (go_at_call 68; (have q := hI3; clear q); refine (into_any _ _ _ _ _).mono ?_; rintro e w5 ⟨rfl, hI4, hB4, hs4⟩) | (go_at_call 68; (have q := hI2; clear q); refine (into_any _ _ _ _ _).mono ?_; rintro e w4 ⟨rfl, hI3, hB3, hs3⟩) | (go_at_call 68; (have q := hI1; clear q); refine (into_any _ _ _ _ _).mono ?_; rintro e w3 ⟨rfl, hI2, hB2, hs2⟩) | (go_at_call 68; refine (into_any _ _ _ _ _).mono ?_; rintro e w2 ⟨rfl, hI1, hB1, hs1⟩) | (go_at_call 59; refine (hb w2 w3 w4 w5 hI1 hB1 hs1 hI2 hB2 hs2 hI3 hB3 hs3 hI4 hB4 hs4).mono ?_; rintro e w6 ⟨rfl, hB6, hq⟩; obtain ⟨c0, c1, z0, z1⟩ := cell_box hq))
  have k0 := cell_two w6 (w.heap.size + 1 + 1) (.string n) (.string d) _ _ c0 c1
  have hB5 : Below w.heap.size w w6 := below_calls4 (osSum w s t u v) hB1 hB2 hB3 hB4 hB6
  refine bodyPost_ret (v := .tuple #[.agg #[.string n, .string d], .int .i64 c]) (by simp [results, Tryz.results65, go_sem, k0.1, k0.2]) rfl ⟨rfl, (hB5.setCell (by simp; omega) _).setCell (by simp; omega) _⟩
end Rt
end Go.Proofs.YtappobhpdpfojaaGreat
