/-
  Contracts: rounded.
-/
import Derived.Test.YtappobhpdpfojaaGreatRatH
namespace Go.Proofs.YtappobhpdpfojaaGreat
set_option maxRecDepth 1000000
namespace Rt
open Go.RowKit Go.Proofs.YtappobhpdpfojaaGreat.Nm

/-- what rounded answers, by strings -/
noncomputable def rndR (op : ByteArray → ByteArray → Option ByteArray) (s t : ByteArray) (c : Nat) : Option (ByteArray × ByteArray) := if qsOk [(s, t)] then (opMul s (txt (10 ^ c))).bind fun x => (op x t).bind fun n => redR n (txt (10 ^ c)) else none
theorem rnd_out (op : ByteArray → ByteArray → Option ByteArray) (f1 f2 f3 : Nat × Array Value) (l : List (ByteArray × ByteArray)) (st : St) : outR [(f1, fun st => if qsOk l then some st else none), (f2, fun st => (opMul (st 2) (st 4)).map (upd st 0)), (f3, fun st => (op (st 0) (st 3)).map (upd st 0))] st = if qsOk l then (opMul (st 2) (st 4)).bind fun x => (op x (st 3)).bind fun n => redR n (st 1) else none := by
  simp only [outR, run, List.map_cons, List.map_nil, List.foldl_cons, List.foldl_nil, Option.bind_some]
  cases qsOk l with
  | false => rfl
  | true =>
    simp only [if_true, Option.bind_some]
    cases opMul (st 2) (st 4) with
    | none => rfl
    | some x =>
      simp only [Option.map_some, Option.bind_some]
      rw [show upd st 0 x 0 = x from rfl, show upd st 0 x 3 = st 3 from rfl]
      cases op x (st 3) with
      | none => rfl
      | some n => rfl
def osRnd (w : World) (s t : ByteArray) (c : Nat) : List Obj := [.cells #[.string (txt (10 ^ c))] 9, .cells #[.string ⟨#[]⟩, .string (txt (10 ^ c))] 23, .cells #[.string s, .string t] 23, .cells #[.slice (some ⟨w.heap.size + 1 + 1, 0, none⟩) 1 1] 30]
theorem pow_fits (c : Nat) (hc : c ≤ 30) : Fits ((10 : Int) ^ c) := by
  have h : ∀ c : Fin 31, ((10 : Int) ^ c.val).natAbs < 10 ^ 200 := by decide +kernel
  exact fits_small (h ⟨c, by omega⟩)
theorem rnd_build (s t : ByteArray) (hs : s.size ≤ 1000000) (ht : t.size ≤ 1000000) (c : Nat) (hc : c ≤ 30) (k : Nat) (op : ByteArray → ByteArray → Option ByteArray) (hke : Enters Tryz.prog k) (hop : OpC k op) (hsm : ∀ s t u : ByteArray, s.size ≤ 1000000 → op s t = some u → u.size ≤ 1000000) {w w1 w3 w4 : World}
    (hB0 : Below ((w.alloc (.cells #[.string s, .string t] 23)).alloc (.cells #[.string ⟨#[]⟩, .string ⟨#[]⟩] 23)).heap.size ((w.alloc (.cells #[.string s, .string t] 23)).alloc (.cells #[.string ⟨#[]⟩, .string ⟨#[]⟩] 23)) w1)
    (hI1 : IntoAt w3 (allocs w1 (osRnd w1 s t c)).heap.size ⟨w1.heap.size + 1, 0, none⟩ (.func (.func 49) #[] #[]) ⟨w.heap.size, 0, none⟩ ⟨w1.heap.size, 0, none⟩) (hB1 : Below (allocs w1 (osRnd w1 s t c)).heap.size (allocs w1 (osRnd w1 s t c)) w3) (hs1 : (allocs w1 (osRnd w1 s t c)).heap.size + 4 ≤ w3.heap.size)
    (hI2 : IntoAt w4 w3.heap.size ⟨w1.heap.size + 1, 0, none⟩ (.func (.func k) #[] #[]) ⟨w1.heap.size + 1, 0, none⟩ ⟨w.heap.size, 1, none⟩) (hB2 : Below w3.heap.size w3 w4) (hs2 : w3.heap.size + 4 ≤ w4.heap.size) :
    Calls Tryz.prog 59 #[.pointer (some ⟨w1.heap.size + 1, 0, none⟩), .slice (some ⟨w4.heap.size, 0, none⟩) 3 3] (w4.alloc (.cells #[.func (.func 93) #[] #[.pointer (some ⟨w1.heap.size + 1 + 1 + 1, 0, none⟩)], clo (w1.heap.size + 1 + 1 + 1 + 1), clo w3.heap.size] 79)) fun e w' => e = .returned (bR (rndR op s t c)) ∧ Below w.heap.size (w4.alloc (.cells #[.func (.func 93) #[] #[.pointer (some ⟨w1.heap.size + 1 + 1 + 1, 0, none⟩)], clo (w1.heap.size + 1 + 1 + 1 + 1), clo w3.heap.size] 79)) w' ∧ w'.heap[w.heap.size + 1]? = some (.cells #[.string ⟨#[]⟩, .string ⟨#[]⟩] 23 (0, 0)) := by
  have hsz : (allocs w1 (osRnd w1 s t c)).heap.size = w1.heap.size + 4 := allocs_size _ _
  have hUs : (txt (10 ^ c)).size ≤ 1000000 := txt_size6 (pow_fits c hc)
  have hs01 : ((w.alloc (.cells #[.string s, .string t] 23)).alloc (.cells #[.string ⟨#[]⟩, .string ⟨#[]⟩] 23)).heap.size = w.heap.size + 2 := by rw [World.size_alloc, World.size_alloc]
  have hw1 : w.heap.size + 2 ≤ w1.heap.size := by have := hB0.size; rw [hs01] at this; exact this
  have r0 : w1.heap[w.heap.size]? = some (.cells #[.string s, .string t] 23 (0, 0)) := (hB0.block w.heap.size (by rw [hs01]; omega)).trans (res_old w _ _)
  have r1 : w1.heap[w.heap.size + 1]? = some (.cells #[.string ⟨#[]⟩, .string ⟨#[]⟩] 23 (0, 0)) := (hB0.block (w.heap.size + 1) (by rw [hs01]; omega)).trans (by
    have := World.alloc_heap_new (w.alloc (.cells #[.string s, .string t] 23)) (.cells #[.string ⟨#[]⟩, .string ⟨#[]⟩] 23)
    rwa [World.size_alloc] at this)
  have hXw := allocs_below w1 (osRnd w1 s t c)
  have x0 := (hXw.block w.heap.size (by omega)).trans r0
  have x1 := (hXw.block (w.heap.size + 1) (by omega)).trans r1
  have g0 := allocs_get w1 (osRnd w1 s t c) 0 _ rfl
  have g1 := allocs_get w1 (osRnd w1 s t c) 1 _ rfl
  have g2 := allocs_get w1 (osRnd w1 s t c) 2 _ rfl
  have g3 := allocs_get w1 (osRnd w1 s t c) 3 _ rfl
  have hBw : Below (allocs w1 (osRnd w1 s t c)).heap.size (allocs w1 (osRnd w1 s t c)) w4 := hB1.trans (hB2.mono (by omega))
  have k2 := (hBw.block (w1.heap.size + 2) (by omega)).trans g2
  have k3 := (hBw.block (w1.heap.size + 3) (by omega)).trans g3
  have q1 := (hBw.block (w.heap.size + 1) (by omega)).trans x1
  have hk : Enters Tryz.prog 49 := enters_of Tryz.func49 (by kernel_rfl) rfl
  have hR := ready_abs (X := (allocs w1 (osRnd w1 s t c))) (W := w4) (base := w.heap.size) (rI := w1.heap.size + 1) (n0 := ⟨#[]⟩) (d0 := (txt (10 ^ c))) (es' := [(w.heap.size, 0, s), (w.heap.size, 1, t), (w1.heap.size, 0, (txt (10 ^ c)))])
    (ps := [((93, #[.pointer (some ⟨w1.heap.size + 1 + 1 + 1, 0, none⟩)]), fun st => if qsOk [(s, t)] then some st else none), (cloF (w1.heap.size + 4), fun st => (opMul (st 2) (st 4)).map (upd st 0)), (cloF w3.heap.size, fun st => (op (st 0) (st 3)).map (upd st 0))])
    (by
      intro e he
      simp only [List.mem_cons, List.not_mem_nil, or_false] at he
      rcases he with rfl | rfl | rfl | rfl | rfl
      · exact ⟨⟨_, _, g1, rfl, by decide⟩, by show _ ≤ _ + 1; omega, by show (⟨#[]⟩ : ByteArray).size ≤ _; decide⟩
      · exact ⟨⟨_, _, g1, rfl, by decide⟩, by show _ ≤ _ + 1; omega, hUs⟩
      · exact ⟨⟨_, _, x0, rfl, by decide⟩, Nat.le_refl _, hs⟩
      · exact ⟨⟨_, _, x0, rfl, by decide⟩, Nat.le_refl _, ht⟩
      · exact ⟨⟨_, _, g0, rfl, by decide⟩, by show _ ≤ w1.heap.size; omega, hUs⟩)
    (by simp; omega) (by omega) hBw (by simp)
    (by
      intro p hp
      simp only [List.mem_cons, List.not_mem_nil, or_false] at hp
      rcases hp with rfl | rfl | rfl
      · refine .inr ⟨w1.heap.size + 3, w1.heap.size + 2, 1, [(s, t)], rfl, k3, by simp, ?_, ?_, by omega, by omega⟩
        · intro i hi
          match i, hi with
          | 0, _ => exact ⟨cell_of_row w4 _ 0 _ _ _ k2, cell_of_row w4 _ 1 _ _ _ k2, hs, ht⟩
        · intro e he
          simp only [List.mem_cons, List.not_mem_nil, or_false] at he
          rcases he with rfl | rfl | rfl | rfl | rfl <;> constructor <;> simp <;> omega
      · exact .inl ⟨0, 2, 4, _, opMul, w1.heap.size + 4, by simp, by simp, by simp, rfl, hk, opC_Mul, op2_small, by decide, (hsz ▸ hI1).keep (Rim.of_below (bs := fun _ => False) hB2) (fun _ _ _ h => h), by omega, by omega⟩
      · exact .inl ⟨0, 0, 3, k, op, w3.heap.size, by simp, by simp, by simp, rfl, hke, hop, hsm, by decide, hI2, by omega, by omega⟩)
  have hw4 := hBw.size
  have := build_any _ _ _ _ _ _ _ hR
  rw [rnd_out] at this
  refine this.mono ?_
  rintro e w' ⟨h1, h2, h3⟩
  refine ⟨h1, h2, h3.heap (k := w.heap.size + 1) ((Below.heap_alloc w4 _ _ (by omega)).trans q1) ?_⟩
  rintro (⟨a, ha, hk⟩ | hk)
  · simp only [List.map_cons, List.map_nil, List.mem_cons, List.not_mem_nil, or_false, adA] at ha
    rcases ha with rfl | rfl | rfl | rfl | rfl <;> simp at hk <;> omega
  · simp [Value.ownBlock] at hk; omega
theorem two_past (W : World) (o p : Obj) (a : Addr) (h : a.block < W.heap.size) : ((W.alloc o).alloc p).cell? a = W.cell? a := by
  refine World.cell?_of_block ?_
  rw [Below.heap_alloc _ _ _ (by rw [World.size_alloc]; omega), Below.heap_alloc _ _ _ h]
set_option maxHeartbeats 2000000 in
theorem rounded_all (s t : ByteArray) (hs : s.size ≤ 1000000) (ht : t.size ≤ 1000000) (c : Nat) (hc : c ≤ 30) (k : Nat) (op : ByteArray → ByteArray → Option ByteArray) (hke : Enters Tryz.prog k) (hop : OpC k op) (hsm : ∀ s t u : ByteArray, s.size ≤ 1000000 → op s t = some u → u.size ≤ 1000000) (w : World) :
    Calls Tryz.prog 55 #[rv s t, .int .i64 c, .func (.func k) #[] #[]] w fun e w' => e = .returned (bR (rndR op s t c)) ∧ Below w.heap.size w w' := by
  have hb := fun (w1 w3 w4 : World) => rnd_build s t hs ht c hc k op hke hop hsm (w := w) (w1 := w1) (w3 := w3) (w4 := w4)
  have hr := fun W => Repeat_all c hc W
  have hu := units_eq c hc
  have hz : (⟨(Lib.repeatL [48] c).toArray⟩ : ByteArray).size ≤ 1000 := by
    have h : ∀ c : Fin 31, (⟨(Lib.repeatL [48] c.val).toArray⟩ : ByteArray).size ≤ 1000 := by decide +kernel
    exact h ⟨c, by omega⟩
  obtain ⟨n, d, e0, ho⟩ := bR_form (rndR op s t c)
  rw [ho] at hb ⊢
  clear ho hop hsm hke
  generalize (⟨(Lib.repeatL [48] c).toArray⟩ : ByteArray) = z at *
  unfold clo at hb
  unfold rv
  go_enter Tryz.func55, Tryz.ntmps55
  go_wp2_with (first | (go_at_call 86; refine (hr _).mono ?_; rintro e w1 ⟨rfl, hB0⟩; have f0 := hB0.size; simp only [World.size_alloc] at f0; have f1 : w.heap.size < w1.heap.size := (by omega); have f2 : w.heap.size < w1.heap.size + 1 := (by omega); have f3 : w.heap.size ≠ w1.heap.size := (by omega); have f4 : w.heap.size ≠ w1.heap.size + 1 := (by omega); obtain ⟨a0, a1, a2, a3⟩ := cell_box ((hB0.block w.heap.size (by simp; omega)).trans (res_old w _ _)); have b0 := (two_past w1 (.cells #[.string (txt (10 ^ c))] 9) (.cells #[.string ⟨#[]⟩, .string (txt (10 ^ c))] 23) ⟨w.heap.size, 0, none⟩ f1).trans a0; have b1 := (two_past w1 (.cells #[.string (txt (10 ^ c))] 9) (.cells #[.string ⟨#[]⟩, .string (txt (10 ^ c))] 23) ⟨w.heap.size, 1, none⟩ f1).trans a1) | (go_at_call 67; refine (valid_any _ 1 _ 1 _ rfl).mono ?_; rintro e w2 ⟨rfl, rfl⟩) | (go_at_call 68; (have q := hI1; clear q); refine (into_any _ _ _ _ _).mono ?_; rintro e w4 ⟨rfl, hI2, hB2, hs2⟩) | (go_at_call 68; refine (into_any _ _ _ _ _).mono ?_; rintro e w3 ⟨rfl, hI1, hB1, hs1⟩) | (go_at_call 59; refine (hb w1 w3 w4 hB0 hI1 hB1 hs1 hI2 hB2 hs2).mono ?_; rintro e w5 ⟨rfl, hB4, hq⟩; obtain ⟨c0, c1, z0, z1⟩ := cell_box hq))
  have k0 := cell_two w5 (w.heap.size + 1) (.string n) (.string d) _ _ c0 c1
  have s1 := hB0.size
  have s2 := hB1.size
  have s3 := hB2.size
  simp only [World.size_alloc] at s1
  have hX := allocs_below w1 (osRnd w1 s t c)
  have h0 : Below w.heap.size w w1 := (((Below.refl w.heap.size w).alloc (Nat.le_refl _) _).alloc (by simp) _).trans (hB0.mono (by simp; omega))
  have t1 := hX.size
  have t2 : (allocs w1 (osRnd w1 s t c)).heap.size ≤ w3.heap.size := s2
  have hB5 : Below w.heap.size w w5 := ((((h0.trans (hX.mono (by omega))).trans (hB1.mono (by show _ ≤ (allocs w1 (osRnd w1 s t c)).heap.size; omega))).trans (hB2.mono (by omega))).alloc (by omega) _).trans hB4
  refine bodyPost_ret (v := .tuple #[.agg #[.string n, .string d], .int .i64 e0]) (by simp [results, Tryz.results55, go_sem, k0.1, k0.2]) rfl ⟨rfl, (hB5.setCell (by simp) _).setCell (by simp) _⟩
set_option maxHeartbeats 1000000 in
theorem rounded_bad (s t : ByteArray) (c : Int) (hc : c < 0 ∨ 30 < c) (f : Value) (w : World) :
    Calls Tryz.prog 55 #[rv s t, .int .i64 c, f] w fun e w' => e = .returned (bR none) ∧ Below w.heap.size w w' := by
  unfold rv bR
  unfold rv
  rcases hc with hc | hc
  · go_enter Tryz.func55, Tryz.ntmps55
    go_wp2
    refine bodyPost_ret (v := .tuple #[.agg #[.string ⟨#[]⟩, .string ⟨#[]⟩], .int .i64 40]) (by simp [results, Tryz.results55, go_sem]) rfl ⟨rfl, ((Below.refl w.heap.size w).alloc (Nat.le_refl _) _).alloc (by simp) _⟩
  · have hc0 : ¬ c < 0 := by omega
    go_enter Tryz.func55, Tryz.ntmps55
    go_wp2
    refine bodyPost_ret (v := .tuple #[.agg #[.string ⟨#[]⟩, .string ⟨#[]⟩], .int .i64 40]) (by simp [results, Tryz.results55, go_sem]) rfl ⟨rfl, ((Below.refl w.heap.size w).alloc (Nat.le_refl _) _).alloc (by simp) _⟩
end Rt
end Go.Proofs.YtappobhpdpfojaaGreat
