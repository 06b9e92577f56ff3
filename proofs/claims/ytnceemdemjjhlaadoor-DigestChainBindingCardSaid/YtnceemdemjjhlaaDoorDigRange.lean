/-
  A range over an iterator that writes memory of its own between two rounds: the loop's body may write one block of the caller's alone.
-/
import Derived.RangeFuncNested
import Derived.RangeFuncBound
import Derived.RangeFuncCalls
import Derived.RangeFuncLeaves
import Derived.Shelf.Abstract
import Derived.Shelf.RegionOpen
import Derived.OwnWalkIn
import Derived.TacticsInMore
import Derived.LoopNIn
import Derived.LoopIn
import Derived.Test.YtnceemdemjjhlaaDoorDigComp
namespace Go.Proofs.YtnceemdemjjhlaaDoor
open Go.RowKit Go.Shelf

/-- what holds of a world whatever is turned from block B on -/
def AbC {β : Type} (B : Nat) (J : β → World → Prop) : Prop := ∀ s A C row, J s A → A.grownBy C row → (∀ r, row = some r → B ≤ r) → J s C
/-- all blocks but s are kept -/
def Kept (s : Nat) (A C : World) : Prop := A.heap.size ≤ C.heap.size ∧ ∀ (k : Nat) (o : Obj), k ≠ s → A.heap[k]? = some o → C.heap[k]? = some o
/-- all blocks of cells but s are kept -/
def KeptC (s : Nat) (A C : World) : Prop := A.heap.size ≤ C.heap.size ∧ ∀ (k : Nat) (o : Obj), k ≠ s → o.isCells = true → A.heap[k]? = some o → C.heap[k]? = some o
theorem Kept.refl (s : Nat) (A : World) : Kept s A A := ⟨Nat.le_refl _, fun _ _ _ h => h⟩
theorem Kept.trans {s : Nat} {A B C : World} (h : Kept s A B) (k : Kept s B C) : Kept s A C := ⟨Nat.le_trans h.1 k.1, fun i o hi ho => k.2 i o hi (h.2 i o hi ho)⟩
theorem KeptC.trans {s : Nat} {A B C : World} (h : KeptC s A B) (k : KeptC s B C) : KeptC s A C := ⟨Nat.le_trans h.1 k.1, fun i o hi hc ho => k.2 i o hi hc (h.2 i o hi hc ho)⟩
theorem Kept.c {s : Nat} {A B : World} (h : Kept s A B) : KeptC s A B := ⟨h.1, fun i o hi _ ho => h.2 i o hi ho⟩
theorem Kept.of_below {s : Nat} {A C : World} (h : Below A.heap.size A C) : Kept s A C := ⟨h.size, fun k _ _ ho => (h.block k (Array.getElem?_eq_some_iff.1 ho).1).trans ho⟩
theorem Kept.setRow (s : Nat) (A : World) (c : Array Value) : Kept s A (A.setRow s c) := ⟨by simp [World.setRow], fun k o hk ho => (setRow_other A s k c hk).trans ho⟩
theorem KeptC.put (s : Nat) (W : World) (l : Nat) (o o' : Obj) (h : W.heap[l]? = some o) (hc : o.isCells = false) : KeptC s W (W.putObj l o') :=
  ⟨by simp, fun k o2 _ hk ho => by
    have : k ≠ l := by intro e; subst e; rw [h] at ho; cases ho; rw [hc] at hk; cases hk
    exact (World.putObj_heap_other (fun e => this e)).trans ho⟩
theorem RowAt.keptC {s : Nat} {A C : World} {b : Nat} {c : Array Value} {t : TypeId} (h : RowAt A b c t) (hk : KeptC s A C) (hb : b ≠ s) : RowAt C b c t := hk.2 b _ hb rfl h
theorem AbC.put {β : Type} {B : Nat} {J : β → World → Prop} (h : AbC B J) {s : β} {W : World} {l : Nat} (o : Obj) (hs : J s W) (hl : B ≤ l) : J s (W.putObj l o) :=
  h s W _ (some l) hs (grownBy_putObj' W l o) (fun r e => by cases e; exact hl)
theorem AbC.alloc {β : Type} {B : Nat} {J : β → World → Prop} (h : AbC B J) {s : β} {W : World} (o : Obj) (hs : J s W) : J s (W.alloc o) :=
  h s W _ none hs (World.grownBy_alloc W o none) (fun r e => by cases e)
theorem AbC.below {β : Type} {B : Nat} {J : β → World → Prop} (h : AbC B J) {s : β} {W : World} (f : World → World) (r : Nat) (hs : J s W) (hg : W.grownBy (f W) (some r)) (hr : B ≤ r) : J s (f W) :=
  h s W _ (some r) hs hg (fun q e => by cases e; exact hr)

variable {F : Fence} {n : Nat} {P : Program}

theorem wpIn_rangeC {α : Type} {g : Operand} {ps : Array Tmp} {assign body : Code} {Q : Exit → Act → World → Prop} {a : Act} {w : World}
    (hro : F.round = none) (h1 : 1 ≤ n) {gf : Nat} {lb : Array Value} (hg : a.eval g = .func (.func gf) #[] lb) (hFg : F.fn gf) (eg : ∀ args w, (callFunc gf args).run P w = .ok (.enter gf args) w)
    {encs : α → Array Value} {S : List α → Prop} (s : Nat) (hs : s < w.heap.size)
    (hseq : ∀ (l : Nat) (J : List α → World → Prop) (W : World), Below w.heap.size w W → AbC W.heap.size J →
      (∀ pre x W1, J pre W1 → YieldAt F (n - 1 - 1) P l (encs x) W1 fun e W' => e = .returned (.bool true) ∧ J (pre ++ [x]) W' ∧ KeptC s W1 W') → J [] W →
      CallsIn F (n - 1) P gf (#[.func (.yield l) #[] #[]] ++ lb) W fun e W' => (∃ v, e = .returned v) ∧ ∃ xs, S xs ∧ J xs W')
    (hps : ∀ x, (encs x).size = ps.size) (I : List α → World → Prop) (hI : AbC w.heap.size I) (h0 : I [] w)
    (Ax : α → Act → World → Prop) (hAx : ∀ x a', OwnFrom w.heap.size (fun (_ : Unit) W => Ax x a' W))
    (hassign : ∀ (l : Nat) (pre : List α) (x : α) (W : World) (K : Act → World → Prop), I pre W → (∀ a' W', Kept s W W' → I pre W' → Ax x a' W' → K a' W') →
      assign.wpIn (F.inRound l) (n - 1 - 1) P (Exit.then K (fun _ _ _ => False)) { tmps := (ps.zip (encs x)).foldl (fun t (p, v) => t.setIfInBounds p v) a.tmps, defers := [] } W)
    (hbody : ∀ (l : Nat) (pre : List α) (x : α) (a' : Act) (W : World), I pre W → Ax x a' W →
      body.wpIn (F.inRound l) (n - 1 - 1) P (Exit.then (fun _ W' => Kept s W W' ∧ I (pre ++ [x]) W') (fun _ _ _ => False)) a' W)
    (hdone : ∀ (D : Nat) (xs : List α) (W : World), w.heap.size ≤ D → S xs → I xs W → W.heap[D]? = some (.deferred (some [])) → Q .normal { a with defers := { target := .collected D, args := #[] } :: a.defers } W) :
    (Code.rangeFunc g ps assign body).wpIn F n P Q a w := by
  refine wpIn_rangeFunc fun fn hfn => ?_
  rw [hro]
  let rec0 : LoopState → Loop := fun st => { state := st, pending := none, fn, tmps := a.tmps, params := ps, assign, body, defers := w.heap.size }
  have hrec0 : ∀ st, rec0 st = { state := st, pending := none, fn, tmps := a.tmps, params := ps, assign, body, defers := w.heap.size } := fun _ => rfl
  obtain ⟨W1, hW1⟩ : ∃ W1, W1 = (w.alloc (.deferred (some []))).alloc (.loop (rec0 .ready)) := ⟨_, rfl⟩
  have zW1 : W1.heap.size = w.heap.size + 2 := by rw [hW1, World.size_alloc, World.size_alloc]
  have hL1 : W1.heap[w.heap.size + 1]? = some (.loop (rec0 .ready)) := by
    have := World.alloc_heap_new (w.alloc (.deferred (some []))) (.loop (rec0 .ready)); rw [World.size_alloc] at this; rw [hW1]; exact this
  have hK1 : W1.heap[w.heap.size]? = some (.deferred (some [])) := by
    rw [hW1]; exact (World.heap_alloc_keep _ _ (by rw [World.size_alloc]; omega)).trans (World.alloc_heap_new w _)
  refine ⟨w.heap.size + 1, [{ target := .collected w.heap.size, args := #[] }], W1, { target := .fn (.func gf) lb, args := #[.func (.yield (w.heap.size + 1)) #[] #[]] }, W1, gf,
    #[.func (.yield (w.heap.size + 1)) #[] #[]] ++ lb, W1, ?_, ?_, ?_, ?_, fun _ => h1, ?_⟩
  · rw [hW1]; exact run_enterLoop_outer _ _ _ _ _
  · simp only [resolve, hg]
    simp [go_sem]
  · intro f' hf'; simp [Target.leads] at hf'; subst hf'; exact hFg
  · simp [invoke, go_sem, eg]
  · have keep : ∀ {A C : World} {row : Option Nat} {k : Nat} {o : Obj}, A.grownBy C row → (∀ r, row = some r → W1.heap.size ≤ r) → k < W1.heap.size → A.heap[k]? = some o → C.heap[k]? = some o :=
      fun hg' hr hk ho => (hg'.block _ (Array.getElem?_eq_some_iff.1 ho).1 (fun e => by have := hr _ e.symm; omega)).trans ho
    refine (hseq (w.heap.size + 1) (fun pre W => I pre W ∧ W.heap[w.heap.size + 1]? = some (.loop (rec0 .ready)) ∧ W.heap[w.heap.size]? = some (.deferred (some []))) W1
      (by rw [hW1]; exact ((Below.refl _ w).alloc (Nat.le_refl _) _).alloc (by rw [World.size_alloc]; omega) _)
      (fun t A C row ht hg' hr => ⟨hI t A C row ht.1 hg' (fun r e => by have := hr r e; omega), keep hg' hr (by omega) ht.2.1, keep hg' hr (by omega) ht.2.2⟩) ?_
      ⟨by rw [hW1]; exact hI.alloc _ (hI.alloc _ h0), hL1, hK1⟩).mono ?_
    · rintro pre x W ⟨hi, hl, hk⟩
      have hy := run_yield (P := P) (args := encs x) hl (hps x)
      refine ⟨fn, _, assign, body, hy, roundIn_of_wpIn hfn (hassign _ pre x W _ hi fun a' Wa hka hia hax => ?_)⟩
      have hla := hka.2 _ _ (by omega) hl
      have hda := hka.2 _ _ (by omega) hk
      have hlt : w.heap.size + 1 < Wa.heap.size := (Array.getElem?_eq_some_iff.1 hla).1
      refine ⟨_, run_beginRound hla rfl, ?_⟩
      have hl2 : (Wa.putObj (w.heap.size + 1) (.loop { rec0 .ready with state := .busy })).heap[w.heap.size + 1]? = some (.loop { rec0 .ready with state := .busy }) := World.putObj_heap_same hlt
      have hd2 : (Wa.putObj (w.heap.size + 1) (.loop { rec0 .ready with state := .busy })).heap[w.heap.size]? = some (.deferred (some [])) := (World.putObj_heap_other (by omega)).trans hda
      refine wpIn_mono (hbody (w.heap.size + 1) pre x a' _ (hI.put _ hia (by omega)) ((hAx x a').putObj (s := ()) _ hax (by omega) hla rfl)) ?_
      intro e a3 W3 hp
      cases e with
      | normal =>
        obtain ⟨hk3, hi3⟩ := hp
        have hl3 := hk3.2 _ _ (by omega) hl2
        have hd3 := hk3.2 _ _ (by omega) hd2
        have hr := run_endRound (P := P) none hl3
        refine ⟨_, _, hr, rfl, ⟨hI.put _ hi3 (by omega), World.putObj_heap_same (Array.getElem?_eq_some_iff.1 hl3).1, (World.putObj_heap_other (by omega)).trans hd3⟩, ?_⟩
        exact hka.c.trans ((KeptC.put s Wa _ _ _ hla rfl).trans (hk3.c.trans (KeptC.put s W3 _ _ _ hl3 rfl)))
      | ret => exact hp.elim
      | exit id => exact hp.elim
      | goto t => exact hp.elim
      | panic ch => exact hp.elim
      | outgrown => exact hp.elim
    · rintro e W2 ⟨⟨v, rfl⟩, xs, hS, hi, hl, hk⟩
      exact ⟨none, _, run_endLoop (P := P) hl (by simp [hrec0]), hdone _ xs _ (Nat.le_refl _) hS (hI.put _ hi (by omega)) ((World.putObj_heap_other (by omega)).trans hk)⟩

theorem stepR_scope_own {b : Frame} {a : Act} {k : List Item} {cs : List Frame} {w : World} {c : Code} : step P (lone (b.atR a (.code (.scope c) :: k)) cs w) = .next (lone (b.atR a (.code c :: .inScope c :: k)) cs w) :=
  step_lone_go (by simp [stepG, stepG.exec, Frame.atR])
theorem stepR_inScope_own {b : Frame} {a : Act} {k : List Item} {cs : List Frame} {w : World} {c : Code} : step P (lone (b.atR a (.inScope c :: k)) cs w) = .next (lone (b.atR a k) cs w) :=
  step_lone_go (by simp [stepG, stepG.exec, Frame.atR])
/-- a scope whose labels no goto comes to, inside a fence -/
theorem wpIn_scope_own {c : Code} {a : Act} {w : World} {Q : Exit → Act → World → Prop} (h : c.wpIn F n P (Exit.noGoto Q) a w) : (Code.scope c).wpIn F n P Q a w := by
  intro b k cs hro hb hr
  have h0 : (lone (b.atR a (.code (.scope c) :: k)) cs w).fenced P F := fenced_calm hb hr rfl
  obtain ⟨e, a₁, w₁, hq, harr⟩ := h b (.inScope c :: k) cs hro hb hr
  cases e with
  | normal => exact ⟨.normal, a₁, w₁, hq, .head h0 stepR_scope_own (StepsIn.trans harr (.one (fenced_calm hb hr rfl) stepR_inScope_own))⟩
  | exit id =>
    have hx : exitTo id (.inScope c :: k) = exitTo id k := by simp [exitTo]
    exact ⟨.exit id, a₁, w₁, hq, fun k' hk => .head h0 stepR_scope_own (harr.1 k' (by rw [hx]; exact hk)),
      fun hr' hk => let ⟨k₁, h1, h2⟩ := harr.2 hr' (by rw [hx]; exact hk); ⟨k₁, h1, .head h0 stepR_scope_own h2⟩⟩
  | goto l => exact hq.elim
  | ret => exact ⟨_, a₁, w₁, hq, .of_steps (.one h0 stepR_scope_own) harr⟩
  | panic ch => exact ⟨_, a₁, w₁, hq, .of_steps (.one h0 stepR_scope_own) harr⟩
  | outgrown => exact ⟨_, a₁, w₁, hq, .of_steps (.one h0 stepR_scope_own) harr⟩

theorem wpListIn_load_row {ops : Array Oper} {rest : List Oper} {o : Oper} {a : Act} {w : World} {Q : Exit → Act → World → Prop} (hgd : o.guard = none) (ty : TypeId) (x : Operand) (ho : o.op = .load ty x)
    (g : Nat) (hx : a.eval x = .pointer (some ⟨g, 0, none⟩)) (t : TypeId) (cs : Array Value) (d : TypeDesc) (hg : RowAt w g cs t)
    (hu : P.underlying ty = some d) (hd : (match d with | .struct _ | .array _ _ => true | _ => false) = true) (hi : (P.info? ty).map (·.size) = some cs.size)
    (h : wpListIn F n P ops Q rest (a.put o.dst (.agg cs)) w) : wpListIn F n P ops Q (o :: rest) a w := by
  refine wpListIn_plain hgd fun K hK => ?_
  unfold Oper.wpIn
  refine ⟨?_, ?_⟩
  · intro f hf; simp [Oper.about, ho] at hf
  · rw [Oper.semAt_plain F _ _ (by rw [ho]; intro c hc; cases hc)]
    simp only [execOp, ho, hx, Instr.loadAt, Instr.sureAddr, Sem.run_bind, Sem.run_pure, Result.andThen_ok, run_loadVar_row w g t ty cs (0, 0) d hg hu hd hi]
    exact hK _ _ h
theorem wpListIn_store_row {ops : Array Oper} {rest : List Oper} {o : Oper} {a : Act} {w : World} {Q : Exit → Act → World → Prop} (hgd : o.guard = none) (ty : TypeId) (x y : Operand) (ho : o.op = .store ty x y)
    (g : Nat) (cells : Array Value) (hx : a.eval x = .pointer (some ⟨g, 0, none⟩)) (hy : a.eval y = .agg cells)
    (t : TypeId) (old : Array Value) (hg : RowAt w g old t) (hi : (P.info? ty).map (·.size) = some cells.size)
    (hold : old.size = cells.size) (h1 : cells.all (·.oneCell') = true)
    (h : wpListIn F n P ops Q rest (a.put o.dst undef) (w.setRow g cells)) : wpListIn F n P ops Q (o :: rest) a w := by
  refine wpListIn_plain hgd fun K hK => ?_
  unfold Oper.wpIn
  refine ⟨?_, ?_⟩
  · intro f hf; simp [Oper.about, ho] at hf
  · rw [Oper.semAt_plain F _ _ (by rw [ho]; intro c hc; cases hc)]
    simp only [execOp, ho, hx, hy, Instr.storeAt, Instr.sureAddr, Sem.run_bind, Sem.run_pure, Result.andThen_ok, run_storeVar_row w g t ty old cells hg hi hold h1]
    exact hK _ _ h
theorem grownBy_setRow (W : World) (g : Nat) (c : Array Value) : W.grownBy (W.setRow g c) (some g) := ⟨rfl, rfl, rfl, by simp [World.setRow], fun k _ hk => setRow_other W g k c (fun e => hk (by rw [e]))⟩
theorem grownBy_setCell_own (W : World) (g i : Nat) (v : Value) : W.grownBy (W.setCell ⟨g, i, none⟩ v) (some g) := ⟨rfl, rfl, rfl, by simp [World.setCell], fun k _ hk => heap_setCell_other W _ k v (fun e => hk (by rw [e]))⟩
theorem cell_keptC {s : Nat} {A C : World} {b i : Nat} {v : Value} (h : A.cell? ⟨b, i, none⟩ = some v) (hk : KeptC s A C) (hb : b ≠ s) : C.cell? ⟨b, i, none⟩ = some v := by
  unfold World.cell? at h ⊢
  cases ho : A.heap[b]? with
  | none => simp [ho] at h
  | some o =>
    cases o <;> simp [ho] at h
    rw [hk.2 b _ hb rfl ho]
    simpa using h
theorem slice_from (b u : Nat) (hu : u ≤ 64) (w : World) :
    Sem.run Tryd.prog (Instr.sliceAt 65 (.pointer (some ⟨b, 0, none⟩)) (some (.int .i64 (u : Int))) none none) w = .ok (.slice (some (if u = 64 then ⟨b, 0, none⟩ else ⟨b, u, none⟩)) (64 - u) (64 - u)) w := by
  have len : Tryd.prog.arrayLen 65 = 64 := by kernel_rfl
  have und : Tryd.prog.underlying 65 = some (.array (Tryd.prog.arrayLen 65) (Tryd.prog.elem 65)) := by kernel_rfl
  have sz : (Go.sizeOf (Tryd.prog.elem 65)).run Tryd.prog w = .ok 1 w := by kernel_rfl
  have h := run_sliceAt_array_l (P := Tryd.prog) w 65 ⟨b, 0, none⟩ und .i64 (u : Int) (by omega) (by rw [len]; omega)
  rw [h, sz, len]
  by_cases e : u = 64
  · simp [Result.andThen, slicedAt, e]
  · simp [Result.andThen, slicedAt, e, Addr.add, show ¬ 64 = u by omega]; omega
theorem u8s_toList (l : List Nat) : (u8s l).toList = l.map fun n : Nat => Value.int .u8 (n : Int) := by simp [u8s]
theorem splice_u8s (L M : List Nat) (o : Nat) : ((u8s L).toList.take o ++ (M.map fun n : Nat => Value.int .u8 (n : Int)) ++ (u8s L).toList.drop (o + M.length)).toArray = u8s (L.take o ++ M ++ L.drop (o + M.length)) := by
  rw [u8s_toList]; simp [u8s, List.map_take, List.map_drop]
theorem cells_one (M : List Nat) : ∀ v ∈ (M.map fun n : Nat => Value.int .u8 (n : Int)), v.oneCell' = true := by
  intro v hv; simp only [List.mem_map] at hv; obtain ⟨n, _, rfl⟩ := hv; rfl
theorem copy_str (W : World) (b o n dCap : Nat) (L : List Nat) (s : ByteArray) (ty : TypeId) (hr : RowAt W b (u8s L) 65) (hL : L.length = 64) (hn : n = min s.size (64 - o)) (ho : o ≤ 64) :
    Sem.run Tryd.prog (Builtin.copy_ #[42, 9] ty #[.slice (some ⟨b, o, none⟩) (64 - o) dCap, .string s]) W = .ok (.int .i64 (n : Int))
      (W.setRow b (u8s (L.take o ++ (Sh.bl s).take n ++ L.drop (o + n)))) := by
  have hM : ((Sh.bl s).take n).length = n := by rw [List.length_take, Sh.bl_len]; omega
  have hc : ((s.extract 0 n).data.map fun b : UInt8 => Value.int .u8 (b.toNat : Int)).toList = ((Sh.bl s).take n).map fun n : Nat => Value.int .u8 (n : Int) := by
    simp only [Sh.bl, ByteArray.data_extract, List.map_take, Array.toList_map, Array.toList_extract, List.extract_eq_take_drop, List.drop_zero, Nat.sub_zero, List.map_map]
    rfl
  have hst := run_storeCells_at Tryd.prog b o 65 (((Sh.bl s).take n).map fun n : Nat => Value.int .u8 (n : Int)) 0 (u8s L) W hr (by rw [List.length_map, hM, u8s_size, hL]; omega) (cells_one _)
  have hsz : (Go.sizeOf 5).run Tryd.prog W = .ok 1 W := by kernel_rfl
  have hmin : Nat.min s.size (64 - o) = n := hn.symm
  have hsp := splice_u8s L ((Sh.bl s).take n) o
  rw [hM] at hsp
  rw [Nat.add_zero, List.length_map, hM, hsp] at hst
  simp only [Builtin.copy_, List.getElem?_toArray, List.getElem?_cons_zero, List.getElem?_cons_succ, Sem.run_bind, Sem.run_pure, run_underlying Tryd.underlying42, Result.andThen, Builtin.lenOf, Builtin.firstCells, hsz, hmin, hc, hst]
  rfl
theorem clear_row (W : World) (b o n c : Nat) (p : Option Addr) (hp : 0 < n → p = some ⟨b, o, none⟩) (L : List Nat) (ty : TypeId) (hr : RowAt W b (u8s L) 65) (hL : o + n = L.length) :
    Sem.run Tryd.prog (Builtin.clear_ #[42] ty #[.slice p n c]) W = .ok (.tuple #[]) (W.setRow b (u8s (L.take o ++ List.replicate n 0))) := by
  by_cases h0 : n = 0
  · subst h0
    have e : L.take o ++ List.replicate 0 0 = L := by rw [List.replicate_zero, List.append_nil, List.take_of_length_le (by omega)]
    rw [e, setRow_self W b _ _ _ hr]
    cases p <;> simp [Builtin.clear_, run_underlying Tryd.underlying42]
  · obtain rfl := hp (by omega)
    have hst := run_storeCells_at Tryd.prog b o 65 ((List.replicate n 0).map fun n : Nat => Value.int .u8 (n : Int)) 0 (u8s L) W hr (by simp [u8s_size]; omega) (cells_one _)
    have hsp := splice_u8s L (List.replicate n 0) o
    rw [List.length_replicate] at hsp
    rw [Nat.add_zero, List.length_map, List.length_replicate, hsp, List.drop_of_length_le (show L.length ≤ o + n by omega), List.append_nil] at hst
    have hz : ∀ w, (zeroValue 5).run Tryd.prog w = .ok (.int .u8 0) w := fun w => by kernel_rfl
    have hzc : (Builtin.zeroCells (Value.int .u8 0).cells n).toList = (List.replicate n 0).map fun n : Nat => Value.int .u8 (n : Int) := by
      simp [Builtin.zeroCells, Value.cells]
      apply List.ext_getElem
      · simp
      · intro i h1 h2; simp [Nat.mod_one]
    obtain ⟨m, rfl⟩ : ∃ m, n = m + 1 := ⟨n - 1, by omega⟩
    rw [List.map_replicate] at hst hzc
    have hst' : Sem.run Tryd.prog (storeCells ⟨b, o, none⟩ (List.replicate (m + 1) (Value.int .u8 0))) W = _ := hst
    simp [Builtin.clear_, run_underlying Tryd.underlying42, hz, hzc, hst']

end Go.Proofs.YtnceemdemjjhlaaDoor
