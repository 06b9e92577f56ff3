/-
  What the callers of build lay ready.
-/
import Derived.Test.YtappobhpdpfojaaGreatRatC
namespace Go.Proofs.YtappobhpdpfojaaGreat
set_option maxRecDepth 1000000
namespace Rt
open Go.RowKit Nm

def allocs (w : World) (os : List Obj) : World := os.foldl (fun W o => W.alloc o) w
theorem allocs_snoc (w : World) (os : List Obj) (o : Obj) : allocs w (os ++ [o]) = (allocs w os).alloc o := by simp [allocs]
theorem allocs_size (w : World) : ∀ os : List Obj, (allocs w os).heap.size = w.heap.size + os.length := by
  intro os
  induction os generalizing w with
  | nil => rfl
  | cons o os ih =>
    show (allocs (w.alloc o) os).heap.size = _
    rw [ih, World.size_alloc, List.length_cons]; omega
theorem allocs_below (w : World) : ∀ os : List Obj, Below w.heap.size w (allocs w os) := by
  intro os
  induction os generalizing w with
  | nil => exact Below.refl _ _
  | cons o os ih =>
    have := ih (w.alloc o)
    rw [World.size_alloc] at this
    exact ((Below.refl w.heap.size w).alloc (Nat.le_refl _) o).trans (this.mono (by omega))
theorem allocs_get (w : World) : ∀ (os : List Obj) (i : Nat) (o : Obj), os[i]? = some o → (allocs w os).heap[w.heap.size + i]? = some o := by
  intro os
  induction os generalizing w with
  | nil => intro i o h; cases h
  | cons p os ih =>
    intro i o h
    cases i with
    | zero =>
      injection h with h
      subst h
      have hb := allocs_below (w.alloc p) os
      rw [World.size_alloc] at hb
      exact (hb.block w.heap.size (by omega)).trans (World.alloc_heap_new w p)
    | succ i =>
      have := ih (w.alloc p) i o (by simpa using h)
      rw [World.size_alloc] at this
      rw [show w.heap.size + (i + 1) = w.heap.size + 1 + i from by omega]
      exact this
/-- an entry: the block's place, the cell's place in it, its string -/
abbrev Ent := Nat × Nat × ByteArray
def adE (b : Nat) (e : Ent) : Addr := ⟨b + e.1, e.2.1, none⟩
def stE (es : List Ent) : St := fun i => (es.getD i (0, 0, ⟨#[]⟩)).2.2
def InOs (os : List Obj) (e : Ent) : Prop := ∃ (cs : Array Value) (T : TypeId), os[e.1]? = some (.cells cs T (0, 0)) ∧ cs[e.2.1]? = some (.string e.2.2) ∧ T ≠ 79
structure IntoSpec (w : World) (os : List Obj) (es : List Ent) (W : World) (p : (Nat × Array Value) × (St → Option St)) : Prop where
  it : ∃ (i j l k : Nat) (op : ByteArray → ByteArray → Option ByteArray) (B : Nat) (hi : i < es.length) (hj : j < es.length) (hl : l < es.length), p = (cloF B, fun st => (op (st j) (st l)).map (upd st i)) ∧ Enters Tryz.prog k ∧ OpC k op ∧ (∀ s t u : ByteArray, s.size ≤ 1000000 → op s t = some u → u.size ≤ 1000000) ∧ l ≠ i ∧
    IntoAt W B (adE w.heap.size es[i]) (.func (.func k) #[] #[]) (adE w.heap.size es[j]) (adE w.heap.size es[l]) ∧ w.heap.size + os.length ≤ B ∧ B + 3 < W.heap.size
structure ValidSpec (w : World) (os : List Obj) (es : List Ent) (W : World) (p : (Nat × Array Value) × (St → Option St)) : Prop where
  it : ∃ (b g cap : Nat) (l : List (ByteArray × ByteArray)), p = ((93, #[.pointer (some ⟨b, 0, none⟩)]), fun st => if qsOk l then some st else none) ∧ Boxed W b 30 (.slice (some ⟨g, 0, none⟩) l.length cap) ∧ l.length ≤ 1000 ∧
    (∀ (i : Nat) (h : i < l.length), W.cell? ⟨g, i * 2, none⟩ = some (.string l[i].1) ∧ W.cell? ⟨g, i * 2 + 1, none⟩ = some (.string l[i].2) ∧ l[i].1.size ≤ 1000000 ∧ l[i].2.size ≤ 1000000) ∧
    (∀ e ∈ es, w.heap.size + e.1 ≠ b ∧ w.heap.size + e.1 ≠ g) ∧ b < W.heap.size ∧ g < W.heap.size
theorem ready_gen {w W : World} {os : List Obj} {rI : Nat} {n0 d0 : ByteArray} {es' : List Ent} {ps : Ps} (hes : ∀ e ∈ ((rI, 0, n0) :: (rI, 1, d0) :: es' : List Ent), InOs os e ∧ e.2.2.size ≤ 1000000)
    (hnd : (((rI, 0, n0) :: (rI, 1, d0) :: es' : List Ent).map fun e => (e.1, e.2.1)).Nodup) (hb : Below (w.heap.size + os.length) (allocs w os) W) (hlen : ps.length ≤ 10)
    (hst : ∀ p ∈ ps, IntoSpec w os ((rI, 0, n0) :: (rI, 1, d0) :: es') W p ∨ ValidSpec w os ((rI, 0, n0) :: (rI, 1, d0) :: es') W p) :
    Ready w.heap.size (w.heap.size + rI) ps (.slice (some ⟨W.heap.size, 0, none⟩) ps.length ps.length) (es'.map (adE w.heap.size)) (stE ((rI, 0, n0) :: (rI, 1, d0) :: es')) (W.alloc (.cells (ps.map fun p => fval p.1).toArray 79)) := by
  have eAd : (⟨w.heap.size + rI, 0, none⟩ :: ⟨w.heap.size + rI, 1, none⟩ :: es'.map (adE w.heap.size) : List Addr) = ((rI, 0, n0) :: (rI, 1, d0) :: es' : List Ent).map (adE w.heap.size) := rfl
  have eLen : es'.length + 2 = ((rI, 0, n0) :: (rI, 1, d0) :: es' : List Ent).length := rfl
  have hWl : w.heap.size + os.length ≤ W.heap.size := by have := hb.size; rw [allocs_size] at this; exact this
  have hos : ∀ e ∈ ((rI, 0, n0) :: (rI, 1, d0) :: es' : List Ent), e.1 < os.length := fun e he => by
    obtain ⟨⟨cs, T, h, _⟩, _⟩ := hes e he
    exact (List.getElem?_eq_some_iff.1 h).1
  have hblk : ∀ e ∈ ((rI, 0, n0) :: (rI, 1, d0) :: es' : List Ent), ∃ cs T, (W.alloc (.cells (ps.map fun p => fval p.1).toArray 79)).heap[w.heap.size + e.1]? = some (.cells cs T (0, 0)) ∧ cs[e.2.1]? = some (.string e.2.2) ∧ T ≠ 79 := fun e he => by
    obtain ⟨⟨cs, T, h, h2, h3⟩, _⟩ := hes e he
    have := hos e he
    refine ⟨cs, T, ?_, h2, h3⟩
    rw [Below.heap_alloc _ _ _ (by omega), hb.block _ (by omega)]
    exact allocs_get w os _ _ h
  have hrow : (W.alloc (.cells (ps.map fun p => fval p.1).toArray 79)).heap[W.heap.size]? = some (.cells (ps.map fun p => fval p.1).toArray 79 (0, 0)) := World.alloc_heap_new W _
  have hsz : (W.alloc (.cells (ps.map fun p => fval p.1).toArray 79)).heap.size = W.heap.size + 1 := World.size_alloc _ _
  have hB1 : Rim (fun _ => False) W (W.alloc (.cells (ps.map fun p => fval p.1).toArray 79)) := Rim.of_below ((Below.refl _ W).alloc (Nat.le_refl _) _)
  generalize hWe : W.alloc (.cells (ps.map fun p => fval p.1).toArray 79) = We at *
  clear hWe
  generalize hesE : ((rI, 0, n0) :: (rI, 1, d0) :: es' : List Ent) = es at *
  have hdup : (es.map (adE w.heap.size)).Nodup := by
    rw [List.Nodup, List.pairwise_map] at hnd ⊢
    refine hnd.imp ?_
    intro a b hab e
    apply hab
    injection e with e1 e2
    rw [Prod.mk.injEq]
    exact ⟨by omega, e2⟩
  have hapart : ∀ k, blk (es.map (adE w.heap.size)) k → ∃ e ∈ es, w.heap.size + e.1 = k := by
    rintro k ⟨a, ha, rfl⟩
    obtain ⟨e, he, rfl⟩ := List.mem_map.1 ha
    exact ⟨e, he, rfl⟩
  refine ⟨hlen, ⟨by simp, .inr ⟨W.heap.size, ps.length, _, rfl, by omega, hrow, Nat.le_refl _, by unfold maxLen; omega, by simp, by simp only [Nat.mul_one]; exact List.take_of_length_le (by simp)⟩⟩, by omega, ?_, by rw [eAd]; exact hdup, ?_, ?_, ?_, ?_⟩
  · rw [eAd]
    refine ⟨fun i hi => ?_, fun i hi => ?_⟩
    · have hi' : i < es.length := by simpa using hi
      obtain ⟨cs, T, h1, h2, _⟩ := hblk es[i] (List.getElem_mem hi')
      rw [List.getElem_map]
      have e1 : stE es i = es[i].2.2 := by rw [stE, List.getD_eq_getElem?_getD, List.getElem?_eq_getElem hi']; rfl
      rw [e1]
      exact ⟨by rw [adE, cell_of_row We _ _ _ _ _ h1]; exact h2, by simp [adE, World.frozen?, h1]⟩
    · have hi' : i < es.length := by simpa using hi
      have e1 : stE es i = es[i].2.2 := by rw [stE, List.getD_eq_getElem?_getD, List.getElem?_eq_getElem hi']; rfl
      rw [e1]
      exact (hes _ (List.getElem_mem hi')).2
  · rw [List.length_map, eLen, stE, List.getD_eq_getElem?_getD, List.getElem?_eq_none (Nat.le_refl _)]; rfl
  · rw [eAd]
    intro a ha
    obtain ⟨e, he, rfl⟩ := List.mem_map.1 ha
    obtain ⟨cs, T, h1, _, h3⟩ := hblk e he
    exact ⟨by simp [adE], cs, T, h1, h3⟩
  · intro k hk
    rw [eAd]
    intro hc
    obtain ⟨e, he, rfl⟩ := hapart k hc
    have := hos e he
    simp [Value.ownBlock] at hk
    omega
  · intro d hd p hp
    have eA : adr (w.heap.size + rI) (es'.map (adE w.heap.size)) d = es.map (adE w.heap.size) ++ [d] := by rw [← eAd]; rfl
    rw [eA]
    have hbk : ∀ k, blk (es.map (adE w.heap.size) ++ [d]) k → (∃ e ∈ es, w.heap.size + e.1 = k) ∨ W.heap.size < k := by
      rintro k ⟨a, ha, rfl⟩
      rcases List.mem_append.1 ha with ha | ha
      · exact .inl (hapart _ ⟨a, ha, rfl⟩)
      · rw [List.mem_singleton.1 ha]; exact .inr (by omega)
    have hdupA : (es.map (adE w.heap.size) ++ [d]).Nodup := by
      rw [List.nodup_append]
      refine ⟨hdup, by simp, ?_⟩
      intro a ha b hb' e
      rw [List.mem_singleton] at hb'
      subst hb'
      subst e
      obtain ⟨e, he, h⟩ := hapart _ ⟨_, ha, rfl⟩
      have := hos e he
      omega
    have own : ∀ k, (Value.slice (some ⟨W.heap.size, 0, none⟩) ps.length ps.length).ownBlock = some k → k = W.heap.size := fun k hk => by
      simp [Value.ownBlock] at hk; omega
    rcases hst p hp with h | h
    · obtain ⟨i, j, l, k, op, B, hi, hj, hl, rfl, h1, h2, h3, h4, h5, h6, h7⟩ := h.it
      have gi : ∀ (i : Nat) (hi : i < es.length) (h' : i < (es.map (adE w.heap.size) ++ [d]).length), (es.map (adE w.heap.size) ++ [d])[i] = adE w.heap.size es[i] := fun i hi h' => by
        rw [List.getElem_append_left (by simpa using hi), List.getElem_map]
      have gl : (es.map (adE w.heap.size) ++ [d]).length = es.length + 1 := by simp
      refine into_step (i := i) (j := j) (l := l) h1 h2 h3 hdupA (by omega) (by omega) (by omega) h4 (by rw [gi i hi, gi j hj, gi l hl]; exact h5.keep hB1 (fun _ _ _ h => h)) ?_ (fun k hk => .inl hk)
      rintro k k1 k2 (hk | hk)
      · rcases hbk k hk with ⟨e, he, rfl⟩ | h
        · have := hos e he; omega
        · omega
      · have := own k hk; omega
    · obtain ⟨b, g, cap, l, rfl, h1, h2, h3, h4, h5, h6⟩ := h.it
      refine valid_step (hB1.heap h1 (fun h => h)) h2 (fun i hi => ?_) ?_ ?_
      · obtain ⟨q1, q2, q3, q4⟩ := h3 i hi
        have hbl := hB1.block g h6 (fun h => h)
        exact ⟨(World.cell?_of_block (a := ⟨g, i * 2, none⟩) hbl).trans q1, (World.cell?_of_block (a := ⟨g, i * 2 + 1, none⟩) hbl).trans q2, q3, q4⟩
      · rintro (hk | hk)
        · rcases hbk b hk with ⟨e, he, h⟩ | h
          · exact (h4 e he).1 h
          · omega
        · have := own b hk; omega
      · rintro (hk | hk)
        · rcases hbk g hk with ⟨e, he, h⟩ | h
          · exact (h4 e he).2 h
          · omega
        · have := own g hk; omega
end Rt
end Go.Proofs.YtappobhpdpfojaaGreat
