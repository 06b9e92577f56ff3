/-
  What a caller of build lays ready whose boxes are of two ages.
-/
import Derived.Test.YtappobhpdpfojaaGreatRatR
namespace Go.Proofs.YtappobhpdpfojaaGreat
set_option maxRecDepth 1000000
namespace Rt
open Go.RowKit Go.Proofs.YtappobhpdpfojaaGreat.Nm
def adA (e : Ent) : Addr := ⟨e.1, e.2.1, none⟩
def InW (X : World) (e : Ent) : Prop := ∃ (cs : Array Value) (T : TypeId), X.heap[e.1]? = some (.cells cs T (0, 0)) ∧ cs[e.2.1]? = some (.string e.2.2) ∧ T ≠ 79
structure IntoSpecA (X : World) (es : List Ent) (W : World) (p : (Nat × Array Value) × (St → Option St)) : Prop where
  it : ∃ (i j l k : Nat) (op : ByteArray → ByteArray → Option ByteArray) (B : Nat) (hi : i < es.length) (hj : j < es.length) (hl : l < es.length), p = (cloF B, fun st => (op (st j) (st l)).map (upd st i)) ∧ Enters Tryz.prog k ∧ OpC k op ∧ (∀ s t u : ByteArray, s.size ≤ 1000000 → op s t = some u → u.size ≤ 1000000) ∧ l ≠ i ∧
    IntoAt W B (adA es[i]) (.func (.func k) #[] #[]) (adA es[j]) (adA es[l]) ∧ X.heap.size ≤ B ∧ B + 3 < W.heap.size
structure ValidSpecA (X : World) (es : List Ent) (W : World) (p : (Nat × Array Value) × (St → Option St)) : Prop where
  it : ∃ (b g cap : Nat) (l : List (ByteArray × ByteArray)), p = ((93, #[.pointer (some ⟨b, 0, none⟩)]), fun st => if qsOk l then some st else none) ∧ Boxed W b 30 (.slice (some ⟨g, 0, none⟩) l.length cap) ∧ l.length ≤ 1000 ∧
    (∀ (i : Nat) (h : i < l.length), W.cell? ⟨g, i * 2, none⟩ = some (.string l[i].1) ∧ W.cell? ⟨g, i * 2 + 1, none⟩ = some (.string l[i].2) ∧ l[i].1.size ≤ 1000000 ∧ l[i].2.size ≤ 1000000) ∧
    (∀ e ∈ es, e.1 ≠ b ∧ e.1 ≠ g) ∧ b < W.heap.size ∧ g < W.heap.size
theorem ready_abs {X W : World} {base rI : Nat} {n0 d0 : ByteArray} {es' : List Ent} {ps : Ps} (hes : ∀ e ∈ ((rI, 0, n0) :: (rI, 1, d0) :: es' : List Ent), InW X e ∧ base ≤ e.1 ∧ e.2.2.size ≤ 1000000)
    (hnd : (((rI, 0, n0) :: (rI, 1, d0) :: es' : List Ent).map fun e => (e.1, e.2.1)).Nodup) (hbase : base ≤ X.heap.size) (hb : Below X.heap.size X W) (hlen : ps.length ≤ 10)
    (hst : ∀ p ∈ ps, IntoSpecA X ((rI, 0, n0) :: (rI, 1, d0) :: es') W p ∨ ValidSpecA X ((rI, 0, n0) :: (rI, 1, d0) :: es') W p) :
    Ready base rI ps (.slice (some ⟨W.heap.size, 0, none⟩) ps.length ps.length) (es'.map adA) (stE ((rI, 0, n0) :: (rI, 1, d0) :: es')) (W.alloc (.cells (ps.map fun p => fval p.1).toArray 79)) := by
  have eAd : (⟨rI, 0, none⟩ :: ⟨rI, 1, none⟩ :: es'.map adA : List Addr) = ((rI, 0, n0) :: (rI, 1, d0) :: es' : List Ent).map adA := rfl
  have eLen : es'.length + 2 = ((rI, 0, n0) :: (rI, 1, d0) :: es' : List Ent).length := rfl
  have hWl : X.heap.size ≤ W.heap.size := hb.size
  have hos : ∀ e ∈ ((rI, 0, n0) :: (rI, 1, d0) :: es' : List Ent), e.1 < X.heap.size := fun e he => by
    obtain ⟨⟨cs, T, h, _⟩, _⟩ := hes e he
    exact lt_of_block h
  have hblk : ∀ e ∈ ((rI, 0, n0) :: (rI, 1, d0) :: es' : List Ent), ∃ cs T, (W.alloc (.cells (ps.map fun p => fval p.1).toArray 79)).heap[e.1]? = some (.cells cs T (0, 0)) ∧ cs[e.2.1]? = some (.string e.2.2) ∧ T ≠ 79 := fun e he => by
    obtain ⟨⟨cs, T, h, h2, h3⟩, _⟩ := hes e he
    have := hos e he
    refine ⟨cs, T, ?_, h2, h3⟩
    rw [Below.heap_alloc _ _ _ (by omega), hb.block _ (by omega)]
    exact h
  have hrow : (W.alloc (.cells (ps.map fun p => fval p.1).toArray 79)).heap[W.heap.size]? = some (.cells (ps.map fun p => fval p.1).toArray 79 (0, 0)) := World.alloc_heap_new W _
  have hsz : (W.alloc (.cells (ps.map fun p => fval p.1).toArray 79)).heap.size = W.heap.size + 1 := World.size_alloc _ _
  have hB1 : Rim (fun _ => False) W (W.alloc (.cells (ps.map fun p => fval p.1).toArray 79)) := Rim.of_below ((Below.refl _ W).alloc (Nat.le_refl _) _)
  generalize hWe : W.alloc (.cells (ps.map fun p => fval p.1).toArray 79) = We at *
  clear hWe
  generalize hesE : ((rI, 0, n0) :: (rI, 1, d0) :: es' : List Ent) = es at *
  have hdup : (es.map adA).Nodup := by
    rw [List.Nodup, List.pairwise_map] at hnd ⊢
    refine hnd.imp ?_
    intro a b hab e
    apply hab
    injection e with e1 e2
    rw [Prod.mk.injEq]
    exact ⟨e1, e2⟩
  have hapart : ∀ k, blk (es.map adA) k → ∃ e ∈ es, e.1 = k := by
    rintro k ⟨a, ha, rfl⟩
    obtain ⟨e, he, rfl⟩ := List.mem_map.1 ha
    exact ⟨e, he, rfl⟩
  refine ⟨hlen, ⟨by simp, .inr ⟨W.heap.size, ps.length, _, rfl, by omega, hrow, Nat.le_refl _, by unfold maxLen; omega, by simp, by simp only [Nat.mul_one]; exact List.take_of_length_le (by simp)⟩⟩, by omega, ?_, by rw [eAd]; exact hdup, ?_, ?_, ?_, ?_⟩
  · rw [eAd]
    refine ⟨fun i hi => ?_, fun i hi => ?_⟩
    · have hi' : i < es.length := by simpa using hi
      obtain ⟨cs, T, h1, h2, _⟩ := hblk es[i] (List.getElem_mem hi')
      rw [List.getElem_map]
      have e1 : stE es i = es[i].2.2 := by rw [stE, List.getD_eq_getElem?_getD, List.getElem?_eq_getElem hi']; rfl
      rw [e1]
      exact ⟨by rw [adA, cell_of_row We _ _ _ _ _ h1]; exact h2, by simp [adA, World.frozen?, h1]⟩
    · have hi' : i < es.length := by simpa using hi
      have e1 : stE es i = es[i].2.2 := by rw [stE, List.getD_eq_getElem?_getD, List.getElem?_eq_getElem hi']; rfl
      rw [e1]
      exact (hes _ (List.getElem_mem hi')).2.2
  · rw [List.length_map, eLen, stE, List.getD_eq_getElem?_getD, List.getElem?_eq_none (Nat.le_refl _)]; rfl
  · rw [eAd]
    intro a ha
    obtain ⟨e, he, rfl⟩ := List.mem_map.1 ha
    obtain ⟨cs, T, h1, _, h3⟩ := hblk e he
    exact ⟨(hes e he).2.1, cs, T, h1, h3⟩
  · intro k hk
    rw [eAd]
    intro hc
    obtain ⟨e, he, rfl⟩ := hapart k hc
    have := hos e he
    simp [Value.ownBlock] at hk
    omega
  · intro d hd p hp
    have eA : adr rI (es'.map adA) d = es.map adA ++ [d] := by rw [← eAd]; rfl
    rw [eA]
    have hbk : ∀ k, blk (es.map adA ++ [d]) k → (∃ e ∈ es, e.1 = k) ∨ W.heap.size < k := by
      rintro k ⟨a, ha, rfl⟩
      rcases List.mem_append.1 ha with ha | ha
      · exact .inl (hapart _ ⟨a, ha, rfl⟩)
      · rw [List.mem_singleton.1 ha]; exact .inr (by omega)
    have hdupA : (es.map adA ++ [d]).Nodup := by
      rw [List.nodup_append]
      refine ⟨hdup, by simp, ?_⟩
      intro a ha b hb' e
      rw [List.mem_singleton] at hb'
      subst hb'
      subst e
      obtain ⟨e, he, h⟩ := hapart _ ⟨_, ha, rfl⟩
      have := hos e he
      omega
    have own : ∀ k, (Value.slice (some ⟨W.heap.size, 0, none⟩) ps.length ps.length).ownBlock = some k → k = W.heap.size := fun k hk => by
      simp [Value.ownBlock] at hk; omega
    rcases hst p hp with h | h
    · obtain ⟨i, j, l, k, op, B, hi, hj, hl, rfl, h1, h2, h3, h4, h5, h6, h7⟩ := h.it
      have gi : ∀ (i : Nat) (hi : i < es.length) (h' : i < (es.map adA ++ [d]).length), (es.map adA ++ [d])[i] = adA es[i] := fun i hi h' => by
        rw [List.getElem_append_left (by simpa using hi), List.getElem_map]
      have gl : (es.map adA ++ [d]).length = es.length + 1 := by simp
      refine into_step (i := i) (j := j) (l := l) h1 h2 h3 hdupA (by omega) (by omega) (by omega) h4 (by rw [gi i hi, gi j hj, gi l hl]; exact h5.keep hB1 (fun _ _ _ h => h)) ?_ (fun k hk => .inl hk)
      rintro k k1 k2 (hk | hk)
      · rcases hbk k hk with ⟨e, he, rfl⟩ | h
        · have := hos e he; omega
        · omega
      · have := own k hk; omega
    · obtain ⟨b, g, cap, l, rfl, h1, h2, h3, h4, h5, h6⟩ := h.it
      refine valid_step (hB1.heap h1 (fun h => h)) h2 (fun i hi => ?_) ?_ ?_
      · obtain ⟨q1, q2, q3, q4⟩ := h3 i hi
        have hbl := hB1.block g h6 (fun h => h)
        exact ⟨(World.cell?_of_block (a := ⟨g, i * 2, none⟩) hbl).trans q1, (World.cell?_of_block (a := ⟨g, i * 2 + 1, none⟩) hbl).trans q2, q3, q4⟩
      · rintro (hk | hk)
        · rcases hbk b hk with ⟨e, he, h⟩ | h
          · exact (h4 e he).1 h
          · omega
        · have := own b hk; omega
      · rintro (hk | hk)
        · rcases hbk g hk with ⟨e, he, h⟩ | h
          · exact (h4 e he).2 h
          · omega
        · have := own g hk; omega
end Rt
end Go.Proofs.YtappobhpdpfojaaGreat
