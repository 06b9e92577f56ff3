/-
  What build lays ready for its loop.
-/
import Derived.Test.YtappobhpdpfojaaGreatRatX
namespace Go.Proofs.YtappobhpdpfojaaGreat
set_option maxRecDepth 1000000
namespace Rt
open Go.RowKit Nm
theorem step_append_own {P : Program} {ops : Array Oper} {o : Oper} {a : Act} {w : World} {K : Act → World → Prop} {Q : Exit → Act → World → Prop} {E : Prop}
    (hg : o.guard = none) (s x : Operand) (t : TypeId) (hop : o.op = Op.call { callee := Callee.builtin Builtin.append, args := #[s, x], argTypes := #[t, t] })
    (base : Nat) (e : TypeId) (i : TypeInfo) (z : Value) (size bytes : Nat) (h1 : P.underlying t = some (.slice e)) (h2 : P.info? e = some i) (h3 : i.zero = some z) (h4 : i.size = size) (h5 : i.bytes = bytes) (h6 : z.cells.size = size) (h7 : 0 < size)
    (v : Value) (k : Nat) (xs : List Value) (hs : a.eval s = v) (hown : w.ownsRow base e size v k xs) (ad : Addr) (m c : Nat) (news : List Value) (hx : a.eval x = .slice (some ad) m c) (hn : news.length = m * size)
    (hc : ∀ j u, news[j]? = some u → w.cell? (ad.add j) = some u) (h1c : ∀ u ∈ news, u.oneCell' = true) (b1 : k + m ≤ maxLen) (b2 : (k + m) * bytes ≤ 140737488355328) (b3 : base ≤ w.heap.size)
    (hK : ∀ v' w', w'.ownsRow base e size v' (k + m) (xs ++ news) → w.grownBy w' v.ownBlock → K (a.put o.dst v') w') :
    if Region.wanted o (yielded ops a.tmps) = true then Oper.wp P o a w K Q else E := by
  have hw : Region.wanted o (yielded ops a.tmps) = true := by simp [Region.wanted, hg]
  rw [if_pos hw]
  obtain ⟨v', w', hrun, r1, r2, _⟩ := run_append_own (P := P) w base t o.type e i z size bytes h1 h2 h3 h4 h5 h6 h7 v k xs hown ad m c news hn hc h1c b1 b2 b3
  unfold Oper.wp
  simp [execOp, hop, resolve, invoke, builtin, hs, hx, hrun, Result.andThen]
  exact hK v' w' r1 r2
theorem new4 (W : World) (a b c d : Value) (T : TypeId) : ∀ j u, [a, b, c, d][j]? = some u → (W.alloc (.cells #[a, b, c, d] T)).cell? ((⟨W.heap.size, 0, none⟩ : Addr).add j) = some u := by
  intro j u hu
  have hadd : (⟨W.heap.size, 0, none⟩ : Addr).add j = ⟨W.heap.size, j, none⟩ := by unfold Addr.add; split <;> simp_all
  rw [hadd, cell_of_row _ W.heap.size j #[a, b, c, d] T (0, 0) (World.alloc_heap_new W _)]
  simpa using hu
theorem chain4 {w w1 w2 w3 w4 : World} {o1 o2 : Obj} (h1 : Below ((w.alloc o1).alloc o2).drew.heap.size ((w.alloc o1).alloc o2).drew w1) (s1 : ((w.alloc o1).alloc o2).drew.heap.size + 4 ≤ w1.heap.size)
    (h2 : Below w1.heap.size w1 w2) (s2 : w1.heap.size + 4 ≤ w2.heap.size) (h3 : Below w2.heap.size w2 w3) (s3 : w2.heap.size + 4 ≤ w3.heap.size) (h4 : Below w3.heap.size w3 w4) (_s4 : w3.heap.size + 4 ≤ w4.heap.size) : Below w.heap.size w w4 := by
  have hd : ((w.alloc o1).alloc o2).drew.heap.size = w.heap.size + 1 + 1 := by
    show ((w.alloc o1).alloc o2).heap.size = _
    rw [World.size_alloc, World.size_alloc]
  have h0 : Below w.heap.size w ((w.alloc o1).alloc o2).drew := (((Below.refl w.heap.size w).alloc (Nat.le_refl _) o1).alloc (by rw [World.size_alloc]; omega) o2).drew
  exact (((h0.trans (h1.mono (by omega))).trans (h2.mono (by omega))).trans (h3.mono (by omega))).trans (h4.mono (by omega))
def fval (f : Nat × Array Value) : Value := .func (.func f.1) #[] f.2
theorem infoF : (Tryz.prog.info? 79).map (fun i => (i.zero, i.size, i.bytes)) = some (some .nilFunc, 1, 8) := by kernel_rfl

theorem Rim.of_grown {bs : Nat → Prop} {a b : World} {row : Option Nat} (h : a.grownBy b row) (hr : ∀ k, row = some k → bs k) : Rim bs a b :=
  ⟨h.os, h.tape, h.output, h.size, fun k hk hn => h.block k hk (fun e => hn (hr k e.symm))⟩
def adr (rb : Nat) (rest : List Addr) (d : Addr) : List Addr := ⟨rb, 0, none⟩ :: ⟨rb, 1, none⟩ :: (rest ++ [d])
/-- what the caller of build lays ready -/
structure Ready (base rb : Nat) (ps : Ps) (v : Value) (rest : List Addr) (st : St) (w : World) : Prop where
  len : ps.length ≤ 10
  own : w.ownsRow base 79 1 v ps.length (ps.map fun p => fval p.1)
  low : base ≤ w.heap.size
  holds : Holds (⟨rb, 0, none⟩ :: ⟨rb, 1, none⟩ :: rest) st w
  dup : (⟨rb, 0, none⟩ :: ⟨rb, 1, none⟩ :: rest : List Addr).Nodup
  div : st (rest.length + 2) = ⟨#[]⟩
  typ : ∀ a ∈ (⟨rb, 0, none⟩ :: ⟨rb, 1, none⟩ :: rest : List Addr), base ≤ a.block ∧ ∃ cs T, w.heap[a.block]? = some (.cells cs T (0, 0)) ∧ T ≠ 79
  apart : ∀ k, v.ownBlock = some k → ¬ blk (⟨rb, 0, none⟩ :: ⟨rb, 1, none⟩ :: rest) k
  steps : ∀ d : Addr, w.heap.size ≤ d.block → ∀ p ∈ ps, StepOf (fun k => blk (adr rb rest d) k ∨ v.ownBlock = some k) (adr rb rest d) p.1 p.2 w
/-- what the loop of build finds -/
structure Set (base rb : Nat) (v : Value) (qs : Ps) (rest : List Addr) (st : St) (w w5 : World) (d : Addr) (g : Nat) : Prop where
  below : Below base w w5
  new : w.heap.size < w5.heap.size
  holds : Holds (adr rb rest d) st w5
  steps : ∀ p ∈ qs, StepOf (blk (adr rb rest d)) (adr rb rest d) p.1 p.2 w5
  row : ¬ blk (adr rb rest d) g
  cells : ∀ i (h : i < qs.length), w5.cell? ⟨g, i, none⟩ = some (fval qs[i].1)
  up : ∀ a ∈ adr rb rest d, base ≤ a.block
  res : w5.heap[w.heap.size]? = some (.cells #[.string ⟨#[]⟩, .string ⟨#[]⟩] 23 (0, 0))
  resn : ¬ blk (adr rb rest d) w.heap.size
  rim : Rim (fun k => blk (⟨rb, 0, none⟩ :: ⟨rb, 1, none⟩ :: rest) k ∨ v.ownBlock = some k) w w5
  sub : ∀ k, k < w.heap.size → blk (adr rb rest d) k → blk (⟨rb, 0, none⟩ :: ⟨rb, 1, none⟩ :: rest) k ∨ v.ownBlock = some k
theorem StepOf.fewer {bs cs : Nat → Prop} {ad : List Addr} {f : Nat × Array Value} {g : St → Option St} {w : World} (h : StepOf bs ad f g w) (hm : ∀ k, cs k → bs k) : StepOf cs ad f g w :=
  ⟨h.1, fun W st hR hH => h.2 W st (hR.mono hm) hH⟩
theorem build_set {base rb : Nat} {ps : Ps} {v : Value} {rest : List Addr} {st : St} {w w1 w2 w3 w4 w5 W0 : World} {oR : Obj} {g cap : Nat} (hR : Ready base rb ps v rest st w)
    (hoR : oR = .cells #[.string ⟨#[]⟩, .string ⟨#[]⟩] 23) (hW0 : W0 = ((w.alloc oR).alloc (.cells #[.string ⟨#[]⟩] 9)).drew)
    (hI1 : IntoAt w1 W0.heap.size ⟨w.heap.size + 1, 0, none⟩ (.func (.func 62) #[] #[]) ⟨rb, 0, none⟩ ⟨rb, 1, none⟩)
    (hI2 : IntoAt w2 w1.heap.size ⟨w.heap.size + 1, 0, none⟩ (.func (.func 88) #[] #[]) ⟨w.heap.size + 1, 0, none⟩ ⟨rb, 1, none⟩)
    (hI3 : IntoAt w3 w2.heap.size ⟨rb, 0, none⟩ (.func (.func 56) #[] #[]) ⟨rb, 0, none⟩ ⟨w.heap.size + 1, 0, none⟩)
    (hI4 : IntoAt w4 w3.heap.size ⟨rb, 1, none⟩ (.func (.func 56) #[] #[]) ⟨rb, 1, none⟩ ⟨w.heap.size + 1, 0, none⟩)
    (h1 : Below W0.heap.size W0 w1) (h2 : Below w1.heap.size w1 w2) (h3 : Below w2.heap.size w2 w3) (h4 : Below w3.heap.size w3 w4)
    (s1 : W0.heap.size + 4 ≤ w1.heap.size) (s2 : w1.heap.size + 4 ≤ w2.heap.size) (s3 : w2.heap.size + 4 ≤ w3.heap.size) (s4 : w3.heap.size + 4 ≤ w4.heap.size)
    {o : Obj} (hg : (w4.alloc o).grownBy w5 v.ownBlock) (hown : w5.ownsRow base 79 1 (.slice (some ⟨g, 0, none⟩) (ps.length + 3 + 1) cap) (ps.length + 4) ((ps ++ four (rest.length + 2) (w.heap.size + 1 + 1) w1.heap.size w2.heap.size w3.heap.size).map fun p => fval p.1)) :
    Set base rb v (ps ++ four (rest.length + 2) (w.heap.size + 1 + 1) w1.heap.size w2.heap.size w3.heap.size) rest st w w5 ⟨w.heap.size + 1, 0, none⟩ g := by
  have hd : W0.heap.size = w.heap.size + 1 + 1 := by
    rw [hW0]
    show ((w.alloc _).alloc _).heap.size = _
    rw [World.size_alloc, World.size_alloc]
  have b0 : Below w.heap.size w W0 := by rw [hW0]; exact (((Below.refl w.heap.size w).alloc (Nat.le_refl _) oR).alloc (by rw [World.size_alloc]; omega) _).drew
  have b4 : Below w.heap.size w (w4.alloc o) := ((((b0.trans (h1.mono (by omega))).trans (h2.mono (by omega))).trans (h3.mono (by omega))).trans (h4.mono (by omega))).alloc (by omega) o
  rw [hd] at hI1
  obtain ⟨d, hdd⟩ : ∃ d : Addr, d = ⟨w.heap.size + 1, 0, none⟩ := ⟨_, rfl⟩
  have hdb : d.block = w.heap.size + 1 := by rw [hdd]
  have hvl := hR.own.lt
  let bs : Nat → Prop := fun k => blk (adr rb rest d) k ∨ v.ownBlock = some k
  have r5 : ∀ {a : World}, Rim bs a (w4.alloc o) → Rim bs a w5 := fun h => h.trans (Rim.of_grown hg (fun k hk => .inr hk))
  have old : ∀ k, blk (⟨rb, 0, none⟩ :: ⟨rb, 1, none⟩ :: rest) k → k < w.heap.size := by
    rintro k ⟨a, ha, rfl⟩
    obtain ⟨i, hi, rfl⟩ := List.getElem_of_mem ha
    exact (hR.holds.box i hi).lt
  have hbk : ∀ k, blk (adr rb rest d) k → blk (⟨rb, 0, none⟩ :: ⟨rb, 1, none⟩ :: rest) k ∨ k = w.heap.size + 1 := by
    rintro k ⟨a, ha, rfl⟩
    simp only [adr, List.mem_cons, List.mem_append, List.not_mem_nil, or_false] at ha
    rcases ha with rfl | rfl | ha | rfl
    · exact .inl ⟨_, by simp, rfl⟩
    · exact .inl ⟨_, by simp, rfl⟩
    · exact .inl ⟨a, by simp [ha], rfl⟩
    · exact .inr hdb
  have nbs : ∀ k, w.heap.size + 1 + 1 ≤ k → ¬ bs k := by
    rintro k hk (h | h)
    · rcases hbk k h with h | h
      · have := old k h; omega
      · omega
    · have := (hvl k h).2; omega
  have sub : ∀ k, blk (adr rb rest d) k → bs k := fun k h => .inl h
  have q1 : Rim bs w1 w5 := r5 (Rim.of_below (((h2.trans (h3.mono (by omega))).trans (h4.mono (by omega))).alloc (by omega) o))
  have q2 : Rim bs w2 w5 := r5 (Rim.of_below ((h3.trans (h4.mono (by omega))).alloc (by omega) o))
  have q3 : Rim bs w3 w5 := r5 (Rim.of_below (h4.alloc (by omega) o))
  have q4 : Rim bs w4 w5 := r5 (Rim.of_below ((Below.refl w4.heap.size w4).alloc (Nat.le_refl _) o))
  have q0 : Rim bs w w5 := r5 (Rim.of_below b4)
  have dupA : (adr rb rest d).Nodup := by
    have hn := hR.dup
    have : adr rb rest d = (⟨rb, 0, none⟩ :: ⟨rb, 1, none⟩ :: rest) ++ [d] := rfl
    rw [this, List.nodup_append]
    refine ⟨hn, by simp, ?_⟩
    intro a ha b hb e
    rw [List.mem_singleton] at hb
    subst hb
    subst e
    have := old _ ⟨_, ha, rfl⟩
    omega
  have eN : (adr rb rest d).length = rest.length + 3 := by simp [adr]
  have e2 : ∀ h, (adr rb rest d)[rest.length + 2]'h = d := by
    intro h
    simp [adr]
  have dk : d ∈ adr rb rest d := by simp [adr]
  have hh : Holds (adr rb rest d) st w5 := by
    refine ⟨fun i hi => ?_, fun i hi => ?_⟩
    · by_cases h : i < rest.length + 2
      · have hb := hR.holds.box i (by simpa using h)
        have e : (adr rb rest d)[i] = (⟨rb, 0, none⟩ :: ⟨rb, 1, none⟩ :: rest : List Addr)[i]'(by simpa using h) := by
          have : adr rb rest d = (⟨rb, 0, none⟩ :: ⟨rb, 1, none⟩ :: rest) ++ [d] := rfl
          simp only [this]
          exact List.getElem_append_left (by simpa using h)
        rw [e]
        have hlt := hb.lt
        exact hb.keep (bs := fun k => v.ownBlock = some k) ((Rim.of_below b4).trans (Rim.of_grown hg (fun k hk => hk))) (fun hc => hR.apart _ hc ⟨_, List.getElem_mem _, rfl⟩)
      · obtain rfl : i = rest.length + 2 := by omega
        rw [e2, hR.div, hdd]
        have hb : Boxed W0 (w.heap.size + 1) 9 (.string ⟨#[]⟩) := by
          have := Boxed.new (w.alloc oR) 9 (.string ⟨#[]⟩)
          rw [World.size_alloc] at this
          rw [hW0]
          exact this
        have hb' : Box W0 ⟨w.heap.size + 1, 0, none⟩ ⟨#[]⟩ := ⟨hb.cell, hb.frozen⟩
        refine hb'.keep (bs := fun k => v.ownBlock = some k) ((Rim.of_below ((((h1.trans (h2.mono (by omega))).trans (h3.mono (by omega))).trans (h4.mono (by omega))).alloc (by omega) o)).trans (Rim.of_grown hg (fun k hk => hk))) ?_
        intro hc
        have h9 : w.heap.size + 1 < w.heap.size := (hvl _ hc).2
        omega
    · by_cases h : i < rest.length + 2
      · exact hR.holds.small i (by simpa using h)
      · obtain rfl : i = rest.length + 2 := by omega
        rw [hR.div]; decide
  have up : ∀ a ∈ adr rb rest d, base ≤ a.block := by
    intro a ha
    simp only [adr, List.mem_cons, List.mem_append, List.not_mem_nil, or_false] at ha
    rcases ha with rfl | rfl | ha | rfl
    · exact (hR.typ _ (by simp)).1
    · exact (hR.typ _ (by simp)).1
    · exact (hR.typ a (by simp [ha])).1
    · have := hR.low; omega
  have hrow : ¬ blk (adr rb rest d) g ∧ ∀ i (h : i < (ps ++ four (rest.length + 2) (w.heap.size + 1 + 1) w1.heap.size w2.heap.size w3.heap.size).length), w5.cell? ⟨g, i, none⟩ = some (fval (ps ++ four (rest.length + 2) (w.heap.size + 1 + 1) w1.heap.size w2.heap.size w3.heap.size)[i].1) := by
    refine ⟨?_, fun i h => ?_⟩
    · intro hc
      rcases hown.2 with ⟨h, _⟩ | ⟨g', c', cur, he, _, hgg, _⟩
      · cases h
      · injection he with he
        injection he with he
        injection he with he
        subst he
        rcases hbk g hc with h | h
        · obtain ⟨a, ha, rfl⟩ := h
          obtain ⟨_, cs, T, hT, hne⟩ := hR.typ a ha
          have k5 : w5.heap[a.block]? = some (.cells cs T (0, 0)) := ((Rim.of_below (bs := fun k => v.ownBlock = some k) b4).trans (Rim.of_grown hg (fun k hk => hk))).heap hT (fun hc => hR.apart _ hc ⟨a, ha, rfl⟩)
          rw [k5] at hgg
          injection hgg with hgg
          injection hgg with _ hgg
          exact hne hgg
        · have hb : W0.heap[w.heap.size + 1]? = some (.cells #[.string ⟨#[]⟩] 9 (0, 0)) := by
            have := Boxed.new (w.alloc oR) 9 (.string ⟨#[]⟩)
            rw [World.size_alloc] at this
            rw [hW0]
            exact this
          have k5 : w5.heap[w.heap.size + 1]? = some (.cells #[.string ⟨#[]⟩] 9 (0, 0)) := ((Rim.of_below (bs := fun k => v.ownBlock = some k) ((((h1.trans (h2.mono (by omega))).trans (h3.mono (by omega))).trans (h4.mono (by omega))).alloc (by omega) o)).trans (Rim.of_grown hg (fun k hk => hk))).heap hb (fun hc => by have h9 : w.heap.size + 1 < w.heap.size := (hvl _ hc).2; omega)
          rw [← h, hgg] at k5
          injection k5 with k5
          injection k5 with _ k5
          exact absurd k5 (by decide)
    · have := hown.cells (g := g) rfl i (fval (ps ++ four (rest.length + 2) (w.heap.size + 1 + 1) w1.heap.size w2.heap.size w3.heap.size)[i].1) (by rw [List.getElem?_map, List.getElem?_eq_getElem h]; rfl)
      have hadd : (⟨g, 0, none⟩ : Addr).add i = ⟨g, i, none⟩ := by unfold Addr.add; split <;> simp_all
      rwa [hadd] at this
  have i0 : (0 : Nat) < (adr rb rest d).length := by omega
  have i1 : (1 : Nat) < (adr rb rest d).length := by omega
  have i2 : rest.length + 2 < (adr rb rest d).length := by omega
  have z0 : (adr rb rest d)[0] = ⟨rb, 0, none⟩ := rfl
  have z1 : (adr rb rest d)[1] = ⟨rb, 1, none⟩ := rfl
  rw [← hdd] at hI1 hI2 hI3 hI4
  refine hdd ▸ ⟨?_, ?_, hh, ?_, hrow.1, hrow.2, up, ?_, ?_, ?_, ?_⟩
  · exact (Rim.below (bs := fun k => v.ownBlock = some k) ((Rim.of_below b4).trans (Rim.of_grown hg (fun k hk => hk))) hR.low (fun k hk => (hvl k hk).1))
  · have := q4.size; omega
  · intro p hp
    refine StepOf.fewer (bs := bs) ?_ sub
    rcases List.mem_append.1 hp with hp | hp
    · exact (hR.steps d (by omega) p hp).later q0
    · have j1 : IntoAt w5 (w.heap.size + 1 + 1) _ _ _ _ := hI1.keep q1 (fun k h _ => nbs k h)
      have j2 : IntoAt w5 w1.heap.size _ _ _ _ := hI2.keep q2 (fun k h _ => nbs k (by omega))
      have j3 : IntoAt w5 w2.heap.size _ _ _ _ := hI3.keep q3 (fun k h _ => nbs k (by omega))
      have j4 : IntoAt w5 w3.heap.size _ _ _ _ := hI4.keep q4 (fun k h _ => nbs k (by omega))
      simp only [four, List.mem_cons, List.not_mem_nil, or_false] at hp
      rcases hp with rfl | rfl | rfl | rfl
      · exact into_step (i := rest.length + 2) (j := 0) (l := 1) (enters_of Tryz.func62 (by kernel_rfl) rfl) opC_Gcd op2_small dupA i2 i0 i1 (by omega) (by rw [e2, z0, z1]; exact j1) (fun k h _ => nbs k h) sub
      · exact into_step (i := rest.length + 2) (j := rest.length + 2) (l := 1) (enters_of Tryz.func88 (by kernel_rfl) rfl) opC_sign sign_small dupA i2 i2 i1 (by omega) (by rw [e2, z1]; exact j2) (fun k h _ => nbs k (by omega)) sub
      · exact into_step (i := 0) (j := 0) (l := rest.length + 2) (enters_of Tryz.func56 (by kernel_rfl) rfl) opC_floor op2_small dupA i0 i0 i2 (by omega) (by rw [e2, z0]; exact j3) (fun k h _ => nbs k (by omega)) sub
      · exact into_step (i := 1) (j := 1) (l := rest.length + 2) (enters_of Tryz.func56 (by kernel_rfl) rfl) opC_floor op2_small dupA i1 i1 i2 (by omega) (by rw [e2, z1]; exact j4) (fun k h _ => nbs k (by omega)) sub
  · have hb : W0.heap[w.heap.size]? = some (.cells #[.string ⟨#[]⟩, .string ⟨#[]⟩] 23 (0, 0)) := by
      have h8 : (w.alloc oR).heap[w.heap.size]? = some oR := World.alloc_heap_new w oR
      have h9 := Below.heap_alloc (w.alloc oR) (.cells #[.string ⟨#[]⟩] 9) w.heap.size (by rw [World.size_alloc]; omega)
      rw [hW0]
      show ((w.alloc oR).alloc (.cells #[.string ⟨#[]⟩] 9)).heap[w.heap.size]? = _
      rw [h9, h8, hoR]
    exact ((Rim.of_below (bs := fun k => v.ownBlock = some k) ((((h1.trans (h2.mono (by omega))).trans (h3.mono (by omega))).trans (h4.mono (by omega))).alloc (by omega) o)).trans (Rim.of_grown hg (fun k hk => hk))).heap hb (fun hc => by have h9 : w.heap.size < w.heap.size := (hvl _ hc).2; omega)
  · intro hc
    rcases hbk _ hc with h | h
    · have := old _ h; omega
    · omega
  · exact (Rim.of_below b4).trans (Rim.of_grown hg (fun k hk => .inr hk))
  · intro k hk hc
    rcases hbk _ hc with h | h
    · exact .inl h
    · omega
theorem rim_step {bs cs : Nat → Prop} {w a b : World} (h : Rim bs w a) (k : Rim cs a b) (hs : ∀ k, k < w.heap.size → cs k → bs k) : Rim bs w b :=
  ⟨k.os.trans h.os, k.tape.trans h.tape, k.output.trans h.output, Nat.le_trans h.size k.size, fun i hi hn => (k.block i (Nat.lt_of_lt_of_le hi h.size) (fun hc => hn (hs i hi hc))).trans (h.block i hi hn)⟩
theorem rim_new {bs : Nat → Prop} {w a : World} (h : Rim bs w a) (p : Addr) (u : Value) (hp : p.block = w.heap.size) : Rim bs w (a.setCell p u) :=
  rim_step h (Rim.set (bs := fun k => k = w.heap.size) a p u hp) (fun k hk hc => by omega)
end Rt
end Go.Proofs.YtappobhpdpfojaaGreat
