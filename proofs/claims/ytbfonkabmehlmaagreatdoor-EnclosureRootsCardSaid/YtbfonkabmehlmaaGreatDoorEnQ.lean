/-
  Package enclosure: ends; a list of fractions that grows.
-/
import Derived.Test.YtbfonkabmehlmaaGreatDoorEnP
import Derived.Maps.AppendAt
namespace Go.Proofs.YtbfonkabmehlmaaGreatDoor
set_option maxRecDepth 1000000
namespace En
open Go.RowKit Go.Extern.Stop Go.Stop Go.Extern
/-- the call answers n fractions in an array of its own -/
def EndsC (x : Value) (n : Nat) (E : Nat → P2) : Prop := ∀ W : World, Calls Tryz.prog 144 #[x] W fun e W' => ∃ b c, e = .returned (.slice (some ⟨b, 0, none⟩) n n) ∧ W.heap.size ≤ b ∧ W'.heap[b]? = some (.cells c 23 (0, 0)) ∧ (∀ j, j < n → c[j * 2]? = some (.string (E j).1) ∧ c[j * 2 + 1]? = some (.string (E j).2)) ∧ Below W.heap.size W W'
theorem ends_same (x0 x1 : ByteArray) (E : Nat → P2) (hE : E 0 = (x0, x1)) : EndsC (ivl x0 x1 x0 x1) 1 E := by
  intro w
  unfold ivl
  obtain ⟨n_x, n_y⟩ := news2 w (.cells #[.string x0, .string x1, .string x0, .string x1] 25) (.cells #[.string x0, .string x1] 23)
  have u := below2 w (.cells #[.string x0, .string x1, .string x0, .string x1] 25) (.cells #[.string x0, .string x1] 23)
  have m_x : (w.alloc (.cells #[.string x0, .string x1, .string x0, .string x1] 25)).heap[w.heap.size]? = _ := World.alloc_heap_new w _
  go_enter Tryz.func144, Tryz.ntmps144
  have y0 := lcell m_x 0 (v := .string x0) rfl
  have y1 := lcell m_x 1 (v := .string x1) rfl
  have y2 := lcell m_x 2 (v := .string x0) rfl
  have y3 := lcell m_x 3 (v := .string x1) rfl
  have e0 : (x0.toList == x0.toList) = true := beq_self_eq_true _
  have e1 : (x1.toList == x1.toList) = true := beq_self_eq_true _
  go_wp2_with fail
  go_ret
  exact ⟨_, _, rfl, Nat.le_succ _, n_y, fun j hj => by obtain rfl : j = 0 := (by omega); rw [hE]; exact ⟨rfl, rfl⟩, u⟩
theorem ends_other (x0 x1 x2 x3 : ByteArray) (E : Nat → P2) (hE : E 0 = (x0, x1)) (hE1 : E 1 = (x2, x3)) (hne : (x0.toList == x2.toList) = false ∨ ((x0.toList == x2.toList) = true ∧ (x1.toList == x3.toList) = false)) : EndsC (ivl x0 x1 x2 x3) 2 E := by
  intro w
  unfold ivl
  obtain ⟨n_x, n_y⟩ := news2 w (.cells #[.string x0, .string x1, .string x2, .string x3] 25) (.cells #[.string x0, .string x1, .string x2, .string x3] 23)
  have u := below2 w (.cells #[.string x0, .string x1, .string x2, .string x3] 25) (.cells #[.string x0, .string x1, .string x2, .string x3] 23)
  have m_x : (w.alloc (.cells #[.string x0, .string x1, .string x2, .string x3] 25)).heap[w.heap.size]? = _ := World.alloc_heap_new w _
  go_enter Tryz.func144, Tryz.ntmps144
  have y0 := lcell m_x 0 (v := .string x0) rfl
  have y1 := lcell m_x 1 (v := .string x1) rfl
  have y2 := lcell m_x 2 (v := .string x2) rfl
  have y3 := lcell m_x 3 (v := .string x3) rfl
  have hj2 : ∀ j, j < 2 → j = 0 ∨ j = 1 := fun j h => by omega
  rcases hne with e0 | ⟨e0, e1⟩
  · go_wp2_with fail
    go_ret
    exact ⟨_, _, rfl, Nat.le_succ _, n_y, fun j hj => by rcases hj2 j hj with rfl | rfl; (rw [hE]; exact ⟨rfl, rfl⟩); (rw [hE1]; exact ⟨rfl, rfl⟩), u⟩
  · go_wp2_with fail
    go_ret
    exact ⟨_, _, rfl, Nat.le_succ _, n_y, fun j hj => by rcases hj2 j hj with rfl | rfl; (rw [hE]; exact ⟨rfl, rfl⟩); (rw [hE1]; exact ⟨rfl, rfl⟩), u⟩
/-- the cells of the first t of R -/
def cellsL (R : Nat → P2) : Nat → List Value
  | 0 => []
  | t + 1 => cellsL R t ++ [.string (R t).1, .string (R t).2]
theorem cellsL_len (R : Nat → P2) : ∀ t, (cellsL R t).length = t * 2
  | 0 => rfl
  | t + 1 => by rw [cellsL, List.length_append, cellsL_len R t]; simp; omega
theorem cellsL_at (R : Nat → P2) : ∀ t j, j < t → (cellsL R t)[j * 2]? = some (.string (R j).1) ∧ (cellsL R t)[j * 2 + 1]? = some (.string (R j).2)
  | 0, _, h => absurd h (by omega)
  | t + 1, j, h => by
    have hl := cellsL_len R t
    rw [cellsL]
    rcases Nat.lt_or_ge j t with h1 | h1
    · rw [List.getElem?_append_left (by omega), List.getElem?_append_left (by omega)]
      exact cellsL_at R t j h1
    · obtain rfl : j = t := by omega
      rw [List.getElem?_append_right (by omega), List.getElem?_append_right (by omega), hl]
      simp
def OwnL (W : World) (base : Nat) (v : Value) (t : Nat) (R : Nat → P2) : Prop := W.ownsRow base 23 2 v t (cellsL R t)
theorem OwnL.nil (W : World) (base : Nat) (R : Nat → P2) : OwnL W base (.slice none 0 0) 0 R := World.ownsRow_nil W base _ _
theorem OwnL.below {W W' : World} {base t : Nat} {v : Value} {R : Nat → P2} (h : OwnL W base v t R) (hb : Below W.heap.size W W') : OwnL W' base v t R := by
  refine ⟨h.1, ?_⟩
  rcases h.2 with hn | ⟨g, cap, cur, e, hg, hgg, rest⟩
  · exact .inl hn
  · exact .inr ⟨g, cap, cur, e, hg, by rw [hb.block g (Array.getElem?_eq_some_iff.1 hgg).1]; exact hgg, rest⟩
theorem OwnL.new {W : World} {base t : Nat} {v : Value} {R : Nat → P2} (h : OwnL W base v t R) (b : Nat) (hb : W.heap.size ≤ b) : v.ownBlock ≠ some b := by
  rcases h.2 with ⟨rfl, _⟩ | ⟨g, cap, cur, rfl, hg, hgg, rest⟩
  · simp [Value.ownBlock]
  · have := (Array.getElem?_eq_some_iff.1 hgg).1
    simp [Value.ownBlock]; omega
theorem OwnL.low {W : World} {base t : Nat} {v : Value} {R : Nat → P2} (h : OwnL W base v t R) (b : Nat) (hb : b < base) : v.ownBlock ≠ some b := by
  rcases h.2 with ⟨rfl, _⟩ | ⟨g, cap, cur, rfl, hg, hgg, rest⟩
  · simp [Value.ownBlock]
  · simp [Value.ownBlock]; omega
theorem OwnL.shape {W : World} {base t : Nat} {v : Value} {R : Nat → P2} (h : OwnL W base v (t + 1) R) : ∃ g cap, v = .slice (some ⟨g, 0, none⟩) (t + 1) cap ∧ t + 1 ≤ cap ∧ cap ≤ maxLen ∧ ∃ cur, W.heap[g]? = some (.cells cur 23 (0, 0)) ∧ ∀ j, j < t + 1 → cur[j * 2]? = some (.string (R j).1) ∧ cur[j * 2 + 1]? = some (.string (R j).2) := by
  rcases h.2 with ⟨_, hn⟩ | ⟨g, cap, cur, rfl, hg, hgg, h1, h2, h3, h4⟩
  · cases hn
  · refine ⟨g, cap, rfl, h1, h2, cur, hgg, fun j hj => ?_⟩
    have hc := cellsL_at R (t + 1) j hj
    rw [← h4] at hc
    have e1 := hc.1
    have e2 := hc.2
    rw [List.getElem?_take_of_lt (by omega)] at e1
    rw [List.getElem?_take_of_lt (by omega)] at e2
    rw [Array.getElem?_toList] at e1 e2
    exact ⟨e1, e2⟩
/-- a block that lies beside the list's row -/
structure Lv (W : World) (v : Value) (b : Nat) (o : Obj) : Prop where
  at_ : W.heap[b]? = some o
  off : v.ownBlock ≠ some b
theorem Lv.below {W W' : World} {v : Value} {b : Nat} {o : Obj} (h : Lv W v b o) (hB : Below W.heap.size W W') : Lv W' v b o := ⟨lkeep h.at_ hB, h.off⟩
theorem Lv.app {W W' : World} {v v' : Value} {b : Nat} {o : Obj} (h : Lv W v b o) (hg : W.grownBy W' v.ownBlock) (hat : v'.ownBlock = v.ownBlock ∨ v'.ownBlock = some W.heap.size) : Lv W' v' b o := by
  have hlt := (Array.getElem?_eq_some_iff.1 h.at_).1
  refine ⟨(hg.block b hlt (fun e => h.off e.symm)).trans h.at_, ?_⟩
  rcases hat with e | e
  · rw [e]; exact h.off
  · rw [e]; intro e2; injection e2 with e2; omega
theorem infoRat : (Tryz.prog.info? 23).map (fun i => (i.zero, i.size, i.bytes)) = some (some (.agg #[.string ⟨#[]⟩, .string ⟨#[]⟩]), 2, 32) := by kernel_rfl
theorem below_app {B t base : Nat} {R : Nat → P2} {w w1 w3 : World} {v : Value} (hb : Below B w w1) (hB : B ≤ w.heap.size) (hBb : B ≤ base) (hO : OwnL w1 base v t R) (hg : w1.grownBy w3 v.ownBlock) : Below B w w3 :=
  hb.trans ⟨hg.os, hg.tape, hg.output, hg.size, fun k hk => hg.block k (Nat.lt_of_lt_of_le (Nat.lt_of_lt_of_le hk hB) hb.size) (fun e => by
    rcases hO.2 with ⟨rfl, _⟩ | ⟨g, cap, cur, rfl, h1, _⟩
    · simp [Value.ownBlock] at e
    · simp [Value.ownBlock] at e; omega)⟩
theorem append_one {w : World} {ops : Array Oper} {rest : List Oper} {o : Oper} {a : Act} {Q : Exit → Act → World → Prop} (hgd : o.guard = none) (s x : Operand)
    (ho : o.op = .call { callee := .builtin .append, args := #[s, x], argTypes := #[50, 50] }) (base : Nat) (v : Value) (t : Nat) (R : Nat → P2) (hs : a.eval s = v) (hown : OwnL w base v t R)
    (Bx c : Nat) (hx : a.eval x = .slice (some ⟨Bx, 0, none⟩) 1 c) (hB : w.heap[Bx]? = some (.cells #[.string (R t).1, .string (R t).2] 23 (0, 0))) (ht : t ≤ 1000) (hb : base ≤ w.heap.size)
    (h : ∀ v' w', OwnL w' base v' (t + 1) R → w.grownBy w' v.ownBlock → (v'.ownBlock = v.ownBlock ∨ v'.ownBlock = some w.heap.size) → wpList Tryz.prog ops Q rest (a.put o.dst v') w') : wpList Tryz.prog ops Q (o :: rest) a w := by
  obtain ⟨i0, hinf, hz⟩ := Option.map_eq_some_iff.1 infoRat
  have hz0 : i0.zero = some (.agg #[.string ⟨#[]⟩, .string ⟨#[]⟩]) := congrArg (fun q => q.1) hz
  have hz1 : i0.size = 2 := congrArg (fun q => q.2.1) hz
  have hz2 : i0.bytes = 32 := congrArg (fun q => q.2.2) hz
  refine wpList_append_own_at w hgd s x 50 ho base 23 i0 (.agg #[.string ⟨#[]⟩, .string ⟨#[]⟩]) 2 32 Tryz.underlying50 hinf hz0 hz1 hz2 rfl (by decide) v t _ hs hown ⟨Bx, 0, none⟩ 1 c [.string (R t).1, .string (R t).2] hx rfl ?_ ?_ (by unfold maxLen; omega) (by omega) hb ?_
  · intro j u hj
    rw [Addr.add_lit, Nat.zero_add]
    match j, hj with
    | 0, hj => exact lcell hB 0 hj
    | 1, hj => exact lcell hB 1 hj
  · intro u hu
    simp at hu
    rcases hu with rfl | rfl <;> rfl
  · intro v' w' hown' hgrow _ hat
    exact h v' w' hown' hgrow hat
end En
end Go.Proofs.YtbfonkabmehlmaaGreatDoor
