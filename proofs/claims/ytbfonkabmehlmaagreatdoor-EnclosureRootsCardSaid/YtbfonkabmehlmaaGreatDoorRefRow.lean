/-
  Rows of memory: digits.
-/
import Derived.Test.YtbfonkabmehlmaaGreatDoorRefMath
import Derived.Test.YtbfonkabmehlmaaGreatDoorIntMade
namespace Go.Proofs.YtbfonkabmehlmaaGreatDoor
set_option maxRecDepth 1000000
open Go.RowKit

def j64s (l : List Nat) : Array Value := (l.map fun n : Nat => Value.int .i64 (n : Int)).toArray
theorem j64s_size (l : List Nat) : (j64s l).size = l.length := by simp [j64s]
theorem j64s_get (l : List Nat) (i : Nat) (h : i < l.length) : (j64s l)[i]? = some (.int .i64 ((l.getD i 0 : Nat) : Int)) := by simp [j64s, List.getD, h]
theorem j64s_set (l : List Nat) (i x : Nat) : (j64s l).setIfInBounds i (.int .i64 (x : Int)) = j64s (l.set i x) := by simp [j64s, List.map_set]
theorem j64s_one (l : List Nat) : (j64s l).all (·.oneCell') = true := by rw [Array.all_eq_true_iff_forall_mem]; intro v hv; simp only [j64s, List.mem_toArray, List.mem_map] at hv; obtain ⟨n, _, rfl⟩ := hv; rfl
theorem RowAt.j64 {w : World} {b : Nat} {l : List Nat} {t : TypeId} (h : RowAt w b (j64s l) t) (i : Nat) (hi : i < l.length) : w.cell? ⟨b, i, none⟩ = some (.int .i64 ((l.getD i 0 : Nat) : Int)) := (h.cell i).trans (j64s_get l i hi)
theorem RowAt.set64 {w : World} {b : Nat} {l : List Nat} {t : TypeId} (h : RowAt w b (j64s l) t) (i x : Nat) : RowAt (w.setCell ⟨b, i, none⟩ (.int .i64 (x : Int))) b (j64s (l.set i x)) t := j64s_set l i x ▸ h.set_same i _
/-- a slice's cells: groups -/
def IA (W : World) (g o : Nat) (l : List Nat) : Prop := ∀ i, i < l.length → W.cell? ⟨g, o + i, none⟩ = some (.int .i64 ((l.getD i 0 : Nat) : Int))
theorem IA.below {W W' : World} {g o : Nat} {l : List Nat} (h : IA W g o l) {B : Nat} (hB : Below B W W') (hg : g < B) : IA W' g o l := fun i hi => (hB.cell (p := ⟨g, o + i, none⟩) hg).trans (h i hi)
theorem IA.below1 {W W' : World} {g o : Nat} {l : List Nat} (h : IA W g o l) {B : Nat} (hB : Below B W W') (hg : 1 ≤ l.length → g < B) : IA W' g o l := fun i hi => (hB.cell (p := ⟨g, o + i, none⟩) (hg (by omega))).trans (h i hi)
theorem IA.only {W W' : World} {g o b : Nat} {l : List Nat} (h : IA W g o l) (k : Only b W W') (hb : g ≠ b) : IA W' g o l := fun i hi => by
  have e : W'.cell? ⟨g, o + i, none⟩ = W.cell? ⟨g, o + i, none⟩ := by
    unfold World.cell?
    rw [show W'.heap[(⟨g, o + i, none⟩ : Addr).block]? = W.heap[g]? from k.block g hb]
  exact e.trans (h i hi)
theorem IA.drewN {W : World} {g o : Nat} {l : List Nat} (h : IA W g o l) (n : Nat) : IA (W.drewN n) g o l := h
theorem IA.take {W : World} {g o : Nat} {l : List Nat} (h : IA W g o l) (k : Nat) : IA W g o (l.take k) := fun i hi => by
  rw [List.length_take] at hi
  have e : (l.take k).getD i 0 = l.getD i 0 := by rw [List.getD_eq_getElem?_getD, List.getD_eq_getElem?_getD, List.getElem?_take, if_pos (by omega)]
  rw [e]; exact h i (by omega)
theorem IA.drop {W : World} {g o : Nat} {l : List Nat} (h : IA W g o l) (k : Nat) : IA W g (o + k) (l.drop k) := fun i hi => by
  rw [List.length_drop] at hi
  have e : (l.drop k).getD i 0 = l.getD (k + i) 0 := by rw [List.getD_eq_getElem?_getD, List.getD_eq_getElem?_getD, List.getElem?_drop]
  rw [e, Nat.add_assoc]; exact h (k + i) (by omega)
theorem IA.lt {W : World} {g o : Nat} {l : List Nat} (h : IA W g o l) (hl : 1 ≤ l.length) : g < W.heap.size := World.block_lt_of_cell? W _ (h 0 hl)
theorem RowAt.ia {w : World} {b : Nat} {l : List Nat} {t : TypeId} (h : RowAt w b (j64s l) t) : IA w b 0 l := fun i hi => by rw [Nat.zero_add]; exact h.j64 i hi
theorem RowAt.iaSeg {w : World} {b : Nat} {l : List Nat} {t : TypeId} (h : RowAt w b (j64s l) t) (o n : Nat) : IA w b o ((l.drop o).take n) := by
  have := (h.ia.drop o).take n; rwa [Nat.zero_add] at this
/-- a slice that holds the digits l -/
def NI (W : World) (v : Value) (l : List Nat) : Prop := ∃ (p : Option Addr) (cap : Nat), v = .slice p l.length cap ∧ l.length ≤ cap ∧ cap ≤ maxLen ∧ ((p = none ∧ l = [] ∧ cap = 0) ∨ ∃ g o, p = some ⟨g, o, none⟩ ∧ g < W.heap.size ∧ IA W g o l)
theorem NI.below {W W' : World} {v : Value} {l : List Nat} (h : NI W v l) {B : Nat} (hB : Below B W W') (hw : W.heap.size ≤ B) : NI W' v l := by
  obtain ⟨p, cap, rfl, h1, h2, h3 | ⟨g, o, rfl, hg, hu⟩⟩ := h
  · exact ⟨p, cap, rfl, h1, h2, .inl h3⟩
  · exact ⟨_, cap, rfl, h1, h2, .inr ⟨g, o, rfl, by have := hB.size; omega, hu.below hB (by omega)⟩⟩
/-- opened for reading -/
theorem NI.open {W : World} {v : Value} {l : List Nat} (h : NI W v l) : ∃ (p : Option Addr) (cap g o : Nat), v = .slice p l.length cap ∧ l.length ≤ cap ∧ cap ≤ maxLen ∧ (1 ≤ l.length → p = some ⟨g, o, none⟩ ∧ g < W.heap.size) ∧ IA W g o l := by
  obtain ⟨p, cap, rfl, h1, h2, ⟨rfl, rfl, rfl⟩ | ⟨g, o, rfl, hg, hu⟩⟩ := h
  · exact ⟨none, 0, 0, 0, rfl, Nat.le_refl _, by omega, fun h => by simp at h, fun i hi => by simp at hi⟩
  · exact ⟨_, cap, g, o, rfl, h1, h2, fun _ => ⟨rfl, hg⟩, hu⟩
/-- a row that begins with the groups L -/
def IR (W : World) (g : Nat) (L : List Nat) : Prop := ∃ X, RowAt W g (j64s L ++ X) 3
theorem IR.j64 {w : World} {b : Nat} {l : List Nat} (h : IR w b l) (i : Nat) (hi : i < l.length) : w.cell? ⟨b, i, none⟩ = some (.int .i64 ((l.getD i 0 : Nat) : Int)) := by
  obtain ⟨X, h⟩ := h
  refine (h.cell i).trans ?_
  rw [Array.getElem?_append_left (by rw [j64s_size]; exact hi)]
  exact j64s_get l i hi
theorem IR.frozen {w : World} {b : Nat} {l : List Nat} (h : IR w b l) (i : Nat) : w.frozen? ⟨b, i, none⟩ = false := by
  obtain ⟨X, h⟩ := h; exact RowAt.frozen h i
theorem IR.set64 {w : World} {b : Nat} {l : List Nat} (h : IR w b l) (i x : Nat) (hi : i < l.length) : IR (w.setCell ⟨b, i, none⟩ (.int .i64 (x : Int))) b (l.set i x) := by
  obtain ⟨X, h⟩ := h
  refine ⟨X, ?_⟩
  have := h.set_same i (.int .i64 (x : Int))
  rwa [Array.setIfInBounds_append_left (by rw [j64s_size]; exact hi), j64s_set] at this
theorem IR.only {w w' : World} {b g : Nat} {l : List Nat} (h : IR w b l) (k : Only g w w') (hb : b ≠ g) : IR w' b l := by
  obtain ⟨X, h⟩ := h; exact ⟨X, RowAt.only h k hb⟩
theorem IR.below {w w' : World} {b B : Nat} {l : List Nat} (h : IR w b l) (hB : Below B w w') (hb : b < B) : IR w' b l := by
  obtain ⟨X, h⟩ := h; exact ⟨X, RowAt.below h hB hb⟩
theorem IR.drewN {w : World} {b : Nat} {l : List Nat} (h : IR w b l) (n : Nat) : IR (w.drewN n) b l := h
theorem IR.lt {w : World} {b : Nat} {l : List Nat} (h : IR w b l) : b < w.heap.size := by
  obtain ⟨X, h⟩ := h; exact RowAt.lt h
theorem IR.ia {w : World} {b : Nat} {l : List Nat} (h : IR w b l) : IA w b 0 l := fun i hi => by rw [Nat.zero_add]; exact h.j64 i hi
theorem IR.iaSeg {w : World} {b : Nat} {l : List Nat} (h : IR w b l) (o n : Nat) : IA w b o ((l.drop o).take n) := by
  have := (h.ia.drop o).take n; rwa [Nat.zero_add] at this
theorem RowAt.ir {w : World} {b : Nat} {l : List Nat} (h : RowAt w b (j64s l) 3) : IR w b l := ⟨#[], by rw [Array.append_empty]; exact h⟩
/-- a slice of groups that the call made -/
def OwnJ (W : World) (B : Nat) (v : Value) (xs : List Nat) : Prop := W.ownsRow B 3 1 v xs.length (xs.map fun n : Nat => Value.int .i64 (n : Int))
theorem OwnJ.below {W W' : World} {B : Nat} {v : Value} {xs : List Nat} (h : OwnJ W B v xs) (hb : Below W.heap.size W W') : OwnJ W' B v xs := by
  refine ⟨h.1, ?_⟩
  rcases h.2 with hn | ⟨g, cap, cur, e, hg, hgg, rest⟩
  · exact .inl hn
  · exact .inr ⟨g, cap, cur, e, hg, by rw [hb.block g (Array.getElem?_eq_some_iff.1 hgg).1]; exact hgg, rest⟩
theorem OwnJ.nil (W : World) (B : Nat) : OwnJ W B (.slice none 0 0) [] := World.ownsRow_nil _ _ _ _
theorem OwnJ.snoc {W : World} {B : Nat} {v : Value} {xs : List Nat} {x : Nat} (h : W.ownsRow B 3 1 v (xs.length + 1) (xs.map (fun n : Nat => Value.int .i64 (n : Int)) ++ [.int .i64 (x : Int)])) : OwnJ W B v (xs ++ [x]) := by
  unfold OwnJ; rw [List.length_append, List.map_append]; exact h
theorem OwnJ.open {W : World} {B : Nat} {v : Value} {xs : List Nat} (h : OwnJ W B v xs) :
    (v = .slice none 0 0 ∧ xs = []) ∨ ∃ (cap g : Nat), v = .slice (some ⟨g, 0, none⟩) xs.length cap ∧ B ≤ g ∧ IR W g xs ∧ xs.length ≤ cap ∧ cap ≤ maxLen := by
  rcases h.2 with ⟨hv, hn⟩ | ⟨g, cap, cur, hv, hg, hgg, hle, hm, hsz, htk⟩
  · exact .inl ⟨hv, List.eq_nil_of_length_eq_zero hn⟩
  · refine .inr ⟨cap, g, hv, hg, ⟨(cur.toList.drop xs.length).toArray, ?_⟩, hle, hm⟩
    have e : j64s xs ++ (cur.toList.drop xs.length).toArray = cur := by
      rw [Nat.mul_one] at htk
      apply Array.ext'
      rw [Array.toList_append]
      show (xs.map _) ++ _ = _
      rw [← htk, List.take_append_drop]
    rw [e]; exact hgg
theorem OwnJ.openS {W : World} {B g n cap : Nat} {xs : List Nat} (h : OwnJ W B (.slice (some ⟨g, 0, none⟩) n cap) xs) : B ≤ g ∧ IR W g xs ∧ n = xs.length ∧ xs.length ≤ cap ∧ cap ≤ maxLen := by
  rcases h.open with ⟨h1, _⟩ | ⟨c, g', h1, h2, h3, h4, h5⟩
  · cases h1
  · injection h1 with e1 e2 e3
    injection e1 with e1
    injection e1 with e1
    subst e1
    subst e3
    exact ⟨h2, h3, e2, h4, h5⟩
theorem OwnJ.ni {W : World} {B : Nat} {v : Value} {xs : List Nat} (h : OwnJ W B v xs) : NI W v xs := by
  rcases h.open with ⟨rfl, rfl⟩ | ⟨cap, g, rfl, hg, hu, h1, h2⟩
  · exact ⟨none, 0, rfl, Nat.le_refl _, by omega, .inl ⟨rfl, rfl, rfl⟩⟩
  · exact ⟨_, cap, rfl, h1, h2, .inr ⟨g, 0, rfl, hu.lt, hu.ia⟩⟩
theorem below_grownJ {B : Nat} {w w1 w3 : World} {v : Value} {xs : List Nat} (hb : Below B w w1) (hB : B ≤ w.heap.size) (hO : OwnJ w1 B v xs) (hg : w1.grownBy w3 v.ownBlock) : Below B w w3 :=
  hb.trans ⟨hg.os, hg.tape, hg.output, hg.size, fun k hk => hg.block k (Nat.lt_of_lt_of_le (Nat.lt_of_lt_of_le hk hB) hb.size) (fun e => by
    rcases hO.2 with ⟨rfl, _⟩ | ⟨g, cap, cur, rfl, h1, _⟩
    · simp [Value.ownBlock] at e
    · simp [Value.ownBlock] at e; omega)⟩
theorem infoJ : (Tryz.prog.info? 3).map (fun i => (i.zero, i.size, i.bytes)) = some (some (.int .i64 0), 1, 8) := by kernel_rfl
theorem cells_repJ (n : Nat) : (madeCells (Value.int .i64 0).cells (n * 1)).toList = (List.replicate n 0).map fun n : Nat => Value.int .i64 (n : Int) := by
  rw [Nat.mul_one, List.map_replicate]
  simp [madeCells, Value.cells]
  rw [List.eq_replicate_iff]
  refine ⟨by simp, fun b hb => ?_⟩
  simp only [List.mem_map, Nat.mod_one] at hb
  obtain ⟨_, _, rfl⟩ := hb
  rfl
/-- make, its size a variable -/
theorem make_j64 {w : World} {ops : Array Oper} {rest : List Oper} {o : Oper} {a : Act} {Q : Exit → Act → World → Prop} (hg : o.guard = none) (l c : Operand) (hop : o.op = Op.makeSlice 39 l c)
    (base n : Nat) (hl : a.eval l = .int .i64 (n : Int)) (hc : a.eval c = .int .i64 (n : Int)) (hn : n ≤ 1000000) (hb : base ≤ w.heap.size)
    (h : ∀ w', OwnJ w' base (.slice (some ⟨w.heap.size, 0, none⟩) n n) (List.replicate n 0) → Below base w w' → wpList Tryz.prog ops Q rest (a.put o.dst (.slice (some ⟨w.heap.size, 0, none⟩) n n)) w') : wpList Tryz.prog ops Q (o :: rest) a w := by
  obtain ⟨i0, hinf, hz0, hz1, hz2⟩ := info_parts infoJ
  refine wpList_make_full w hg l c 39 hop base 3 i0 (.int .i64 0) 1 Tryz.underlying39 hinf hz0 hz1 .i64 .i64 (n : Int) (n : Int) n hl hc rfl rfl (by rw [hz2]; omega) (by unfold maxLen; omega) hb ?_
  intro w' ho hgr
  refine h w' ?_ ⟨hgr.os, hgr.tape, hgr.output, hgr.size, fun k hk => hgr.block k (by omega) (by simp)⟩
  unfold OwnJ
  rw [List.length_replicate, ← cells_repJ]
  exact ho
theorem IA.cells {W : World} {b o : Nat} {ls : List Nat} (h : IA W b o ls) : ∀ j u, (ls.map fun n : Nat => Value.int .i64 (n : Int))[j]? = some u → W.cell? ((⟨b, o, none⟩ : Addr).add j) = some u := by
  intro j u hj
  rw [List.getElem?_map] at hj
  have hlt : j < ls.length := by
    rcases Nat.lt_or_ge j ls.length with h1 | h1
    · exact h1
    · rw [List.getElem?_eq_none h1] at hj; cases hj
  rw [List.getElem?_eq_getElem hlt] at hj
  cases hj
  rw [Addr.add_lit]
  have := h j hlt
  rwa [List.getD_eq_getElem?_getD, List.getElem?_eq_getElem hlt] at this
theorem j64_one (ls : List Nat) : ∀ u ∈ ls.map (fun n : Nat => Value.int .i64 (n : Int)), u.oneCell' = true := by
  intro u hu; simp only [List.mem_map] at hu; obtain ⟨x, _, rfl⟩ := hu; rfl
/-- append of a natural, nil or not -/
theorem append_j64 {w : World} {ops : Array Oper} {rest : List Oper} {o : Oper} {a : Act} {Q : Exit → Act → World → Prop} (hgd : o.guard = none) (s x : Operand)
    (ho : o.op = .call { callee := .builtin .append, args := #[s, x], argTypes := #[39, 39] }) (base : Nat) (v : Value) (xs : List Nat) (hs : a.eval s = v) (hown : OwnJ w base v xs)
    (vx : Value) (ys : List Nat) (hx : a.eval x = vx) (hys : NI w vx ys) (hl : xs.length + ys.length ≤ 1000000) (hb : base ≤ w.heap.size)
    (h : ∀ v' w', OwnJ w' base v' (xs ++ ys) → (v ≠ .slice none 0 0 → v' ≠ .slice none 0 0) → Below base w w' → wpList Tryz.prog ops Q rest (a.put o.dst v') w') : wpList Tryz.prog ops Q (o :: rest) a w := by
  obtain ⟨i0, hinf, hz0, hz1, hz2⟩ := info_parts infoJ
  obtain ⟨p, cap, rfl, h1, h2, ⟨rfl, rfl, rfl⟩ | ⟨g, o, rfl, hg, hu⟩⟩ := hys
  · exact wpList_append_own_none hgd s x 39 ho base 3 i0 1 Tryz.underlying39 hinf v xs.length _ hs hown hx (h v w (by rw [List.append_nil]; exact hown) id (Below.refl _ _))
  · refine wpList_append_own w hgd s x 39 ho base 3 i0 (.int .i64 0) 1 8 Tryz.underlying39 hinf hz0 hz1 hz2 rfl (by decide) v xs.length _ hs hown ⟨g, o, none⟩ ys.length cap (ys.map fun n : Nat => Value.int .i64 (n : Int)) hx (by rw [List.length_map, Nat.mul_one]) (IA.cells hu) (j64_one ys) (by unfold maxLen; omega) (by omega) hb ?_
    intro v' w' hown' hgrow hnil
    refine h v' w' ?_ (fun hv e => hv (hnil.1 e).1) (below_grownJ (Below.refl _ _) hb hown hgrow)
    unfold OwnJ
    rw [List.length_append, List.map_append]
    exact hown'
end Go.Proofs.YtbfonkabmehlmaaGreatDoor
