/-
  Rows of memory: groups of digits.
-/
import Derived.Test.YteaecpmdooolkaaIntMath
import Derived.Test.YteaecpmdooolkaaRows
import Derived.IntWalk
import Derived.WalkKit
import Derived.WalkSpells
import Derived.WalkLawsBesides
import Derived.Lib.Hide
import Derived.BigQuiet
import Derived.BigRegion
import Derived.Laws.Rows
import Derived.Laws.Tables
import Derived.Deep.WholeRow
import Derived.Laws.CopyOwn
import Derived.StillTailTactics
import Derived.RegionTactic
import Derived.Laws.AppendOwnNone
import Derived.Deep.RegionLaw
import Derived.RangeFuncBox
import Derived.Maps.AppendAt
import Derived.OwnWalk
namespace Go.Proofs.Yteaecpmdooolkaa
open Go.RowKit

/-- a fact that no tactic looks into -/
structure Shut (p : Prop) : Prop where
  o : p
theorem below_drewN {B : Nat} {a w : World} (h : Below B a w) (n : Nat) : Below B a (w.drewN n) := h.trans ⟨rfl, rfl, rfl, Nat.le_refl _, fun _ _ => rfl⟩
theorem ret_u32 {a b : Int} (h : a = b) : Ending.returned (.int .u32 a) = .returned (.int .u32 b) := by rw [h]
theorem ret_u64 {a b : Int} (h : a = b) : Ending.returned (.int .u64 a) = .returned (.int .u64 b) := by rw [h]
theorem ret_i64 {a b : Int} (h : a = b) : Ending.returned (.int .i64 a) = .returned (.int .i64 b) := by rw [h]
def u32s (l : List Nat) : Array Value := (l.map fun n : Nat => Value.int .u32 (n : Int)).toArray
theorem u32s_size (l : List Nat) : (u32s l).size = l.length := by simp [u32s]
theorem u32s_get (l : List Nat) (i : Nat) (h : i < l.length) : (u32s l)[i]? = some (.int .u32 ((l.getD i 0 : Nat) : Int)) := by simp [u32s, List.getD, h]
theorem u32s_set (l : List Nat) (i x : Nat) : (u32s l).setIfInBounds i (.int .u32 (x : Int)) = u32s (l.set i x) := by simp [u32s, List.map_set]
theorem u32s_one (l : List Nat) : (u32s l).all (·.oneCell') = true := by rw [Array.all_eq_true_iff_forall_mem]; intro v hv; simp only [u32s, List.mem_toArray, List.mem_map] at hv; obtain ⟨n, _, rfl⟩ := hv; rfl
theorem World.heap_alloc_keep (w : World) (o : Obj) {b : Nat} (h : b < w.heap.size) : (w.alloc o).heap[b]? = w.heap[b]? := by
  show (w.heap.push o)[b]? = w.heap[b]?
  simp [Array.getElem?_push, show b ≠ w.heap.size by omega]
/-- a whole row of cells -/
def RowAt (W : World) (b : Nat) (c : Array Value) (t : TypeId) : Prop := W.heap[b]? = some (.cells c t (0, 0))
theorem RowAt.new (w : World) (c : Array Value) (t : TypeId) : RowAt (w.alloc (.cells c t)) w.heap.size c t := heap_alloc_new w _
theorem RowAt.lt {w : World} {b : Nat} {c : Array Value} {t : TypeId} (h : RowAt w b c t) : b < w.heap.size := (Array.getElem?_eq_some_iff.1 h).1
theorem RowAt.alloc {w : World} {b : Nat} {c : Array Value} {t : TypeId} (h : RowAt w b c t) (o : Obj) : RowAt (w.alloc o) b c t := (World.heap_alloc_keep w o (RowAt.lt h)).trans h
theorem RowAt.below {w w' : World} {b B : Nat} {c : Array Value} {t : TypeId} (h : RowAt w b c t) (hB : Below B w w') (hb : b < B) : RowAt w' b c t := (hB.block b hb).trans h
theorem RowAt.set_same {w : World} {b : Nat} {c : Array Value} {t : TypeId} (h : RowAt w b c t) (i : Nat) (v : Value) : RowAt (w.setCell ⟨b, i, none⟩ v) b (c.setIfInBounds i v) t := heap_setCell_same w b i c t v h
theorem RowAt.set_other {w : World} {b : Nat} {c : Array Value} {t : TypeId} (h : RowAt w b c t) (p : Addr) (hp : b ≠ p.block) (v : Value) : RowAt (w.setCell p v) b c t := (heap_setCell_other w p b v hp).trans h
theorem RowAt.row_same {w : World} {b : Nat} {c : Array Value} {t : TypeId} (h : RowAt w b c t) (c' : Array Value) : RowAt (w.setRow b c') b c' t := setRow_heap w b c c' t _ h
theorem RowAt.row_other {w : World} {b : Nat} {c : Array Value} {t : TypeId} (h : RowAt w b c t) (g : Nat) (hg : b ≠ g) (c' : Array Value) : RowAt (w.setRow g c') b c t := (setRow_other w g b c' hg).trans h
theorem RowAt.drewN {w : World} {b : Nat} {c : Array Value} {t : TypeId} (h : RowAt w b c t) (n : Nat) : RowAt (w.drewN n) b c t := h
theorem RowAt.drew {w : World} {b : Nat} {c : Array Value} {t : TypeId} (h : RowAt w b c t) : RowAt w.drew b c t := h
theorem RowAt.cell {w : World} {b : Nat} {c : Array Value} {t : TypeId} (h : RowAt w b c t) (i : Nat) : w.cell? ⟨b, i, none⟩ = c[i]? := cell_of_row w b i c t _ h
theorem RowAt.frozen {w : World} {b : Nat} {c : Array Value} {t : TypeId} (h : RowAt w b c t) (i : Nat) : w.frozen? ⟨b, i, none⟩ = false := frozen_of_row w b i c t h
theorem RowAt.u32 {w : World} {b : Nat} {l : List Nat} {t : TypeId} (h : RowAt w b (u32s l) t) (i : Nat) (hi : i < l.length) : w.cell? ⟨b, i, none⟩ = some (.int .u32 ((l.getD i 0 : Nat) : Int)) := (h.cell i).trans (u32s_get l i hi)
theorem RowAt.set32 {w : World} {b : Nat} {l : List Nat} {t : TypeId} (h : RowAt w b (u32s l) t) (i x : Nat) : RowAt (w.setCell ⟨b, i, none⟩ (.int .u32 (x : Int))) b (u32s (l.set i x)) t := u32s_set l i x ▸ h.set_same i _
/-- only block g has turned -/
structure Only (g : Nat) (w w' : World) : Prop where
  os : w'.os = w.os
  tape : w'.tape = w.tape
  output : w'.output = w.output
  size : w'.heap.size = w.heap.size
  block : ∀ k, k ≠ g → w'.heap[k]? = w.heap[k]?
theorem Only.refl (g : Nat) (w : World) : Only g w w := ⟨rfl, rfl, rfl, rfl, fun _ _ => rfl⟩
theorem Only.trans {g : Nat} {a b c : World} (h : Only g a b) (k : Only g b c) : Only g a c :=
  ⟨k.os.trans h.os, k.tape.trans h.tape, k.output.trans h.output, k.size.trans h.size, fun i hi => (k.block i hi).trans (h.block i hi)⟩
theorem Only.drew {g : Nat} {a w : World} (h : Only g a w) : Only g a w.drew := ⟨h.os, h.tape, h.output, h.size, h.block⟩
theorem Only.drewN {g : Nat} {a w : World} (h : Only g a w) (n : Nat) : Only g a (w.drewN n) := ⟨h.os, h.tape, h.output, h.size, h.block⟩
theorem Only.setCell {g : Nat} {a w : World} (h : Only g a w) (i : Nat) (v : Value) : Only g a (w.setCell ⟨g, i, none⟩ v) :=
  ⟨h.os, h.tape, h.output, by simp only [World.setCell, Array.size_modify]; exact h.size, fun k hk => (heap_setCell_other w ⟨g, i, none⟩ k v hk).trans (h.block k hk)⟩
theorem Only.below {g B : Nat} {w w' : World} (h : Only g w w') (hB : B ≤ g) : Below B w w' := ⟨h.os, h.tape, h.output, Nat.le_of_eq h.size.symm, fun k hk => h.block k (by omega)⟩
theorem RowAt.only {w w' : World} {b g : Nat} {c : Array Value} {t : TypeId} (h : RowAt w b c t) (k : Only g w w') (hb : b ≠ g) : RowAt w' b c t := (k.block b hb).trans h
/-- a slice's cells: groups -/
def UA (W : World) (g o : Nat) (l : List Nat) : Prop := ∀ i, i < l.length → W.cell? ⟨g, o + i, none⟩ = some (.int .u32 ((l.getD i 0 : Nat) : Int))
theorem UA.below {W W' : World} {g o : Nat} {l : List Nat} (h : UA W g o l) {B : Nat} (hB : Below B W W') (hg : g < B) : UA W' g o l := fun i hi => (hB.cell (p := ⟨g, o + i, none⟩) hg).trans (h i hi)
theorem UA.below1 {W W' : World} {g o : Nat} {l : List Nat} (h : UA W g o l) {B : Nat} (hB : Below B W W') (hg : 1 ≤ l.length → g < B) : UA W' g o l := fun i hi => (hB.cell (p := ⟨g, o + i, none⟩) (hg (by omega))).trans (h i hi)
theorem UA.only {W W' : World} {g o b : Nat} {l : List Nat} (h : UA W g o l) (k : Only b W W') (hb : g ≠ b) : UA W' g o l := fun i hi => by
  have e : W'.cell? ⟨g, o + i, none⟩ = W.cell? ⟨g, o + i, none⟩ := by
    unfold World.cell?
    rw [show W'.heap[(⟨g, o + i, none⟩ : Addr).block]? = W.heap[g]? from k.block g hb]
  exact e.trans (h i hi)
theorem UA.drewN {W : World} {g o : Nat} {l : List Nat} (h : UA W g o l) (n : Nat) : UA (W.drewN n) g o l := h
theorem UA.take {W : World} {g o : Nat} {l : List Nat} (h : UA W g o l) (k : Nat) : UA W g o (l.take k) := fun i hi => by
  rw [List.length_take] at hi
  have e : (l.take k).getD i 0 = l.getD i 0 := by rw [List.getD_eq_getElem?_getD, List.getD_eq_getElem?_getD, List.getElem?_take, if_pos (by omega)]
  rw [e]; exact h i (by omega)
theorem UA.drop {W : World} {g o : Nat} {l : List Nat} (h : UA W g o l) (k : Nat) : UA W g (o + k) (l.drop k) := fun i hi => by
  rw [List.length_drop] at hi
  have e : (l.drop k).getD i 0 = l.getD (k + i) 0 := by rw [List.getD_eq_getElem?_getD, List.getD_eq_getElem?_getD, List.getElem?_drop]
  rw [e, Nat.add_assoc]; exact h (k + i) (by omega)
theorem UA.lt {W : World} {g o : Nat} {l : List Nat} (h : UA W g o l) (hl : 1 ≤ l.length) : g < W.heap.size := World.block_lt_of_cell? W _ (h 0 hl)
theorem RowAt.ua {w : World} {b : Nat} {l : List Nat} {t : TypeId} (h : RowAt w b (u32s l) t) : UA w b 0 l := fun i hi => by rw [Nat.zero_add]; exact h.u32 i hi
theorem RowAt.uaSeg {w : World} {b : Nat} {l : List Nat} {t : TypeId} (h : RowAt w b (u32s l) t) (o n : Nat) : UA w b o ((l.drop o).take n) := by
  have := (h.ua.drop o).take n; rwa [Nat.zero_add] at this
/-- a natural: a slice that holds the groups l -/
def NA (W : World) (v : Value) (l : List Nat) : Prop := ∃ (p : Option Addr) (cap : Nat), v = .slice p l.length cap ∧ l.length ≤ cap ∧ cap ≤ maxLen ∧ ((p = none ∧ l = [] ∧ cap = 0) ∨ ∃ g o, p = some ⟨g, o, none⟩ ∧ g < W.heap.size ∧ UA W g o l)
theorem NA.below {W W' : World} {v : Value} {l : List Nat} (h : NA W v l) {B : Nat} (hB : Below B W W') (hw : W.heap.size ≤ B) : NA W' v l := by
  obtain ⟨p, cap, rfl, h1, h2, h3 | ⟨g, o, rfl, hg, hu⟩⟩ := h
  · exact ⟨p, cap, rfl, h1, h2, .inl h3⟩
  · exact ⟨_, cap, rfl, h1, h2, .inr ⟨g, o, rfl, by have := hB.size; omega, hu.below hB (by omega)⟩⟩
/-- opened for reading -/
theorem NA.open {W : World} {v : Value} {l : List Nat} (h : NA W v l) : ∃ (p : Option Addr) (cap g o : Nat), v = .slice p l.length cap ∧ l.length ≤ cap ∧ cap ≤ maxLen ∧ (1 ≤ l.length → p = some ⟨g, o, none⟩ ∧ g < W.heap.size) ∧ UA W g o l := by
  obtain ⟨p, cap, rfl, h1, h2, ⟨rfl, rfl, rfl⟩ | ⟨g, o, rfl, hg, hu⟩⟩ := h
  · exact ⟨none, 0, 0, 0, rfl, Nat.le_refl _, by omega, fun h => by simp at h, fun i hi => by simp at hi⟩
  · exact ⟨_, cap, g, o, rfl, h1, h2, fun _ => ⟨rfl, hg⟩, hu⟩
/-- a row that begins with the groups L -/
def UR (W : World) (g : Nat) (L : List Nat) : Prop := ∃ X, RowAt W g (u32s L ++ X) 84
theorem UR.u32 {w : World} {b : Nat} {l : List Nat} (h : UR w b l) (i : Nat) (hi : i < l.length) : w.cell? ⟨b, i, none⟩ = some (.int .u32 ((l.getD i 0 : Nat) : Int)) := by
  obtain ⟨X, h⟩ := h
  refine (h.cell i).trans ?_
  rw [Array.getElem?_append_left (by rw [u32s_size]; exact hi)]
  exact u32s_get l i hi
theorem UR.frozen {w : World} {b : Nat} {l : List Nat} (h : UR w b l) (i : Nat) : w.frozen? ⟨b, i, none⟩ = false := by
  obtain ⟨X, h⟩ := h; exact RowAt.frozen h i
theorem UR.set32 {w : World} {b : Nat} {l : List Nat} (h : UR w b l) (i x : Nat) (hi : i < l.length) : UR (w.setCell ⟨b, i, none⟩ (.int .u32 (x : Int))) b (l.set i x) := by
  obtain ⟨X, h⟩ := h
  refine ⟨X, ?_⟩
  have := h.set_same i (.int .u32 (x : Int))
  rwa [Array.setIfInBounds_append_left (by rw [u32s_size]; exact hi), u32s_set] at this
theorem UR.only {w w' : World} {b g : Nat} {l : List Nat} (h : UR w b l) (k : Only g w w') (hb : b ≠ g) : UR w' b l := by
  obtain ⟨X, h⟩ := h; exact ⟨X, RowAt.only h k hb⟩
theorem UR.below {w w' : World} {b B : Nat} {l : List Nat} (h : UR w b l) (hB : Below B w w') (hb : b < B) : UR w' b l := by
  obtain ⟨X, h⟩ := h; exact ⟨X, RowAt.below h hB hb⟩
theorem UR.drewN {w : World} {b : Nat} {l : List Nat} (h : UR w b l) (n : Nat) : UR (w.drewN n) b l := h
theorem UR.lt {w : World} {b : Nat} {l : List Nat} (h : UR w b l) : b < w.heap.size := by
  obtain ⟨X, h⟩ := h; exact RowAt.lt h
theorem UR.ua {w : World} {b : Nat} {l : List Nat} (h : UR w b l) : UA w b 0 l := fun i hi => by rw [Nat.zero_add]; exact h.u32 i hi
theorem UR.uaSeg {w : World} {b : Nat} {l : List Nat} (h : UR w b l) (o n : Nat) : UA w b o ((l.drop o).take n) := by
  have := (h.ua.drop o).take n; rwa [Nat.zero_add] at this
theorem RowAt.ur {w : World} {b : Nat} {l : List Nat} (h : RowAt w b (u32s l) 84) : UR w b l := ⟨#[], by rw [Array.append_empty]; exact h⟩
/-- a slice of groups that the call made -/
def OwnU (W : World) (B : Nat) (v : Value) (xs : List Nat) : Prop := W.ownsRow B 84 1 v xs.length (xs.map fun n : Nat => Value.int .u32 (n : Int))
theorem OwnU.below {W W' : World} {B : Nat} {v : Value} {xs : List Nat} (h : OwnU W B v xs) (hb : Below W.heap.size W W') : OwnU W' B v xs := by
  refine ⟨h.1, ?_⟩
  rcases h.2 with hn | ⟨g, cap, cur, e, hg, hgg, rest⟩
  · exact .inl hn
  · exact .inr ⟨g, cap, cur, e, hg, by rw [hb.block g (Array.getElem?_eq_some_iff.1 hgg).1]; exact hgg, rest⟩
theorem OwnU.nil (W : World) (B : Nat) : OwnU W B (.slice none 0 0) [] := World.ownsRow_nil _ _ _ _
theorem OwnU.snoc {W : World} {B : Nat} {v : Value} {xs : List Nat} {x : Nat} (h : W.ownsRow B 84 1 v (xs.length + 1) (xs.map (fun n : Nat => Value.int .u32 (n : Int)) ++ [.int .u32 (x : Int)])) : OwnU W B v (xs ++ [x]) := by
  unfold OwnU; rw [List.length_append, List.map_append]; exact h
theorem OwnU.open {W : World} {B : Nat} {v : Value} {xs : List Nat} (h : OwnU W B v xs) :
    (v = .slice none 0 0 ∧ xs = []) ∨ ∃ (cap g : Nat), v = .slice (some ⟨g, 0, none⟩) xs.length cap ∧ B ≤ g ∧ UR W g xs ∧ xs.length ≤ cap ∧ cap ≤ maxLen := by
  rcases h.2 with ⟨hv, hn⟩ | ⟨g, cap, cur, hv, hg, hgg, hle, hm, hsz, htk⟩
  · exact .inl ⟨hv, List.eq_nil_of_length_eq_zero hn⟩
  · refine .inr ⟨cap, g, hv, hg, ⟨(cur.toList.drop xs.length).toArray, ?_⟩, hle, hm⟩
    have e : u32s xs ++ (cur.toList.drop xs.length).toArray = cur := by
      rw [Nat.mul_one] at htk
      apply Array.ext'
      rw [Array.toList_append]
      show (xs.map _) ++ _ = _
      rw [← htk, List.take_append_drop]
    rw [e]; exact hgg
theorem OwnU.openS {W : World} {B g n cap : Nat} {xs : List Nat} (h : OwnU W B (.slice (some ⟨g, 0, none⟩) n cap) xs) : B ≤ g ∧ UR W g xs ∧ n = xs.length ∧ xs.length ≤ cap ∧ cap ≤ maxLen := by
  rcases h.open with ⟨h1, _⟩ | ⟨c, g', h1, h2, h3, h4, h5⟩
  · cases h1
  · injection h1 with e1 e2 e3
    injection e1 with e1
    injection e1 with e1
    subst e1
    subst e3
    exact ⟨h2, h3, e2, h4, h5⟩
theorem OwnU.na {W : World} {B : Nat} {v : Value} {xs : List Nat} (h : OwnU W B v xs) : NA W v xs := by
  rcases h.open with ⟨rfl, rfl⟩ | ⟨cap, g, rfl, hg, hu, h1, h2⟩
  · exact ⟨none, 0, rfl, Nat.le_refl _, by omega, .inl ⟨rfl, rfl, rfl⟩⟩
  · exact ⟨_, cap, rfl, h1, h2, .inr ⟨g, 0, rfl, hu.lt, hu.ua⟩⟩
theorem below_grown {B : Nat} {w w1 w3 : World} {v : Value} {xs : List Nat} (hb : Below B w w1) (hB : B ≤ w.heap.size) (hO : OwnU w1 B v xs) (hg : w1.grownBy w3 v.ownBlock) : Below B w w3 :=
  hb.trans ⟨hg.os, hg.tape, hg.output, hg.size, fun k hk => hg.block k (Nat.lt_of_lt_of_le (Nat.lt_of_lt_of_le hk hB) hb.size) (fun e => by
    rcases hO.2 with ⟨rfl, _⟩ | ⟨g, cap, cur, rfl, h1, _⟩
    · simp [Value.ownBlock] at e
    · simp [Value.ownBlock] at e; omega)⟩
theorem infoU : (Try.prog.info? 84).map (fun i => (i.zero, i.size, i.bytes)) = some (some (.int .u32 0), 1, 4) := by kernel_rfl
theorem cells_rep (n : Nat) : (madeCells (Value.int .u32 0).cells (n * 1)).toList = (List.replicate n 0).map fun n : Nat => Value.int .u32 (n : Int) := by
  rw [Nat.mul_one, List.map_replicate]
  simp [madeCells, Value.cells]
  rw [List.eq_replicate_iff]
  refine ⟨by simp, fun b hb => ?_⟩
  simp only [List.mem_map, Nat.mod_one] at hb
  obtain ⟨_, _, rfl⟩ := hb
  rfl
/-- make, its size a variable -/
theorem make_u32 {w : World} {ops : Array Oper} {rest : List Oper} {o : Oper} {a : Act} {Q : Exit → Act → World → Prop} (hg : o.guard = none) (l c : Operand) (hop : o.op = Op.makeSlice 52 l c)
    (base n : Nat) (hl : a.eval l = .int .i64 (n : Int)) (hc : a.eval c = .int .i64 (n : Int)) (hn : n ≤ 1000000) (hb : base ≤ w.heap.size)
    (h : ∀ w', OwnU w' base (.slice (some ⟨w.heap.size, 0, none⟩) n n) (List.replicate n 0) → Below base w w' → wpList Try.prog ops Q rest (a.put o.dst (.slice (some ⟨w.heap.size, 0, none⟩) n n)) w') : wpList Try.prog ops Q (o :: rest) a w := by
  obtain ⟨i0, hinf, hz0, hz1, hz2⟩ := info_parts infoU
  refine wpList_make_full w hg l c 52 hop base 84 i0 (.int .u32 0) 1 Try.underlying52 hinf hz0 hz1 .i64 .i64 (n : Int) (n : Int) n hl hc rfl rfl (by rw [hz2]; omega) (by unfold maxLen; omega) hb ?_
  intro w' ho hgr
  refine h w' ?_ ⟨hgr.os, hgr.tape, hgr.output, hgr.size, fun k hk => hgr.block k (by omega) (by simp)⟩
  unfold OwnU
  rw [List.length_replicate, ← cells_rep]
  exact ho
theorem UA.cells {W : World} {b o : Nat} {ls : List Nat} (h : UA W b o ls) : ∀ j u, (ls.map fun n : Nat => Value.int .u32 (n : Int))[j]? = some u → W.cell? ((⟨b, o, none⟩ : Addr).add j) = some u := by
  intro j u hj
  rw [List.getElem?_map] at hj
  have hlt : j < ls.length := by
    rcases Nat.lt_or_ge j ls.length with h1 | h1
    · exact h1
    · rw [List.getElem?_eq_none h1] at hj; cases hj
  rw [List.getElem?_eq_getElem hlt] at hj
  cases hj
  rw [Addr.add_lit]
  have := h j hlt
  rwa [List.getD_eq_getElem?_getD, List.getElem?_eq_getElem hlt] at this
theorem u32_one (ls : List Nat) : ∀ u ∈ ls.map (fun n : Nat => Value.int .u32 (n : Int)), u.oneCell' = true := by
  intro u hu; simp only [List.mem_map] at hu; obtain ⟨x, _, rfl⟩ := hu; rfl
/-- append of a natural, nil or not -/
theorem append_u32 {w : World} {ops : Array Oper} {rest : List Oper} {o : Oper} {a : Act} {Q : Exit → Act → World → Prop} (hgd : o.guard = none) (s x : Operand)
    (ho : o.op = .call { callee := .builtin .append, args := #[s, x], argTypes := #[52, 52] }) (base : Nat) (v : Value) (xs : List Nat) (hs : a.eval s = v) (hown : OwnU w base v xs)
    (vx : Value) (ys : List Nat) (hx : a.eval x = vx) (hys : NA w vx ys) (hl : xs.length + ys.length ≤ 1000000) (hb : base ≤ w.heap.size)
    (h : ∀ v' w', OwnU w' base v' (xs ++ ys) → (v ≠ .slice none 0 0 → v' ≠ .slice none 0 0) → Below base w w' → wpList Try.prog ops Q rest (a.put o.dst v') w') : wpList Try.prog ops Q (o :: rest) a w := by
  obtain ⟨i0, hinf, hz0, hz1, hz2⟩ := info_parts infoU
  obtain ⟨p, cap, rfl, h1, h2, ⟨rfl, rfl, rfl⟩ | ⟨g, o, rfl, hg, hu⟩⟩ := hys
  · exact wpList_append_own_none hgd s x 52 ho base 84 i0 1 Try.underlying52 hinf v xs.length _ hs hown hx (h v w (by rw [List.append_nil]; exact hown) id (Below.refl _ _))
  · refine wpList_append_own w hgd s x 52 ho base 84 i0 (.int .u32 0) 1 4 Try.underlying52 hinf hz0 hz1 hz2 rfl (by decide) v xs.length _ hs hown ⟨g, o, none⟩ ys.length cap (ys.map fun n : Nat => Value.int .u32 (n : Int)) hx (by rw [List.length_map, Nat.mul_one]) (UA.cells hu) (u32_one ys) (by unfold maxLen; omega) (by omega) hb ?_
    intro v' w' hown' hgrow hnil
    refine h v' w' ?_ (fun hv e => hv (hnil.1 e).1) (below_grown (Below.refl _ _) hb hown hgrow)
    unfold OwnU
    rw [List.length_append, List.map_append]
    exact hown'
end Go.Proofs.Yteaecpmdooolkaa
