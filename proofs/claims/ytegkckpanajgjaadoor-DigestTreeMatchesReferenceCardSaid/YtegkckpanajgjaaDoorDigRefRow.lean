/-
  The reference: rows of words and of bytes that a call made.
-/
import Derived.Test.YtegkckpanajgjaaDoorDigSum
import Derived.Laws.AppendOwnNone
import Derived.OwnWalk
namespace Go.Proofs.YtegkckpanajgjaaDoor
namespace D4
open Go.RowKit
/-- a slice's cells: groups -/
def UA (W : World) (g o : Nat) (l : List Nat) : Prop := ∀ i, i < l.length → W.cell? ⟨g, o + i, none⟩ = some (.int .u32 ((l.getD i 0 : Nat) : Int))
theorem UA.below {W W' : World} {g o : Nat} {l : List Nat} (h : UA W g o l) {B : Nat} (hB : Below B W W') (hg : g < B) : UA W' g o l := fun i hi => (hB.cell (p := ⟨g, o + i, none⟩) hg).trans (h i hi)
theorem UA.below1 {W W' : World} {g o : Nat} {l : List Nat} (h : UA W g o l) {B : Nat} (hB : Below B W W') (hg : 1 ≤ l.length → g < B) : UA W' g o l := fun i hi => (hB.cell (p := ⟨g, o + i, none⟩) (hg (by omega))).trans (h i hi)
theorem UA.drewN {W : World} {g o : Nat} {l : List Nat} (h : UA W g o l) (n : Nat) : UA (W.drewN n) g o l := h
theorem UA.take {W : World} {g o : Nat} {l : List Nat} (h : UA W g o l) (k : Nat) : UA W g o (l.take k) := fun i hi => by
  rw [List.length_take] at hi
  have e : (l.take k).getD i 0 = l.getD i 0 := by rw [List.getD_eq_getElem?_getD, List.getD_eq_getElem?_getD, List.getElem?_take, if_pos (by omega)]
  rw [e]; exact h i (by omega)
theorem UA.drop {W : World} {g o : Nat} {l : List Nat} (h : UA W g o l) (k : Nat) : UA W g (o + k) (l.drop k) := fun i hi => by
  rw [List.length_drop] at hi
  have e : (l.drop k).getD i 0 = l.getD (k + i) 0 := by rw [List.getD_eq_getElem?_getD, List.getD_eq_getElem?_getD, List.getElem?_drop]
  rw [e, Nat.add_assoc]; exact h (k + i) (by omega)
theorem UA.lt {W : World} {g o : Nat} {l : List Nat} (h : UA W g o l) (hl : 1 ≤ l.length) : g < W.heap.size := World.block_lt_of_cell? W _ (h 0 hl)
theorem RowAt.ua {w : World} {b : Nat} {l : List Nat} {t : TypeId} (h : RowAt w b (u32s l) t) : UA w b 0 l := fun i hi => by rw [Nat.zero_add]; exact h.u32 i hi
theorem RowAt.uaSeg {w : World} {b : Nat} {l : List Nat} {t : TypeId} (h : RowAt w b (u32s l) t) (o n : Nat) : UA w b o ((l.drop o).take n) := by
  have := ((RowAt.ua h).drop o).take n; rwa [Nat.zero_add] at this
/-- a natural: a slice that holds the groups l -/
def NA (W : World) (v : Value) (l : List Nat) : Prop := ∃ (p : Option Addr) (cap : Nat), v = .slice p l.length cap ∧ l.length ≤ cap ∧ cap ≤ maxLen ∧ ((p = none ∧ l = [] ∧ cap = 0) ∨ ∃ g o, p = some ⟨g, o, none⟩ ∧ g < W.heap.size ∧ UA W g o l)
theorem NA.below {W W' : World} {v : Value} {l : List Nat} (h : NA W v l) {B : Nat} (hB : Below B W W') (hw : W.heap.size ≤ B) : NA W' v l := by
  obtain ⟨p, cap, rfl, h1, h2, h3 | ⟨g, o, rfl, hg, hu⟩⟩ := h
  · exact ⟨p, cap, rfl, h1, h2, .inl h3⟩
  · exact ⟨_, cap, rfl, h1, h2, .inr ⟨g, o, rfl, by have := hB.size; omega, hu.below hB (by omega)⟩⟩
/-- opened for reading -/
theorem NA.open {W : World} {v : Value} {l : List Nat} (h : NA W v l) : ∃ (p : Option Addr) (cap g o : Nat), v = .slice p l.length cap ∧ l.length ≤ cap ∧ cap ≤ maxLen ∧ (1 ≤ l.length → p = some ⟨g, o, none⟩ ∧ g < W.heap.size) ∧ UA W g o l := by
  obtain ⟨p, cap, rfl, h1, h2, ⟨rfl, rfl, rfl⟩ | ⟨g, o, rfl, hg, hu⟩⟩ := h
  · exact ⟨none, 0, 0, 0, rfl, Nat.le_refl _, by omega, fun h => by simp at h, fun i hi => by simp at hi⟩
  · exact ⟨_, cap, g, o, rfl, h1, h2, fun _ => ⟨rfl, hg⟩, hu⟩
/-- a row that begins with the groups L -/
def UR (W : World) (g : Nat) (L : List Nat) : Prop := ∃ X, RowAt W g (u32s L ++ X) 47
theorem UR.u32 {w : World} {b : Nat} {l : List Nat} (h : UR w b l) (i : Nat) (hi : i < l.length) : w.cell? ⟨b, i, none⟩ = some (.int .u32 ((l.getD i 0 : Nat) : Int)) := by
  obtain ⟨X, h⟩ := h
  refine (h.cell i).trans ?_
  rw [Array.getElem?_append_left (by rw [u32s_size]; exact hi)]
  exact u32s_get l i hi
theorem UR.frozen {w : World} {b : Nat} {l : List Nat} (h : UR w b l) (i : Nat) : w.frozen? ⟨b, i, none⟩ = false := by
  obtain ⟨X, h⟩ := h; exact RowAt.frozen h i
theorem UR.set32 {w : World} {b : Nat} {l : List Nat} (h : UR w b l) (i x : Nat) (hi : i < l.length) : UR (w.setCell ⟨b, i, none⟩ (.int .u32 (x : Int))) b (l.set i x) := by
  obtain ⟨X, h⟩ := h
  refine ⟨X, ?_⟩
  have := h.set_same i (.int .u32 (x : Int))
  rwa [Array.setIfInBounds_append_left (by rw [u32s_size]; exact hi), u32s_set] at this
theorem UR.below {w w' : World} {b B : Nat} {l : List Nat} (h : UR w b l) (hB : Below B w w') (hb : b < B) : UR w' b l := by
  obtain ⟨X, h⟩ := h; exact ⟨X, RowAt.below h hB hb⟩
theorem UR.drewN {w : World} {b : Nat} {l : List Nat} (h : UR w b l) (n : Nat) : UR (w.drewN n) b l := h
theorem UR.lt {w : World} {b : Nat} {l : List Nat} (h : UR w b l) : b < w.heap.size := by
  obtain ⟨X, h⟩ := h; exact RowAt.lt h
theorem UR.ua {w : World} {b : Nat} {l : List Nat} (h : UR w b l) : UA w b 0 l := fun i hi => by rw [Nat.zero_add]; exact h.u32 i hi
theorem UR.uaSeg {w : World} {b : Nat} {l : List Nat} (h : UR w b l) (o n : Nat) : UA w b o ((l.drop o).take n) := by
  have := (h.ua.drop o).take n; rwa [Nat.zero_add] at this
theorem RowAt.ur {w : World} {b : Nat} {l : List Nat} (h : RowAt w b (u32s l) 47) : UR w b l := ⟨#[], by rw [Array.append_empty]; exact h⟩
/-- a slice of groups that the call made -/
def OwnU (W : World) (B : Nat) (v : Value) (xs : List Nat) : Prop := W.ownsRow B 47 1 v xs.length (xs.map fun n : Nat => Value.int .u32 (n : Int))
theorem OwnU.below {W W' : World} {B : Nat} {v : Value} {xs : List Nat} (h : OwnU W B v xs) (hb : Below W.heap.size W W') : OwnU W' B v xs := by
  refine ⟨h.1, ?_⟩
  rcases h.2 with hn | ⟨g, cap, cur, e, hg, hgg, rest⟩
  · exact .inl hn
  · exact .inr ⟨g, cap, cur, e, hg, by rw [hb.block g (Array.getElem?_eq_some_iff.1 hgg).1]; exact hgg, rest⟩
theorem OwnU.nil (W : World) (B : Nat) : OwnU W B (.slice none 0 0) [] := World.ownsRow_nil _ _ _ _
theorem OwnU.snoc {W : World} {B : Nat} {v : Value} {xs : List Nat} {x : Nat} (h : W.ownsRow B 47 1 v (xs.length + 1) (xs.map (fun n : Nat => Value.int .u32 (n : Int)) ++ [.int .u32 (x : Int)])) : OwnU W B v (xs ++ [x]) := by
  unfold OwnU; rw [List.length_append, List.map_append]; exact h
theorem OwnU.open {W : World} {B : Nat} {v : Value} {xs : List Nat} (h : OwnU W B v xs) :
    (v = .slice none 0 0 ∧ xs = []) ∨ ∃ (cap g : Nat), v = .slice (some ⟨g, 0, none⟩) xs.length cap ∧ B ≤ g ∧ UR W g xs ∧ xs.length ≤ cap ∧ cap ≤ maxLen := by
  rcases h.2 with ⟨hv, hn⟩ | ⟨g, cap, cur, hv, hg, hgg, hle, hm, hsz, htk⟩
  · exact .inl ⟨hv, List.eq_nil_of_length_eq_zero hn⟩
  · refine .inr ⟨cap, g, hv, hg, ⟨(cur.toList.drop xs.length).toArray, ?_⟩, hle, hm⟩
    have e : u32s xs ++ (cur.toList.drop xs.length).toArray = cur := by
      rw [Nat.mul_one] at htk
      apply Array.ext'
      rw [Array.toList_append]
      show (xs.map _) ++ _ = _
      rw [← htk, List.take_append_drop]
    rw [e]; exact hgg
theorem OwnU.openS {W : World} {B g n cap : Nat} {xs : List Nat} (h : OwnU W B (.slice (some ⟨g, 0, none⟩) n cap) xs) : B ≤ g ∧ UR W g xs ∧ n = xs.length ∧ xs.length ≤ cap ∧ cap ≤ maxLen := by
  rcases h.open with ⟨h1, _⟩ | ⟨c, g', h1, h2, h3, h4, h5⟩
  · cases h1
  · injection h1 with e1 e2 e3
    injection e1 with e1
    injection e1 with e1
    subst e1
    subst e3
    exact ⟨h2, h3, e2, h4, h5⟩
theorem OwnU.na {W : World} {B : Nat} {v : Value} {xs : List Nat} (h : OwnU W B v xs) : NA W v xs := by
  rcases h.open with ⟨rfl, rfl⟩ | ⟨cap, g, rfl, hg, hu, h1, h2⟩
  · exact ⟨none, 0, rfl, Nat.le_refl _, by omega, .inl ⟨rfl, rfl, rfl⟩⟩
  · exact ⟨_, cap, rfl, h1, h2, .inr ⟨g, 0, rfl, hu.lt, hu.ua⟩⟩
theorem below_grown {B : Nat} {w w1 w3 : World} {v : Value} {xs : List Nat} (hb : Below B w w1) (hB : B ≤ w.heap.size) (hO : OwnU w1 B v xs) (hg : w1.grownBy w3 v.ownBlock) : Below B w w3 :=
  hb.trans ⟨hg.os, hg.tape, hg.output, hg.size, fun k hk => hg.block k (Nat.lt_of_lt_of_le (Nat.lt_of_lt_of_le hk hB) hb.size) (fun e => by
    rcases hO.2 with ⟨rfl, _⟩ | ⟨g, cap, cur, rfl, h1, _⟩
    · simp [Value.ownBlock] at e
    · simp [Value.ownBlock] at e; omega)⟩
theorem infoU : (Tryd.prog.info? 47).map (fun i => (i.zero, i.size, i.bytes)) = some (some (.int .u32 0), 1, 4) := by kernel_rfl
theorem UA.cells {W : World} {b o : Nat} {ls : List Nat} (h : UA W b o ls) : ∀ j u, (ls.map fun n : Nat => Value.int .u32 (n : Int))[j]? = some u → W.cell? ((⟨b, o, none⟩ : Addr).add j) = some u := by
  intro j u hj
  rw [List.getElem?_map] at hj
  have hlt : j < ls.length := by
    rcases Nat.lt_or_ge j ls.length with h1 | h1
    · exact h1
    · rw [List.getElem?_eq_none h1] at hj; cases hj
  rw [List.getElem?_eq_getElem hlt] at hj
  cases hj
  rw [Addr.add_lit]
  have := h j hlt
  rwa [List.getD_eq_getElem?_getD, List.getElem?_eq_getElem hlt] at this
theorem u32_one (ls : List Nat) : ∀ u ∈ ls.map (fun n : Nat => Value.int .u32 (n : Int)), u.oneCell' = true := by
  intro u hu; simp only [List.mem_map] at hu; obtain ⟨x, _, rfl⟩ := hu; rfl
/-- append of a natural, nil or not -/
theorem append_u32 {w : World} {ops : Array Oper} {rest : List Oper} {o : Oper} {a : Act} {Q : Exit → Act → World → Prop} (hgd : o.guard = none) (s x : Operand)
    (ho : o.op = .call { callee := .builtin .append, args := #[s, x], argTypes := #[48, 48] }) (base : Nat) (v : Value) (xs : List Nat) (hs : a.eval s = v) (hown : OwnU w base v xs)
    (vx : Value) (ys : List Nat) (hx : a.eval x = vx) (hys : NA w vx ys) (hl : xs.length + ys.length ≤ 1000000) (hb : base ≤ w.heap.size)
    (h : ∀ v' w', OwnU w' base v' (xs ++ ys) → (v ≠ .slice none 0 0 → v' ≠ .slice none 0 0) → Below base w w' → wpList Tryd.prog ops Q rest (a.put o.dst v') w') : wpList Tryd.prog ops Q (o :: rest) a w := by
  obtain ⟨i0, hinf, hz0, hz1, hz2⟩ := info_parts infoU
  obtain ⟨p, cap, rfl, h1, h2, ⟨rfl, rfl, rfl⟩ | ⟨g, o, rfl, hg, hu⟩⟩ := hys
  · exact wpList_append_own_none hgd s x 48 ho base 47 i0 1 Tryd.underlying48 hinf v xs.length _ hs hown hx (h v w (by rw [List.append_nil]; exact hown) id (Below.refl _ _))
  · refine wpList_append_own w hgd s x 48 ho base 47 i0 (.int .u32 0) 1 4 Tryd.underlying48 hinf hz0 hz1 hz2 rfl (by decide) v xs.length _ hs hown ⟨g, o, none⟩ ys.length cap (ys.map fun n : Nat => Value.int .u32 (n : Int)) hx (by rw [List.length_map, Nat.mul_one]) (UA.cells hu) (u32_one ys) (by unfold maxLen; omega) (by omega) hb ?_
    intro v' w' hown' hgrow hnil
    refine h v' w' ?_ (fun hv e => hv (hnil.1 e).1) (below_grown (Below.refl _ _) hb hown hgrow)
    unfold OwnU
    rw [List.length_append, List.map_append]
    exact hown'
theorem NA.one (W : World) (x : Nat) : NA (W.alloc (.cells #[.int .u32 (x : Int)] 47)) (.slice (some ⟨W.heap.size, 0, none⟩) 1 1) [x] :=
  ⟨_, 1, rfl, Nat.le_refl _, by unfold maxLen; omega, .inr ⟨_, 0, rfl, by rw [World.size_alloc]; omega, RowAt.ua (RowAt.new W (u32s [x]) _)⟩⟩
theorem NA.lit (W : World) (x : Nat) (z : Int) (h : z = (x : Int)) : NA (W.alloc (.cells #[.int .u32 z] 47)) (.slice (some ⟨W.heap.size, 0, none⟩) 1 1) [x] := by
  subst h; exact NA.one W x
end D4
namespace D1
open Go.RowKit
/-- a slice's cells: groups -/
def UA (W : World) (g o : Nat) (l : List Nat) : Prop := ∀ i, i < l.length → W.cell? ⟨g, o + i, none⟩ = some (.int .u8 ((l.getD i 0 : Nat) : Int))
theorem UA.below {W W' : World} {g o : Nat} {l : List Nat} (h : UA W g o l) {B : Nat} (hB : Below B W W') (hg : g < B) : UA W' g o l := fun i hi => (hB.cell (p := ⟨g, o + i, none⟩) hg).trans (h i hi)
theorem UA.below1 {W W' : World} {g o : Nat} {l : List Nat} (h : UA W g o l) {B : Nat} (hB : Below B W W') (hg : 1 ≤ l.length → g < B) : UA W' g o l := fun i hi => (hB.cell (p := ⟨g, o + i, none⟩) (hg (by omega))).trans (h i hi)
theorem UA.drewN {W : World} {g o : Nat} {l : List Nat} (h : UA W g o l) (n : Nat) : UA (W.drewN n) g o l := h
theorem UA.take {W : World} {g o : Nat} {l : List Nat} (h : UA W g o l) (k : Nat) : UA W g o (l.take k) := fun i hi => by
  rw [List.length_take] at hi
  have e : (l.take k).getD i 0 = l.getD i 0 := by rw [List.getD_eq_getElem?_getD, List.getD_eq_getElem?_getD, List.getElem?_take, if_pos (by omega)]
  rw [e]; exact h i (by omega)
theorem UA.drop {W : World} {g o : Nat} {l : List Nat} (h : UA W g o l) (k : Nat) : UA W g (o + k) (l.drop k) := fun i hi => by
  rw [List.length_drop] at hi
  have e : (l.drop k).getD i 0 = l.getD (k + i) 0 := by rw [List.getD_eq_getElem?_getD, List.getD_eq_getElem?_getD, List.getElem?_drop]
  rw [e, Nat.add_assoc]; exact h (k + i) (by omega)
theorem UA.lt {W : World} {g o : Nat} {l : List Nat} (h : UA W g o l) (hl : 1 ≤ l.length) : g < W.heap.size := World.block_lt_of_cell? W _ (h 0 hl)
theorem RowAt.ua {w : World} {b : Nat} {l : List Nat} {t : TypeId} (h : RowAt w b (u8s l) t) : UA w b 0 l := fun i hi => by rw [Nat.zero_add]; exact h.u8 i hi
theorem RowAt.uaSeg {w : World} {b : Nat} {l : List Nat} {t : TypeId} (h : RowAt w b (u8s l) t) (o n : Nat) : UA w b o ((l.drop o).take n) := by
  have := ((RowAt.ua h).drop o).take n; rwa [Nat.zero_add] at this
/-- a natural: a slice that holds the groups l -/
def NA (W : World) (v : Value) (l : List Nat) : Prop := ∃ (p : Option Addr) (cap : Nat), v = .slice p l.length cap ∧ l.length ≤ cap ∧ cap ≤ maxLen ∧ ((p = none ∧ l = [] ∧ cap = 0) ∨ ∃ g o, p = some ⟨g, o, none⟩ ∧ g < W.heap.size ∧ UA W g o l)
theorem NA.below {W W' : World} {v : Value} {l : List Nat} (h : NA W v l) {B : Nat} (hB : Below B W W') (hw : W.heap.size ≤ B) : NA W' v l := by
  obtain ⟨p, cap, rfl, h1, h2, h3 | ⟨g, o, rfl, hg, hu⟩⟩ := h
  · exact ⟨p, cap, rfl, h1, h2, .inl h3⟩
  · exact ⟨_, cap, rfl, h1, h2, .inr ⟨g, o, rfl, by have := hB.size; omega, hu.below hB (by omega)⟩⟩
/-- opened for reading -/
theorem NA.open {W : World} {v : Value} {l : List Nat} (h : NA W v l) : ∃ (p : Option Addr) (cap g o : Nat), v = .slice p l.length cap ∧ l.length ≤ cap ∧ cap ≤ maxLen ∧ (1 ≤ l.length → p = some ⟨g, o, none⟩ ∧ g < W.heap.size) ∧ UA W g o l := by
  obtain ⟨p, cap, rfl, h1, h2, ⟨rfl, rfl, rfl⟩ | ⟨g, o, rfl, hg, hu⟩⟩ := h
  · exact ⟨none, 0, 0, 0, rfl, Nat.le_refl _, by omega, fun h => by simp at h, fun i hi => by simp at hi⟩
  · exact ⟨_, cap, g, o, rfl, h1, h2, fun _ => ⟨rfl, hg⟩, hu⟩
/-- a row that begins with the groups L -/
def UR (W : World) (g : Nat) (L : List Nat) : Prop := ∃ X, RowAt W g (u8s L ++ X) 5
theorem UR.u8 {w : World} {b : Nat} {l : List Nat} (h : UR w b l) (i : Nat) (hi : i < l.length) : w.cell? ⟨b, i, none⟩ = some (.int .u8 ((l.getD i 0 : Nat) : Int)) := by
  obtain ⟨X, h⟩ := h
  refine (h.cell i).trans ?_
  rw [Array.getElem?_append_left (by rw [u8s_size]; exact hi)]
  exact u8s_get l i hi
theorem UR.frozen {w : World} {b : Nat} {l : List Nat} (h : UR w b l) (i : Nat) : w.frozen? ⟨b, i, none⟩ = false := by
  obtain ⟨X, h⟩ := h; exact RowAt.frozen h i
theorem UR.set8 {w : World} {b : Nat} {l : List Nat} (h : UR w b l) (i x : Nat) (hi : i < l.length) : UR (w.setCell ⟨b, i, none⟩ (.int .u8 (x : Int))) b (l.set i x) := by
  obtain ⟨X, h⟩ := h
  refine ⟨X, ?_⟩
  have := h.set_same i (.int .u8 (x : Int))
  rwa [Array.setIfInBounds_append_left (by rw [u8s_size]; exact hi), u8s_set] at this
theorem UR.below {w w' : World} {b B : Nat} {l : List Nat} (h : UR w b l) (hB : Below B w w') (hb : b < B) : UR w' b l := by
  obtain ⟨X, h⟩ := h; exact ⟨X, RowAt.below h hB hb⟩
theorem UR.drewN {w : World} {b : Nat} {l : List Nat} (h : UR w b l) (n : Nat) : UR (w.drewN n) b l := h
theorem UR.lt {w : World} {b : Nat} {l : List Nat} (h : UR w b l) : b < w.heap.size := by
  obtain ⟨X, h⟩ := h; exact RowAt.lt h
theorem UR.ua {w : World} {b : Nat} {l : List Nat} (h : UR w b l) : UA w b 0 l := fun i hi => by rw [Nat.zero_add]; exact h.u8 i hi
theorem UR.uaSeg {w : World} {b : Nat} {l : List Nat} (h : UR w b l) (o n : Nat) : UA w b o ((l.drop o).take n) := by
  have := (h.ua.drop o).take n; rwa [Nat.zero_add] at this
theorem RowAt.ur {w : World} {b : Nat} {l : List Nat} (h : RowAt w b (u8s l) 5) : UR w b l := ⟨#[], by rw [Array.append_empty]; exact h⟩
/-- a slice of groups that the call made -/
def OwnU (W : World) (B : Nat) (v : Value) (xs : List Nat) : Prop := W.ownsRow B 5 1 v xs.length (xs.map fun n : Nat => Value.int .u8 (n : Int))
theorem OwnU.below {W W' : World} {B : Nat} {v : Value} {xs : List Nat} (h : OwnU W B v xs) (hb : Below W.heap.size W W') : OwnU W' B v xs := by
  refine ⟨h.1, ?_⟩
  rcases h.2 with hn | ⟨g, cap, cur, e, hg, hgg, rest⟩
  · exact .inl hn
  · exact .inr ⟨g, cap, cur, e, hg, by rw [hb.block g (Array.getElem?_eq_some_iff.1 hgg).1]; exact hgg, rest⟩
theorem OwnU.nil (W : World) (B : Nat) : OwnU W B (.slice none 0 0) [] := World.ownsRow_nil _ _ _ _
theorem OwnU.snoc {W : World} {B : Nat} {v : Value} {xs : List Nat} {x : Nat} (h : W.ownsRow B 5 1 v (xs.length + 1) (xs.map (fun n : Nat => Value.int .u8 (n : Int)) ++ [.int .u8 (x : Int)])) : OwnU W B v (xs ++ [x]) := by
  unfold OwnU; rw [List.length_append, List.map_append]; exact h
theorem OwnU.open {W : World} {B : Nat} {v : Value} {xs : List Nat} (h : OwnU W B v xs) :
    (v = .slice none 0 0 ∧ xs = []) ∨ ∃ (cap g : Nat), v = .slice (some ⟨g, 0, none⟩) xs.length cap ∧ B ≤ g ∧ UR W g xs ∧ xs.length ≤ cap ∧ cap ≤ maxLen := by
  rcases h.2 with ⟨hv, hn⟩ | ⟨g, cap, cur, hv, hg, hgg, hle, hm, hsz, htk⟩
  · exact .inl ⟨hv, List.eq_nil_of_length_eq_zero hn⟩
  · refine .inr ⟨cap, g, hv, hg, ⟨(cur.toList.drop xs.length).toArray, ?_⟩, hle, hm⟩
    have e : u8s xs ++ (cur.toList.drop xs.length).toArray = cur := by
      rw [Nat.mul_one] at htk
      apply Array.ext'
      rw [Array.toList_append]
      show (xs.map _) ++ _ = _
      rw [← htk, List.take_append_drop]
    rw [e]; exact hgg
theorem OwnU.openS {W : World} {B g n cap : Nat} {xs : List Nat} (h : OwnU W B (.slice (some ⟨g, 0, none⟩) n cap) xs) : B ≤ g ∧ UR W g xs ∧ n = xs.length ∧ xs.length ≤ cap ∧ cap ≤ maxLen := by
  rcases h.open with ⟨h1, _⟩ | ⟨c, g', h1, h2, h3, h4, h5⟩
  · cases h1
  · injection h1 with e1 e2 e3
    injection e1 with e1
    injection e1 with e1
    subst e1
    subst e3
    exact ⟨h2, h3, e2, h4, h5⟩
theorem OwnU.na {W : World} {B : Nat} {v : Value} {xs : List Nat} (h : OwnU W B v xs) : NA W v xs := by
  rcases h.open with ⟨rfl, rfl⟩ | ⟨cap, g, rfl, hg, hu, h1, h2⟩
  · exact ⟨none, 0, rfl, Nat.le_refl _, by omega, .inl ⟨rfl, rfl, rfl⟩⟩
  · exact ⟨_, cap, rfl, h1, h2, .inr ⟨g, 0, rfl, hu.lt, hu.ua⟩⟩
theorem below_grown {B : Nat} {w w1 w3 : World} {v : Value} {xs : List Nat} (hb : Below B w w1) (hB : B ≤ w.heap.size) (hO : OwnU w1 B v xs) (hg : w1.grownBy w3 v.ownBlock) : Below B w w3 :=
  hb.trans ⟨hg.os, hg.tape, hg.output, hg.size, fun k hk => hg.block k (Nat.lt_of_lt_of_le (Nat.lt_of_lt_of_le hk hB) hb.size) (fun e => by
    rcases hO.2 with ⟨rfl, _⟩ | ⟨g, cap, cur, rfl, h1, _⟩
    · simp [Value.ownBlock] at e
    · simp [Value.ownBlock] at e; omega)⟩
theorem infoU : (Tryd.prog.info? 5).map (fun i => (i.zero, i.size, i.bytes)) = some (some (.int .u8 0), 1, 1) := by kernel_rfl
theorem UA.cells {W : World} {b o : Nat} {ls : List Nat} (h : UA W b o ls) : ∀ j u, (ls.map fun n : Nat => Value.int .u8 (n : Int))[j]? = some u → W.cell? ((⟨b, o, none⟩ : Addr).add j) = some u := by
  intro j u hj
  rw [List.getElem?_map] at hj
  have hlt : j < ls.length := by
    rcases Nat.lt_or_ge j ls.length with h1 | h1
    · exact h1
    · rw [List.getElem?_eq_none h1] at hj; cases hj
  rw [List.getElem?_eq_getElem hlt] at hj
  cases hj
  rw [Addr.add_lit]
  have := h j hlt
  rwa [List.getD_eq_getElem?_getD, List.getElem?_eq_getElem hlt] at this
theorem u32_one (ls : List Nat) : ∀ u ∈ ls.map (fun n : Nat => Value.int .u8 (n : Int)), u.oneCell' = true := by
  intro u hu; simp only [List.mem_map] at hu; obtain ⟨x, _, rfl⟩ := hu; rfl
/-- append of a natural, nil or not -/
theorem append_u32 {w : World} {ops : Array Oper} {rest : List Oper} {o : Oper} {a : Act} {Q : Exit → Act → World → Prop} (hgd : o.guard = none) (s x : Operand)
    (ho : o.op = .call { callee := .builtin .append, args := #[s, x], argTypes := #[42, 42] }) (base : Nat) (v : Value) (xs : List Nat) (hs : a.eval s = v) (hown : OwnU w base v xs)
    (vx : Value) (ys : List Nat) (hx : a.eval x = vx) (hys : NA w vx ys) (hl : xs.length + ys.length ≤ 1000000) (hb : base ≤ w.heap.size)
    (h : ∀ v' w', OwnU w' base v' (xs ++ ys) → (v ≠ .slice none 0 0 → v' ≠ .slice none 0 0) → Below base w w' → wpList Tryd.prog ops Q rest (a.put o.dst v') w') : wpList Tryd.prog ops Q (o :: rest) a w := by
  obtain ⟨i0, hinf, hz0, hz1, hz2⟩ := info_parts infoU
  obtain ⟨p, cap, rfl, h1, h2, ⟨rfl, rfl, rfl⟩ | ⟨g, o, rfl, hg, hu⟩⟩ := hys
  · exact wpList_append_own_none hgd s x 42 ho base 5 i0 1 Tryd.underlying42 hinf v xs.length _ hs hown hx (h v w (by rw [List.append_nil]; exact hown) id (Below.refl _ _))
  · refine wpList_append_own w hgd s x 42 ho base 5 i0 (.int .u8 0) 1 1 Tryd.underlying42 hinf hz0 hz1 hz2 rfl (by decide) v xs.length _ hs hown ⟨g, o, none⟩ ys.length cap (ys.map fun n : Nat => Value.int .u8 (n : Int)) hx (by rw [List.length_map, Nat.mul_one]) (UA.cells hu) (u32_one ys) (by unfold maxLen; omega) (by omega) hb ?_
    intro v' w' hown' hgrow hnil
    refine h v' w' ?_ (fun hv e => hv (hnil.1 e).1) (below_grown (Below.refl _ _) hb hown hgrow)
    unfold OwnU
    rw [List.length_append, List.map_append]
    exact hown'
theorem NA.one (W : World) (x : Nat) : NA (W.alloc (.cells #[.int .u8 (x : Int)] 5)) (.slice (some ⟨W.heap.size, 0, none⟩) 1 1) [x] :=
  ⟨_, 1, rfl, Nat.le_refl _, by unfold maxLen; omega, .inr ⟨_, 0, rfl, by rw [World.size_alloc]; omega, RowAt.ua (RowAt.new W (u8s [x]) _)⟩⟩
theorem NA.lit (W : World) (x : Nat) (z : Int) (h : z = (x : Int)) : NA (W.alloc (.cells #[.int .u8 z] 5)) (.slice (some ⟨W.heap.size, 0, none⟩) 1 1) [x] := by
  subst h; exact NA.one W x
end D1
end Go.Proofs.YtegkckpanajgjaaDoor
