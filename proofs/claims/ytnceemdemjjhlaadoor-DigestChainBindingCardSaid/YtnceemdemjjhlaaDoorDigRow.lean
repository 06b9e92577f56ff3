/-
  Rows of memory: whole arrays of words and bytes.
-/
import Derived.Test.YtnceemdemjjhlaaDoorDigRot
import Derived.Laws.Rows
import Derived.Laws.Tables
import Derived.Deep.WholeRow
import Derived.Laws.CopyOwn
import Derived.StillTailTactics
namespace Go.Proofs.YtnceemdemjjhlaaDoor
open Go.RowKit

/-- a fact that no tactic looks into -/
structure Shut (p : Prop) : Prop where
  o : p
def u8s (l : List Nat) : Array Value := (l.map fun n : Nat => Value.int .u8 (n : Int)).toArray
def u32s (l : List Nat) : Array Value := (l.map fun n : Nat => Value.int .u32 (n : Int)).toArray
theorem u8s_size (l : List Nat) : (u8s l).size = l.length := by simp [u8s]
theorem u32s_size (l : List Nat) : (u32s l).size = l.length := by simp [u32s]
theorem u8s_get (l : List Nat) (i : Nat) (h : i < l.length) : (u8s l)[i]? = some (.int .u8 ((l.getD i 0 : Nat) : Int)) := by simp [u8s, List.getD, h]
theorem u32s_get (l : List Nat) (i : Nat) (h : i < l.length) : (u32s l)[i]? = some (.int .u32 ((l.getD i 0 : Nat) : Int)) := by simp [u32s, List.getD, h]
theorem u8s_set (l : List Nat) (i x : Nat) : (u8s l).setIfInBounds i (.int .u8 (x : Int)) = u8s (l.set i x) := by simp [u8s, List.map_set]
theorem u32s_set (l : List Nat) (i x : Nat) : (u32s l).setIfInBounds i (.int .u32 (x : Int)) = u32s (l.set i x) := by simp [u32s, List.map_set]
theorem u8s_one (l : List Nat) : (u8s l).all (·.oneCell') = true := by rw [Array.all_eq_true_iff_forall_mem]; intro v hv; simp only [u8s, List.mem_toArray, List.mem_map] at hv; obtain ⟨n, _, rfl⟩ := hv; rfl
theorem u32s_one (l : List Nat) : (u32s l).all (·.oneCell') = true := by rw [Array.all_eq_true_iff_forall_mem]; intro v hv; simp only [u32s, List.mem_toArray, List.mem_map] at hv; obtain ⟨n, _, rfl⟩ := hv; rfl

theorem World.heap_alloc_keep (w : World) (o : Obj) {b : Nat} (h : b < w.heap.size) : (w.alloc o).heap[b]? = w.heap[b]? := by
  show (w.heap.push o)[b]? = w.heap[b]?
  simp [Array.getElem?_push, show b ≠ w.heap.size by omega]
/-- a whole row of cells -/
def RowAt (W : World) (b : Nat) (c : Array Value) (t : TypeId) : Prop := W.heap[b]? = some (.cells c t (0, 0))
theorem RowAt.new (w : World) (c : Array Value) (t : TypeId) : RowAt (w.alloc (.cells c t)) w.heap.size c t := heap_alloc_new w _
theorem RowAt.lt {w : World} {b : Nat} {c : Array Value} {t : TypeId} (h : RowAt w b c t) : b < w.heap.size := (Array.getElem?_eq_some_iff.1 h).1
theorem RowAt.alloc {w : World} {b : Nat} {c : Array Value} {t : TypeId} (h : RowAt w b c t) (o : Obj) : RowAt (w.alloc o) b c t := (World.heap_alloc_keep w o (RowAt.lt h)).trans h
theorem RowAt.below {w w' : World} {b B : Nat} {c : Array Value} {t : TypeId} (h : RowAt w b c t) (hB : Below B w w') (hb : b < B) : RowAt w' b c t := (hB.block b hb).trans h
theorem RowAt.set_same {w : World} {b : Nat} {c : Array Value} {t : TypeId} (h : RowAt w b c t) (i : Nat) (v : Value) : RowAt (w.setCell ⟨b, i, none⟩ v) b (c.setIfInBounds i v) t := heap_setCell_same w b i c t v h
theorem RowAt.set_other {w : World} {b : Nat} {c : Array Value} {t : TypeId} (h : RowAt w b c t) (p : Addr) (hp : b ≠ p.block) (v : Value) : RowAt (w.setCell p v) b c t := (heap_setCell_other w p b v hp).trans h
theorem RowAt.row_same {w : World} {b : Nat} {c : Array Value} {t : TypeId} (h : RowAt w b c t) (c' : Array Value) : RowAt (w.setRow b c') b c' t := setRow_heap w b c c' t _ h
theorem RowAt.row_other {w : World} {b : Nat} {c : Array Value} {t : TypeId} (h : RowAt w b c t) (g : Nat) (hg : b ≠ g) (c' : Array Value) : RowAt (w.setRow g c') b c t := (setRow_other w g b c' hg).trans h
theorem RowAt.drewN {w : World} {b : Nat} {c : Array Value} {t : TypeId} (h : RowAt w b c t) (n : Nat) : RowAt (w.drewN n) b c t := h
theorem RowAt.drew {w : World} {b : Nat} {c : Array Value} {t : TypeId} (h : RowAt w b c t) : RowAt w.drew b c t := h
theorem RowAt.cell {w : World} {b : Nat} {c : Array Value} {t : TypeId} (h : RowAt w b c t) (i : Nat) : w.cell? ⟨b, i, none⟩ = c[i]? := cell_of_row w b i c t _ h
theorem RowAt.frozen {w : World} {b : Nat} {c : Array Value} {t : TypeId} (h : RowAt w b c t) (i : Nat) : w.frozen? ⟨b, i, none⟩ = false := frozen_of_row w b i c t h
theorem RowAt.u8 {w : World} {b : Nat} {l : List Nat} {t : TypeId} (h : RowAt w b (u8s l) t) (i : Nat) (hi : i < l.length) : w.cell? ⟨b, i, none⟩ = some (.int .u8 ((l.getD i 0 : Nat) : Int)) := (h.cell i).trans (u8s_get l i hi)
theorem RowAt.u32 {w : World} {b : Nat} {l : List Nat} {t : TypeId} (h : RowAt w b (u32s l) t) (i : Nat) (hi : i < l.length) : w.cell? ⟨b, i, none⟩ = some (.int .u32 ((l.getD i 0 : Nat) : Int)) := (h.cell i).trans (u32s_get l i hi)
theorem RowAt.set8 {w : World} {b : Nat} {l : List Nat} {t : TypeId} (h : RowAt w b (u8s l) t) (i x : Nat) : RowAt (w.setCell ⟨b, i, none⟩ (.int .u8 (x : Int))) b (u8s (l.set i x)) t := u8s_set l i x ▸ h.set_same i _
theorem RowAt.set32 {w : World} {b : Nat} {l : List Nat} {t : TypeId} (h : RowAt w b (u32s l) t) (i x : Nat) : RowAt (w.setCell ⟨b, i, none⟩ (.int .u32 (x : Int))) b (u32s (l.set i x)) t := u32s_set l i x ▸ h.set_same i _

theorem be_int (a b c d : Nat) (ha : a < 256) (hb : b < 256) (hc : c < 256) :
    bits .or .u32 (bits .or .u32 (bits .or .u32 ((a : Int) * 16777216) ((b : Int) * 65536)) ((c : Int) * 256)) (d : Int) = ((Sh.be a b c d : Nat) : Int) := by
  have e1 : ((a : Int) * 16777216) = ((Sh.shl a 24 : Nat) : Int) := by simp only [Sh.shl]; omega
  have e2 : ((b : Int) * 65536) = ((Sh.shl b 16 : Nat) : Int) := by simp only [Sh.shl]; omega
  have e3 : ((c : Int) * 256) = ((Sh.shl c 8 : Nat) : Int) := by simp only [Sh.shl]; omega
  rw [e1, e2, e3, i_or, i_or, i_or]; rfl
theorem sg0_int (x : Nat) : bits .xor .u32 (bits .xor .u32 ((Sh.rot x 7 : Nat) : Int) ((Sh.rot x 18 : Nat) : Int)) ((x : Int) / 8) = ((Sh.sg0 x : Nat) : Int) := by
  rw [show ((x : Int) / 8) = ((x / 8 : Nat) : Int) by omega, i_xr, i_xr]; rfl
theorem sg1_int (x : Nat) : bits .xor .u32 (bits .xor .u32 ((Sh.rot x 17 : Nat) : Int) ((Sh.rot x 19 : Nat) : Int)) ((x : Int) / 1024) = ((Sh.sg1 x : Nat) : Int) := by
  rw [show ((x : Int) / 1024) = ((x / 1024 : Nat) : Int) by omega, i_xr, i_xr]; rfl
theorem RowAt.loads {P : Program} {W : World} {b n : Nat} {c : Array Value} {t : TypeId} (h : RowAt W b c t) (hn : c.size = n) : (loadCellsFrom ⟨b, 0, none⟩ 0 n #[]).run P W = .ok c W := by
  subst hn
  have := run_loadCells_list (P := P) W ⟨b, 0, none⟩ c.toList (fun j v hv => by
    have hadd : (⟨b, 0, none⟩ : Addr).add j = ⟨b, j, none⟩ := by unfold Addr.add; split <;> simp_all
    rw [hadd, h.cell j]
    simpa using hv)
  simpa [loadCells] using this
theorem RowAt.stores {P : Program} {W : World} {b n : Nat} {c c' : Array Value} {t : TypeId} (h : RowAt W b c t) (hn : c.size = n) (hn' : c'.size = n) (h1 : c'.all (·.oneCell') = true) :
    (storeCells ⟨b, 0, none⟩ c'.toList 0).run P W = .ok () (W.setRow b c') :=
  run_storeCells_from (P := P) b t c'.toList 0 c W h (by simp; omega) (fun v hv => (Array.all_eq_true_iff_forall_mem.1 h1) v (by simpa using hv))
theorem info64 : (Tryd.prog.info? 72).map (·.size) = some 64 := by kernel_rfl
theorem info8 : (Tryd.prog.info? 61).map (·.size) = some 8 := by kernel_rfl
theorem infoB : (Tryd.prog.info? 65).map (·.size) = some 64 := by kernel_rfl
theorem info8u : (Tryd.prog.info? 60).map (·.size) = some 8 := by kernel_rfl
theorem index_u32s (t : TypeId) (hu : Tryd.prog.underlying t = some (.array 8 47)) (L : List Nat) (j : Nat) (hj : j < 8) (hl : L.length = 8) (w : World) :
    Sem.run Tryd.prog (Instr.index t (.agg (u32s L)) (.int .i64 (j : Int))) w = .ok (.int .u32 ((L.getD j 0 : Nat) : Int)) w := by
  have h1 : (0 : Int) ≤ (j : Int) ∧ (j : Int) < ((8 : Nat) : Int) := by omega
  have hg := u32s_get L j (by omega)
  have hs : (Go.sizeOf 47).run Tryd.prog w = .ok 1 w := by kernel_rfl
  simp [Instr.index, run_underlying hu, asIntOf, part, hs, hg, hj]
theorem map_range_getD (f : Nat → Nat) (n k : Nat) (h : k < n) : ((List.range n).map f).getD k 0 = f k := by
  rw [List.getD_eq_getElem?_getD, List.getElem?_map, List.getElem?_range h]; rfl
theorem w16_get (b : List Nat) (k : Nat) (h : k < 16) : (Sh.w16 b).getD k 0 = Sh.be (b.getD (4 * k) 0) (b.getD (4 * k + 1) 0) (b.getD (4 * k + 2) 0) (b.getD (4 * k + 3) 0) := by
  rw [← Sh.word]
  exact map_range_getD (Sh.word b) 16 k h
theorem nxt_get (l : List Nat) (k : Nat) : Sh.nxt l (k + 16) = Sh.add (Sh.add (Sh.add (l.getD k 0) (Sh.sg0 (l.getD (k + 1) 0))) (l.getD (k + 9) 0)) (Sh.sg1 (l.getD (k + 14) 0)) := by
  rw [Sh.nxt, show k + 16 - 16 = k by omega, show k + 16 - 15 = k + 1 by omega, show k + 16 - 7 = k + 9 by omega, show k + 16 - 2 = k + 14 by omega]
theorem fill_step (L : List Nat) (k N x : Nat) (hk : k < L.length) (hN : k < N) (hx : x = L.getD k 0) : (L.take k ++ List.replicate (N - k) 0).set k x = L.take (k + 1) ++ List.replicate (N - (k + 1)) 0 := by
  have e : List.replicate (N - k) 0 = 0 :: List.replicate (N - (k + 1)) 0 := by rw [← List.replicate_succ]; congr 1; omega
  have hl : (L.take k).length = k := by simp; omega
  have hg : L.getD k 0 = L[k] := by simp [List.getD, hk]
  rw [e, List.set_append_right _ _ (by omega), hl, Nat.sub_self, List.set_cons_zero, hx, hg, List.take_succ_eq_append_getElem hk]
  simp only [List.append_assoc, List.singleton_append]
theorem grow_step (L : List Nat) (N x : Nat) (hN : L.length < N) : (L ++ List.replicate (N - L.length) 0).set L.length x = (L ++ [x]) ++ List.replicate (N - (L.length + 1)) 0 := by
  have e : List.replicate (N - L.length) 0 = 0 :: List.replicate (N - (L.length + 1)) 0 := by rw [← List.replicate_succ]; congr 1; omega
  rw [e, List.set_append_right _ _ (by omega), Nat.sub_self, List.set_cons_zero]; simp
theorem getD_app (L R : List Nat) (i : Nat) (h : i < L.length) : (L ++ R).getD i 0 = L.getD i 0 := by simp [List.getD, List.getElem?_append_left h]
theorem len_fill (L : List Nat) (N k : Nat) (h : k ≤ L.length) (hN : k ≤ N) : (L.take k ++ List.replicate (N - k) 0).length = N := by simp; omega

theorem z64 : #[Value.int IntKind.u32 0, Value.int IntKind.u32 0, Value.int IntKind.u32 0, Value.int IntKind.u32 0, Value.int IntKind.u32 0, Value.int IntKind.u32 0, Value.int IntKind.u32 0, Value.int IntKind.u32 0, Value.int IntKind.u32 0, Value.int IntKind.u32 0, Value.int IntKind.u32 0, Value.int IntKind.u32 0, Value.int IntKind.u32 0, Value.int IntKind.u32 0, Value.int IntKind.u32 0, Value.int IntKind.u32 0, Value.int IntKind.u32 0, Value.int IntKind.u32 0, Value.int IntKind.u32 0, Value.int IntKind.u32 0, Value.int IntKind.u32 0, Value.int IntKind.u32 0, Value.int IntKind.u32 0, Value.int IntKind.u32 0, Value.int IntKind.u32 0, Value.int IntKind.u32 0, Value.int IntKind.u32 0, Value.int IntKind.u32 0, Value.int IntKind.u32 0, Value.int IntKind.u32 0, Value.int IntKind.u32 0, Value.int IntKind.u32 0, Value.int IntKind.u32 0, Value.int IntKind.u32 0, Value.int IntKind.u32 0, Value.int IntKind.u32 0, Value.int IntKind.u32 0, Value.int IntKind.u32 0, Value.int IntKind.u32 0, Value.int IntKind.u32 0, Value.int IntKind.u32 0, Value.int IntKind.u32 0, Value.int IntKind.u32 0, Value.int IntKind.u32 0, Value.int IntKind.u32 0, Value.int IntKind.u32 0, Value.int IntKind.u32 0, Value.int IntKind.u32 0, Value.int IntKind.u32 0, Value.int IntKind.u32 0, Value.int IntKind.u32 0, Value.int IntKind.u32 0, Value.int IntKind.u32 0, Value.int IntKind.u32 0, Value.int IntKind.u32 0, Value.int IntKind.u32 0, Value.int IntKind.u32 0, Value.int IntKind.u32 0, Value.int IntKind.u32 0, Value.int IntKind.u32 0, Value.int IntKind.u32 0, Value.int IntKind.u32 0, Value.int IntKind.u32 0, Value.int IntKind.u32 0] = u32s (List.replicate 64 0) := rfl

end Go.Proofs.YtnceemdemjjhlaaDoor
