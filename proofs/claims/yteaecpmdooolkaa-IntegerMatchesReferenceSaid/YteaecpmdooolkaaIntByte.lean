/-
  Rows of bytes; strings as lists of naturals.
-/
import Derived.Test.YteaecpmdooolkaaIntTimes
import Derived.Test.YteaecpmdooolkaaIntDec
import Derived.Lib.SmallJoins
import Derived.Lib.SlBytesRow
import Derived.Lib.ConvBytes
namespace Go.Proofs.Yteaecpmdooolkaa
open Go.RowKit Nm

def bl (s : ByteArray) : List Nat := s.data.toList.map UInt8.toNat
def ba (l : List Nat) : ByteArray := ⟨(l.map UInt8.ofNat).toArray⟩
theorem bl_len (s : ByteArray) : (bl s).length = s.size := by simp [bl]
theorem bl_lt (s : ByteArray) : ∀ x ∈ bl s, x < 256 := by
  intro x hx; simp only [bl, List.mem_map] at hx; obtain ⟨y, _, rfl⟩ := hx; exact UInt8.toNat_lt y
theorem ba_bl (s : ByteArray) : ba (bl s) = s := by
  simp only [ba, bl, List.map_map]
  have : (UInt8.ofNat ∘ UInt8.toNat) = id := by funext x; simp
  rw [this, List.map_id]
theorem bl_ba (l : List Nat) (h : ∀ x ∈ l, x < 256) : bl (ba l) = l := by
  simp only [bl, ba, List.map_map]
  conv => rhs; rw [← List.map_id l]
  exact List.map_congr_left (fun x hx => by simp; exact h x hx)
theorem ba_size (l : List Nat) : (ba l).size = l.length := by rw [← bl_len]; simp [bl, ba]
theorem bl_get (s : ByteArray) (i : Nat) (h : i < s.size) : (bl s).getD i 0 = s[i].toNat := by
  have h2 : i < s.data.size := h
  simp only [bl, List.getD_eq_getElem?_getD, List.getElem?_map, Array.getElem?_toList, Array.getElem?_eq_getElem h2, Option.map_some, Option.getD_some]
  rfl
theorem ba_append (l m : List Nat) : ba (l ++ m) = ba l ++ ba m := by
  apply ByteArray.ext
  simp [ba]
theorem bl_append (s t : ByteArray) : bl (s ++ t) = bl s ++ bl t := by simp [bl]
theorem ba_inj {l m : List Nat} (hl : ∀ x ∈ l, x < 256) (hm : ∀ x ∈ m, x < 256) (h : ba l = ba m) : l = m := by rw [← bl_ba l hl, h, bl_ba m hm]
theorem bl_inj {s t : ByteArray} (h : bl s = bl t) : s = t := by rw [← ba_bl s, h, ba_bl]

def u8s (l : List Nat) : Array Value := (l.map fun n : Nat => Value.int .u8 (n : Int)).toArray
theorem u8s_size (l : List Nat) : (u8s l).size = l.length := by simp [u8s]
theorem u8s_get (l : List Nat) (i : Nat) (h : i < l.length) : (u8s l)[i]? = some (.int .u8 ((l.getD i 0 : Nat) : Int)) := by simp [u8s, List.getD, h]
theorem u8s_set (l : List Nat) (i x : Nat) : (u8s l).setIfInBounds i (.int .u8 (x : Int)) = u8s (l.set i x) := by simp [u8s, List.map_set]
/-- a row of bytes -/
def BR (W : World) (g : Nat) (L : List Nat) : Prop := RowAt W g (u8s L) 5
theorem BR.u8 {w : World} {b : Nat} {l : List Nat} (h : BR w b l) (i : Nat) (hi : i < l.length) : w.cell? ⟨b, i, none⟩ = some (.int .u8 ((l.getD i 0 : Nat) : Int)) := (RowAt.cell h i).trans (u8s_get l i hi)
theorem BR.frozen {w : World} {b : Nat} {l : List Nat} (h : BR w b l) (i : Nat) : w.frozen? ⟨b, i, none⟩ = false := RowAt.frozen h i
theorem BR.set8 {w : World} {b : Nat} {l : List Nat} (h : BR w b l) (i x : Nat) : BR (w.setCell ⟨b, i, none⟩ (.int .u8 (x : Int))) b (l.set i x) := by unfold BR; rw [← u8s_set]; exact RowAt.set_same h i _
theorem BR.only {w w' : World} {b g : Nat} {l : List Nat} (h : BR w b l) (k : Only g w w') (hb : b ≠ g) : BR w' b l := RowAt.only h k hb
theorem BR.lt {w : World} {b : Nat} {l : List Nat} (h : BR w b l) : b < w.heap.size := RowAt.lt h
theorem infoB8 : (Try.prog.info? 5).map (fun i => (i.zero, i.size, i.bytes)) = some (some (.int .u8 0), 1, 1) := by kernel_rfl
theorem cells8_rep (n : Nat) : (madeCells (Value.int .u8 0).cells (n * 1)).toList = (List.replicate n 0).map fun n : Nat => Value.int .u8 (n : Int) := by
  rw [Nat.mul_one, List.map_replicate]
  simp [madeCells, Value.cells]
  rw [List.eq_replicate_iff]
  refine ⟨by simp, fun b hb => ?_⟩
  simp only [List.mem_map, Nat.mod_one] at hb
  obtain ⟨_, _, rfl⟩ := hb
  rfl
/-- make of bytes, its size a variable -/
theorem make_u8 {w : World} {ops : Array Oper} {rest : List Oper} {o : Oper} {a : Act} {Q : Exit → Act → World → Prop} (hg : o.guard = none) (l c : Operand) (hop : o.op = Op.makeSlice 78 l c)
    (base n : Nat) (hl : a.eval l = .int .i64 (n : Int)) (hc : a.eval c = .int .i64 (n : Int)) (hn : n ≤ 1000000) (hb : base ≤ w.heap.size)
    (h : ∀ w', BR w' w.heap.size (List.replicate n 0) → Below base w w' → wpList Try.prog ops Q rest (a.put o.dst (.slice (some ⟨w.heap.size, 0, none⟩) n n)) w') : wpList Try.prog ops Q (o :: rest) a w := by
  obtain ⟨i0, hinf, hz0, hz1, hz2⟩ := info_parts infoB8
  refine wpList_make_full w hg l c 78 hop base 5 i0 (.int .u8 0) 1 Try.underlying78 hinf hz0 hz1 .i64 .i64 (n : Int) (n : Int) n hl hc rfl rfl (by rw [hz2]; omega) (by unfold maxLen; omega) hb ?_
  intro w' ho hgr
  refine h w' ?_ ⟨hgr.os, hgr.tape, hgr.output, hgr.size, fun k hk => hgr.block k (by omega) (by simp)⟩
  rw [cells8_rep] at ho
  rcases ho.2 with ⟨h1, _⟩ | ⟨g, cap, cur, h1, _, h2, _, _, h3, h4⟩
  · cases h1
  · injection h1 with e1 e2 e3
    injection e1 with e1
    injection e1 with e1
    subst e1
    subst e3
    have : cur = u8s (List.replicate n 0) := by
      apply Array.ext'
      rw [show (u8s (List.replicate n 0)).toList = (List.replicate n 0).map fun n : Nat => Value.int .u8 (n : Int) from rfl, ← h4, List.take_of_length_le]
      rw [Array.length_toList, h3]; exact Nat.le_refl _
    unfold BR RowAt
    rw [this] at h2
    exact h2
/-- bytes of memory, as a string -/
theorem back_string (w : World) (g o cap : Nat) (l : List Nat) (hl : ∀ x ∈ l, x < 256) (h : ∀ i, i < l.length → w.cell? ⟨g, o + i, none⟩ = some (.int .u8 ((l.getD i 0 : Nat) : Int))) :
    Sem.run Try.prog (convert 78 9 (.slice (some ⟨g, o, none⟩) l.length cap)) w = .ok (.string (ba l)) w := by
  have := Go.run_convert_bytes_back (P := Try.prog) w 78 9 5 ⟨g, o, none⟩ cap (l.map UInt8.ofNat) Try.underlying78 Try.underlying5 Try.underlying9 (fun i hi => by
    rw [List.length_map] at hi
    rw [Addr.add_lit, h i hi]
    have hx : l.getD i 0 < 256 := by rw [List.getD_eq_getElem?_getD, List.getElem?_eq_getElem hi]; exact hl _ (List.getElem_mem hi)
    have e : l[i] = l.getD i 0 := by simp [List.getD, hi]
    simp only [List.getElem_map]
    rw [e]
    congr 3
    rw [UInt8.toNat_ofNat_of_lt' hx])
  rwa [List.length_map] at this
end Go.Proofs.Yteaecpmdooolkaa
