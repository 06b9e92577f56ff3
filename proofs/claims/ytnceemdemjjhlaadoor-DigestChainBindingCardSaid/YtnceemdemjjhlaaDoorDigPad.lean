/-
  The extended string, block by block.
-/
import Derived.Test.YtnceemdemjjhlaaDoorDigRange
namespace Go.Proofs.YtnceemdemjjhlaaDoor
open Go.RowKit Go.Shelf

structure Blk where
  val : List Nat
  len : val.length = 64
  lt : ∀ i, val.getD i 0 < 256
def flat (xs : List Blk) : List Nat := (xs.map Blk.val).flatten
theorem flat_snoc (xs : List Blk) (x : Blk) : flat (xs ++ [x]) = flat xs ++ x.val := by simp [flat]
theorem flat_len (xs : List Blk) : (flat xs).length = 64 * xs.length := by
  have := Sh.flatten_len (xs.map Blk.val) (fun y hy => by simp only [List.mem_map] at hy; obtain ⟨x, _, rfl⟩ := hy; exact x.len)
  rw [flat, this, List.length_map]
theorem flat_nil : flat [] = [] := rfl
theorem getD_lt {L : List Nat} (h : ∀ x ∈ L, x < 256) (i : Nat) : L.getD i 0 < 256 := by
  rw [List.getD_eq_getElem?_getD]
  cases e : L[i]? with
  | none => simp
  | some v => simpa using h v (List.mem_of_getElem? e)

/-- the buffer: what has been handed on and what stands in it are the bytes so far -/
structure Buf (L : List Nat) (u : Nat) (xs : List Blk) (T : List Nat) : Prop where
  len : L.length = 64
  lt : ∀ x ∈ L, x < 256
  eq : flat xs ++ L.take u = T
theorem Buf.start : Buf (List.replicate 64 0) 0 [] [] := ⟨rfl, by intro x hx; rw [List.eq_of_mem_replicate hx]; omega, by simp [flat]⟩
theorem Buf.copied {L : List Nat} {u n : Nat} {xs : List Blk} {T B : List Nat} (h : Buf L u xs T) (hn : n = min B.length (64 - u)) (hu : u ≤ 64) (hB : ∀ x ∈ B, x < 256) :
    Buf (L.take u ++ B.take n ++ L.drop (u + n)) (u + n) xs (T ++ B.take n) := by
  have h1 : (L.take u).length = u := by rw [List.length_take, h.len]; omega
  have h2 : (B.take n).length = n := by rw [List.length_take]; omega
  refine ⟨?_, ?_, ?_⟩
  · simp only [List.length_append, h1, h2, List.length_drop, h.len]; omega
  · intro x hx
    simp only [List.mem_append] at hx
    rcases hx with (hx | hx) | hx
    · exact h.lt x (List.mem_of_mem_take hx)
    · exact hB x (List.mem_of_mem_take hx)
    · exact h.lt x (List.mem_of_mem_drop hx)
  · have e : (L.take u ++ B.take n ++ L.drop (u + n)).take (u + n) = L.take u ++ B.take n := by
      rw [List.take_append_of_le_length (by rw [List.length_append, h1, h2]; omega), List.take_of_length_le (by rw [List.length_append, h1, h2]; omega)]
    rw [e, ← List.append_assoc, h.eq]
def Buf.blk {L : List Nat} {u : Nat} {xs : List Blk} {T : List Nat} (h : Buf L u xs T) : Blk := ⟨L, h.len, getD_lt h.lt⟩
theorem Buf.handed {L : List Nat} {u : Nat} {xs : List Blk} {T : List Nat} (h : Buf L u xs T) (hu : u = 64) : Buf L 0 (xs ++ [h.blk]) T := by
  have e := h.eq
  rw [hu, List.take_of_length_le (by rw [h.len]; omega)] at e
  exact ⟨h.len, h.lt, by rw [flat_snoc, List.take_zero, List.append_nil]; exact e⟩
/-- the end mark is set, the rest cleared -/
def marked (L : List Nat) (u : Nat) : List Nat := L.take u ++ 128 :: List.replicate (63 - u) 0
theorem marked_len (L : List Nat) (u : Nat) (hL : L.length = 64) (hu : u < 64) : (marked L u).length = 64 := by simp [marked, hL]; omega
theorem marked_lt (L : List Nat) (u : Nat) (h : ∀ x ∈ L, x < 256) : ∀ x ∈ marked L u, x < 256 := by
  intro x hx
  simp only [marked, List.mem_append, List.mem_cons] at hx
  rcases hx with hx | rfl | hx
  · exact h x (List.mem_of_mem_take hx)
  · omega
  · rw [List.eq_of_mem_replicate hx]; omega
theorem marked_eq (L : List Nat) (u n : Nat) (hL : L.length = 64) (hu : u < 64) (hn : n = 64 - (u + 1)) : (L.set u 128).take (u + 1) ++ List.replicate n 0 = marked L u := by
  have h1 : (L.take u).length = u := by rw [List.length_take, hL]; omega
  have : (L.set u 128).take (u + 1) = L.take u ++ [128] := by
    rw [List.take_succ_eq_append_getElem (by rw [List.length_set]; omega)]
    simp [List.take_set_of_le]
  rw [this, marked, hn, show 64 - (u + 1) = 63 - u by omega]; simp
/-- the length in the last eight bytes -/
def lastly (L : List Nat) (N i : Nat) : List Nat := L.take (64 - i) ++ (Sh.len8 N).drop (8 - i)
theorem lastly_zero (L : List Nat) (N : Nat) (hL : L.length = 64) : lastly L N 0 = L := by
  rw [lastly, List.take_of_length_le (by omega), List.drop_of_length_le (by rw [Sh.len8_len]; omega), List.append_nil]
theorem lastly_len (L : List Nat) (N i : Nat) (hL : L.length = 64) (hi : i ≤ 8) : (lastly L N i).length = 64 := by simp [lastly, hL, Sh.len8_len]; omega
theorem lastly_step (L : List Nat) (N i : Nat) (hL : L.length = 64) (hi : i < 8) : (lastly L N i).set (63 - i) ((Sh.len8 N).getD (7 - i) 0) = lastly L N (i + 1) := by
  have h1 : (L.take (64 - i)).length = 64 - i := by rw [List.length_take, hL]; omega
  have h2 : L.take (64 - i) = L.take (63 - i) ++ [L[63 - i]] := by
    rw [show 64 - i = (63 - i) + 1 by omega, List.take_succ_eq_append_getElem (by omega)]
  have h3 : (L.take (63 - i)).length = 63 - i := by rw [List.length_take, hL]; omega
  have h4 : (Sh.len8 N).drop (8 - (i + 1)) = (Sh.len8 N).getD (7 - i) 0 :: (Sh.len8 N).drop (8 - i) := by
    rw [show 8 - (i + 1) = 7 - i by omega, List.drop_eq_getElem_cons (by rw [Sh.len8_len]; omega), show 7 - i + 1 = 8 - i by omega]
    congr 1
    rw [List.getD_eq_getElem?_getD, List.getElem?_eq_getElem (by rw [Sh.len8_len]; omega)]; rfl
  rw [lastly, lastly, h4, h2, List.append_assoc, List.set_append_right _ _ (by omega), h3, Nat.sub_self, show 64 - (i + 1) = 63 - i by omega]
  rfl
theorem len8_get (N i : Nat) (hi : i < 8) : (Sh.len8 N).getD (7 - i) 0 = (8 * N) / 2 ^ (8 * i) % 256 := by
  have := map_range_getD (fun i => (8 * N) / 2 ^ (56 - 8 * i) % 256) 8 (7 - i) (by omega)
  rw [show 56 - 8 * (7 - i) = 8 * i by omega] at this
  exact this
theorem len8_lt (N : Nat) : ∀ x ∈ Sh.len8 N, x < 256 := by
  intro x hx
  simp only [Sh.len8, List.mem_map] at hx
  obtain ⟨i, _, rfl⟩ := hx
  omega
theorem lastly_lt (L : List Nat) (N i : Nat) (h : ∀ x ∈ L, x < 256) : ∀ x ∈ lastly L N i, x < 256 := by
  intro x hx
  simp only [lastly, List.mem_append] at hx
  rcases hx with hx | hx
  · exact h x (List.mem_of_mem_take hx)
  · exact len8_lt N x (List.mem_of_mem_drop hx)
theorem pad_small {L : List Nat} {u : Nat} {xs : List Blk} {T : List Nat} (h : Buf L u xs T) (hu : u < 56) (x : Blk) (hx : x.val = lastly (marked L u) T.length 8) : flat (xs ++ [x]) = Sh.pad T := by
  have h1 : (L.take u).length = u := by rw [List.length_take, h.len]; omega
  have hT : T.length = 64 * xs.length + u := by rw [← h.eq, List.length_append, flat_len, h1]
  have hz : (119 - T.length % 64) % 64 = 55 - u := by omega
  have hm : (marked L u).take 56 = L.take u ++ 128 :: List.replicate (55 - u) 0 := by
    rw [marked, List.take_append, h1, List.take_of_length_le (by omega), show 56 - u = (55 - u) + 1 by omega, List.take_succ_cons, List.take_replicate]
    congr 3; omega
  rw [flat_snoc, hx, lastly, Sh.pad, hz, show 64 - 8 = 56 by omega, hm, Nat.sub_self, List.drop_zero]
  conv => rhs; rw [← h.eq]
  simp
  rw [← h.eq]; simp
theorem pad_big {L : List Nat} {u : Nat} {xs : List Blk} {T : List Nat} (h : Buf L u xs T) (hu : u < 64) (hu' : 56 ≤ u) (x y : Blk) (hx : x.val = marked L u) (hy : y.val = lastly (List.replicate 64 0) T.length 8) :
    flat ((xs ++ [x]) ++ [y]) = Sh.pad T := by
  have h1 : (L.take u).length = u := by rw [List.length_take, h.len]; omega
  have hT : T.length = 64 * xs.length + u := by rw [← h.eq, List.length_append, flat_len, h1]
  have hz : (119 - T.length % 64) % 64 = (63 - u) + 56 := by omega
  rw [flat_snoc, flat_snoc, hx, hy, lastly, marked, Sh.pad, hz, show 64 - 8 = 56 by omega, Nat.sub_self, List.drop_zero, List.take_replicate, show min 56 64 = 56 by omega, List.replicate_append_replicate.symm]
  conv => rhs; rw [← h.eq]
  simp
  rw [← h.eq]; simp

end Go.Proofs.YtnceemdemjjhlaaDoor
