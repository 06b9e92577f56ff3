/-
  The rows of add and take, as lists.
-/
import Derived.Test.YteaecpmdooolkaaIntMath
namespace Go.Proofs.Yteaecpmdooolkaa
namespace Nm
/-- from place o on, i groups of r; the others are those of L -/
def rowR (L : List Nat) (o i r : Nat) : List Nat := L.take o ++ padL i r ++ L.drop (o + i)
theorem rowR_zero (L : List Nat) (o : Nat) : rowR L o 0 0 = L := by simp [rowR, padL]
theorem rowR_len (L : List Nat) (o i r : Nat) (h : o + i ≤ L.length) : (rowR L o i r).length = L.length := by simp [rowR, padL_len]; omega
theorem rowR_dig {L : List Nat} (h : Dig L) (o i r : Nat) : Dig (rowR L o i r) := ((h.take o).append (padL_dig i r)).append (h.drop (o + i))
theorem rowR_get (L : List Nat) (o i r : Nat) (h : o + i < L.length) : (rowR L o i r).getD (o + i) 0 = L.getD (o + i) 0 := by
  have hl : (L.take o ++ padL i r).length = o + i := by simp [padL_len]; omega
  simp only [rowR, List.getD_eq_getElem?_getD]
  rw [List.getElem?_append_right (by omega), hl, Nat.sub_self, List.getElem?_drop, Nat.add_zero]
theorem rowR_set (L : List Nat) (o i r d : Nat) (h : o + i < L.length) (hr : r < 10000 ^ i) (hd : d < 10000) : (rowR L o i r).set (o + i) d = rowR L o (i + 1) (r + 10000 ^ i * d) := by
  have hl : (L.take o ++ padL i r).length = o + i := by simp [padL_len]; omega
  rw [rowR, List.set_append_right _ _ (by omega), hl, Nat.sub_self, List.drop_eq_getElem_cons h, List.set_cons_zero, rowR, padL_succ i r d hr hd, ← Nat.add_assoc]
  simp only [List.append_assoc, List.cons_append, List.nil_append]
theorem seg_get (L : List Nat) (o n i : Nat) (h : i < n) : ((L.drop o).take n).getD i 0 = L.getD (o + i) 0 := by
  simp only [List.getD_eq_getElem?_getD]
  rw [List.getElem?_take, if_pos h, List.getElem?_drop]
theorem seg_len (L : List Nat) (o n : Nat) (h : o + n ≤ L.length) : ((L.drop o).take n).length = n := by simp; omega
theorem rowR_end {L : List Nat} (hd : Dig L) (o n i r : Nat) (hi : i ≤ n) (h : o + n ≤ L.length) (hr : r < 10000 ^ i) : rowR L o i r = rowR L o n (r + 10000 ^ i * nv (((L.drop o).take n).drop i)) := by
  have hs : (((L.drop o).take n).drop i).length = n - i := by rw [List.length_drop, seg_len L o n h]
  have e := padL_app i (n - i) r (nv (((L.drop o).take n).drop i)) hr
  rw [show i + (n - i) = n by omega] at e
  have e2 : padL (n - i) (nv (((L.drop o).take n).drop i)) = ((L.drop o).take n).drop i := by
    have := padL_eq ((((hd.drop o).take n)).drop i); rwa [hs] at this
  rw [rowR, rowR, e, e2]
  have e3 : L.drop (o + i) = ((L.drop o).take n).drop i ++ L.drop (o + n) := by
    rw [List.drop_take, List.drop_drop]
    conv => lhs; rw [← List.take_append_drop (n - i) (L.drop (o + i))]
    rw [List.drop_drop, show o + i + (n - i) = o + n by omega]
  rw [e3]; simp only [List.append_assoc]
/-- the value of what stands there behind it -/
theorem rowR_seg (L : List Nat) (o n r : Nat) (h : o + n ≤ L.length) : ((rowR L o n r).drop o).take n = padL n r := by
  have hl : (L.take o).length = o := by simp; omega
  rw [rowR, List.append_assoc, List.drop_append_of_le_length (by omega)]
  rw [show (L.take o).drop o = [] by rw [List.drop_eq_nil_iff]; omega, List.nil_append, List.take_append_of_le_length (by rw [padL_len]; exact Nat.le_refl _), List.take_of_length_le (by rw [padL_len]; exact Nat.le_refl _)]
/-- one round of add -/
theorem add_round {L t : List Nat} (o n i r c f x : Nat) (h : i < n) (hon : o + n ≤ L.length)
    (he : nv (((L.drop o).take n).take i) + nv (t.take i) * f = r + 10000 ^ i * c)
    (hx : x = c + (if i < t.length then t.getD i 0 * f else 0) + L.getD (o + i) 0) :
    nv (((L.drop o).take n).take (i + 1)) + nv (t.take (i + 1)) * f = (r + 10000 ^ i * (x % 10000)) + 10000 ^ (i + 1) * (x / 10000) := by
  have hs := seg_len L o n hon
  rw [nv_take_succ _ i (by omega), seg_get L o n i h]
  have hm : x = x % 10000 + 10000 * (x / 10000) := by omega
  generalize x % 10000 = d at *
  generalize x / 10000 = c' at *
  have hP : 10000 ^ (i + 1) = 10000 ^ i * 10000 := Nat.pow_succ ..
  rw [hP]
  generalize 10000 ^ i = P at *
  by_cases ht : i < t.length
  · rw [if_pos ht] at hx
    rw [nv_take_succ t i ht]
    grind
  · rw [if_neg ht] at hx
    rw [List.take_of_length_le (show t.length ≤ i + 1 by omega)]
    rw [List.take_of_length_le (show t.length ≤ i by omega)] at he
    grind
/-- one round of take -/
theorem take_round {L t : List Nat} (o n i r c f x c' d : Nat) (h : i < n) (hon : o + n ≤ L.length)
    (he : nv (((L.drop o).take n).take i) + 10000 ^ i * c = r + nv (t.take i) * f)
    (hx : x = c + (if i < t.length then t.getD i 0 * f else 0))
    (hd : L.getD (o + i) 0 + 10000 * c' = x + d) :
    nv (((L.drop o).take n).take (i + 1)) + 10000 ^ (i + 1) * c' = (r + 10000 ^ i * d) + nv (t.take (i + 1)) * f := by
  have hs := seg_len L o n hon
  rw [nv_take_succ _ i (by omega), seg_get L o n i h]
  have hP : 10000 ^ (i + 1) = 10000 ^ i * 10000 := Nat.pow_succ ..
  rw [hP]
  generalize 10000 ^ i = P at *
  by_cases ht : i < t.length
  · rw [if_pos ht] at hx
    rw [nv_take_succ t i ht]
    grind
  · rw [if_neg ht] at hx
    rw [List.take_of_length_le (show t.length ≤ i + 1 by omega)]
    rw [List.take_of_length_le (show t.length ≤ i by omega)] at he
    grind
/-- the carry is less than a group -/
theorem add_carry {L t : List Nat} (hL : Dig L) (ht : Dig t) (o n i r c f : Nat) (h : i ≤ n) (hon : o + n ≤ L.length) (hf : f ≤ 10000)
    (he : nv (((L.drop o).take n).take i) + nv (t.take i) * f = r + 10000 ^ i * c) : c ≤ 10000 := by
  have h1 := nv_lt (((hL.drop o).take n).take i)
  rw [List.length_take, seg_len L o n hon, Nat.min_eq_left h] at h1
  have h2 := nv_lt (ht.take i)
  have h2' : nv (t.take i) < 10000 ^ i := Nat.lt_of_lt_of_le h2 (Nat.pow_le_pow_right (by decide) (by rw [List.length_take]; omega))
  have h3 : nv (t.take i) * f ≤ nv (t.take i) * 10000 := Nat.mul_le_mul_left _ hf
  rcases Nat.lt_or_ge c 10001 with h4 | h4
  · omega
  · have h5 : 10000 ^ i * 10001 ≤ 10000 ^ i * c := Nat.mul_le_mul_left _ h4
    omega
theorem take_carry {L t : List Nat} (ht : Dig t) (o n i r c f : Nat) (hf : f < 10000) (hr : r < 10000 ^ i)
    (he : nv (((L.drop o).take n).take i) + 10000 ^ i * c = r + nv (t.take i) * f) : c < 10000 := by
  have h2 := nv_lt (ht.take i)
  have h2' : nv (t.take i) < 10000 ^ i := Nat.lt_of_lt_of_le h2 (Nat.pow_le_pow_right (by decide) (by rw [List.length_take]; omega))
  have h3 : nv (t.take i) * f ≤ 10000 ^ i * 9999 := Nat.mul_le_mul (by omega) (by omega)
  rcases Nat.lt_or_ge c 10000 with h4 | h4
  · exact h4
  · have h5 : 10000 ^ i * 10000 ≤ 10000 ^ i * c := Nat.mul_le_mul_left _ h4
    omega
theorem pow_gt (i r d : Nat) (hr : r < 10000 ^ i) (hd : d < 10000) : r + 10000 ^ i * d < 10000 ^ (i + 1) := by
  rw [Nat.pow_succ]
  have : 10000 ^ i * d ≤ 10000 ^ i * 9999 := Nat.mul_le_mul_left _ (by omega)
  omega
end Nm
end Go.Proofs.Yteaecpmdooolkaa
