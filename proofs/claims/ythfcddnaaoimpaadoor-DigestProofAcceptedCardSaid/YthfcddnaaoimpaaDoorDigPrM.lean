/-
  The proof of an entry is accepted, and no other length is.
-/
import Derived.Test.YthfcddnaaoimpaaDoorDigAcc
namespace Go.Proofs.YthfcddnaaoimpaaDoor
open Go.RowKit

theorem path_vals : ∀ (N : Nat) (l : List ByteArray) (i : Nat) (hi : i < l.length), l.length ≤ N → valueR (pathR l i) l.length i l[i] = (rootB l, true) := by
  intro N
  induction N with
  | zero => intro l i hi h; omega
  | succ N ih =>
    intro l i hi hN
    by_cases h1 : l.length = 1
    · obtain ⟨s, rfl⟩ := List.length_eq_one_iff.1 h1
      have h0 : i = 0 := by simp at hi; omega
      subst h0
      rw [pathR, dif_pos (by simp), valueR, if_pos (by simp), root_one]; rfl
    · have h2 : 2 ≤ l.length := by omega
      have hk := spl_lt l.length h2
      have hk0 := spl_pos l.length
      have e1 : (l.take (spl l.length)).length = spl l.length := by rw [List.length_take]; omega
      have e2 : (l.drop (spl l.length)).length = l.length - spl l.length := by rw [List.length_drop]
      rw [pathR, dif_neg (by omega)]
      by_cases hik : i < spl l.length
      · have := ih (l.take (spl l.length)) i (by omega) (by omega)
        simp only [e1, List.getElem_take] at this
        rw [if_pos hik, valueR, if_neg h1, if_pos hik, this, root_many l h2]
      · have := ih (l.drop (spl l.length)) (i - spl l.length) (by omega) (by omega)
        simp only [e2, List.getElem_drop, show spl l.length + (i - spl l.length) = i by omega] at this
        rw [if_neg hik, valueR, if_neg h1, if_neg hik, this, root_many l h2]
theorem path_len : ∀ (d : Nat) (l : List ByteArray) (i : Nat), l.length ≤ 2 ^ d → i < l.length → (pathR l i).length ≤ d := by
  intro d
  induction d with
  | zero =>
    intro l i h hi
    rw [pathR, dif_pos (by omega)]; simp
  | succ d ih =>
    intro l i h hi
    rw [pathR]
    split
    · simp
    · have h2 : 2 ≤ l.length := by omega
      have hk := spl_lt l.length h2
      have hk0 := spl_pos l.length
      have hp := spl_le_pow l.length d h h2
      have hge := spl_ge l.length h2
      have e1 : (l.take (spl l.length)).length = spl l.length := by rw [List.length_take]; omega
      have e2 : (l.drop (spl l.length)).length = l.length - spl l.length := by rw [List.length_drop]
      split
      · have := ih (l.take (spl l.length)) i (by omega) (by omega)
        simp; omega
      · have := ih (l.drop (spl l.length)) (i - spl l.length) (by omega) (by omega)
        simp; omega
theorem path_digs : ∀ (N : Nat) (l : List ByteArray) (i : Nat), l.length ≤ N → ∀ x ∈ pathR l i, x.size = 32 := by
  intro N
  induction N with
  | zero =>
    intro l i h x hx
    rw [pathR, dif_pos (by omega)] at hx
    simp at hx
  | succ N ih =>
    intro l i h x hx
    rw [pathR] at hx
    split at hx
    · simp at hx
    · have h2 : 2 ≤ l.length := by omega
      have hk := spl_lt l.length h2
      have hk0 := spl_pos l.length
      split at hx
      · rcases List.mem_cons.1 hx with rfl | hx
        · exact root_size _
        · exact ih _ _ (by rw [List.length_take]; omega) x hx
      · rcases List.mem_cons.1 hx with rfl | hx
        · exact root_size _
        · exact ih _ _ (by rw [List.length_drop]; omega) x hx
theorem value_len : ∀ (q q' : List ByteArray) (n i : Nat) (s t : ByteArray), (valueR q n i s).2 = true → (valueR q' n i t).2 = true → q.length = q'.length := by
  intro q
  induction q with
  | nil =>
    intro q' n i s t h1 h2
    have hn : n = 1 := by
      rw [valueR] at h1; split at h1
      · assumption
      · cases h1
    cases q' with
    | nil => rfl
    | cons y r => rw [valueR, if_pos hn] at h2; cases h2
  | cons x q ih =>
    intro q' n i s t h1 h2
    have hn : n ≠ 1 := by
      intro hn; rw [valueR, if_pos hn] at h1; cases h1
    cases q' with
    | nil => rw [valueR, if_neg hn] at h2; cases h2
    | cons y r =>
      rw [valueR, if_neg hn] at h1 h2
      rw [List.length_cons, List.length_cons]
      split at h1
      · rename_i hi
        rw [if_pos hi] at h2
        rw [ih r _ _ s t h1 h2]
      · rename_i hi
        rw [if_neg hi] at h2
        rw [ih r _ _ s t h1 h2]
theorem ver_path (l : List ByteArray) (i : Nat) (hi : i < l.length) : verB (rootB l) l.length i l[i] (pathR l i).reverse = true := by
  rw [verB, if_neg (by omega), if_neg (by rw [digs_rev _ (path_digs l.length l i (Nat.le_refl _))]; simp), List.reverse_reverse, Int.toNat_natCast, Int.toNat_natCast, path_vals l.length l i hi (Nat.le_refl _)]
  simp
theorem ver_wrong (l : List ByteArray) (i : Nat) (hi : i < l.length) (ps : List ByteArray) (h : ps.length ≠ (pathR l i).length) : verB (rootB l) l.length i l[i] ps = false := by
  rw [verB, if_neg (by omega)]
  split
  · rfl
  · rw [Int.toNat_natCast, Int.toNat_natCast, Bool.and_eq_false_iff]
    left
    rcases hv : (valueR ps.reverse l.length i l[i]).2 with _ | _
    · rfl
    · have h2 := path_vals l.length l i hi (Nat.le_refl _)
      have h3 := value_len _ _ _ _ _ _ hv (show (valueR (pathR l i) l.length i l[i]).2 = true by rw [h2])
      rw [List.length_reverse] at h3
      exact absurd h3 h
theorem path_bin (l : List ByteArray) (i : Nat) (hi : i < l.length) : (pathR l i).length ≤ bin l.length := path_len _ l i (Nat.le_of_lt (lt_bin _)) hi
end Go.Proofs.YthfcddnaaoimpaaDoor
