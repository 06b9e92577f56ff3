/-
  sides; the binding of extensions.
-/
import Derived.Test.YtnceemdemjjhlaaDoorDigBind
namespace Go.Proofs.YtnceemdemjjhlaaDoor
open Go.RowKit

/-- the strings of which Sum is computed for the new root of an extension (its last element first) -/
def sidesR (old : ByteArray) : List ByteArray → Nat → Nat → Bool → List ByteArray
  | [], _, _, _ => []
  | x :: q, m, n, whole => if m = n then [] else if m ≤ spl n then (⟨#[1]⟩ ++ (valuesR old q m (spl n) whole).2.1 ++ x) :: sidesR old q m (spl n) whole
    else (⟨#[1]⟩ ++ x ++ (valuesR old q (m - spl n) (n - spl n) false).2.1) :: sidesR old q (m - spl n) (n - spl n) false
theorem vals_32 (old : ByteArray) (ho : old.size = 32) : ∀ (q : List ByteArray) (_ : ∀ x ∈ q, x.size = 32) (m n : Nat) (w : Bool), (valuesR old q m n w).2.2 = true → (valuesR old q m n w).2.1.size = 32 := by
  intro q hq m n w h
  cases q with
  | nil =>
    rw [valuesR] at h ⊢
    split
    · exact ho
    · rename_i h1; rw [if_neg h1] at h; cases h
  | cons x q =>
    have hx := hq x (by simp)
    rw [valuesR] at h ⊢
    split
    · exact ho
    · split
      · exact hx
      · split
        · exact node_size _ _
        · exact node_size _ _
theorem ext_binding (a b : ByteArray) (ha : a.size = 32) (hb : b.size = 32) : ∀ (q q' : List ByteArray) (_ : ∀ x ∈ q, x.size = 32) (_ : ∀ x ∈ q', x.size = 32) (m n : Nat) (w : Bool), (valuesR a q m n w).2.2 = true → (valuesR b q' m n w).2.2 = true →
    (valuesR a q m n w).2.1 = (valuesR b q' m n w).2.1 → (valuesR a q m n w).1 ≠ (valuesR b q' m n w).1 → Coll (sidesR a q m n w) (sidesR b q' m n w) := by
  intro q
  induction q with
  | nil =>
    intro q' _ _ m n w h1 h2 h3 h4
    rw [valuesR] at h1
    split at h1
    · rename_i hq
      exfalso
      rw [valuesR, if_pos hq] at h3 h4
      cases q' with
      | nil => rw [valuesR, if_pos hq] at h3 h4; exact h4 h3
      | cons y r => rw [valuesR, if_pos hq] at h2; cases h2
    · cases h1
  | cons x r ih =>
    intro q' hq hq' m n w h1 h2 h3 h4
    have hx := hq x (by simp)
    have hr : ∀ z ∈ r, z.size = 32 := fun z hz => hq z (by simp [hz])
    by_cases hc : m = n ∧ w = true
    · rw [valuesR, if_pos hc] at h1; cases h1
    · cases q' with
      | nil => rw [valuesR, if_neg hc] at h2; cases h2
      | cons y r' =>
        have hy := hq' y (by simp)
        have hr' : ∀ z ∈ r', z.size = 32 := fun z hz => hq' z (by simp [hz])
        rw [valuesR, if_neg hc] at h1
        rw [valuesR, if_neg hc] at h2
        rw [valuesR, valuesR, if_neg hc, if_neg hc] at h3 h4
        by_cases hmn : m = n
        · rw [if_pos hmn, if_pos hmn] at h3 h4
          exact absurd h3 h4
        · rw [if_neg hmn] at h1 h2
          rw [if_neg hmn, if_neg hmn] at h3 h4
          rw [sidesR, sidesR, if_neg hmn, if_neg hmn]
          by_cases hik : m ≤ spl n
          · rw [if_pos hik] at h1 h2
            rw [if_pos hik, if_pos hik] at h3 h4
            rw [if_pos hik, if_pos hik]
            by_cases he : (⟨#[1]⟩ ++ (valuesR a r m (spl n) w).2.1 ++ x : ByteArray) = ⟨#[1]⟩ ++ (valuesR b r' m (spl n) w).2.1 ++ y
            · exact (ih r' hr hr' m (spl n) w h1 h2 (bind_node (vals_32 a ha r hr _ _ _ h1) (vals_32 b hb r' hr' _ _ _ h2) he) h4).cons
            · exact Coll.here he h3
          · rw [if_neg hik] at h1 h2
            rw [if_neg hik, if_neg hik] at h3 h4
            rw [if_neg hik, if_neg hik]
            by_cases he : (⟨#[1]⟩ ++ x ++ (valuesR a r (m - spl n) (n - spl n) false).2.1 : ByteArray) = ⟨#[1]⟩ ++ y ++ (valuesR b r' (m - spl n) (n - spl n) false).2.1
            · have hv := bind_node2 (vals_32 a ha r hr _ _ _ h1) (vals_32 b hb r' hr' _ _ _ h2) he
              have hxy : x = y := bind_node hx hy he
              refine (ih r' hr hr' (m - spl n) (n - spl n) false h1 h2 hv ?_).cons
              intro e
              exact h4 (by rw [hxy, e])
            · exact Coll.here he h3
theorem sidesR_size (old : ByteArray) (ho : old.size = 32) : ∀ (q : List ByteArray) (_ : ∀ x ∈ q, x.size = 32) (m n : Nat) (w : Bool), (valuesR old q m n w).2.2 = true → Small (sidesR old q m n w)
  | [], _, _, _, _, _ => by intro x hx; simp [sidesR] at hx
  | x :: q, hq, m, n, w, hok => by
    intro z hz
    have hx : x.size = 32 := hq x (by simp)
    have hq' : ∀ x ∈ q, x.size = 32 := fun y hy => hq y (by simp [hy])
    have h1 : (⟨#[1]⟩ : ByteArray).size = 1 := rfl
    rw [sidesR] at hz
    split at hz
    · simp at hz
    · rename_i hmn
      have hc : ¬ (m = n ∧ w = true) := fun h => hmn h.1
      rw [valuesR, if_neg hc, if_neg hmn] at hok
      split at hz
      · rename_i hik
        rw [if_pos hik] at hok
        rcases List.mem_cons.1 hz with rfl | hz
        · have := vals_32 old ho q hq' _ _ _ hok
          rw [ByteArray.size_append, ByteArray.size_append]; omega
        · exact sidesR_size old ho q hq' _ _ _ hok z hz
      · rename_i hik
        rw [if_neg hik] at hok
        rcases List.mem_cons.1 hz with rfl | hz
        · have := vals_32 old ho q hq' _ _ _ hok
          rw [ByteArray.size_append, ByteArray.size_append]; omega
        · exact sidesR_size old ho q hq' _ _ _ hok z hz
theorem sidesR_len (old : ByteArray) : ∀ (q : List ByteArray) (m n : Nat) (w : Bool), (sidesR old q m n w).length ≤ q.length
  | [], _, _, _ => by rw [sidesR]; exact Nat.le_refl _
  | x :: q, m, n, w => by
    rw [sidesR]
    split
    · simp
    · split
      · have := sidesR_len old q m (spl n) w
        simp; omega
      · have := sidesR_len old q (m - spl n) (n - spl n) false
        simp; omega
end Go.Proofs.YtnceemdemjjhlaaDoor
