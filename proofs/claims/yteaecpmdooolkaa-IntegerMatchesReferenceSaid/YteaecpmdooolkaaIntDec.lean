/-
  Decimal digits.
-/
import Derived.Test.YteaecpmdooolkaaIntMath
namespace Go.Proofs.Yteaecpmdooolkaa
namespace Nm
/-- the lowest t decimal digits, as characters, the highest first -/
def dg : Nat → Nat → List Nat
  | 0, _ => []
  | t + 1, x => (48 + x / 10 ^ t % 10) :: dg t x
theorem dg_len : ∀ t x, (dg t x).length = t
  | 0, _ => rfl
  | t + 1, x => by rw [dg, List.length_cons, dg_len]
theorem dg_lt : ∀ t x, ∀ y ∈ dg t x, 48 ≤ y ∧ y < 58
  | 0, _ => fun y hy => by cases hy
  | t + 1, x => fun y hy => by
    rw [dg] at hy
    rcases List.mem_cons.1 hy with rfl | hy
    · have := Nat.mod_lt (x / 10 ^ t) (show 0 < 10 by decide); omega
    · exact dg_lt t x y hy
/-- the value of characters -/
def dvl (l : List Nat) : Nat := l.foldl (fun a d => 10 * a + (d - 48)) 0
theorem dvl_snoc (l : List Nat) (d : Nat) : dvl (l ++ [d]) = 10 * dvl l + (d - 48) := by simp [dvl]
theorem foldl_from (l : List Nat) (a : Nat) : l.foldl (fun a d => 10 * a + (d - 48)) a = a * 10 ^ l.length + dvl l := by
  induction l generalizing a with
  | nil => simp [dvl]
  | cons d l ih =>
    rw [List.foldl_cons, ih, show dvl (d :: l) = (d :: l).foldl (fun a d => 10 * a + (d - 48)) 0 from rfl, List.foldl_cons, ih, List.length_cons, Nat.pow_succ]
    grind
theorem dvl_cons (d : Nat) (l : List Nat) : dvl (d :: l) = (d - 48) * 10 ^ l.length + dvl l := by
  rw [dvl, List.foldl_cons, foldl_from]; simp
theorem dvl_append (l m : List Nat) : dvl (l ++ m) = dvl l * 10 ^ m.length + dvl m := by
  rw [dvl, List.foldl_append, foldl_from]; rfl
theorem dvl_lt (l : List Nat) (h : ∀ y ∈ l, 48 ≤ y ∧ y < 58) : dvl l < 10 ^ l.length := by
  induction l with
  | nil => decide
  | cons d l ih =>
    have h1 := ih (fun y hy => h y (List.mem_cons_of_mem _ hy))
    have h2 := h d (by simp)
    rw [dvl_cons, List.length_cons, Nat.pow_succ]
    have h3 : (d - 48) * 10 ^ l.length ≤ 9 * 10 ^ l.length := Nat.mul_le_mul_right _ (by omega)
    omega
theorem dvl_dg : ∀ t x, dvl (dg t x) = x % 10 ^ t
  | 0, x => by simp [dg, dvl, Nat.mod_one]
  | t + 1, x => by
    rw [dg, dvl_cons, dg_len, dvl_dg t x, Nat.add_sub_cancel_left, Nat.pow_succ, Nat.mod_mul]
    grind
/-- characters with the same value and number are the same -/
theorem dg_unique (l : List Nat) (h : ∀ y ∈ l, 48 ≤ y ∧ y < 58) : dg l.length (dvl l) = l := by
  induction l with
  | nil => rfl
  | cons d l ih =>
    have hl := fun y hy => h y (List.mem_cons_of_mem d hy)
    have h1 := dvl_lt l hl
    have h2 := h d (by simp)
    have hp : 0 < 10 ^ l.length := Nat.pow_pos (by decide)
    rw [List.length_cons, dg, dvl_cons]
    have e1 : ((d - 48) * 10 ^ l.length + dvl l) / 10 ^ l.length = d - 48 := by
      rw [Nat.add_comm, Nat.add_mul_div_right _ _ hp, Nat.div_eq_of_lt h1, Nat.zero_add]
    have e2 : dg l.length ((d - 48) * 10 ^ l.length + dvl l) = dg l.length (dvl l) := by
      have : ∀ t k, t ≤ l.length → dg t (k * 10 ^ l.length + dvl l) = dg t (dvl l) := by
        intro t
        induction t with
        | zero => intro k _; rfl
        | succ t iht =>
          intro k ht
          rw [dg, dg, iht k (by omega)]
          congr 2
          obtain ⟨m, hm⟩ : ∃ m, l.length = t + 1 + m := ⟨l.length - (t + 1), by omega⟩
          have e : k * 10 ^ l.length + dvl l = dvl l + 10 ^ t * (10 * (k * 10 ^ m)) := by rw [hm, Nat.pow_add, Nat.pow_succ]; grind
          rw [e, Nat.add_mul_div_left _ _ (Nat.pow_pos (by decide)), Nat.add_mul_mod_self_left]
      exact this l.length (d - 48) (Nat.le_refl _)
    rw [e1, e2, ih hl]
    congr 1
    omega
/-- the digits of a number, as characters, without zeros in front -/
def decN (n : Nat) : List Nat := if n = 0 then [] else decN (n / 10) ++ [48 + n % 10]
decreasing_by omega
theorem decN_zero : decN 0 = [] := by rw [decN, if_pos rfl]
theorem decN_pos {n : Nat} (h : n ≠ 0) : decN n = decN (n / 10) ++ [48 + n % 10] := by rw [decN, if_neg h]
theorem decN_dvl (n : Nat) : dvl (decN n) = n := by
  induction n using Nat.strongRecOn with
  | ind n ih =>
    by_cases h : n = 0
    · subst h; rw [decN_zero]; rfl
    · rw [decN_pos h, dvl_snoc, ih (n / 10) (by omega)]; omega
theorem decN_dig (n : Nat) : ∀ y ∈ decN n, 48 ≤ y ∧ y < 58 := by
  induction n using Nat.strongRecOn with
  | ind n ih =>
    by_cases h : n = 0
    · subst h; rw [decN_zero]; intro x hx; cases hx
    · rw [decN_pos h]
      intro x hx
      rcases List.mem_append.1 hx with hx | hx
      · exact ih (n / 10) (by omega) x hx
      · rw [List.mem_singleton.1 hx]; omega
theorem decN_nil {n : Nat} : decN n = [] ↔ n = 0 := by
  constructor
  · intro h; by_cases h0 : n = 0
    · exact h0
    · rw [decN_pos h0] at h; simp at h
  · rintro rfl; exact decN_zero
theorem decN_head (n : Nat) (h : n ≠ 0) : (decN n).getD 0 0 ≠ 48 := by
  induction n using Nat.strongRecOn with
  | ind n ih =>
    rw [decN_pos h]
    by_cases h1 : n / 10 = 0
    · rw [h1, decN_zero]; simp; omega
    · have h2 := ih (n / 10) (by omega) h1
      have h3 : decN (n / 10) ≠ [] := fun e => h1 (decN_nil.1 e)
      cases hd : decN (n / 10) with
      | nil => exact absurd hd h3
      | cons a r => rw [hd] at h2; simpa using h2
/-- characters without a zero in front are those of their value -/
theorem decN_eq (l : List Nat) (h : ∀ y ∈ l, 48 ≤ y ∧ y < 58) (hz : l = [] ∨ l.getD 0 0 ≠ 48) : l = decN (dvl l) := by
  have key : ∀ k (l : List Nat), l.length = k → (∀ y ∈ l, 48 ≤ y ∧ y < 58) → (l = [] ∨ l.getD 0 0 ≠ 48) → l = decN (dvl l) := by
    intro k
    induction k with
    | zero => intro l hl _ _; obtain rfl := List.eq_nil_of_length_eq_zero hl; rw [show dvl [] = 0 from rfl, decN_zero]
    | succ k ih =>
      intro l hl h hz
      obtain ⟨m, d, rfl⟩ : ∃ m d, l = m ++ [d] := ⟨l.dropLast, l.getLast (by intro e; rw [e] at hl; simp at hl), (List.dropLast_concat_getLast _).symm⟩
      have hd := h d (by simp)
      have hm : ∀ y ∈ m, 48 ≤ y ∧ y < 58 := fun y hy => h y (by simp [hy])
      have hml : m.length = k := by simpa using hl
      have hmz : m = [] ∨ m.getD 0 0 ≠ 48 := by
        cases m with
        | nil => exact .inl rfl
        | cons a r => right; rcases hz with hz | hz
                      · simp at hz
                      · simpa using hz
      have e := ih m hml hm hmz
      have hne : dvl (m ++ [d]) ≠ 0 := by
        rw [dvl_snoc]
        rcases hmz with rfl | hm0
        · rcases hz with hz | hz
          · simp at hz
          · simp at hz; omega
        · intro h0
          have : dvl m = 0 := by omega
          rw [this, decN_zero] at e
          rw [e] at hm0; simp at hm0
          rcases hz with hz | hz
          · rw [e] at hz; simp at hz
          · rw [e] at hz; simp at hz; omega
      rw [decN_pos hne, dvl_snoc, show (10 * dvl m + (d - 48)) / 10 = dvl m by omega, show 48 + (10 * dvl m + (d - 48)) % 10 = d by omega, ← e]
  exact key l.length l rfl h hz
theorem decN_lt (n : Nat) : n < 10 ^ (decN n).length := by have := dvl_lt _ (decN_dig n); rwa [decN_dvl] at this
theorem decN_len_le {n t : Nat} (h : n < 10 ^ t) : (decN n).length ≤ t := by
  induction t generalizing n with
  | zero => have : n = 0 := by simpa using h
            subst this; rw [decN_zero]; exact Nat.le_refl _
  | succ t ih =>
    by_cases h0 : n = 0
    · subst h0; rw [decN_zero]; simp
    · rw [decN_pos h0, List.length_append]
      have := ih (n := n / 10) (by rw [Nat.pow_succ] at h; omega)
      simpa using this
/-- the lowest digits are zeros and the digits -/
theorem dg_decN (t n : Nat) (h : n < 10 ^ t) : dg t n = List.replicate (t - (decN n).length) 48 ++ decN n := by
  have hl := decN_len_le h
  have hu := dg_unique (List.replicate (t - (decN n).length) 48 ++ decN n) (fun y hy => by
    rcases List.mem_append.1 hy with hy | hy
    · rw [(List.mem_replicate.1 hy).2]; decide
    · exact decN_dig n y hy)
  have hv : dvl (List.replicate (t - (decN n).length) 48 ++ decN n) = n := by
    rw [dvl_append, decN_dvl]
    have : ∀ k, dvl (List.replicate k 48) = 0 := by
      intro k
      induction k with
      | zero => rfl
      | succ k ih => rw [List.replicate_succ, dvl_cons, ih]; simp
    rw [this]; omega
  rw [hv, List.length_append, List.length_replicate, show t - (decN n).length + (decN n).length = t by omega] at hu
  exact hu
theorem nv_digit (l : List Nat) (h : Dig l) (i : Nat) (hi : i < l.length) (j : Nat) (hj : j < 4) : nv l / 10 ^ (4 * i + j) % 10 = l.getD i 0 / 10 ^ j % 10 := by
  have h1 := nv_take_drop l i (by omega)
  have h2 := nv_lt (h.take i)
  rw [List.length_take, Nat.min_eq_left (by omega)] at h2
  have hp : 10000 ^ i = 10 ^ (4 * i) := by rw [show (10000 : Nat) = 10 ^ 4 from rfl, ← Nat.pow_mul]
  have h3 : nv (l.drop i) = l.getD i 0 + 10000 * nv (l.drop (i + 1)) := by
    rw [List.drop_eq_getElem_cons hi, nv]; simp [List.getD, hi]
  have h4 : (nv (l.take i) + 10000 ^ i * nv (l.drop i)) / 10000 ^ i = nv (l.drop i) := by rw [Nat.add_mul_div_left _ _ (Nat.pow_pos (by decide)), Nat.div_eq_of_lt h2, Nat.zero_add]
  rw [← h1] at h4
  rw [Nat.pow_add, ← Nat.div_div_eq_div_mul, ← hp, h4, h3]
  have hd := h.getD i
  generalize l.getD i 0 = d at *
  generalize nv (l.drop (i + 1)) = r at *
  rcases (show j = 0 ∨ j = 1 ∨ j = 2 ∨ j = 3 by omega) with rfl | rfl | rfl | rfl <;> omega
end Nm
end Go.Proofs.Yteaecpmdooolkaa
