/-
  Numbers in digits, the lowest first.
-/
namespace Go.Proofs.YtbfonkabmehlmaaGreatDoor
set_option maxRecDepth 1000000
namespace N10
def nv : List Nat → Nat
  | [] => 0
  | d :: l => d + 10 * nv l
def Dig (l : List Nat) : Prop := ∀ x ∈ l, x < 10
theorem Dig.tail {d : Nat} {l : List Nat} (h : Dig (d :: l)) : Dig l := fun x hx => h x (List.mem_cons_of_mem _ hx)
theorem Dig.head {d : Nat} {l : List Nat} (h : Dig (d :: l)) : d < 10 := h d (by simp)
theorem Dig.take {l : List Nat} (h : Dig l) (k : Nat) : Dig (l.take k) := fun x hx => h x (List.mem_of_mem_take hx)
theorem Dig.drop {l : List Nat} (h : Dig l) (k : Nat) : Dig (l.drop k) := fun x hx => h x (List.mem_of_mem_drop hx)
theorem Dig.append {l m : List Nat} (h : Dig l) (k : Dig m) : Dig (l ++ m) := fun x hx => (List.mem_append.1 hx).elim (h x) (k x)
theorem Dig.getD {l : List Nat} (h : Dig l) (i : Nat) : l.getD i 0 < 10 := by
  rw [List.getD_eq_getElem?_getD]
  rcases Nat.lt_or_ge i l.length with h1 | h1
  · rw [List.getElem?_eq_getElem h1]; exact h _ (List.getElem_mem h1)
  · rw [List.getElem?_eq_none h1]; decide
theorem nv_lt {l : List Nat} (h : Dig l) : nv l < 10 ^ l.length := by
  induction l with
  | nil => decide
  | cons d l ih =>
    have h1 := ih h.tail
    have h2 := h.head
    rw [nv, List.length_cons, Nat.pow_succ]
    omega
theorem nv_append (a b : List Nat) : nv (a ++ b) = nv a + 10 ^ a.length * nv b := by
  induction a with
  | nil => simp [nv]
  | cons d l ih => rw [List.cons_append, nv, nv, ih, List.length_cons, Nat.pow_succ]; grind
theorem nv_take_succ (l : List Nat) (i : Nat) (h : i < l.length) : nv (l.take (i + 1)) = nv (l.take i) + 10 ^ i * l.getD i 0 := by
  have hg : l.getD i 0 = l[i] := by simp [List.getD, h]
  rw [hg, List.take_succ_eq_append_getElem h, nv_append, List.length_take, Nat.min_eq_left (by omega)]
  simp [nv]
theorem nv_take_drop (l : List Nat) (i : Nat) (h : i ≤ l.length) : nv l = nv (l.take i) + 10 ^ i * nv (l.drop i) := by
  conv => lhs; rw [← List.take_append_drop i l]
  rw [nv_append, List.length_take, Nat.min_eq_left h]
theorem nv_rep (n : Nat) : nv (List.replicate n 0) = 0 := by
  induction n with
  | zero => rfl
  | succ n ih => rw [List.replicate_succ, nv, ih]
theorem dig_rep (n : Nat) : Dig (List.replicate n 0) := fun x hx => by rw [(List.mem_replicate.1 hx).2]; decide
/-- the lowest n groups -/
def padL : Nat → Nat → List Nat
  | 0, _ => []
  | n + 1, x => x % 10 :: padL n (x / 10)
theorem padL_len : ∀ n x, (padL n x).length = n
  | 0, _ => rfl
  | n + 1, x => by rw [padL, List.length_cons, padL_len]
theorem padL_dig : ∀ n x, Dig (padL n x)
  | 0, _ => fun y hy => by cases hy
  | n + 1, x => fun y hy => by
    rw [padL] at hy
    rcases List.mem_cons.1 hy with rfl | hy
    · exact Nat.mod_lt _ (by decide)
    · exact padL_dig n _ y hy
theorem padL_nv : ∀ n x, x < 10 ^ n → nv (padL n x) = x
  | 0, x, h => by rw [padL, nv]; omega
  | n + 1, x, h => by
    rw [Nat.pow_succ] at h
    rw [padL, nv, padL_nv n (x / 10) (by omega)]; omega
theorem padL_eq {l : List Nat} (h : Dig l) : padL l.length (nv l) = l := by
  induction l with
  | nil => rfl
  | cons d l ih =>
    have := h.head
    rw [List.length_cons, padL, nv, show (d + 10 * nv l) % 10 = d by omega, show (d + 10 * nv l) / 10 = nv l by omega, ih h.tail]
theorem padL_app (n m x y : Nat) (h : x < 10 ^ n) : padL (n + m) (x + 10 ^ n * y) = padL n x ++ padL m y := by
  induction n generalizing x with
  | zero =>
    have : x = 0 := by simpa using h
    subst this
    simp [padL]
  | succ n ih =>
    rw [Nat.pow_succ] at h
    rw [show n + 1 + m = (n + m) + 1 by omega, padL, padL, List.cons_append]
    have e1 : (x + 10 ^ (n + 1) * y) % 10 = x % 10 := by rw [Nat.pow_succ, Nat.mul_comm (10 ^ n) 10, Nat.mul_assoc, Nat.add_mul_mod_self_left]
    have e2 : (x + 10 ^ (n + 1) * y) / 10 = x / 10 + 10 ^ n * y := by rw [Nat.pow_succ, Nat.mul_comm (10 ^ n) 10, Nat.mul_assoc, Nat.add_mul_div_left _ _ (by decide)]
    rw [e1, e2, ih (x / 10) (by omega)]
theorem padL_one (d : Nat) (h : d < 10) : padL 1 d = [d] := by rw [padL, padL, Nat.mod_eq_of_lt h]
theorem padL_succ (n x d : Nat) (h : x < 10 ^ n) (hd : d < 10) : padL (n + 1) (x + 10 ^ n * d) = padL n x ++ [d] := by rw [padL_app n 1 x d h, padL_one d hd]

/-- the groups of a number, without zeros in front -/
def natL (n : Nat) : List Nat := if n = 0 then [] else n % 10 :: natL (n / 10)
decreasing_by omega
theorem natL_zero : natL 0 = [] := by rw [natL, if_pos rfl]
theorem natL_pos {n : Nat} (h : n ≠ 0) : natL n = n % 10 :: natL (n / 10) := by rw [natL, if_neg h]
theorem natL_nv (n : Nat) : nv (natL n) = n := by
  induction n using Nat.strongRecOn with
  | ind n ih =>
    by_cases h : n = 0
    · subst h; rw [natL_zero, nv]
    · rw [natL_pos h, nv, ih (n / 10) (by omega)]; omega
theorem natL_dig (n : Nat) : Dig (natL n) := by
  induction n using Nat.strongRecOn with
  | ind n ih =>
    by_cases h : n = 0
    · subst h; rw [natL_zero]; intro x hx; cases hx
    · rw [natL_pos h]
      intro x hx
      rcases List.mem_cons.1 hx with rfl | hx
      · exact Nat.mod_lt _ (by decide)
      · exact ih (n / 10) (by omega) x hx
theorem natL_nil {n : Nat} : natL n = [] ↔ n = 0 := by
  constructor
  · intro h; by_cases h0 : n = 0
    · exact h0
    · rw [natL_pos h0] at h; cases h
  · rintro rfl; exact natL_zero
theorem natL_len0 {n : Nat} : (natL n).length = 0 ↔ n = 0 := by rw [List.length_eq_zero_iff, natL_nil]
theorem natL_append (l : List Nat) (h : Dig l) (hz : l = [] ∨ l.getD (l.length - 1) 0 ≠ 0) : l = natL (nv l) := by
  induction l with
  | nil => rw [nv, natL_zero]
  | cons d l ih =>
    have hd := h.head
    have hl : l = natL (nv l) := by
      refine ih h.tail ?_
      rcases hz with hz | hz
      · cases hz
      · cases l with
        | nil => exact .inl rfl
        | cons e r => right; simpa using hz
    have h0 : nv (d :: l) ≠ 0 := by
      rw [nv]
      rcases hz with hz | hz
      · cases hz
      · cases l with
        | nil => simp at hz; rw [nv]; omega
        | cons e r =>
          intro hn
          have : nv (e :: r) = 0 := by omega
          rw [this, natL_zero] at hl; cases hl
    rw [natL_pos h0, nv, show (d + 10 * nv l) % 10 = d by omega, show (d + 10 * nv l) / 10 = nv l by omega, ← hl]
theorem natL_last (n : Nat) (h : n ≠ 0) : (natL n).getD ((natL n).length - 1) 0 ≠ 0 := by
  induction n using Nat.strongRecOn with
  | ind n ih =>
    rw [natL_pos h]
    by_cases h1 : n / 10 = 0
    · rw [h1, natL_zero]; simp; omega
    · have := ih (n / 10) (by omega) h1
      have hl : (natL (n / 10)).length ≠ 0 := fun e => h1 (natL_len0.1 e)
      have e : (n % 10 :: natL (n / 10)).length - 1 = ((natL (n / 10)).length - 1) + 1 := by rw [List.length_cons]; omega
      rw [e, List.getD_cons_succ]; exact this
theorem natL_lt (n : Nat) : n < 10 ^ (natL n).length := by have := nv_lt (natL_dig n); rwa [natL_nv] at this
theorem natL_ge (n : Nat) (h : n ≠ 0) : 10 ^ ((natL n).length - 1) ≤ n := by
  have h1 := natL_last n h
  have hl : (natL n).length ≠ 0 := fun e => h (natL_len0.1 e)
  have h2 := nv_take_succ (natL n) ((natL n).length - 1) (by omega)
  rw [show (natL n).length - 1 + 1 = (natL n).length by omega, List.take_length, natL_nv] at h2
  have h3 : 10 ^ ((natL n).length - 1) * 1 ≤ 10 ^ ((natL n).length - 1) * (natL n).getD ((natL n).length - 1) 0 := Nat.mul_le_mul_left _ (by omega)
  omega
theorem natL_len_le {n k : Nat} (h : n < 10 ^ k) : (natL n).length ≤ k := by
  by_cases h0 : n = 0
  · rw [natL_len0.2 h0]; omega
  · have h1 := natL_ge n h0
    have h2 : 10 ^ ((natL n).length - 1) < 10 ^ k := by omega
    have := (Nat.pow_lt_pow_iff_right (by decide : 1 < 10)).1 h2
    omega
theorem natL_len_mono {n m : Nat} (h : n ≤ m) : (natL n).length ≤ (natL m).length := natL_len_le (Nat.lt_of_le_of_lt h (natL_lt m))
theorem natL_len_lt {n m : Nat} (h : (natL n).length < (natL m).length) : n < m := by
  rcases Nat.lt_or_ge n m with h1 | h1
  · exact h1
  · have := natL_len_mono h1; omega
/-- zeros in front make no difference -/
theorem nv_take_zeros (l : List Nat) (k : Nat) (hk : k ≤ l.length) (hz : ∀ j, k ≤ j → l.getD j 0 = 0) : nv (l.take k) = nv l := by
  have h : nv (l.drop k) = 0 := by
    have h2 : ∀ (r : List Nat), (∀ j, r.getD j 0 = 0) → nv r = 0 := by
      intro r
      induction r with
      | nil => intro _; rfl
      | cons d r ih => intro hr; have h0 := hr 0; simp at h0; rw [nv, ih (fun j => by simpa using hr (j + 1)), h0]
    refine h2 _ (fun j => ?_)
    have := hz (k + j) (by omega)
    rw [List.getD_eq_getElem?_getD] at this ⊢
    rwa [List.getElem?_drop]
  rw [nv_take_drop l k hk, h, Nat.mul_zero, Nat.add_zero]
/-- the first place from above at which they differ -/
theorem nv_less {a b : List Nat} (ha : Dig a) (hl : a.length = b.length) (i : Nat) (h : i < a.length) (hlt : a.getD i 0 < b.getD i 0) (he : a.drop (i + 1) = b.drop (i + 1)) : nv a < nv b := by
  have e1 := nv_take_drop a (i + 1) (by omega)
  have e2 := nv_take_drop b (i + 1) (by omega)
  rw [nv_take_succ a i h] at e1
  rw [nv_take_succ b i (by omega)] at e2
  rw [he] at e1
  have hp := nv_lt (ha.take i)
  rw [List.length_take, Nat.min_eq_left (by omega)] at hp
  have h1 : 10 ^ i * (a.getD i 0 + 1) ≤ 10 ^ i * b.getD i 0 := Nat.mul_le_mul_left _ hlt
  rw [Nat.mul_add] at h1
  omega
end N10
end Go.Proofs.YtbfonkabmehlmaaGreatDoor
