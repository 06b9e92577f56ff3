/-
  The plain mathematics of layer 1 (wire), over lists of bytes and natural numbers; it imports nothing of the program. A register of 32 bits that bytes are shifted through (linear; a burst of at most 32 bits is seen), and the encodings of integers and strings (unique, and none is the beginning of another's).
-/
namespace Go.Proofs.YtiffkoakpfpdgaaDoor.Wm


/-- one shift of the register -/
def step1 (r : Nat) : Nat := r / 2 ^^^ (if r % 2 = 1 then 2197175160 else 0)
def steps : Nat → Nat → Nat
  | 0, r => r
  | n + 1, r => steps n (step1 r)
def crcByte (r b : Nat) : Nat := steps 8 (r ^^^ b)
def crcReg (r : Nat) (l : List UInt8) : Nat := l.foldl (fun r b => crcByte r b.toNat) r
def crc (l : List UInt8) : Nat := 4294967295 - crcReg 4294967295 l

theorem step1_xor (a b : Nat) : step1 (a ^^^ b) = step1 a ^^^ step1 b := by
  unfold step1
  have h1 : (a ^^^ b) / 2 = a / 2 ^^^ b / 2 := by
    have := Nat.xor_div_two_pow (a := a) (b := b) (n := 1); simpa using this
  have h2 : (a ^^^ b) % 2 = (a % 2 + b % 2) % 2 := by
    have := Nat.xor_mod_two_pow (a := a) (b := b) (n := 1)
    simp at this; rw [this]
    rcases Nat.mod_two_eq_zero_or_one a with ha | ha <;> rcases Nat.mod_two_eq_zero_or_one b with hb | hb <;> simp [ha, hb]
  rw [h1, h2]
  generalize (2197175160 : Nat) = P
  generalize a / 2 = x
  generalize b / 2 = y
  rcases Nat.mod_two_eq_zero_or_one a with ha | ha <;> rcases Nat.mod_two_eq_zero_or_one b with hb | hb <;> simp [ha, hb]
  · ac_rfl
  · ac_rfl
  · rw [show x ^^^ P ^^^ (y ^^^ P) = x ^^^ y ^^^ (P ^^^ P) by ac_rfl]; simp

theorem steps_xor : ∀ (n a b : Nat), steps n (a ^^^ b) = steps n a ^^^ steps n b
  | 0, _, _ => rfl
  | n + 1, a, b => by show steps n (step1 _) = _; rw [step1_xor, steps_xor n]; rfl

theorem step1_lt (r : Nat) (h : r < 4294967296) : step1 r < 4294967296 := by
  unfold step1
  have : (4294967296 : Nat) = 2 ^ 32 := rfl
  rw [this]
  apply Nat.xor_lt_two_pow
  · omega
  · split <;> omega

theorem steps_lt : ∀ (n r : Nat), r < 4294967296 → steps n r < 4294967296
  | 0, _, h => h
  | n + 1, r, h => steps_lt n _ (step1_lt r h)

theorem steps_add : ∀ (m n r : Nat), steps (m + n) r = steps n (steps m r)
  | 0, n, r => by simp [steps]
  | m + 1, n, r => by rw [Nat.add_right_comm]; exact steps_add m n (step1 r)

theorem steps_shift : ∀ (n x : Nat), x % 2 ^ n = 0 → steps n x = x / 2 ^ n
  | 0, x, _ => by simp [steps]
  | n + 1, x, h => by
    have h2 : x % 2 = 0 := by
      have : 2 ∣ x := Nat.dvd_trans ⟨2 ^ n, by rw [Nat.pow_succ]; omega⟩ (Nat.dvd_of_mod_eq_zero h)
      omega
    have h1 : step1 x = x / 2 := by unfold step1; simp [h2]
    show steps n (step1 x) = _
    rw [h1, steps_shift n (x / 2), Nat.div_div_eq_div_mul, Nat.pow_succ, Nat.mul_comm]
    have : x = 2 * (x / 2) := by omega
    obtain ⟨k, hk⟩ := Nat.dvd_of_mod_eq_zero h
    rw [hk, Nat.pow_succ, show 2 ^ n * 2 * k = 2 * (2 ^ n * k) by ac_rfl, Nat.mul_div_cancel_left _ (by omega)]
    exact Nat.mul_mod_right _ _

theorem crcByte_lt (r b : Nat) (h : r < 4294967296) (hb : b < 256) : crcByte r b < 4294967296 :=
  steps_lt 8 _ (by have : (4294967296 : Nat) = 2 ^ 32 := rfl
                   rw [this]; exact Nat.xor_lt_two_pow (by omega) (by omega))

theorem crcReg_lt (l : List UInt8) : ∀ r, r < 4294967296 → crcReg r l < 4294967296 := by
  induction l with
  | nil => intro r h; exact h
  | cons b l ih => intro r h; exact ih _ (crcByte_lt r _ h (UInt8.toNat_lt b))

theorem crc_lt (l : List UInt8) : crc l < 4294967296 := by unfold crc; omega

/-- four shifts by a table of sixteen -/
def nib (i : Nat) : Nat := #[0x00000000, 0x105ec76f, 0x20bd8ede, 0x30e349b1, 0x417b1dbc, 0x5125dad3, 0x61c69362, 0x7198540d, 0x82f63b78, 0x92a8fc17, 0xa24bb5a6, 0xb21572c9, 0xc38d26c4, 0xd3d3e1ab, 0xe330a81a, 0xf36e6f75].getD i 0

theorem nib_steps : ∀ i, i < 16 → steps 4 i = nib i := by decide +kernel

theorem steps4 (r : Nat) : steps 4 r = r / 16 ^^^ nib (r % 16) := by
  have e : r = (r / 16 * 16) ^^^ (r % 16) := by
    have h1 : r / 16 * 16 ||| r % 16 = r / 16 * 16 + r % 16 := by
      have := Nat.two_pow_add_eq_or_of_lt (i := 4) (b := r % 16) (by omega) (r / 16)
      rw [show 2 ^ 4 * (r / 16) = r / 16 * 16 by omega] at this
      exact this.symm
    have h2 : (r / 16 * 16) ^^^ (r % 16) = (r / 16 * 16) ||| (r % 16) := by
      apply Nat.eq_of_testBit_eq
      intro i
      simp only [Nat.testBit_xor, Nat.testBit_or]
      have hm : (r % 16).testBit i = (decide (i < 4) && r.testBit i) := Nat.testBit_mod_two_pow r 4 i
      have hd : (r / 16 * 16).testBit i = (decide (4 ≤ i) && (r / 16).testBit (i - 4)) := Nat.testBit_mul_two_pow (r / 16) i 4
      rw [hm, hd]
      by_cases h : i < 4
      · have : ¬ 4 ≤ i := by omega
        simp [h, this]
      · simp [h]
    rw [h2, h1]; omega
  have e2 : steps 4 (r / 16 * 16) = r / 16 := by
    rw [steps_shift 4 _ (by omega)]; omega
  conv => lhs; rw [e]
  rw [steps_xor, e2, nib_steps _ (by omega)]

theorem crcByte_nib (r b : Nat) : crcByte r b = (let x := r ^^^ b; let y := x / 16 ^^^ nib (x % 16); y / 16 ^^^ nib (y % 16)) := by
  unfold crcByte
  rw [show (8 : Nat) = 4 + 4 from rfl, steps_add, steps4, steps4]

/-! ## linear -/
theorem crcReg_xor (l m : List UInt8) : ∀ (r s : Nat), l.length = m.length →
    crcReg (r ^^^ s) (List.zipWith (· ^^^ ·) l m) = crcReg r l ^^^ crcReg s m := by
  induction l generalizing m with
  | nil => intro r s h; cases m with
    | nil => rfl
    | cons => simp at h
  | cons a l ih =>
    intro r s h
    cases m with
    | nil => simp at h
    | cons b m =>
      show crcReg (crcByte (r ^^^ s) (a ^^^ b).toNat) _ = crcReg (crcByte r a.toNat) l ^^^ crcReg (crcByte s b.toNat) m
      rw [← ih m _ _ (by simpa using h)]
      unfold crcByte
      rw [UInt8.toNat_xor, ← steps_xor]
      congr 2
      ac_rfl

/-! ## a burst -/
/-- the register after n more bits of the number x, the lowest bit first -/
def run : Nat → Nat → Nat → Nat
  | 0, d, _ => d
  | n + 1, d, x => run n (step1 (d ^^^ x % 2)) (x / 2)

theorem run_add : ∀ (m n d x : Nat), run (m + n) d x = run n (run m d x) (x / 2 ^ m)
  | 0, n, d, x => by simp [run]
  | m + 1, n, d, x => by
    rw [Nat.add_right_comm]
    show run (m + n) _ _ = _
    rw [run_add m n, Nat.div_div_eq_div_mul, Nat.pow_succ, Nat.mul_comm]
    rfl

theorem run_steps : ∀ (n d x : Nat), x < 2 ^ n → run n d x = steps n (d ^^^ x)
  | 0, d, x, h => by simp at h; subst h; simp [run, steps]
  | n + 1, d, x, h => by
    show run n (step1 (d ^^^ x % 2)) (x / 2) = steps n (step1 (d ^^^ x))
    rw [run_steps n _ _ (by rw [Nat.pow_succ] at h; omega)]
    congr 1
    have e : x = (x % 2) ^^^ (2 * (x / 2)) := by
      apply Nat.eq_of_testBit_eq
      intro i
      rw [Nat.testBit_xor]
      cases i with
      | zero => simp
      | succ i => simp [Nat.testBit_succ, show x % 2 / 2 = 0 by omega, show 2 * (x / 2) / 2 = x / 2 by omega]
    conv => rhs; rw [e]
    rw [← Nat.xor_assoc, step1_xor (d ^^^ x % 2)]
    congr 1
    unfold step1
    simp

/-- the number that the bytes are, the lowest first -/
def num : List UInt8 → Nat
  | [] => 0
  | b :: l => b.toNat + 256 * num l

theorem num_lt : ∀ l : List UInt8, num l < 2 ^ (8 * l.length)
  | [] => by simp [num]
  | b :: l => by
    have := num_lt l
    have hb := UInt8.toNat_lt b
    simp only [num, List.length_cons, Nat.mul_add, Nat.pow_add]
    omega

theorem run_mod : ∀ (n d x y : Nat), x % 2 ^ n = y % 2 ^ n → run n d x = run n d y
  | 0, _, _, _, _ => rfl
  | n + 1, d, x, y, h => by
    have h2 : x % 2 = y % 2 := by
      have hx : x % 2 ^ (n + 1) % 2 = x % 2 := Nat.mod_mod_of_dvd _ ⟨2 ^ n, by rw [Nat.pow_succ]; omega⟩
      have hy : y % 2 ^ (n + 1) % 2 = y % 2 := Nat.mod_mod_of_dvd _ ⟨2 ^ n, by rw [Nat.pow_succ]; omega⟩
      omega
    show run n _ (x / 2) = run n _ (y / 2)
    rw [h2]
    apply run_mod
    have hx : x / 2 % 2 ^ n = x % 2 ^ (n + 1) / 2 := by rw [Nat.pow_succ, Nat.mul_comm, Nat.mod_mul_right_div_self]
    have hy : y / 2 % 2 ^ n = y % 2 ^ (n + 1) / 2 := by rw [Nat.pow_succ, Nat.mul_comm, Nat.mod_mul_right_div_self]
    rw [hx, hy, h]

theorem crcReg_run : ∀ (l : List UInt8) (r : Nat), crcReg r l = run (8 * l.length) r (num l)
  | [], r => rfl
  | b :: l, r => by
    show crcReg (crcByte r b.toNat) l = _
    rw [crcReg_run l, List.length_cons, Nat.mul_add, Nat.add_comm, run_add]
    have hb : b.toNat < 256 := UInt8.toNat_lt b
    have e1 : num (b :: l) / 2 ^ 8 = num l := by simp only [num]; omega
    have e2 : run 8 r (num (b :: l)) = crcByte r b.toNat := by
      rw [run_mod 8 r (num (b :: l)) b.toNat (by simp only [num]; omega), run_steps 8 _ _ (by omega)]; rfl
    rw [e1, e2]

theorem step1_small (x v : Nat) (hx : x < 4294967296) (h : step1 x = v) (hv : v < 2147483648) : x = 2 * v := by
  unfold step1 at h
  by_cases hp : x % 2 = 1
  · simp only [hp, if_true] at h
    exfalso
    have h31 : v.testBit 31 = false := Nat.testBit_lt_two_pow (by omega)
    rw [← h, Nat.testBit_xor] at h31
    have : (x / 2).testBit 31 = false := Nat.testBit_lt_two_pow (by omega)
    rw [this] at h31
    exact absurd h31 (by decide)
  · simp only [hp, if_false, Nat.xor_zero] at h
    omega

/-- only the number itself brings the register to zero -/
theorem run_zero : ∀ (n d v : Nat), d < 4294967296 → v < 2 ^ n → v < 4294967296 → run n d v = 0 → d = v
  | 0, d, v, _, h1, _, h => by simp at h1; subst h1; exact h
  | n + 1, d, v, hd, h1, h2, h => by
    have hlt : d ^^^ v % 2 < 4294967296 := by
      have : (4294967296 : Nat) = 2 ^ 32 := rfl
      rw [this]; exact Nat.xor_lt_two_pow (by omega) (by omega)
    have ih := run_zero n (step1 (d ^^^ v % 2)) (v / 2) (step1_lt _ hlt) (by rw [Nat.pow_succ] at h1; omega) (by omega) h
    have e := step1_small _ _ hlt ih (by omega)
    have e2 : d = 2 * (v / 2) ^^^ v % 2 := by rw [← e, Nat.xor_assoc, Nat.xor_self, Nat.xor_zero]
    rw [e2]
    apply Nat.eq_of_testBit_eq
    intro i
    rw [Nat.testBit_xor]
    cases i with
    | zero => simp
    | succ i => simp [Nat.testBit_succ, show v % 2 / 2 = 0 by omega, show 2 * (v / 2) / 2 = v / 2 by omega]

theorem run_zeros : ∀ (n : Nat), run n 0 0 = 0
  | 0 => rfl
  | n + 1 => by show run n (step1 (0 ^^^ 0 % 2)) (0 / 2) = 0; exact run_zeros n

theorem burst (l : List UInt8) (f v : Nat) (hv : v < 4294967296) (h : num l = v * 2 ^ f) (hz : crcReg 0 l = 0) : num l = 0 := by
  rw [crcReg_run] at hz
  have hn := num_lt l
  by_cases h0 : v = 0
  · simp [h, h0]
  · have hf : f ≤ 8 * l.length := by
      by_cases hf : f ≤ 8 * l.length
      · exact hf
      · exfalso
        have h1 : 2 ^ (8 * l.length) ≤ 2 ^ f := Nat.pow_le_pow_right (by omega) (by omega)
        have h2 : 2 ^ f ≤ v * 2 ^ f := Nat.le_mul_of_pos_left _ (by omega)
        omega
    obtain ⟨k, hk⟩ := Nat.exists_eq_add_of_le hf
    rw [hk, run_add, h, Nat.mul_div_cancel _ (Nat.two_pow_pos f), run_mod f 0 (v * 2 ^ f) 0 (by simp), run_zeros] at hz
    have hvk : v < 2 ^ k := by
      rw [h, hk, Nat.pow_add, Nat.mul_comm] at hn
      exact Nat.lt_of_mul_lt_mul_left hn
    have := run_zero k 0 v (by omega) hvk hv hz
    omega



def enc (z : Nat) : List UInt8 := if z < 128 then [UInt8.ofNat z] else UInt8.ofNat (z % 128 + 128) :: enc (z / 128)
termination_by z

theorem enc_small (z : Nat) (h : z < 128) : enc z = [UInt8.ofNat z] := by rw [enc, if_pos h]
theorem enc_big (z : Nat) (h : 128 ≤ z) : enc z = UInt8.ofNat (z % 128 + 128) :: enc (z / 128) := by rw [enc, if_neg (by omega)]

theorem enc_ne (z : Nat) : enc z ≠ [] := by
  by_cases h : z < 128
  · rw [enc_small z h]; simp
  · rw [enc_big z (by omega)]; simp

theorem enc_len : ∀ (f z : Nat), z < 128 ^ f → 1 ≤ f → (enc z).length ≤ f
  | 0, z, h, h1 => by omega
  | f + 1, z, h, _ => by
    by_cases hz : z < 128
    · rw [enc_small z hz]; simp
    · rw [enc_big z (by omega)]
      rw [Nat.pow_succ] at h
      have hf : 1 ≤ f := by
        rcases f with _ | f
        · simp at h; omega
        · omega
      have := enc_len f (z / 128) (by omega) hf
      simp; omega

theorem enc_pos (z : Nat) : 1 ≤ (enc z).length := by
  have := enc_ne z
  cases h : enc z with
  | nil => exact absurd h this
  | cons => simp

/-- the groups that a text begins with, at most f of them: the number, and how many they are -/
def jn : Nat → List UInt8 → Option (Nat × Nat)
  | 0, _ => none
  | _ + 1, [] => none
  | f + 1, b :: l => if b.toNat < 128 then some (b.toNat, 1) else
      match jn f l with
      | none => none
      | some (z, k) => if z = 0 then none else some (b.toNat - 128 + 128 * z, k + 1)

theorem toNat_small (z : Nat) (h : z < 256) : (UInt8.ofNat z).toNat = z := by simp; omega

theorem jn_enc : ∀ (f z : Nat) (r : List UInt8), z < 128 ^ f → 1 ≤ f → jn f (enc z ++ r) = some (z, (enc z).length)
  | 0, z, r, h, h1 => by omega
  | f + 1, z, r, h, _ => by
    by_cases hz : z < 128
    · rw [enc_small z hz]
      simp only [List.cons_append, List.nil_append, jn, toNat_small z (by omega), hz, if_true, List.length_cons, List.length_nil]
    · rw [enc_big z (by omega)]
      rw [Nat.pow_succ] at h
      have hf : 1 ≤ f := by
        rcases f with _ | f
        · simp at h; omega
        · omega
      simp only [List.cons_append, jn, toNat_small (z % 128 + 128) (by omega), if_neg (show ¬ z % 128 + 128 < 128 by omega), jn_enc f (z / 128) r (by omega) hf, List.length_cons]
      rw [if_neg (by omega)]
      congr 2
      omega

theorem jn_some : ∀ (f : Nat) (l : List UInt8) (z k : Nat), jn f l = some (z, k) → z < 128 ^ f ∧ k = (enc z).length ∧ k ≤ f ∧ enc z ++ l.drop k = l
  | 0, l, z, k, h => by simp [jn] at h
  | f + 1, [], z, k, h => by simp [jn] at h
  | f + 1, b :: l, z, k, h => by
    have hb := UInt8.toNat_lt b
    simp only [jn] at h
    by_cases hlt : b.toNat < 128
    · rw [if_pos hlt] at h
      obtain ⟨rfl, rfl⟩ : b.toNat = z ∧ 1 = k := by simpa using h
      rw [enc_small _ hlt]
      have h1 : 128 ^ 1 ≤ 128 ^ (f + 1) := Nat.pow_le_pow_right (by omega) (by omega)
      exact ⟨by omega, rfl, by omega, by simp⟩
    · rw [if_neg hlt] at h
      cases hj : jn f l with
      | none => rw [hj] at h; simp at h
      | some p =>
        obtain ⟨y, j⟩ := p
        rw [hj] at h
        dsimp only at h
        by_cases hy : y = 0
        · rw [if_pos hy] at h; simp at h
        · rw [if_neg hy] at h
          obtain ⟨rfl, rfl⟩ : b.toNat - 128 + 128 * y = z ∧ j + 1 = k := by simpa using h
          obtain ⟨a1, a2, a3, a4⟩ := jn_some f l y j hj
          have e : enc (b.toNat - 128 + 128 * y) = b :: enc y := by
            rw [enc_big _ (by omega)]
            have e1 : (b.toNat - 128 + 128 * y) % 128 + 128 = b.toNat := by omega
            have e2 : (b.toNat - 128 + 128 * y) / 128 = y := by omega
            rw [e1, e2]; simp
          rw [e]
          refine ⟨by rw [Nat.pow_succ]; omega, by simp [a2], by omega, by simp [a4]⟩

/-! the loop's view: i groups have come, each with another behind it; they are the number acc -/
def jnAt (l : List UInt8) (i acc : Nat) : Option (Nat × Nat) :=
  match jn (9 - i) (l.drop i) with
  | none => none
  | some (z, k) => if i ≠ 0 ∧ z = 0 then none else some (acc + 128 ^ i * z, i + k)

theorem jnAt_zero (l : List UInt8) : jnAt l 0 0 = jn 9 l := by
  unfold jnAt
  simp only [Nat.sub_zero, List.drop_zero, ne_eq, not_true_eq_false, false_and, if_false, Nat.zero_add, Nat.pow_zero, Nat.one_mul]
  cases jn 9 l with
  | none => rfl
  | some p => rfl

theorem jnAt_end (l : List UInt8) (i acc : Nat) (h : i = 9 ∨ l.length ≤ i) : jnAt l i acc = none := by
  unfold jnAt
  rcases h with h | h
  · subst h; simp [jn]
  · rw [List.drop_of_length_le h]
    cases h9 : 9 - i with
    | zero => simp [jn]
    | succ => simp [jn]

theorem jnAt_last (l : List UInt8) (i acc : Nat) (hi : i < 9) (hl : i < l.length) (hb : l[i].toNat < 128) :
    jnAt l i acc = if i ≠ 0 ∧ l[i].toNat = 0 then none else some (acc + 128 ^ i * l[i].toNat, i + 1) := by
  unfold jnAt
  rw [List.drop_eq_getElem_cons hl, show 9 - i = (8 - i) + 1 by omega]
  simp only [jn, hb, if_true]

theorem jnAt_more (l : List UInt8) (i acc : Nat) (hi : i < 9) (hl : i < l.length) (hb : 128 ≤ l[i].toNat) :
    jnAt l i acc = jnAt l (i + 1) (acc + 128 ^ i * (l[i].toNat - 128)) := by
  unfold jnAt
  rw [List.drop_eq_getElem_cons hl, show 9 - i = (9 - (i + 1)) + 1 by omega]
  simp only [jn, if_neg (show ¬ l[i].toNat < 128 by omega)]
  cases jn (9 - (i + 1)) (List.drop (i + 1) l) with
  | none => rfl
  | some p =>
    obtain ⟨y, j⟩ := p
    dsimp only
    by_cases hy : y = 0
    · simp [hy]
    · have h2 : ¬ (l[i].toNat - 128 + 128 * y = 0) := by omega
      have e1 : acc + 128 ^ i * (l[i].toNat - 128 + 128 * y) = acc + 128 ^ i * (l[i].toNat - 128) + 128 ^ (i + 1) * y := by
        rw [Nat.pow_succ, Nat.mul_add, Nat.mul_assoc, Nat.add_assoc]
      have e2 : i + (j + 1) = i + 1 + j := by omega
      simp only [hy, h2, if_false, and_false, e1, e2]

/-! zigzag -/
def zz (n : Int) : Nat := if n < 0 then (2 * (-n) - 1).toNat else (2 * n).toNat
def unzz (z : Nat) : Int := if z % 2 = 1 then -(z / 2 : Nat) - 1 else (z / 2 : Nat)
theorem unzz_zz (n : Int) : unzz (zz n) = n := by unfold unzz zz; split <;> split <;> omega
theorem zz_unzz (z : Nat) : zz (unzz z) = z := by unfold unzz zz; split <;> split <;> omega
def MX : Int := 4611686018427387903
theorem zz_lt (n : Int) (h1 : -MX ≤ n) (h2 : n ≤ MX) : zz n < 9223372036854775807 := by unfold zz MX at *; split <;> omega
theorem unzz_range (z : Nat) (h : z < 9223372036854775807) : -MX ≤ unzz z ∧ unzz z ≤ MX := by unfold unzz MX; split <;> omega

/-- the integer that a text begins with, and how many bytes it takes -/
def decI (l : List UInt8) : Option (Int × Nat) :=
  match jn 9 l with
  | none => none
  | some (z, k) => if z = 9223372036854775807 then none else some (unzz z, k)

theorem decI_enc (n : Int) (h1 : -MX ≤ n) (h2 : n ≤ MX) (r : List UInt8) : decI (enc (zz n) ++ r) = some (n, (enc (zz n)).length) := by
  have := zz_lt n h1 h2
  unfold decI
  rw [jn_enc 9 (zz n) r (by omega) (by omega)]
  dsimp only
  rw [if_neg (by omega), unzz_zz]

theorem decI_some (l : List UInt8) (n : Int) (k : Nat) (h : decI l = some (n, k)) :
    -MX ≤ n ∧ n ≤ MX ∧ k = (enc (zz n)).length ∧ k ≤ 9 ∧ k ≤ l.length ∧ enc (zz n) ++ l.drop k = l ∧ l.take k = enc (zz n) := by
  unfold decI at h
  cases hj : jn 9 l with
  | none => rw [hj] at h; simp at h
  | some p =>
    obtain ⟨z, j⟩ := p
    rw [hj] at h
    dsimp only at h
    by_cases hz : z = 9223372036854775807
    · rw [if_pos hz] at h; simp at h
    · rw [if_neg hz] at h
      obtain ⟨rfl, rfl⟩ : unzz z = n ∧ j = k := by simpa using h
      obtain ⟨a1, a2, a3, a4⟩ := jn_some 9 l z j hj
      obtain ⟨r1, r2⟩ := unzz_range z (by omega)
      rw [zz_unzz]
      have hl : j ≤ l.length := by rw [← a4, List.length_append, a2]; omega
      refine ⟨r1, r2, a2, a3, hl, a4, ?_⟩
      conv => lhs; rw [← a4, a2]
      simp

/-- no encoding of an integer is the beginning of another's -/
theorem enc_prefix (a b : Nat) (ha : a < 9223372036854775808) (hb : b < 9223372036854775808) (r s : List UInt8) (h : enc a ++ r = enc b ++ s) : a = b := by
  have h1 := jn_enc 9 a r (by omega) (by omega)
  have h2 := jn_enc 9 b s (by omega) (by omega)
  rw [h, h2] at h1
  simp at h1
  exact h1.1.symm

/-- a part of an encoding holds none -/
theorem decI_cut (n : Int) (h1 : -MX ≤ n) (h2 : n ≤ MX) (k : Nat) (hk : k < (enc (zz n)).length) : decI ((enc (zz n)).take k) = none := by
  cases hd : decI ((enc (zz n)).take k) with
  | none => rfl
  | some p =>
    exfalso
    obtain ⟨m, j⟩ := p
    obtain ⟨b1, b2, b3, _, b5, b6, _⟩ := decI_some _ _ _ hd
    have hz := zz_lt n h1 h2
    have hm := zz_lt m b1 b2
    have e : enc (zz n) ++ [] = enc (zz m) ++ (((enc (zz n)).take k).drop j ++ (enc (zz n)).drop k) := by
      rw [← List.append_assoc, b6, List.take_append_drop, List.append_nil]
    have := enc_prefix _ _ (by omega) (by omega) _ _ e
    rw [← this] at b3
    rw [List.length_take] at b5
    omega

theorem enc_last (z : Nat) (p : List UInt8) (h : enc z = p ++ [0]) : p = [] := by
  induction p generalizing z with
  | nil => rfl
  | cons a p ih =>
    exfalso
    by_cases hz : z < 128
    · rw [enc_small z hz] at h; simp at h
    · rw [enc_big z (by omega)] at h
      simp only [List.cons_append, List.cons.injEq] at h
      have hp := ih _ h.2
      subst hp
      have h2 := h.2
      by_cases hz2 : z / 128 < 128
      · rw [enc_small _ hz2] at h2
        simp only [List.nil_append, List.cons.injEq, and_true] at h2
        have := congrArg UInt8.toNat h2
        rw [toNat_small _ (by omega)] at this
        simp at this
        omega
      · rw [enc_big _ (by omega)] at h2
        have := congrArg List.length h2
        have hp := enc_pos (z / 128 / 128)
        simp at this
        have := enc_ne (z / 128 / 128)
        contradiction

/-! strings: the length, and the bytes -/
def encS (t : List UInt8) : List UInt8 := enc (zz t.length) ++ t
def decS (l : List UInt8) : Option (List UInt8 × Nat) :=
  match decI l with
  | none => none
  | some (n, k) => if n < 0 ∨ 65536 < n ∨ (l.length - k : Nat) < n then none else some ((l.drop k).take n.toNat, k + n.toNat)

theorem decS_encS (t r : List UInt8) (h : t.length ≤ 65536) : decS (encS t ++ r) = some (t, (encS t).length) := by
  unfold decS encS
  rw [List.append_assoc, decI_enc _ (by unfold MX; omega) (by unfold MX; omega)]
  dsimp only
  rw [if_neg (by simp; omega)]
  simp

theorem decS_some (l t : List UInt8) (k : Nat) (h : decS l = some (t, k)) : t.length ≤ 65536 ∧ k = (encS t).length ∧ k ≤ l.length ∧ encS t ++ l.drop k = l ∧ l.take k = encS t := by
  unfold decS at h
  cases hd : decI l with
  | none => rw [hd] at h; simp at h
  | some p =>
    obtain ⟨n, j⟩ := p
    rw [hd] at h
    dsimp only at h
    by_cases hc : n < 0 ∨ 65536 < n ∨ (l.length - j : Nat) < n
    · rw [if_pos hc] at h; simp at h
    · rw [if_neg hc] at h
      obtain ⟨rfl, rfl⟩ : (l.drop j).take n.toNat = t ∧ j + n.toNat = k := by simpa using h
      obtain ⟨b1, b2, b3, b4, b5, b6, b7⟩ := decI_some _ _ _ hd
      have hn : n.toNat ≤ l.length - j := by omega
      have hlen : ((l.drop j).take n.toNat).length = n.toNat := by rw [List.length_take, List.length_drop]; omega
      have hz : zz (((l.drop j).take n.toNat).length : Nat) = zz n := by rw [hlen]; congr 1; omega
      have e1 : encS ((l.drop j).take n.toNat) = l.take (j + n.toNat) := by
        unfold encS
        rw [hz, ← b7, List.take_add]
      have e2 : (encS ((l.drop j).take n.toNat)).length = j + n.toNat := by rw [e1, List.length_take]; omega
      refine ⟨by omega, e2.symm, by omega, ?_, e1.symm⟩
      rw [e1, List.take_append_drop]

theorem decS_cut (t : List UInt8) (h : t.length ≤ 65536) (k : Nat) (hk : k < (encS t).length) : decS ((encS t).take k) = none := by
  cases hd : decS ((encS t).take k) with
  | none => rfl
  | some p =>
    exfalso
    obtain ⟨u, j⟩ := p
    obtain ⟨b1, b2, b3, b4, _⟩ := decS_some _ _ _ hd
    have e : encS t ++ [] = encS u ++ (((encS t).take k).drop j ++ (encS t).drop k) := by
      rw [← List.append_assoc, b4, List.take_append_drop, List.append_nil]
    have h1 := decS_encS t [] h
    have h2 := decS_encS u (((encS t).take k).drop j ++ (encS t).drop k) b1
    rw [e, h2] at h1
    simp at h1
    rw [List.length_take] at b3
    omega


end Go.Proofs.YtiffkoakpfpdgaaDoor.Wm
