/-
  The plain mathematics of a burst: the number that a string's bytes are, bits flipped one by one, and what the checksum says of them.
-/
import Derived.Test.YtiffkoakpfpdgaaDoorWireMath
namespace Go.Proofs.YtiffkoakpfpdgaaDoor.Wm

theorem num_xor : ∀ (l m : List UInt8), l.length = m.length → num (List.zipWith (· ^^^ ·) l m) = num l ^^^ num m
  | [], [], _ => by simp [num]
  | a :: l, b :: m, h => by
    have ih := num_xor l m (by simpa using h)
    simp only [List.zipWith_cons_cons, num, ih]
    have ha := UInt8.toNat_lt a
    have hb := UInt8.toNat_lt b
    have hx : (a ^^^ b).toNat = a.toNat ^^^ b.toNat := UInt8.toNat_xor a b
    have hlt : a.toNat ^^^ b.toNat < 2 ^ 8 := Nat.xor_lt_two_pow (by omega) (by omega)
    rw [hx]
    have h1 : ((a.toNat + 256 * num l) ^^^ (b.toNat + 256 * num m)) % 2 ^ 8 = a.toNat ^^^ b.toNat := by
      rw [Nat.xor_mod_two_pow, show (a.toNat + 256 * num l) % 2 ^ 8 = a.toNat by omega, show (b.toNat + 256 * num m) % 2 ^ 8 = b.toNat by omega]
    have h2 : ((a.toNat + 256 * num l) ^^^ (b.toNat + 256 * num m)) / 2 ^ 8 = num l ^^^ num m := by
      rw [Nat.xor_div_two_pow, show (a.toNat + 256 * num l) / 2 ^ 8 = num l by omega, show (b.toNat + 256 * num m) / 2 ^ 8 = num m by omega]
    omega
  | [], _ :: _, h => by simp at h
  | _ :: _, [], h => by simp at h

theorem num_set_xor : ∀ (l : List UInt8) (j : Nat) (h : j < l.length) (x : UInt8), num (l.set j (l[j] ^^^ x)) = num l ^^^ (x.toNat * 256 ^ j)
  | a :: l, 0, _, x => by
    simp only [List.set_cons_zero, List.getElem_cons_zero, num, Nat.pow_zero, Nat.mul_one]
    have ha := UInt8.toNat_lt a
    have hb := UInt8.toNat_lt x
    have hx : (a ^^^ x).toNat = a.toNat ^^^ x.toNat := UInt8.toNat_xor a x
    have h1 : ((a.toNat + 256 * num l) ^^^ x.toNat) % 2 ^ 8 = a.toNat ^^^ x.toNat := by
      rw [Nat.xor_mod_two_pow, show (a.toNat + 256 * num l) % 2 ^ 8 = a.toNat by omega, show x.toNat % 2 ^ 8 = x.toNat by omega]
    have h2 : ((a.toNat + 256 * num l) ^^^ x.toNat) / 2 ^ 8 = num l := by
      rw [Nat.xor_div_two_pow, show (a.toNat + 256 * num l) / 2 ^ 8 = num l by omega, show x.toNat / 2 ^ 8 = 0 by omega, Nat.xor_zero]
    rw [hx]
    omega
  | a :: l, j + 1, h, x => by
    simp only [List.set_cons_succ, List.getElem_cons_succ, num]
    have ih := num_set_xor l j (by simpa using h) x
    rw [ih]
    have ha := UInt8.toNat_lt a
    have e : x.toNat * 256 ^ (j + 1) = 256 * (x.toNat * 256 ^ j) := by rw [Nat.pow_succ]; ac_rfl
    rw [e]
    generalize x.toNat * 256 ^ j = y
    have h1 : ((a.toNat + 256 * num l) ^^^ (256 * y)) % 2 ^ 8 = a.toNat := by
      rw [Nat.xor_mod_two_pow, show (a.toNat + 256 * num l) % 2 ^ 8 = a.toNat by omega, show (256 * y) % 2 ^ 8 = 0 by omega, Nat.xor_zero]
    have h2 : ((a.toNat + 256 * num l) ^^^ (256 * y)) / 2 ^ 8 = num l ^^^ y := by
      rw [Nat.xor_div_two_pow, show (a.toNat + 256 * num l) / 2 ^ 8 = num l by omega, show (256 * y) / 2 ^ 8 = y by omega]
    omega

/-- a bit above is added by XOR -/
theorem xor_high (y n : Nat) (h : y < 2 ^ n) : y ^^^ 2 ^ n = y + 2 ^ n := by
  apply Nat.eq_of_testBit_eq
  intro i
  rw [Nat.testBit_xor, Nat.testBit_two_pow, Nat.add_comm]
  by_cases hi : i < n
  · have e : (2 ^ n + y).testBit i = y.testBit i := Nat.testBit_two_pow_add_gt hi y
    rw [e]
    have : ¬ n = i := by omega
    simp [this]
  · by_cases e : i = n
    · subst e
      have h1 : (2 ^ i + y).testBit i = !y.testBit i := Nat.testBit_two_pow_add_eq y i
      rw [h1]; simp
    · have h1 : 2 ^ (n + 1) ≤ 2 ^ i := Nat.pow_le_pow_right (by omega) (by omega)
      rw [Nat.pow_succ] at h1
      rw [Nat.testBit_lt_two_pow (show 2 ^ n + y < 2 ^ i by omega), Nat.testBit_lt_two_pow (show y < 2 ^ i by omega)]
      have : ¬ n = i := by omega
      simp [this]

/-- the bits that have been flipped, one more -/
theorem flip_next (b f i : Nat) (h : b / 2 ^ i % 2 = 1) : (b % 2 ^ i * 2 ^ f) ^^^ 2 ^ (f + i) = b % 2 ^ (i + 1) * 2 ^ f := by
  have hlt : b % 2 ^ i < 2 ^ i := Nat.mod_lt _ (Nat.two_pow_pos i)
  have h1 : b % 2 ^ i * 2 ^ f < 2 ^ (f + i) := by
    rw [Nat.pow_add, Nat.mul_comm]; exact Nat.mul_lt_mul_of_pos_left hlt (Nat.two_pow_pos f)
  rw [xor_high _ _ h1]
  have h2 : b % 2 ^ (i + 1) = b % 2 ^ i + 2 ^ i := by
    rw [Nat.pow_succ, Nat.mod_mul, h]; omega
  rw [h2, Nat.add_mul, Nat.pow_add, Nat.mul_comm (2 ^ f)]
theorem flip_same (b i : Nat) (h : b / 2 ^ i % 2 = 0) : b % 2 ^ (i + 1) = b % 2 ^ i := by
  rw [Nat.pow_succ, Nat.mod_mul, h]; omega
theorem flip_pos (b i : Nat) (h : b / 2 ^ i % 2 = 1) : b % 2 ^ (i + 1) ≠ 0 := by
  rw [Nat.pow_succ, Nat.mod_mul, h]
  have := Nat.two_pow_pos i
  omega

theorem crcReg_eq (l m : List UInt8) (h : l.length = m.length) (f v : Nat) (hv : v < 4294967296) (hn : num l = num m ^^^ (v * 2 ^ f)) : crc l = crc m ↔ v = 0 := by
  have hx := crcReg_xor l m 4294967295 4294967295 h
  rw [Nat.xor_self] at hx
  have hz : num (List.zipWith (· ^^^ ·) l m) = v * 2 ^ f := by
    rw [num_xor l m h, hn]
    rw [show num m ^^^ v * 2 ^ f ^^^ num m = (num m ^^^ num m) ^^^ v * 2 ^ f by ac_rfl, Nat.xor_self, Nat.zero_xor]
  have h1 := crcReg_lt l 4294967295 (by omega)
  have h2 := crcReg_lt m 4294967295 (by omega)
  constructor
  · intro e
    have e2 : crcReg 4294967295 l = crcReg 4294967295 m := by unfold crc at e; omega
    rw [e2, Nat.xor_self] at hx
    have := burst _ f v hv hz hx
    rw [hz] at this
    rcases Nat.mul_eq_zero.1 this with h0 | h0
    · exact h0
    · have := Nat.two_pow_pos f; omega
  · intro e
    subst e
    have e3 : crcReg 0 (List.zipWith (· ^^^ ·) l m) = 0 := by
      rw [crcReg_run, hz, Nat.zero_mul, run_zeros]
    rw [e3] at hx
    have : crcReg 4294967295 l = crcReg 4294967295 m := by
      have := congrArg (· ^^^ crcReg 4294967295 m) hx
      simp only [Nat.zero_xor, Nat.xor_assoc, Nat.xor_self, Nat.xor_zero] at this
      exact this.symm
    unfold crc; rw [this]

end Go.Proofs.YtiffkoakpfpdgaaDoor.Wm
