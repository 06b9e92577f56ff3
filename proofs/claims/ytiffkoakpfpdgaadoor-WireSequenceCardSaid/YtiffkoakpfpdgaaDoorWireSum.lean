/-
  Contracts of the two checksums.
-/
import Derived.Test.YtiffkoakpfpdgaaDoorWireSmall
import Derived.IntWalk
namespace Go.Proofs.YtiffkoakpfpdgaaDoor
open Go.RowKit

/-- the table's cells -/
def Tab (w : World) : Prop := ∀ i, i < 16 → w.cell? ⟨0, i, none⟩ = some (.int .u32 (Wm.nib i : Nat))

theorem nib_lt : ∀ i, i < 16 → Wm.nib i < 4294967296 := by decide +kernel
theorem x32 (a b : Nat) (ha : a < 4294967296) (hb : b < 4294967296) : a ^^^ b < 4294967296 := by
  have : (4294967296 : Nat) = 2 ^ 32 := rfl
  rw [this]; exact Nat.xor_lt_two_pow (by omega) (by omega)
theorem xor_byte (r b : Nat) (hr : r < 4294967296) (hb : b < 256) : bits .xor .u32 (r : Int) ((b : Int) % 4294967296) = ((r ^^^ b : Nat) : Int) := by
  rw [show ((b : Int) % 4294967296) = (b : Int) by omega]; exact u32_xor_nat r b hr (by omega)
theorem and15 (x : Nat) (hx : x < 4294967296) : bits .and .u32 (x : Int) 15 = ((x % 16 : Nat) : Int) := by
  have := u32_and_nat x 15 hx (by omega)
  rw [nat_mask4] at this; exact this
theorem xor_sh (x t : Nat) (hx : x < 4294967296) (ht : t < 4294967296) : bits .xor .u32 ((x : Int) / 16) (t : Int) = ((x / 16 ^^^ t : Nat) : Int) :=
  u32_xor_nat (x / 16) t (by omega) ht

theorem take_snoc (s : ByteArray) (k : Nat) (h : k < s.size) : s.data.toList.take (k + 1) = s.data.toList.take k ++ [s[k]] := by
  rw [List.take_succ_eq_append_getElem (by simpa using h)]; rfl
theorem crc_snoc (l : List UInt8) (b : UInt8) : Wm.crcReg 4294967295 (l ++ [b]) = Wm.crcByte (Wm.crcReg 4294967295 l) b.toNat := by
  unfold Wm.crcReg; rw [List.foldl_append]; rfl

theorem xor_all (r : Nat) (h : r < 4294967296) : 4294967295 ^^^ r = 4294967295 - r := by
  apply Nat.eq_of_testBit_eq
  intro i
  have h1 : (4294967295 - r).testBit i = (decide (i < 32) && !r.testBit i) := by
    have := Nat.testBit_two_pow_sub_succ (n := 32) (x := r) (by omega) i
    rw [show 2 ^ 32 - (r + 1) = 4294967295 - r by omega] at this; exact this
  have h2 : (4294967295 : Nat).testBit i = decide (i < 32) := Nat.testBit_two_pow_sub_one 32 i
  rw [Nat.testBit_xor, h1, h2]
  by_cases hi : i < 32
  · simp [hi]
  · have h3 : 2 ^ 32 ≤ 2 ^ i := Nat.pow_le_pow_right (by omega) (show 32 ≤ i by omega)
    have : r.testBit i = false := Nat.testBit_lt_two_pow (by omega)
    simp [hi, this]
theorem wrap64_nat (n : Nat) (h : n < 9223372036854775808) : wrap64 (n : Int) = (n : Int) := by unfold wrap64; omega
theorem not_reg (r : Nat) (h : r < 4294967296) : wrap64 (bits .xor .u32 IntKind.u32.max (r : Int)) = ((4294967295 - r : Nat) : Int) := by
  have e : bits .xor .u32 IntKind.u32.max (r : Int) = ((4294967295 - r : Nat) : Int) := by
    rw [← xor_all r h]; exact u32_xor_nat 4294967295 r (by omega) h
  rw [e]; exact wrap64_nat _ (by omega)

/-- what one round of the table's checksum computes -/
theorem sum_round (w : World) (ht : Tab w) (r b : Nat) (hr : r < 4294967296) (hb : b < 256) :
    ∃ x m t y m' t' z : Nat, bits .xor .u32 (r : Int) (b : Int) = (x : Int) ∧ x < 4294967296 ∧ bits .and .u32 (x : Int) 15 = (m : Int) ∧ m < 16 ∧ w.cell? ⟨0, m, none⟩ = some (.int .u32 (t : Int)) ∧
      bits .xor .u32 ((x : Int) / 16) (t : Int) = (y : Int) ∧ y < 4294967296 ∧ bits .and .u32 (y : Int) 15 = (m' : Int) ∧ m' < 16 ∧ w.cell? ⟨0, m', none⟩ = some (.int .u32 (t' : Int)) ∧
      bits .xor .u32 ((y : Int) / 16) (t' : Int) = (z : Int) ∧ Hid (z = Wm.crcByte r b) := by
  have x1 := x32 r b hr (by omega)
  have t1 := nib_lt ((r ^^^ b) % 16) (by omega)
  have y1 := x32 ((r ^^^ b) / 16) (Wm.nib ((r ^^^ b) % 16)) (by omega) t1
  have t2 := nib_lt (((r ^^^ b) / 16 ^^^ Wm.nib ((r ^^^ b) % 16)) % 16) (by omega)
  exact ⟨r ^^^ b, (r ^^^ b) % 16, Wm.nib ((r ^^^ b) % 16), (r ^^^ b) / 16 ^^^ Wm.nib ((r ^^^ b) % 16), _, Wm.nib (((r ^^^ b) / 16 ^^^ Wm.nib ((r ^^^ b) % 16)) % 16), _,
    u32_xor_nat r b hr (by omega), x1, and15 _ x1, by omega, ht _ (by omega), xor_sh _ _ x1 t1, y1, and15 _ y1, by omega, ht _ (by omega), xor_sh _ _ y1 t2, Lib.hid (Wm.crcByte_nib r b).symm⟩

set_option maxHeartbeats 400000 in
theorem sum_any (s : ByteArray) (w : World) (hs : s.size ≤ maxLen) (ht : Tab w) :
    Calls Tryd.prog 21 #[.string s] w fun e w' => e = .returned (.int .i64 (Wm.crc s.data.toList : Nat)) ∧ w = w' := by
  unfold maxLen at hs
  have HT := Lib.hid ht; clear ht
  go_enter Tryd.func21, Tryd.ntmps21
  go_wp2
  go_loop [3, 7] (fun r i => ∃ k : Nat, k ≤ s.size ∧ i = .int .i64 k ∧ r = .int .u32 (Wm.crcReg 4294967295 (s.data.toList.take k) : Nat)) (fun _ i => s.size - (intOf i).toNat)
  case atStart => exact ⟨0, Nat.zero_le _, rfl, rfl⟩
  case round =>
    obtain ⟨k, hk, rfl, rfl⟩ := hrel
    have hl := Wm.crcReg_lt (s.data.toList.take k) 4294967295 (by omega)
    by_cases hlt : k < s.size
    · have HS := Lib.hid (take_snoc s k hlt)
      obtain ⟨x, m, t, y, m', t', z, e1, x1, e2, m1, c1, e3, y1, e4, m2, c2, e5, HZ⟩ := sum_round w HT.out (Wm.crcReg 4294967295 (s.data.toList.take k)) s[k].toNat hl (UInt8.toNat_lt _)
      have HR : Hid (Wm.crcReg 4294967295 (s.data.toList.take (k + 1)) = z) := Lib.hid (by rw [HS.out, crc_snoc, HZ.out])
      have hb : s[k].toNat < 256 := UInt8.toNat_lt _
      clear HZ HS
      generalize Wm.crcReg 4294967295 (s.data.toList.take k) = r at *
      go_wp2
      go_round
      case rel => exact ⟨k + 1, by omega, by go_num, by rw [HR.out]⟩
      case measure => simp [intOf]; omega
    · have hk' : k = s.size := by omega
      have HR : Hid (s.data.toList.take k = s.data.toList) := Lib.hid (List.take_of_length_le (by rw [show s.data.toList.length = s.size from rfl]; omega))
      clear hk'
      go_wp2
      go_ret
      exact ⟨ret_i64 (by rw [not_reg _ hl, HR.out]; rfl), rfl⟩

/-- one bit of the reference's checksum -/
theorem ref_odd (r : Nat) (h : r % 2 = 1) (hr : r < 4294967296) : bits .xor .u32 ((r : Int) / 2) 2197175160 = ((Wm.step1 r : Nat) : Int) := by
  unfold Wm.step1; rw [if_pos h]; exact u32_xor_nat (r / 2) 2197175160 (by omega) (by omega)
theorem ref_even (r : Nat) (h : r % 2 = 0) : ((r : Int) / 2) = ((Wm.step1 r : Nat) : Int) := by
  unfold Wm.step1; rw [if_neg (by omega)]; simp
theorem steps_snoc (k r : Nat) : Wm.steps (k + 1) r = Wm.step1 (Wm.steps k r) := Wm.steps_add k 1 r

set_option maxHeartbeats 1000000 in
theorem refSum_any (s : ByteArray) (w : World) (hs : s.size ≤ maxLen) :
    Calls Tryd.prog 22 #[.string s] w fun e w' => e = .returned (.int .i64 (Wm.crc s.data.toList : Nat)) ∧ w = w' := by
  unfold maxLen at hs
  go_enter Tryd.func22, Tryd.ntmps22
  go_wp2
  go_loop [3, 4] (fun r i => ∃ k : Nat, k ≤ s.size ∧ i = .int .i64 k ∧ r = .int .u32 (Wm.crcReg 4294967295 (s.data.toList.take k) : Nat)) (fun _ i => s.size - (intOf i).toNat)
  case atStart => exact ⟨0, Nat.zero_le _, rfl, rfl⟩
  case round =>
    obtain ⟨k, hk, rfl, rfl⟩ := hrel
    have hl := Wm.crcReg_lt (s.data.toList.take k) 4294967295 (by omega)
    by_cases hlt : k < s.size
    · have hb : s[k].toNat < 256 := UInt8.toNat_lt _
      have HR : Hid (Wm.crcReg 4294967295 (s.data.toList.take (k + 1)) = Wm.steps 8 (Wm.crcReg 4294967295 (s.data.toList.take k) ^^^ s[k].toNat)) := Lib.hid (by rw [take_snoc s k hlt, crc_snoc]; rfl)
      generalize Wm.crcReg 4294967295 (s.data.toList.take k) = r at *
      have e1 := u32_xor_nat r s[k].toNat hl (by omega)
      have x1 := x32 r s[k].toNat hl (by omega)
      generalize r ^^^ s[k].toNat = x at *
      go_wp2
      go_loop [3, 5] (fun r' i => ∃ j : Nat, j ≤ 8 ∧ i = .int .i64 j ∧ r' = .int .u32 (Wm.steps j x : Nat)) (fun _ i => 8 - (intOf i).toNat)
      case atStart => exact ⟨0, by omega, rfl, rfl⟩
      case round =>
        obtain ⟨j, hj, rfl, rfl⟩ := hrel
        have hy := Wm.steps_lt j x x1
        have HJ := Lib.hid (steps_snoc j x)
        generalize hyy : Wm.steps j x = y at *
        have HYY := Lib.hid hyy; clear hyy
        by_cases hj8 : j < 8
        · rcases Nat.mod_two_eq_zero_or_one y with h2 | h2
          · have E := Lib.hid (ref_even y h2)
            go_wp2
            go_round
            case rel => exact ⟨j + 1, by omega, by go_num, by rw [HJ.out, ← E.out]⟩
            case measure => simp [intOf]; omega
          · have E := Lib.hid (ref_odd y h2 hy)
            go_wp2
            go_round
            case rel => exact ⟨j + 1, by omega, by go_num, by rw [HJ.out, ← E.out]⟩
            case measure => simp [intOf]; omega
        · have hj' : j = 8 := by omega
          subst hj'
          go_wp2
          exact ⟨⟨k + 1, by omega, by go_num, by rw [HR.out, HYY.out]⟩, by simp [intOf]; omega⟩
    · have hk' : k = s.size := by omega
      have HR : Hid (s.data.toList.take k = s.data.toList) := Lib.hid (List.take_of_length_le (by rw [show s.data.toList.length = s.size from rfl]; omega))
      clear hk'
      go_wp2
      go_ret
      exact ⟨ret_i64 (by rw [not_reg _ hl, HR.out]; rfl), rfl⟩

end Go.Proofs.YtiffkoakpfpdgaaDoor
