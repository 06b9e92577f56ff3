/-
  The contract of join: the groups that a string begins with.
-/
import Derived.Test.YtiffkoakpfpdgaaDoorWireSum
namespace Go.Proofs.YtiffkoakpfpdgaaDoor
open Go.RowKit

def joinVal : Option (Nat × Nat) → Value
  | none => .tuple #[.int .u64 0, .int .i64 0, .bool false]
  | some (z, k) => .tuple #[.int .u64 z, .int .i64 k, .bool true]

theorem p128 (k : Nat) : 2 ^ (7 * k) = 128 ^ k := by rw [Nat.pow_mul]
theorem p128_mono (k : Nat) (h : k < 9) : 128 ^ (k + 1) ≤ 9223372036854775808 := by
  have : 128 ^ (k + 1) ≤ 128 ^ 9 := Nat.pow_le_pow_right (by omega) (by omega)
  omega
theorem grp_lt (k b : Nat) (hk : k < 9) (hb : b < 128) : 128 ^ k * b < 9223372036854775808 := by
  have h1 := p128_mono k hk
  have h2 : 128 ^ k * b < 128 ^ k * 128 := Nat.mul_lt_mul_of_pos_left hb (Nat.pow_pos (by omega))
  rw [Nat.pow_succ] at h1
  omega
theorem acc_lt (k acc b : Nat) (ha : acc < 128 ^ k) (hb : b < 128) : acc + 128 ^ k * b < 128 ^ (k + 1) := by
  rw [Nat.pow_succ]
  have : 128 ^ k * b + 128 ^ k ≤ 128 ^ k * 128 := by
    rw [← Nat.mul_succ]; exact Nat.mul_le_mul_left _ (by omega)
  omega
theorem wrap_u64_nat (n : Nat) (h : n < 18446744073709551616) : IntKind.u64.wrap (n : Int) = (n : Int) := by rw [IntKind.wrap_u64]; omega
theorem and127 (b : Nat) (hb : b < 256) : bits .and .u8 (b : Int) 127 = ((b % 128 : Nat) : Int) := by
  have := u8_and_nat b 127 hb (by omega)
  rw [nat_mask7] at this; exact this
theorem shl_grp (b k : Nat) (hb : b < 128) (hk : k < 9) : IntKind.u64.wrap ((b : Int) * 2 ^ (7 * k)) = ((128 ^ k * b : Nat) : Int) := by
  have e : ((b : Int) * 2 ^ (7 * k)) = ((128 ^ k * b : Nat) : Int) := by
    rw [← p128]; simp [Int.mul_comm]
  have := grp_lt k b hk hb
  rw [e]; exact wrap_u64_nat _ (by omega)
theorem or_grp (acc k b : Nat) (ha : acc < 128 ^ k) (hk : k < 9) (hb : b < 256) :
    bits .or .u64 (acc : Int) (IntKind.u64.wrap (IntKind.u64.wrap (bits .and .u8 (b : Int) 127) * 2 ^ (7 * k))) = ((acc + 128 ^ k * (b % 128) : Nat) : Int) := by
  have h1 := p128_mono k hk
  have h2 : 128 ^ k ≤ 128 ^ (k + 1) := Nat.pow_le_pow_right (by omega) (by omega)
  have h3 := grp_lt k (b % 128) hk (by omega)
  rw [and127 b hb, wrap_u64_nat (b % 128) (by omega), shl_grp _ _ (by omega) hk, u64_or_nat acc _ (by omega) (by omega), Nat.or_comm, nat_join (7 * k) (128 ^ k * (b % 128)) acc (by rw [p128]; exact Nat.mul_mod_right _ _) (by rw [p128]; exact ha), Nat.add_comm]
theorem u64_eq {a b : Int} (h : a = b) : Value.int .u64 a = Value.int .u64 b := by rw [h]

theorem get_toList (s : ByteArray) (k : Nat) (h : k < s.size) : s.data.toList[k]'(by simpa using h) = s[k] := rfl

theorem joinSome {z k : Nat} {a b : Int} (ha : a = (z : Int)) (hb : b = (k : Int)) : Ending.returned (.tuple #[.int .u64 a, .int .i64 b, .bool true]) = .returned (joinVal (some (z, k))) := by
  subst ha hb; rfl

set_option maxRecDepth 100000 in
set_option maxHeartbeats 400000 in
theorem join_any (s : ByteArray) (w : World) (hs : s.size ≤ maxLen) :
    Calls Tryd.prog 26 #[.string s] w fun e w' => e = .returned (joinVal (Wm.jn 9 s.data.toList)) ∧ w = w' := by
  unfold maxLen at hs
  go_enter Tryd.func26, Tryd.ntmps26
  go_wp2
  all_goals (
    go_loop [5, 11] (fun z i => ∃ k acc : Nat, k ≤ s.size ∧ k ≤ 9 ∧ i = .int .i64 k ∧ z = .int .u64 acc ∧ acc < 128 ^ k ∧ Wm.jn 9 s.data.toList = Wm.jnAt s.data.toList k acc) (fun _ i => 9 - (intOf i).toNat)
    case atStart => exact ⟨0, 0, Nat.zero_le _, by omega, rfl, rfl, by simp, (Wm.jnAt_zero _).symm⟩
    case round =>
      obtain ⟨k, acc, hk, hk9, rfl, rfl, hacc, hj⟩ := hrel
      have HJ := Lib.hid hj; clear hj
      have HA := Lib.hid hacc; clear hacc
      by_cases hlt : k < s.size ∧ k < 9
      · obtain ⟨h1, h2⟩ := hlt
        have hb : s[k].toNat < 256 := UInt8.toNat_lt _
        by_cases h0 : 128 ≤ s[k].toNat
        · have HM := Lib.hid (Wm.jnAt_more s.data.toList k acc h2 (by simpa using h1) h0)
          go_wp2
          exact ⟨⟨k + 1, acc + 128 ^ k * (s[k].toNat % 128), by omega, by omega, by go_num, u64_eq (or_grp acc k _ HA.out h2 hb), acc_lt k acc _ HA.out (by omega),
            by rw [HJ.out, HM.out, get_toList s k h1, show s[k].toNat % 128 = s[k].toNat - 128 by omega]⟩, by simp [intOf]; omega⟩
        · have HM := Lib.hid (Wm.jnAt_last s.data.toList k acc h2 (by simpa using h1) (by rw [get_toList s k h1]; omega))
          rw [get_toList s k h1] at HM
          by_cases hz : 0 < s[k].toNat
          · go_wp2
            go_ret3
            refine ⟨?_, rfl⟩
            rw [HJ.out, HM.out, if_neg (by omega)]
            exact joinSome (by rw [or_grp acc k _ HA.out h2 hb, show s[k].toNat % 128 = s[k].toNat by omega]) (by omega)
          · by_cases hk0 : 0 < k
            · go_wp2
              go_ret3
              refine ⟨?_, rfl⟩
              rw [HJ.out, HM.out, if_pos (by omega)]
              rfl
            · go_wp2
              go_ret3
              refine ⟨?_, rfl⟩
              rw [HJ.out, HM.out, if_neg (by omega)]
              exact joinSome (by rw [show s[k].toNat = 0 by omega]; exact or_grp acc k 0 HA.out h2 (by omega)) (by omega)
      · go_wp2
        go_ret3
        exact ⟨by rw [HJ.out, Wm.jnAt_end _ _ _ (by simp; omega)]; rfl, rfl⟩)

end Go.Proofs.YtiffkoakpfpdgaaDoor
