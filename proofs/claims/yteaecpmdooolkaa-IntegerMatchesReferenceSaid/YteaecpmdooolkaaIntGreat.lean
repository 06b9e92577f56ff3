/-
  Contracts: greatest.
-/
import Derived.Test.YteaecpmdooolkaaIntFits
namespace Go.Proofs.Yteaecpmdooolkaa
open Go.RowKit Nm

set_option maxHeartbeats 1000000 in
theorem greatF_any (low high q : Nat) (b1 b2 : Nat) (hlq : low ≤ q) (hqh : q ≤ high) (hh : high < 18446744073709551616) (w : World)
    (cF : ∀ (W : World) (f : Nat), Below w.heap.size w W → f ≤ high → Calls Try.prog 87 #[.int .u64 f, .pointer (some ⟨b1, 0, none⟩), .pointer (some ⟨b2, 0, none⟩)] W fun e w' => e = .returned (.bool (decide (f ≤ q))) ∧ Below W.heap.size W w') :
    Calls Try.prog 72 #[.int .u64 low, .int .u64 high, .func (Fn.func 87) #[] #[.pointer (some ⟨b1, 0, none⟩), .pointer (some ⟨b2, 0, none⟩)]] w fun e w' => e = .returned (.int .u64 q) ∧ Below w.heap.size w w' := by
  have HC : Shut _ := ⟨cF⟩
  clear cF
  go_enter Try.func72, Try.ntmps72
  go_wp2
  go_loopw [0, 1] (fun lv hv wr => ∃ a b : Nat, a ≤ q ∧ q ≤ b ∧ b ≤ high ∧ lv = .int .u64 a ∧ hv = .int .u64 b ∧ Below w.heap.size w wr) (fun lv hv _ => (intOf hv).toNat - (intOf lv).toNat)
  case atStart => exact ⟨low, high, hlq, hqh, Nat.le_refl _, rfl, rfl, Below.refl _ _⟩
  case round =>
    obtain ⟨a, b, ha, hb, hbh, rfl, rfl, hB⟩ := hrel
    by_cases hlt : a < b
    · obtain ⟨m, hm⟩ : ∃ m, m = b - (b - a) / 2 := ⟨_, rfl⟩
      have hmi : ((b : Int) - ((b : Int) - (a : Int)) / 2) = (m : Int) := by omega
      have hm1 : a < m := by omega
      have hm2 : m ≤ b := by omega
      have c1 := HC.o wr m hB (by omega)
      clear hm
      by_cases hf : m ≤ q
      · rw [decide_eq_true hf] at c1
        go_wp2_with (go_at_call 87; refine c1.mono ?_; rintro e w1 ⟨rfl, hB1⟩)
        exact ⟨⟨m, b, hf, hb, hbh, rfl, rfl, hB.trans (hB1.mono hB.size)⟩, by simp [intOf]; omega⟩
      · rw [decide_eq_false hf] at c1
        go_wp2_with (go_at_call 87; refine c1.mono ?_; rintro e w1 ⟨rfl, hB1⟩)
        exact ⟨⟨a, m - 1, ha, by omega, by omega, rfl, by congr 1; omega, hB.trans (hB1.mono hB.size)⟩, by simp [intOf]; omega⟩
    · obtain rfl : a = q := by omega
      go_wp2
      go_ret
      exact ⟨rfl, hB⟩

set_option maxHeartbeats 1000000 in
theorem greatR_any (low high q : Nat) (b1 : Nat) (hlq : low ≤ q) (hqh : q ≤ high) (hh : high < 18446744073709551616) (w : World)
    (cF : ∀ (W : World) (f : Nat), Below w.heap.size w W → f ≤ high → Calls Try.prog 73 #[.int .u64 f, .pointer (some ⟨b1, 0, none⟩)] W fun e w' => e = .returned (.bool (decide (f ≤ q))) ∧ Below W.heap.size W w') :
    Calls Try.prog 72 #[.int .u64 low, .int .u64 high, .func (Fn.func 73) #[] #[.pointer (some ⟨b1, 0, none⟩)]] w fun e w' => e = .returned (.int .u64 q) ∧ Below w.heap.size w w' := by
  have HC : Shut _ := ⟨cF⟩
  clear cF
  go_enter Try.func72, Try.ntmps72
  go_wp2
  go_loopw [0, 1] (fun lv hv wr => ∃ a b : Nat, a ≤ q ∧ q ≤ b ∧ b ≤ high ∧ lv = .int .u64 a ∧ hv = .int .u64 b ∧ Below w.heap.size w wr) (fun lv hv _ => (intOf hv).toNat - (intOf lv).toNat)
  case atStart => exact ⟨low, high, hlq, hqh, Nat.le_refl _, rfl, rfl, Below.refl _ _⟩
  case round =>
    obtain ⟨a, b, ha, hb, hbh, rfl, rfl, hB⟩ := hrel
    by_cases hlt : a < b
    · obtain ⟨m, hm⟩ : ∃ m, m = b - (b - a) / 2 := ⟨_, rfl⟩
      have hmi : ((b : Int) - ((b : Int) - (a : Int)) / 2) = (m : Int) := by omega
      have hm1 : a < m := by omega
      have hm2 : m ≤ b := by omega
      have c1 := HC.o wr m hB (by omega)
      clear hm
      by_cases hf : m ≤ q
      · rw [decide_eq_true hf] at c1
        go_wp2_with (go_at_call 73; refine c1.mono ?_; rintro e w1 ⟨rfl, hB1⟩)
        exact ⟨⟨m, b, hf, hb, hbh, rfl, rfl, hB.trans (hB1.mono hB.size)⟩, by simp [intOf]; omega⟩
      · rw [decide_eq_false hf] at c1
        go_wp2_with (go_at_call 73; refine c1.mono ?_; rintro e w1 ⟨rfl, hB1⟩)
        exact ⟨⟨a, m - 1, ha, by omega, by omega, rfl, by congr 1; omega, hB.trans (hB1.mono hB.size)⟩, by simp [intOf]; omega⟩
    · obtain rfl : a = q := by omega
      go_wp2
      go_ret
      exact ⟨rfl, hB⟩
end Go.Proofs.Yteaecpmdooolkaa
