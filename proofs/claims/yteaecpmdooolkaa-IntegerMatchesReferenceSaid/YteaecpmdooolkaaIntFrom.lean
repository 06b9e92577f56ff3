/-
  Contracts: FromInt, ToInt.
-/
import Derived.Test.YteaecpmdooolkaaIntCalcB
namespace Go.Proofs.Yteaecpmdooolkaa
open Go.RowKit Nm

theorem IsN.of {W : World} {B : Nat} {v : Value} {z : Int} (h : OwnU W B v (natL z.natAbs)) : ∃ (p : Option Addr) (cap : Nat), v = .slice p (natL z.natAbs).length cap ∧ IsN W (.agg #[.bool (decide (z < 0)), v]) z := by
  obtain ⟨p, cap, rfl, hn⟩ := h.na.out
  exact ⟨p, cap, rfl, p, cap, rfl, hn⟩
theorem wrapU64 (x : Int) : IntKind.u64.wrap x = x % 18446744073709551616 := by simp [IntKind.wrap, IntKind.signed, IntKind.bits]
theorem word_len {n : Nat} (h : n < 18446744073709551616) : (natL n).length ≤ 5 := natL_len_le (by omega)

set_option maxHeartbeats 1000000 in
theorem FromInt_any (n : Int) (h1 : -9223372036854775808 ≤ n) (h2 : n ≤ 9223372036854775807) (w : World) :
    Calls Try.prog 33 #[.int .i64 n] w fun e w' => e = .returned (.string (txt n)) ∧ Below w.heap.size w w' := by
  have hn : n.natAbs < 18446744073709551616 := by omega
  have hl := word_len hn
  have co := fun W => ofWord_any n.natAbs hn W
  have ct := fun (u : Value) (W : World) (h : IsN W u n) => text_any n u W h (by omega)
  obtain ⟨s, hs⟩ : ∃ s, s = txt n := ⟨_, rfl⟩
  rw [← hs] at ct ⊢
  clear hs
  by_cases h0 : n < 0
  · have hd : decide (n < 0) = true := decide_eq_true h0
    have ha : ((n.natAbs : Nat) : Int) = IntKind.u64.wrap (-IntKind.u64.wrap n) := by rw [wrapU64, wrapU64]; omega
    have HI : Shut (∀ (W : World) (B : Nat) (v : Value), OwnU W B v (natL n.natAbs) → ∃ (p : Option Addr) (cap : Nat), v = .slice p (natL n.natAbs).length cap ∧ IsN W (.agg #[.bool true, v]) n) := ⟨fun W B v h => by have := IsN.of h; rwa [hd] at this⟩
    rw [ha] at co
    go_enter Try.func33, Try.ntmps33
    clear hd ha hl
    go_wp2_with (first | (go_at_call 59; refine (co _).mono ?_; rintro e w1 ⟨v1, rfl, hO1, hB1⟩; obtain ⟨p, cap, rfl, hI⟩ := HI.o _ _ _ hO1) | (go_at_call 49; refine (ct _ _ hI).mono ?_; rintro e w2 ⟨rfl, hB2⟩))
    go_ret
    exact ⟨rfl, hB1.trans (hB2.mono hB1.size)⟩
  · have hd : decide (n < 0) = false := decide_eq_false h0
    obtain ⟨k, rfl⟩ := Int.eq_ofNat_of_zero_le (show 0 ≤ n by omega)
    rw [Int.natAbs_natCast] at co
    have HI : Shut (∀ (W : World) (B : Nat) (v : Value), OwnU W B v (natL k) → ∃ (p : Option Addr) (cap : Nat), v = .slice p (natL k).length cap ∧ IsN W (.agg #[.bool false, v]) (k : Int)) := ⟨fun W B v h => by have := IsN.of (z := (k : Int)) (by rw [Int.natAbs_natCast]; exact h); rwa [hd, Int.natAbs_natCast] at this⟩
    have hk : k < 18446744073709551616 := by omega
    go_enter Try.func33, Try.ntmps33
    clear hd hl hn
    go_wp2_with (first | (go_at_call 59; refine (co _).mono ?_; rintro e w1 ⟨v1, rfl, hO1, hB1⟩; obtain ⟨p, cap, rfl, hI⟩ := HI.o _ _ _ hO1) | (go_at_call 49; refine (ct _ _ hI).mono ?_; rintro e w2 ⟨rfl, hB2⟩))
    go_ret
    exact ⟨rfl, hB1.trans (hB2.mono hB1.size)⟩
end Go.Proofs.Yteaecpmdooolkaa
