/-
  The law WireSequence: its walk.
-/
import Derived.Test.YtiffkoakpfpdgaaDoorWireUniq
import Derived.StillTailTactics
import Derived.Deep.RegionHeld3
namespace Go.Proofs.YtiffkoakpfpdgaaDoor
open Go.RowKit

/-- the least of two lengths and a bound -/
theorem min3 (x y : Nat) (u : Int) (hu : 0 ≤ u) : ∃ n : Nat, n ≤ x ∧ n ≤ y ∧ (n : Int) ≤ u ∧ (n = x ∨ n = y ∨ (n : Int) = u) ∧ ∀ w, Sem.run Tryd.prog (Builtin.min_ #[3, 3, 3] 3 #[.int .i64 (x : Int), .int .i64 (y : Int), .int .i64 u]) w = .ok (.int .i64 (n : Int)) w := by
  obtain ⟨v, rfl⟩ := Int.eq_ofNat_of_zero_le hu
  refine ⟨min (min x y) v, by omega, by omega, by omega, by omega, fun w => ?_⟩
  simp [Builtin.min_, Builtin.min2]
  split <;> split <;> omega

theorem s11 (w : World) : Calls Tryd.prog 15 #[.string ⟨#[]⟩, .int .i64 0] w fun e w' => e = .returned (.tuple #[.int .i64 0, .int .i64 0, .int .i64 10]) ∧ w = w' :=
  int_none' ⟨#[]⟩ 0 w (by decide +kernel) (by decide) (by decide +kernel)

set_option maxRecDepth 100000 in
set_option maxHeartbeats 1000000 in
theorem seq_zero (a b : Option Addr) (la ca lb cb : Nat) (w : World) (h : la = 0 ∨ lb = 0) (ht : Tab w) :
    Calls Tryd.prog 6 #[.slice a la ca, .slice b lb cb] w fun e w' => e = .returned (.bool true) ∧ Below w.heap.size w w' := by
  obtain ⟨n, n1, n2, n3, n4, hmin⟩ := min3 la lb 20 (by decide)
  have hn : n < 1 := by omega
  clear h n1 n2 n4
  go_enter Tryd.func6, Tryd.ntmps6
  go_wp2_with fail
  refine (sane_any _ ht).mono ?_
  rintro e w1 ⟨rfl, hB1⟩
  clear ht
  go_wp2
  refine wp_loop_rounds 1 ?_
  rw [rounds_succ]
  go_wp2
  refine wp_loop_rounds 1 ?_
  rw [rounds_succ]
  go_wp2_with fail
  refine (s11 _).mono ?_
  rintro e w' ⟨rfl, rfl⟩
  go_wp2
  go_ret
  exact ⟨rfl, hB1⟩

/-! the encodings, one behind the other -/
section
variable (zs : List Int) (ss : List ByteArray)
/-- what the round k adds -/
def part (k : Nat) : List UInt8 := Wm.enc (Wm.zz (nf (zs.getD k 0))) ++ Wm.encS ((ss.getD k ByteArray.empty).data.toList.take 100)
def cat : Nat → List UInt8
  | 0 => []
  | k + 1 => cat k ++ part zs ss k
theorem part_len (k : Nat) : (part zs ss k).length ≤ 118 := by
  obtain ⟨r1, r2⟩ := nf_range (zs.getD k 0)
  have hz := Wm.zz_lt _ r1 r2
  have h1 := Wm.enc_len 9 (Wm.zz (nf (zs.getD k 0))) (by omega) (by omega)
  have h2 : ((ss.getD k ByteArray.empty).data.toList.take 100).length ≤ 100 := by rw [List.length_take]; omega
  have hz2 := Wm.zz_lt (((ss.getD k ByteArray.empty).data.toList.take 100).length : Int) (by unfold Wm.MX; omega) (by unfold Wm.MX; omega)
  have h3 := Wm.enc_len 9 (Wm.zz (((ss.getD k ByteArray.empty).data.toList.take 100).length : Int)) (by omega) (by omega)
  unfold part Wm.encS
  rw [List.length_append, List.length_append]
  omega
theorem cat_len : ∀ k, (cat zs ss k).length ≤ 118 * k
  | 0 => by simp [cat]
  | k + 1 => by
    have := cat_len k
    have := part_len zs ss k
    simp only [cat, List.length_append]
    omega
theorem cat_more : ∀ (d k : Nat), ∃ R, cat zs ss (k + d) = cat zs ss k ++ R
  | 0, k => ⟨[], by simp⟩
  | d + 1, k => by
    obtain ⟨R, hR⟩ := cat_more d k
    exact ⟨R ++ part zs ss (k + d), by rw [← Nat.add_assoc]; simp only [cat]; rw [hR, List.append_assoc]⟩
/-- behind the first k parts stands the next one -/
theorem cat_at (k n : Nat) (h : k < n) : ∃ R, (cat zs ss n).drop (cat zs ss k).length = part zs ss k ++ R := by
  obtain ⟨R, hR⟩ := cat_more zs ss (n - (k + 1)) (k + 1)
  rw [show k + 1 + (n - (k + 1)) = n by omega] at hR
  refine ⟨R, ?_⟩
  rw [hR]
  simp [cat]
end

end Go.Proofs.YtiffkoakpfpdgaaDoor
