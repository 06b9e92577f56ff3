/-
  Contracts: root of small numbers.
-/
import Derived.Test.YteaecpmdooolkaaIntGcd
namespace Go.Proofs.Yteaecpmdooolkaa
open Go.RowKit Nm

/-- the greatest number whose square is at most n -/
def sqr : Nat → Nat
  | 0 => 0
  | n + 1 => if (sqr n + 1) * (sqr n + 1) ≤ n + 1 then sqr n + 1 else sqr n
theorem sqr_spec : ∀ n, sqr n * sqr n ≤ n ∧ n < (sqr n + 1) * (sqr n + 1)
  | 0 => by decide
  | n + 1 => by
    obtain ⟨h1, h2⟩ := sqr_spec n
    rw [sqr]
    split
    · rename_i h
      refine ⟨h, ?_⟩
      have : (sqr n + 1 + 1) * (sqr n + 1 + 1) = (sqr n + 1) * (sqr n + 1) + 2 * (sqr n + 1) + 1 := by grind
      omega
    · rename_i h
      exact ⟨by omega, by omega⟩
theorem sqr_le {n f : Nat} : f * f ≤ n ↔ f ≤ sqr n := by
  obtain ⟨h1, h2⟩ := sqr_spec n
  constructor
  · intro h
    rcases Nat.lt_or_ge (sqr n) f with h3 | h3
    · have := Nat.mul_le_mul h3 h3
      simp only [Nat.succ_eq_add_one] at this
      omega
    · exact h3
  · intro h
    exact Nat.le_trans (Nat.mul_le_mul h h) h1

theorem rootF_any (n f b : Nat) (hf : f < 100000000) (w : World) (hb : w.cell? ⟨b, 0, none⟩ = some (.int .u64 n)) :
    Calls Try.prog 73 #[.int .u64 f, .pointer (some ⟨b, 0, none⟩)] w fun e w' => e = .returned (.bool (decide (f ≤ sqr n))) ∧ Below w.heap.size w w' := by
  have hm : f * f ≤ 99999999 * 99999999 := Nat.mul_le_mul (by omega) (by omega)
  have HS := @sqr_le n f
  obtain ⟨m, hmm⟩ : ∃ m, m = f * f := ⟨_, rfl⟩
  have hmi : ((f : Int) * (f : Int)) = (m : Int) := by rw [hmm, Int.natCast_mul]
  rw [← hmm] at HS hm
  have HD : Shut (decide (m ≤ n) = decide (f ≤ sqr n)) := ⟨by rw [decide_eq_decide, ← HS]⟩
  clear hmm HS
  generalize decide (f ≤ sqr n) = r at *
  go_enter Try.func73, Try.ntmps73
  go_wp2
  go_ret
  exact ⟨by rw [← HD.o]; rfl, Below.refl _ _⟩

def RootC (x : Nat) : Prop := ∀ (va : Value) (w : World), NA w va (natL x) → Calls Try.prog 55 #[va] w fun e w' => ∃ v, e = .returned v ∧ NA w' v (natL (sqr x)) ∧ Below w.heap.size w w'
set_option maxRecDepth 100000 in
set_option maxHeartbeats 1000000 in
theorem root_small (x : Nat) (hx : x < 10000000000000000) : RootC x := by
  intro va w hA
  have hla := len4 hx
  have hq : sqr x ≤ 99999999 := by
    have := (sqr_spec x).1
    rcases Nat.lt_or_ge 99999999 (sqr x) with h | h
    · have := Nat.mul_le_mul h h
      simp only [Nat.succ_eq_add_one] at this
      omega
    · exact h
  have cw : ∀ (p : Option Addr) (c : Nat) (W : World), NA W (.slice p (natL x).length c) (natL x) → Calls Try.prog 60 #[.slice p (natL x).length c] W fun e w' => e = .returned (.int .u64 x) ∧ w' = W := fun p c W h => by
    obtain ⟨p', c', g, o, e, h1, h2, h3, hu⟩ := h.open
    injection e with e1 e2 e3
    subst e1; subst e3
    have := word_any (natL x) p c g o W (fun h => (h3 h).1) hu (natL_dig x) (by omega) (by rw [natL_nv]; omega)
    rwa [natL_nv] at this
  have cG : ∀ (W : World) (b : Nat), W.cell? ⟨b, 0, none⟩ = some (.int .u64 x) → Calls Try.prog 72 #[.int .u64 0, .int .u64 99999999, .func (Fn.func 73) #[] #[.pointer (some ⟨b, 0, none⟩)]] W fun e w' => e = .returned (.int .u64 (sqr x)) ∧ Below W.heap.size W w' := fun W b hb => greatR_any 0 99999999 (sqr x) b (by omega) hq (by omega) W (fun W' f hW' hf => rootF_any x f b (by omega) W' ((hW'.cell (p := ⟨b, 0, none⟩) (World.block_lt_of_cell? W _ hb)).trans hb))
  have cO := fun W => ofWord_any (sqr x) (by omega) W
  obtain ⟨t, ht⟩ : ∃ t, t = (natL x).length - 3 := ⟨_, rfl⟩
  have hmax : max (((natL x).length : Int) - 3) 0 = (t : Int) := by omega
  have hmax2 : (if ((natL x).length : Int) - 3 < 0 then (0 : Int) else ((natL x).length : Int) - 3) = (t : Int) := by split <;> omega
  have hdv : (t : Int) / 2 = 0 := by omega
  clear ht
  have HA := hA
  obtain ⟨p, cap, rfl, h1, h2, ⟨rfl, hl, rfl⟩ | ⟨g, o, rfl, hg, hu⟩⟩ := hA
  · have c1 := cw none 0 w HA
    have hl0 : (natL x).length = 0 := by rw [hl]; rfl
    clear hl h1 h2 HA cw
    rw [hl0] at c1 ⊢
    have hm0 : max (-3 : Int) 0 / 2 * 2 = 0 := by decide
    clear hl0 hmax hmax2
    go_enter Try.func55, Try.ntmps55
    go_upto_region 3 with (go_at_call 60; refine c1.mono ?_; rintro e w1 ⟨rfl, rfl⟩)
    have hBn : Below w1.heap.size w1 (w1.alloc (.cells #[.int .u64 (x : Int)] 71)) := (Below.refl _ _).alloc (Nat.le_refl _) _
    have hbx : (w1.alloc (.cells #[.int .u64 (x : Int)] 71)).cell? ⟨w1.heap.size, 0, none⟩ = some (.int .u64 (x : Int)) := by rw [RowAt.cell (RowAt.new w1 #[.int .u64 (x : Int)] 71) 0]; rfl
    have cg := cG _ _ hbx
    generalize w1.alloc (.cells #[.int .u64 (x : Int)] 71) = W2 at *
    go_wp2_with (first | (go_at_call 72; refine cg.mono ?_; rintro e w7 ⟨rfl, hB7⟩) | (go_at_call 59; refine (cO _).mono ?_; rintro e w8 ⟨v8, rfl, hO8, hB8⟩))
    go_ret
    have h5 := hB7.trans (hB8.mono hB7.size)
    exact ⟨_, rfl, hO8.na, hBn.trans (h5.mono hBn.size)⟩
  · have c1 := cw (some ⟨g, o, none⟩) cap w HA
    clear HA cw hu
    generalize (natL x).length = nx at *
    go_enter Try.func55, Try.ntmps55
    go_upto_region 3 with (go_at_call 60; refine c1.mono ?_; rintro e w1 ⟨rfl, rfl⟩)
    have hBn : Below w1.heap.size w1 (w1.alloc (.cells #[.int .u64 (x : Int)] 71)) := (Below.refl _ _).alloc (Nat.le_refl _) _
    have hbx : (w1.alloc (.cells #[.int .u64 (x : Int)] 71)).cell? ⟨w1.heap.size, 0, none⟩ = some (.int .u64 (x : Int)) := by rw [RowAt.cell (RowAt.new w1 #[.int .u64 (x : Int)] 71) 0]; rfl
    have cg := cG _ _ hbx
    generalize w1.alloc (.cells #[.int .u64 (x : Int)] 71) = W2 at *
    go_wp2_with (first | (go_at_call 72; refine cg.mono ?_; rintro e w7 ⟨rfl, hB7⟩) | (go_at_call 59; refine (cO _).mono ?_; rintro e w8 ⟨v8, rfl, hO8, hB8⟩))
    go_ret
    have h5 := hB7.trans (hB8.mono hB7.size)
    exact ⟨_, rfl, hO8.na, hBn.trans (h5.mono hBn.size)⟩
end Go.Proofs.Yteaecpmdooolkaa
