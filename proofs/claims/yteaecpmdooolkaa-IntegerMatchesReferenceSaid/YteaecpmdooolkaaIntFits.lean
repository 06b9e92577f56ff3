/-
  Contracts: factor's closure, greatest.
-/
import Derived.Test.YteaecpmdooolkaaIntNumD
namespace Go.Proofs.Yteaecpmdooolkaa
open Go.RowKit Nm

theorem cmp_le (a b : Nat) : (decide (cmpN a b ≤ 0)) = decide (a ≤ b) := by
  rw [decide_eq_decide]; unfold cmpN; (repeat' split) <;> omega
theorem NA.one (w : World) (f : Nat) : NA (w.alloc (.cells #[.int .u32 (f : Int)] 84)) (.slice (some ⟨w.heap.size, 0, none⟩) 1 1) [f] := by
  refine ⟨_, 1, rfl, Nat.le_refl _, by unfold maxLen; omega, .inr ⟨w.heap.size, 0, rfl, by rw [World.size_alloc]; omega, fun i hi => ?_⟩⟩
  have hi0 : i = 0 := by simp at hi; omega
  subst hi0
  exact RowAt.cell (RowAt.new w #[.int .u32 (f : Int)] 84) 0

theorem wrapU32 (x : Int) : IntKind.u32.wrap x = x % 4294967296 := by simp [IntKind.wrap, IntKind.signed, IntKind.bits]
theorem NA.trim {W : World} {p : Option Addr} {c : Nat} {l : List Nat} (h : NA W (.slice p l.length c) l) (hd : Dig l) : NA W (.slice p (natL (nv l)).length c) (natL (nv l)) := by
  obtain ⟨p', c', e, h1, h2, ⟨rfl, rfl, rfl⟩ | ⟨g, o, rfl, hg, hu⟩⟩ := h
  · injection e with e1 e2 e3
    subst e1; subst e3
    rw [nv, natL_zero]
    exact ⟨none, 0, rfl, Nat.le_refl _, by omega, .inl ⟨rfl, rfl, rfl⟩⟩
  · injection e with e1 e2 e3
    subst e1; subst e3
    exact na_trim hd hu hg h1 h2
theorem trimNA (l : List Nat) (p : Option Addr) (c : Nat) (W : World) (h : NA W (.slice p l.length c) l) (hd : Dig l) (hl : l.length ≤ 1000000) :
    Calls Try.prog 78 #[.slice p l.length c] W fun e w' => e = .returned (.slice p (natL (nv l)).length c) ∧ w' = W := by
  obtain ⟨p', c', g, o, e, h1, h2, h3, hu⟩ := h.open
  injection e with e1 e2 e3
  subst e1; subst e3
  exact trimmed_any l p c g o W (fun h => (h3 h).1) hu hd hl h1 h2
set_option maxHeartbeats 2000000 in
theorem fits_any (d f : Nat) (hf : f ≤ 10000) (pd : Option Addr) (cd : Nat) (la : List Nat) (hla : Dig la) (pa : Option Addr) (ca b1 b2 : Nat) (w : World)
    (h1 : w.cell? ⟨b1, 0, none⟩ = some (.func (Fn.func 67) #[.slice pd (natL d).length cd] #[])) (h2 : w.cell? ⟨b2, 0, none⟩ = some (.slice pa la.length ca)) (hd : NA w (.slice pd (natL d).length cd) (natL d))
    (hA : NA w (.slice pa la.length ca) la) (hl1 : (natL d).length ≤ 900) (hl2 : la.length ≤ 1000) :
    Calls Try.prog 87 #[.int .u64 f, .pointer (some ⟨b1, 0, none⟩), .pointer (some ⟨b2, 0, none⟩)] w fun e w' => e = .returned (.bool (decide (d * f ≤ nv la))) ∧ Below w.heap.size w w' := by
  have hroom : d * nv [f] < 10000 ^ ((natL d).length + [f].length) := by
    have := natL_lt d
    rw [List.length_singleton, Nat.pow_succ, nv, nv]
    have hp : d * (f + 10000 * 0) ≤ d * 10000 := Nat.mul_le_mul_left d (by omega)
    omega
  have hb1 : b1 < w.heap.size := World.block_lt_of_cell? w _ h1
  have hb2 : b2 < w.heap.size := World.block_lt_of_cell? w _ h2
  have hB0 : Below w.heap.size w (w.alloc (.cells #[.int .u32 (f : Int)] 84)).drew := ((Below.refl _ w).alloc (Nat.le_refl _) _).drew
  have ct := times_gen d [f] (fun z hz => by simp at hz; omega) (.slice pd (natL d).length cd) (.slice (some ⟨w.heap.size, 0, none⟩) 1 1) _ (hd.below hB0 (Nat.le_refl _)) (NA.one w f) (by omega) (by simp) hroom
  have e1 : nv [f] = f := by rw [nv, nv]; omega
  rw [e1] at ct
  have ctr : ∀ W, Below w.heap.size w W → Calls Try.prog 78 #[.slice pa la.length ca] W fun e w' => e = .returned (.slice pa (natL (nv la)).length ca) ∧ w' = W := fun W hW => trimNA la pa ca W (hA.below hW (Nat.le_refl _)) hla (by omega)
  have hna := hA.trim hla
  have hlt : (natL (nv la)).length ≤ 1000 := Nat.le_trans (trim_len hla) hl2
  have hlm : (natL (d * f)).length ≤ 1000 := by
    have := natL_len_le (n := d * f) (k := (natL d).length + 1) (by rw [e1] at hroom; exact hroom)
    omega
  have cc : ∀ (W : World) (v : Value), Below w.heap.size w W → NA W v (natL (d * f)) → Calls Try.prog 58 #[v, .slice pa (natL (nv la)).length ca] W fun e w' => e = .returned (.int .i64 (cmpN (d * f) (nv la))) ∧ ∃ m, w' = W.drewN m := fun W v hW hv => by
    obtain ⟨p, cap, rfl, hv2⟩ := hv.out
    exact cmpNA (d * f) (nv la) p pa cap ca W hv2 (hna.below hW (Nat.le_refl _)) hlm hlt
  have HC := cmp_le (d * f) (nv la)
  have HCS : Shut _ := ⟨HC⟩
  have hwf : IntKind.u32.wrap (f : Int) = (f : Int) := by rw [wrapU32]; omega
  clear hroom hA hd hna hlt hlm HC hla e1
  generalize cmpN (d * f) (nv la) = cv at *
  generalize (natL (nv la)).length = tl at *
  go_enter Try.func87, Try.ntmps87
  go_wp2
  go_region_held3 (fun w' => w'.cell? ⟨b1, 0, none⟩ = some (.func (Fn.func 67) #[.slice pd (natL d).length cd] #[]) ∧ w'.cell? ⟨b2, 0, none⟩ = some (.slice pa la.length ca)) (go_keep) (first | (go_at_call 67; refine ct.mono ?_; rintro e w1 ⟨v1, rfl, hv1, hB1⟩; have hB1' := hB0.trans (hB1.mono hB0.size); have k1 := (hB1'.cell (p := ⟨b1, 0, none⟩) hb1).trans h1; have k2 := (hB1'.cell (p := ⟨b2, 0, none⟩) hb2).trans h2) | (go_at_call 78; refine (ctr _ hB1').mono ?_; rintro e w2 ⟨rfl, rfl⟩) | (go_at_call 58; refine (cc _ _ hB1' hv1).mono ?_; rintro e w3 ⟨rfl, m3, rfl⟩))
  all_goals go_wp2
  all_goals go_ret
  all_goals exact ⟨by rw [← HCS.o]; rfl, below_drewN hB1' m3⟩
end Go.Proofs.Yteaecpmdooolkaa
