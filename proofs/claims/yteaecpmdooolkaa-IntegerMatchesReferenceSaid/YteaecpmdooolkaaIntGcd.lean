/-
  Contracts: gcdOfWords, gcd of small numbers.
-/
import Derived.Test.YteaecpmdooolkaaIntDivBy
import Derived.Deep.Cut
namespace Go.Proofs.Yteaecpmdooolkaa
open Go.RowKit Nm

set_option maxHeartbeats 1000000 in
theorem gcdW_any (x y : Nat) (hx : x < 18446744073709551616) (hy : y < 18446744073709551616) (w : World) :
    Calls Try.prog 83 #[.int .u64 x, .int .u64 y] w fun e w' => e = .returned (.int .u64 (Nat.gcd x y : Nat)) ∧ ∃ m, w' = w.drewN m := by
  go_enter Try.func83, Try.ntmps83
  go_wp2
  go_loopw [0, 1] (fun av bv wr => ∃ a b : Nat, av = .int .u64 a ∧ bv = .int .u64 b ∧ a < 18446744073709551616 ∧ b < 18446744073709551616 ∧ Shut (Nat.gcd a b = Nat.gcd x y) ∧ ∃ m, wr = w.drewN m) (fun _ bv _ => (intOf bv).toNat)
  case atStart => exact ⟨x, y, rfl, rfl, hx, hy, ⟨rfl⟩, 0, rfl⟩
  case round =>
    obtain ⟨a, b, rfl, rfl, ha, hb, hg, m, hw⟩ := hrel
    have HW : Shut _ := ⟨hw⟩
    clear hw
    by_cases hb0 : b = 0
    · subst hb0
      have HG : Shut (Nat.gcd x y = a) := ⟨by rw [← hg.o, Nat.gcd_zero_right]⟩
      clear hg
      go_wp2
      go_ret
      exact ⟨by rw [HG.o]; rfl, m, HW.o⟩
    · have hlt : a % b < b := Nat.mod_lt a (by omega)
      have HG : Shut (Nat.gcd b (a % b) = Nat.gcd x y) := ⟨by rw [← hg.o, Nat.gcd_comm a b, Nat.gcd_rec b a, Nat.gcd_comm]⟩
      have hbi : (b : Int) ≠ 0 := by omega
      have hmi : ((a : Int) % (b : Int)) = ((a % b : Nat) : Int) := rfl
      clear hg
      generalize hr : a % b = r at *
      go_wp2
      go_quiet (fail)
      go_wp2
      exact ⟨⟨b, r, rfl, by rw [← hr]; rfl, hb, by omega, HG, _, by rw [HW.o, World.drewN_drewN]⟩, by simp [intOf]; omega⟩

theorem len4 {n : Nat} (h : n < 10000000000000000) : (natL n).length ≤ 4 := natL_len_le h
/-- gcd where both fit into a word -/
def GcdC (x y : Nat) : Prop := ∀ (va vb : Value) (w : World), NA w va (natL x) → NA w vb (natL y) → Calls Try.prog 70 #[va, vb] w fun e w' => ∃ v, e = .returned v ∧ NA w' v (natL (Nat.gcd x y)) ∧ Below w.heap.size w w'
set_option maxRecDepth 100000 in
set_option maxHeartbeats 1000000 in
theorem gcd_small (x y : Nat) (hx : x < 10000000000000000) (hy : y < 10000000000000000) : GcdC x y := by
  intro va vb w hA hB
  have cSa := fun W (hW : Below w.heap.size w W) => shifted_any (natL x) va 0 W (hA.below hW (Nat.le_refl _)) (by have := len4 hx; omega)
  have cSb := fun W (hW : Below w.heap.size w W) => shifted_any (natL y) vb 0 W (hB.below hW (Nat.le_refl _)) (by have := len4 hy; omega)
  have hla := len4 hx
  have hlb := len4 hy
  have hgl : Nat.gcd x y < 18446744073709551616 := by
    rcases Nat.eq_zero_or_pos x with h | h
    · rw [h, Nat.gcd_zero_left]; omega
    · have := Nat.gcd_le_left y h; omega
  have cw : ∀ (z : Nat) (W : World) (g c : Nat), z < 10000000000000000 → UR W g (natL z) → Calls Try.prog 60 #[.slice (some ⟨g, 0, none⟩) (natL z).length c] W fun e w' => e = .returned (.int .u64 z) ∧ w' = W := fun z W g c hz hu => by
    have := word_any (natL z) (some ⟨g, 0, none⟩) c g 0 W (fun _ => rfl) hu.ua (natL_dig z) (by have := len4 hz; omega) (by rw [natL_nv]; omega)
    rwa [natL_nv] at this
  have cG := fun W => gcdW_any x y (by omega) (by omega) W
  have cO := fun W => ofWord_any (Nat.gcd x y) hgl W
  obtain ⟨pa, ca, rfl, hA'⟩ := hA.out
  obtain ⟨pb, cb, rfl, hB'⟩ := hB.out
  go_enter Try.func70, Try.ntmps70
  clear hA hB hA' hB'
  go_upto_region 2 with (first | (go_at_call_of 74 (Value.slice pa (natL x).length ca); refine (cSa w (Below.refl _ _)).mono ?_; rintro e w1 ⟨u1, rfl, hO1, hn1, hB1⟩) | (go_at_call_of 74 (Value.slice pb (natL y).length cb); refine (cSb _ hB1).mono ?_; rintro e w2 ⟨u2, rfl, hO2, hn2, hB2⟩))
  rw [List.replicate_zero, List.nil_append] at hO1 hO2
  rcases hO1.open with ⟨h9, _⟩ | ⟨c1, g1, rfl, hg1, hu1, hc1, hm1⟩
  · exact absurd h9 hn1
  rcases hO2.open with ⟨h9, _⟩ | ⟨c2, g2, rfl, hg2, hu2, hc2, hm2⟩
  · exact absurd h9 hn2
  have hu1' := hu1.below hB2 hu1.lt
  have c1w := cw x w2 g1 c1 hx hu1'
  have c2w := cw y w2 g2 c2 hy hu2
  have hB12 := hB1.trans (hB2.mono hB1.size)
  have hOx := hO1.below hB2
  have HNA : Shut (y = 0 → NA w2 (.slice (some ⟨g1, 0, none⟩) (natL x).length c1) (natL (Nat.gcd x y))) := ⟨fun h => by rw [h, Nat.gcd_zero_right]; exact hOx.na⟩
  have HY : Shut ((natL y).length = 0 → y = 0) := ⟨natL_len0.1⟩
  have HB12 : Shut _ := ⟨hB12⟩
  clear hO1 hO2 hOx hn1 hn2 hB1 hB2 hu1 hu2 hu1' cSa cSb cw hB12
  generalize (natL x).length = nx at *
  generalize (natL y).length = ny at *
  go_loopw [5, 6] (fun av bv wr => av = .slice (some ⟨g1, 0, none⟩) nx c1 ∧ bv = .slice (some ⟨g2, 0, none⟩) ny c2 ∧ wr = w2) (fun _ _ _ => 0)
  case atStart => exact ⟨rfl, rfl, rfl⟩
  case round =>
    obtain ⟨rfl, rfl, rfl⟩ := hrel
    by_cases hy0 : ny = 0
    · have hna := HNA.o (HY.o hy0)
      have HR : Shut _ := ⟨hna⟩
      have hyi : ¬ (0 : Int) < (ny : Int) := by omega
      clear hna hy0
      go_wp2
      go_ret
      exact ⟨_, rfl, HR.o, HB12.o⟩
    · have hyi : (0 : Int) < (ny : Int) := by omega
      have d1 : decide ((nx : Int) ≤ 4) = true := decide_eq_true (by omega)
      have d2 : decide ((ny : Int) ≤ 4) = true := decide_eq_true (by omega)
      clear hy0
      go_wp2_with (first | (go_at_call_of 60 (Value.slice (some ⟨g1, 0, none⟩) nx c1); refine c1w.mono ?_; rintro e w5 ⟨rfl, rfl⟩) | (go_at_call_of 60 (Value.slice (some ⟨g2, 0, none⟩) ny c2); refine c2w.mono ?_; rintro e w6 ⟨rfl, rfl⟩) | (go_at_call 83; refine (cG _).mono ?_; rintro e w7 ⟨rfl, m7, rfl⟩) | (go_at_call 59; refine (cO _).mono ?_; rintro e w8 ⟨v8, rfl, hO8, hB8⟩))
      go_ret
      exact ⟨_, rfl, hO8.na, (below_drewN HB12.o m7).trans (hB8.mono (below_drewN HB12.o m7).size)⟩
end Go.Proofs.Yteaecpmdooolkaa
