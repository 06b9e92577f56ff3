/-
  Contracts: dividedBy of naturals.
-/
import Derived.Test.YteaecpmdooolkaaIntReduce
namespace Go.Proofs.Yteaecpmdooolkaa
open Go.RowKit Nm

theorem quo_set (n k T q : Nat) (hk : k < n) (hq : q < 10000) : (padL n (10000 ^ (k + 1) * T)).set k q = padL n (10000 ^ k * (10000 * T + q)) := by
  obtain ⟨r, rfl⟩ : ∃ r, n = k + (r + 1) := ⟨n - k - 1, by omega⟩
  have hp : 0 < 10000 ^ k := Nat.pow_pos (by decide)
  have h1 := padL_app k (r + 1) 0 (10000 * T) hp
  have h2 := padL_app k (r + 1) 0 (10000 * T + q) hp
  rw [Nat.zero_add] at h1 h2
  rw [show 10000 ^ (k + 1) * T = 10000 ^ k * (10000 * T) by rw [Nat.pow_succ, Nat.mul_assoc], h1, h2]
  rw [padL, padL, show 10000 * T % 10000 = 0 by omega, show 10000 * T / 10000 = T by omega, show (10000 * T + q) % 10000 = q by omega, show (10000 * T + q) / 10000 = T by omega]
  have hl : (padL k 0).length = k := padL_len _ _
  rw [List.set_append_right _ _ (by omega), hl, Nat.sub_self, List.set_cons_zero]
theorem div_step (x d k T V q : Nat) (hd : 0 < d) (hV : x = 10000 ^ (k + 1) * (d * T) + V) (hq : q = V / 10000 ^ k / d) : 10000 ^ k * (d * q) ≤ V ∧ x = 10000 ^ k * (d * (10000 * T + q)) + (V - 10000 ^ k * (d * q)) ∧ V - 10000 ^ k * (d * q) < 10000 ^ k * d := by
  rw [Nat.div_div_eq_div_mul] at hq
  have h1 := Nat.div_add_mod V (10000 ^ k * d)
  have h2 := Nat.mod_lt V (show 0 < 10000 ^ k * d from Nat.mul_pos (Nat.pow_pos (by decide)) hd)
  rw [← hq] at h1
  have h3 : 10000 ^ k * (d * q) = 10000 ^ k * d * q := by rw [Nat.mul_assoc]
  refine ⟨by omega, ?_, by omega⟩
  rw [Nat.pow_succ] at hV
  have h4 : 10000 ^ k * (d * (10000 * T + q)) = 10000 ^ k * 10000 * (d * T) + 10000 ^ k * (d * q) := by grind
  rw [h4, hV, h3]; omega
theorem UR.setOther {w : World} {b g : Nat} {l : List Nat} (h : UR w b l) (hb : b ≠ g) (i : Nat) (v : Value) : UR (w.setCell ⟨g, i, none⟩ v) b l := by
  obtain ⟨X, h⟩ := h
  exact ⟨X, RowAt.set_other h ⟨g, i, none⟩ hb v⟩

set_option maxRecDepth 100000 in
set_option maxHeartbeats 2000000 in
theorem divBy_any (x d : Nat) (hd0 : d ≠ 0) (va vd : Value) (w : World) (hA : NA w va (natL x)) (hD : NA w vd (natL d)) (hl1 : (natL x).length ≤ 900) (hl3 : (natL d).length ≤ 900) :
    Calls Try.prog 68 #[va, vd] w fun e w' => ∃ v1 v2, e = .returned (.tuple #[v1, v2]) ∧ NA w' v1 (natL (x / d)) ∧ NA w' v2 (natL (x % d)) ∧ Below w.heap.size w w' := by
  have hld : 1 ≤ (natL d).length := by
    rcases Nat.eq_zero_or_pos (natL d).length with h | h
    · exact absurd (natL_len0.1 h) hd0
    · exact h
  have cS := fun W (hW : Below w.heap.size w W) => shifted_any (natL x) va 0 W (hA.below hW (Nat.le_refl _)) (by omega)
  obtain ⟨pa, ca, rfl, hA⟩ := hA.out
  obtain ⟨pd, cd, rfl, hD⟩ := hD.out
  obtain ⟨gd, od, hpd, hgd, _, _, _⟩ := hD.from hld
  obtain ⟨n, hn⟩ : ∃ n, n = (natL x).length := ⟨_, rfl⟩
  obtain ⟨nq, hnq⟩ : ∃ nq, nq = n + 1 - (natL d).length := ⟨_, rfl⟩
  have hx := natL_lt x
  rw [← hn] at hx
  have hge := natL_ge d hd0
  have hxq : x < 10000 ^ nq * d := by
    rcases Nat.lt_or_ge n (natL d).length with h | h
    · have : x < d := by
        have h5 : 10000 ^ n ≤ 10000 ^ ((natL d).length - 1) := Nat.pow_le_pow_right (by decide) (by omega)
        omega
      have : 1 * d ≤ 10000 ^ nq * d := Nat.mul_le_mul_right d (Nat.pow_pos (by decide))
      omega
    · have h5 : 10000 ^ nq * 10000 ^ ((natL d).length - 1) ≤ 10000 ^ nq * d := Nat.mul_le_mul_left _ hge
      rw [← Nat.pow_add, show nq + ((natL d).length - 1) = n by omega] at h5
      omega
  have hdiv : x / d < 10000 ^ nq := by rw [Nat.div_lt_iff_lt_mul (by omega)]; exact hxq
  have hmod : x % d < 10000 ^ n := Nat.lt_of_le_of_lt (Nat.mod_le _ _) hx
  have hmax : max (((natL x).length : Int) - ((natL d).length : Int) + 1) 0 = (nq : Int) := by omega
  have hmax2 : (if ((natL x).length : Int) - ((natL d).length : Int) + 1 < 0 then (0 : Int) else ((natL x).length : Int) - ((natL d).length : Int) + 1) = (nq : Int) := by split <;> omega
  have hnq2 : nq ≤ 901 := by omega
  have HN : Shut (n = (natL x).length ∧ nq + (natL d).length ≤ max (n + 1) (natL d).length) := ⟨by omega⟩
  have HX : Shut (x < 10000 ^ n ∧ x < 10000 ^ nq * d ∧ x / d < 10000 ^ nq ∧ x % d < 10000 ^ n) := ⟨hx, hxq, hdiv, hmod⟩
  have HD : Shut _ := ⟨And.intro hD (And.intro hpd hgd)⟩
  have hn9 : n ≤ 900 := by omega
  clear hx hxq hdiv hmod hge hD hA hn hnq hpd hgd
  go_enter Try.func68, Try.ntmps68
  go_wp2_with (first | (at_make; refine make_u32 rfl _ _ rfl w.heap.size nq rfl rfl (by omega) (Nat.le_refl _) ?_; intro w1 hO1 hB1; obtain ⟨hg1, hu1, -, hc1, hm1⟩ := hO1.openS; rw [List.length_replicate] at hc1) | (go_at_call 74; refine (cS w1 hB1).mono ?_; rintro e w2 ⟨u2, rfl, hO2, hne2, hB2⟩; rw [List.replicate_zero, List.nil_append] at hO2; rcases hO2.open with ⟨h9, _⟩ | ⟨c2, g2, h9, hg2, hu2, hc2, hm2⟩; exact absurd h9 hne2; rw [← HN.o.1] at h9 hc2; subst h9))
  have hlt1 := hu1.lt
  have HS : Shut (UR w2 w.heap.size (padL nq (10000 ^ nq * 0)) ∧ UR w2 g2 (padL n x) ∧ Below w.heap.size w w2 ∧ x = 10000 ^ nq * (d * 0) + x ∧ x < 10000 ^ nq * d) := ⟨by
    refine ⟨?_, ?_, hB1.trans (hB2.mono hB1.size), by simp, HX.o.2.1⟩
    · rw [Nat.mul_zero, padL_zero]; exact hu1.below hB2 hlt1
    · have h5 := padL_eq (natL_dig x)
      rw [natL_nv, ← HN.o.1] at h5
      rw [h5]; exact hu2⟩
  have hgne : g2 ≠ w.heap.size := by omega
  have hg2w : w.heap.size ≤ g2 := by omega
  clear hu1 hu2 hB1 hB2 hO1 hO2 hne2 cS
  go_loopw [8] (fun pv wr => ∃ k T V : Nat, k ≤ nq ∧ pv = .int .i64 ((k : Int) - 1) ∧ Shut (UR wr w.heap.size (padL nq (10000 ^ k * T)) ∧ UR wr g2 (padL n V) ∧ Below w.heap.size w wr ∧ x = 10000 ^ k * (d * T) + V ∧ V < 10000 ^ k * d)) (fun pv _ => (intOf pv + 1).toNat)
  case atStart => exact ⟨nq, 0, x, Nat.le_refl _, rfl, HS⟩
  case round =>
    obtain ⟨k, T, V, hk, rfl, hS⟩ := hrel
    by_cases hk0 : k = 0
    · subst hk0
      have hT : T = x / d ∧ V = x % d := by
        have h1 := hS.o.2.2.2.1
        have h2 := hS.o.2.2.2.2
        rw [Nat.pow_zero, Nat.one_mul] at h1 h2
        refine ⟨?_, ?_⟩
        · rw [h1, Nat.mul_add_div (by omega), Nat.div_eq_of_lt h2, Nat.add_zero]
        · rw [h1, Nat.mul_add_mod, Nat.mod_eq_of_lt h2]
      have hua := hS.o.1
      rw [Nat.pow_zero, Nat.one_mul, hT.1] at hua
      have hub := hS.o.2.1
      rw [hT.2] at hub
      have c1 := trimPad_any wr w.heap.size nq nq (x / d) _ hua (List.take_of_length_le (by rw [padL_len]; exact Nat.le_refl _)) HX.o.2.2.1 (Nat.le_refl _) hm1 (by omega)
      have c2' := trimPad_any wr g2 c2 n (x % d) _ hub (List.take_of_length_le (by rw [padL_len]; exact Nat.le_refl _)) HX.o.2.2.2 hc2 hm2 (by omega)
      clear hua hub hT
      go_wp2_with (first | (go_at_call_of 78 (Value.slice (some ⟨w.heap.size, 0, none⟩) nq nq); refine c1.mono ?_; rintro e w5 ⟨⟨v5, rfl, hv5⟩, rfl⟩) | (go_at_call_of 78 (Value.slice (some ⟨g2, 0, none⟩) n c2); refine c2'.mono ?_; rintro e w6 ⟨⟨v6, rfl, hv6⟩, rfl⟩))
      go_ret2
      exact ⟨_, _, rfl, hv5, hv6, hS.o.2.2.1⟩
    · obtain ⟨k, rfl⟩ : ∃ k', k = k' + 1 := ⟨k - 1, by omega⟩
      have hki : (((k + 1 : Nat) : Int) - 1) = (k : Int) := by omega
      rw [hki]
      have hst := div_step x d k T V (V / 10000 ^ k / d) (by omega) hS.o.2.2.2.1 rfl
      have hVx : V < 10000 ^ n := by have := HX.o.1; have := hS.o.2.2.2.1; omega
      have hq : V / 10000 ^ k / d < 10000 := by
        have h2 := hS.o.2.2.2.2
        rw [Nat.div_lt_iff_lt_mul (by omega), Nat.div_lt_iff_lt_mul (Nat.pow_pos (by decide))]
        rw [Nat.pow_succ] at h2
        calc V < 10000 ^ k * 10000 * d := h2
          _ = 10000 * d * 10000 ^ k := by rw [Nat.mul_assoc, Nat.mul_comm]
      have cr := reduce_any d hd0 pd cd g2 n c2 k V wr (HD.o.1.below hS.o.2.2.1 (Nat.le_refl _)) (fun a b hab => by have h1 := HD.o.2.1; rw [hab] at h1; injection h1 with h1; injection h1 with h1; have := HD.o.2.2; omega) hS.o.2.1 hVx hS.o.2.2.2.2 (by have := HN.o.2; omega) (by omega) hl3 hc2 hm2
      have HU : Shut (∀ W, OB g2 wr W → UR W w.heap.size (padL nq (10000 ^ (k + 1) * T))) := ⟨fun W hW => hS.o.1.ob hW (Ne.symm hgne)⟩
      have HQ : Shut ((padL nq (10000 ^ (k + 1) * T)).set k (V / 10000 ^ k / d) = padL nq (10000 ^ k * (10000 * T + V / 10000 ^ k / d))) := ⟨quo_set nq k T _ (by omega) hq⟩
      have HST : Shut _ := ⟨hst⟩
      have HB : Shut _ := ⟨hS.o.2.2.1⟩
      generalize V / 10000 ^ k / d = q at *
      generalize hV2 : V - 10000 ^ k * (d * q) = V2 at *
      have hkn : k < (padL nq (10000 ^ (k + 1) * T)).length := by rw [padL_len]; omega
      have HKN : Shut _ := ⟨hkn⟩
      clear hS hst hVx hki hV2 hkn
      go_wp2_with (go_at_call 82; refine cr.mono ?_; rintro e w5 ⟨rfl, hOB, hu5⟩; have hq5 := HU.o w5 hOB; have hc5 := hq5.u32 k HKN.o; have hf5 := hq5.frozen k)
      have hs5 := hq5.set32 k q HKN.o
      rw [HQ.o] at hs5
      exact ⟨⟨k, 10000 * T + q, V2, by omega, rfl, ⟨hs5, hu5.setOther hgne k _, (HB.o.trans (hOB.below hg2w HB.o.size)).setCell (p := ⟨w.heap.size, k, none⟩) (Nat.le_refl _) _, HST.o.2.1, HST.o.2.2⟩⟩, by simp [intOf]⟩
end Go.Proofs.Yteaecpmdooolkaa
