/-
  Contracts: reduce.
-/
import Derived.Test.YteaecpmdooolkaaIntFactor
namespace Go.Proofs.Yteaecpmdooolkaa
open Go.RowKit Nm

/-- of the blocks that were there, only g has turned -/
structure OB (g : Nat) (w w' : World) : Prop where
  os : w'.os = w.os
  tape : w'.tape = w.tape
  output : w'.output = w.output
  size : w.heap.size ≤ w'.heap.size
  block : ∀ k, k < w.heap.size → k ≠ g → w'.heap[k]? = w.heap[k]?
theorem OB.refl (g : Nat) (w : World) : OB g w w := ⟨rfl, rfl, rfl, Nat.le_refl _, fun _ _ _ => rfl⟩
theorem OB.trans {g : Nat} {a b c : World} (h : OB g a b) (k : OB g b c) : OB g a c :=
  ⟨k.os.trans h.os, k.tape.trans h.tape, k.output.trans h.output, Nat.le_trans h.size k.size, fun i hi hg => (k.block i (Nat.lt_of_lt_of_le hi h.size) hg).trans (h.block i hi hg)⟩
theorem OB.ofBelow {g : Nat} {w w' : World} (h : Below w.heap.size w w') : OB g w w' := ⟨h.os, h.tape, h.output, h.size, fun k hk _ => h.block k hk⟩
theorem OB.ofOnly {g : Nat} {w w' : World} (h : Only g w w') : OB g w w' := ⟨h.os, h.tape, h.output, Nat.le_of_eq h.size.symm, fun k _ hg => h.block k hg⟩
theorem OB.below {g B : Nat} {w w' : World} (h : OB g w w') (h1 : B ≤ g) (h2 : B ≤ w.heap.size) : Below B w w' := ⟨h.os, h.tape, h.output, h.size, fun k hk => h.block k (by omega) (by omega)⟩
theorem UR.ob {w w' : World} {b g : Nat} {l : List Nat} (h : UR w b l) (k : OB g w w') (hb : b ≠ g) : UR w' b l := by
  obtain ⟨X, h⟩ := h
  exact ⟨X, (k.block b (RowAt.lt h) hb).trans h⟩
theorem UA.ob {W W' : World} {g o b : Nat} {l : List Nat} (h : UA W g o l) (k : OB b W W') (hg : 1 ≤ l.length → g < W.heap.size ∧ g ≠ b) : UA W' g o l := fun i hi => by
  have e : W'.cell? ⟨g, o + i, none⟩ = W.cell? ⟨g, o + i, none⟩ := by
    unfold World.cell?
    rw [show W'.heap[(⟨g, o + i, none⟩ : Addr).block]? = W.heap[g]? from k.block g (hg (by omega)).1 (hg (by omega)).2]
  exact e.trans (h i hi)
theorem padL_top (n m y : Nat) (hm : m ≤ n) (hy : y < 10000 ^ m) : padL n y = padL m y ++ padL (n - m) 0 := by
  have := padL_app m (n - m) y 0 hy
  rwa [Nat.mul_zero, Nat.add_zero, show m + (n - m) = n by omega] at this
/-- a window of a row: its value, and another value there -/
theorem win_val (n k m V : Nat) (hkm : k + m ≤ n) (hV : V / 10000 ^ k < 10000 ^ m) : ((padL n V).drop k).take m = padL m (V / 10000 ^ k) := by
  have hl : (padL k (V % 10000 ^ k)).length = k := padL_len _ _
  rw [padL_cut n k V (by omega), List.drop_append_of_le_length (by omega), List.drop_eq_nil_iff.2 (by omega), List.nil_append, padL_top (n - k) m _ (by omega) hV, List.take_append_of_le_length (by rw [padL_len]; exact Nat.le_refl _), List.take_of_length_le (by rw [padL_len]; exact Nat.le_refl _)]
theorem win_set (n k m V x : Nat) (hkm : k + m ≤ n) (hV : V / 10000 ^ k < 10000 ^ m) (hx : x < 10000 ^ m) : rowR (padL n V) k m x = padL n (V % 10000 ^ k + 10000 ^ k * x) := by
  have hP : V % 10000 ^ k < 10000 ^ k := Nat.mod_lt _ (Nat.pow_pos (by decide))
  have hl : (padL k (V % 10000 ^ k)).length = k := padL_len _ _
  have h1 : (padL n V).take k = padL k (V % 10000 ^ k) := by rw [padL_cut n k V (by omega), List.take_append_of_le_length (by omega), List.take_of_length_le (by omega)]
  have h2 : (padL n V).drop (k + m) = padL (n - k - m) 0 := by
    have hl2 : (padL k (V % 10000 ^ k) ++ padL m (V / 10000 ^ k)).length = k + m := by rw [List.length_append, padL_len, padL_len]
    rw [padL_cut n k V (by omega), padL_top (n - k) m _ (by omega) hV, ← List.append_assoc, List.drop_append_of_le_length (by omega), List.drop_eq_nil_iff.2 (by omega), List.nil_append]
  have h3 := padL_app k (n - k) (V % 10000 ^ k) x hP
  rw [show k + (n - k) = n by omega] at h3
  rw [rowR, h1, h2, h3, padL_top (n - k) m x (by omega) hx, List.append_assoc]
theorem mod_div_mul (V P x : Nat) (hx : x ≤ V / P) : V % P + P * (V / P - x) = V - P * x := by
  have h1 := Nat.mod_add_div V P
  have h2 : P * (V / P - x) = P * (V / P) - P * x := by rw [Nat.mul_sub]
  have h3 : P * x ≤ P * (V / P) := Nat.mul_le_mul_left P hx
  omega

set_option maxRecDepth 100000 in
set_option maxHeartbeats 1000000 in
theorem reduce_any (d : Nat) (hd0 : d ≠ 0) (pd : Option Addr) (cd g n c k V : Nat) (w : World) (hD : NA w (.slice pd (natL d).length cd) (natL d)) (hDg : ∀ gd od, pd = some ⟨gd, od, none⟩ → gd ≠ g)
    (hr : UR w g (padL n V)) (hV : V < 10000 ^ n) (hVk : V < 10000 ^ (k + 1) * d) (hk : k + (natL d).length ≤ n) (hn : n ≤ 2000) (hl3 : (natL d).length ≤ 900) (hc : n ≤ c) (hcm : c ≤ maxLen) :
    Calls Try.prog 82 #[.slice (some ⟨g, 0, none⟩) n c, .slice pd (natL d).length cd, .int .i64 k] w fun e w' => e = .returned (.int .u32 (V / 10000 ^ k / d : Nat)) ∧ OB g w w' ∧ UR w' g (padL n (V - 10000 ^ k * (d * (V / 10000 ^ k / d)))) := by
  have hld : 1 ≤ (natL d).length := by
    rcases Nat.eq_zero_or_pos (natL d).length with h | h
    · exact absurd (natL_len0.1 h) hd0
    · exact h
  obtain ⟨m, hm⟩ : ∃ m, m = min (k + (natL d).length + 1) n - k := ⟨_, rfl⟩
  have hP : 0 < 10000 ^ k := Nat.pow_pos (by decide)
  have hm1 : k + m ≤ n := by omega
  have hm2 : (natL d).length ≤ m := by omega
  have hm3 : m ≤ (natL d).length + 1 := by omega
  have hq : V / 10000 ^ k < 10000 * d := by
    rw [Nat.div_lt_iff_lt_mul hP]
    rw [Nat.pow_succ] at hVk
    calc V < 10000 ^ k * 10000 * d := hVk
      _ = 10000 * d * 10000 ^ k := by rw [Nat.mul_assoc, Nat.mul_comm]
  have hVm : V / 10000 ^ k < 10000 ^ m := by
    rcases Nat.lt_or_ge m ((natL d).length + 1) with h1 | h1
    · have : m = n - k := by omega
      rw [this, Nat.div_lt_iff_lt_mul hP, ← Nat.pow_add, show n - k + k = n by omega]
      exact hV
    · have : m = (natL d).length + 1 := by omega
      rw [this, Nat.pow_succ]
      have := natL_lt d
      omega
  have hw := win_val n k m V hm1 hVm
  have hwl : (((padL n V).drop k).take m).length = m := by rw [hw, padL_len]
  have hnv : nv (((padL n V).drop k).take m) = V / 10000 ^ k := by rw [hw, padL_nv m _ hVm]
  have hdig : Dig (((padL n V).drop k).take m) := by rw [hw]; exact padL_dig _ _
  have hDS := hD
  obtain ⟨gd, od, rfl, hgd, hud, hcd, hcdm⟩ := hD.from hld
  have hgg := hDg gd od rfl
  have hua := hr.uaSeg k m
  have hna : NA w (.slice (some ⟨g, k, none⟩) (((padL n V).drop k).take m).length (c - k)) (((padL n V).drop k).take m) := ⟨_, c - k, rfl, by rw [hwl]; omega, by omega, .inr ⟨g, k, rfl, hr.lt, hua⟩⟩
  have cF := factor_any d hd0 (((padL n V).drop k).take m) hdig (some ⟨g, k, none⟩) (some ⟨gd, od, none⟩) (c - k) cd w hna hDS (by rw [hwl]; exact hm2) (by rw [hwl]; exact hm3) hl3 (by rw [hnv]; exact hq)
  rw [hnv, hwl] at cF
  have hq2 : V / 10000 ^ k / d < 10000 := by rw [Nat.div_lt_iff_lt_mul (by omega)]; exact hq
  have hdq : d * (V / 10000 ^ k / d) ≤ V / 10000 ^ k := Nat.mul_div_le _ _
  have cT : ∀ W, Below w.heap.size w W → Calls Try.prog 79 #[.slice (some ⟨g, k, none⟩) m (c - k), .slice (some ⟨gd, od, none⟩) (natL d).length cd, .int .u32 (V / 10000 ^ k / d : Nat)] W fun e w' => e = .returned (.tuple #[]) ∧ Only g W w' ∧ UR w' g (padL n (V - 10000 ^ k * (d * (V / 10000 ^ k / d)))) := fun W hW => by
    have := take_any g k m (c - k) (padL n V) (some ⟨gd, od, none⟩) gd od cd (natL d) (V / 10000 ^ k / d) W (hr.below hW hr.lt) (by rw [padL_len]; exact hm1) (fun _ => hgg) (hud.below hW hgd) (fun _ => rfl) (by omega) (by omega) (padL_dig _ _) (natL_dig _) hq2 (by rw [hnv, natL_nv]; exact hdq)
    rw [hnv, natL_nv, win_set n k m V _ hm1 hVm (by omega), mod_div_mul V (10000 ^ k) _ hdq] at this
    exact this
  have HT : Shut _ := ⟨cT⟩
  have HR : Shut _ := ⟨And.intro hr.lt hgg⟩
  have i1 : (0 : Int) ≤ (k : Int) := by omega
  obtain ⟨e, he⟩ : ∃ e, e = k + m := ⟨_, rfl⟩
  have i2 : (k : Int) ≤ (e : Int) := by omega
  have i3 : (e : Int) ≤ (n : Int) := by omega
  have i4 : (n : Int) ≤ (c : Int) := by omega
  have i5 : ¬ c = k := by omega
  have i6 : (e : Int) ≤ (c : Int) := by omega
  have hem : e - k = m := by omega
  have hmin : min ((k : Int) + ((natL d).length : Int) + 1) (n : Int) = (e : Int) := by omega
  have hmin2 : (if (n : Int) < (k : Int) + ((natL d).length : Int) + 1 then (n : Int) else (k : Int) + ((natL d).length : Int) + 1) = (e : Int) := by split <;> omega
  clear he
  generalize V - 10000 ^ k * (d * (V / 10000 ^ k / d)) = V2 at *
  generalize V / 10000 ^ k / d = q at *
  clear hm hw hwl hnv hdig hDS hud hua hna hVm hq hdq cT hP hV hVk hr hD hDg
  go_enter Try.func82, Try.ntmps82
  go_wp2_with (first | (go_at_call 86; refine cF.mono ?_; rintro e9 w1 ⟨rfl, hB1⟩) | (go_at_call 79; refine (HT.o w1 hB1).mono ?_; rintro e9 w2 ⟨rfl, hO2, hu2⟩))
  go_ret
  exact ⟨rfl, (OB.ofBelow hB1).trans (OB.ofOnly hO2), hu2⟩
end Go.Proofs.Yteaecpmdooolkaa
