/-
  Contracts: factor.
-/
import Derived.Test.YteaecpmdooolkaaIntGreat
import Derived.Deep.Cut
namespace Go.Proofs.Yteaecpmdooolkaa
open Go.RowKit Nm

theorem nv_drop_div (l : List Nat) (hd : Dig l) (k : Nat) (hk : k ≤ l.length) : nv (l.drop k) = nv l / 10000 ^ k := by
  have h1 := nv_take_drop l k hk
  have h2 := nv_lt (hd.take k)
  rw [List.length_take, Nat.min_eq_left hk] at h2
  rw [h1, Nat.add_mul_div_left _ _ (Nat.pow_pos (by decide)), Nat.div_eq_of_lt h2, Nat.zero_add]
/-- the estimates by the leading groups -/
theorem est_high (A d P : Nat) (hP : 0 < P) (hb : 0 < d / P) : A / d ≤ (A / P) / (d / P) := by
  rw [Nat.le_div_iff_mul_le hb, Nat.le_div_iff_mul_le hP, Nat.mul_assoc]
  have h1 : d / P * P ≤ d := Nat.div_mul_le_self d P
  calc A / d * (d / P * P) ≤ A / d * d := Nat.mul_le_mul_left _ h1
    _ ≤ A := Nat.div_mul_le_self A d
theorem est_low (A d P : Nat) (hP : 0 < P) (hd : 0 < d) : (A / P) / (d / P + 1) ≤ A / d := by
  rw [Nat.le_div_iff_mul_le hd]
  have h1 : d ≤ (d / P + 1) * P := by
    have := Nat.div_add_mod d P
    have := Nat.mod_lt d hP
    rw [Nat.add_mul, Nat.one_mul, Nat.mul_comm (d / P) P]; omega
  calc A / P / (d / P + 1) * d ≤ A / P / (d / P + 1) * ((d / P + 1) * P) := Nat.mul_le_mul_left _ h1
    _ = (A / P / (d / P + 1) * (d / P + 1)) * P := by rw [Nat.mul_assoc]
    _ ≤ A / P * P := Nat.mul_le_mul_right _ (Nat.div_mul_le_self _ _)
    _ ≤ A := Nat.div_mul_le_self A P
theorem est_top (A d P : Nat) (hP : 0 < P) (hb : 0 < d / P) (h : A < 10000 * d) (hbig : 10000 ≤ d / P ∨ P = 1) : (A / P) / (d / P) ≤ 10000 := by
  rw [← Nat.lt_succ_iff, Nat.div_lt_iff_lt_mul hb, Nat.div_lt_iff_lt_mul hP]
  have h1 : d < (d / P + 1) * P := by
    have := Nat.div_add_mod d P
    have := Nat.mod_lt d hP
    rw [Nat.add_mul, Nat.one_mul, Nat.mul_comm (d / P) P]; omega
  rcases hbig with hb1 | rfl
  · have h2 : 10000 * (d / P + 1) ≤ (10000 + 1) * (d / P) := by omega
    calc A < 10000 * d := h
      _ ≤ 10000 * ((d / P + 1) * P) := Nat.mul_le_mul_left _ (by omega)
      _ = 10000 * (d / P + 1) * P := by rw [Nat.mul_assoc]
      _ ≤ (10000 + 1) * (d / P) * P := Nat.mul_le_mul_right _ h2
  · rw [Nat.div_one, Nat.mul_one]; omega
/-- a slice's end part -/
theorem NA.from {W : World} {p : Option Addr} {c : Nat} {l : List Nat} (h : NA W (.slice p l.length c) l) (hl : 1 ≤ l.length) : ∃ g o, p = some ⟨g, o, none⟩ ∧ g < W.heap.size ∧ UA W g o l ∧ l.length ≤ c ∧ c ≤ maxLen := by
  obtain ⟨p', c', e, h1, h2, ⟨rfl, rfl, rfl⟩ | ⟨g, o, rfl, hg, hu⟩⟩ := h
  · simp at hl
  · injection e with e1 e2 e3
    subst e1; subst e3
    exact ⟨g, o, rfl, hg, hu, h1, h2⟩

/-- a function value laid into a variable of its own -/
theorem store_func (W : World) (F : Value) (hF : F.oneCell' = true) : ∃ Wg, Sem.run Try.prog (store ⟨W.heap.size, 0, none⟩ F) (W.alloc (.cells #[.nilFunc] 79)) = .ok () Wg ∧ Below W.heap.size W Wg ∧ Wg.cell? ⟨W.heap.size, 0, none⟩ = some F := by
  have hr := RowAt.new W #[.nilFunc] 79
  have hc : (W.alloc (.cells #[.nilFunc] 79)).cell? ⟨W.heap.size, 0, none⟩ = some .nilFunc := by rw [RowAt.cell hr 0]; rfl
  have hf := RowAt.frozen hr 0
  have h2 := RowAt.set_same hr 0 F
  refine ⟨(W.alloc (.cells #[.nilFunc] 79)).setCell ⟨W.heap.size, 0, none⟩ F, ?_, ((Below.refl _ W).alloc (Nat.le_refl _) _).setCell (p := ⟨W.heap.size, 0, none⟩) (Nat.le_refl _) F, by rw [RowAt.cell h2 0]; rfl⟩
  rw [run_store Try.prog _ _ _ _ hF, hc]
  simp [hf]
set_option maxRecDepth 100000 in
set_option maxHeartbeats 1000000 in
theorem factor_any (d : Nat) (hd0 : d ≠ 0) (la : List Nat) (hla : Dig la) (pa pd : Option Addr) (ca cd : Nat) (w : World) (hA : NA w (.slice pa la.length ca) la) (hD : NA w (.slice pd (natL d).length cd) (natL d))
    (hl1 : (natL d).length ≤ la.length) (hl2 : la.length ≤ (natL d).length + 1) (hl3 : (natL d).length ≤ 900) (hq : nv la < 10000 * d) :
    Calls Try.prog 86 #[.slice pa la.length ca, .slice pd (natL d).length cd] w fun e w' => e = .returned (.int .u32 (nv la / d : Nat)) ∧ Below w.heap.size w w' := by
  have hld : 1 ≤ (natL d).length := by
    rcases Nat.eq_zero_or_pos (natL d).length with h | h
    · exact absurd (natL_len0.1 h) hd0
    · exact h
  have hAS := hA
  have hDS := hD
  obtain ⟨ga, oa, rfl, hga, hua, hca, hcam⟩ := hA.from (by omega)
  obtain ⟨gd, od, rfl, hgd, hud, hcd, hcdm⟩ := hD.from hld
  obtain ⟨cut, hcut⟩ : ∃ cut, cut = (natL d).length - 3 := ⟨_, rfl⟩
  have hP : 0 < 10000 ^ cut := Nat.pow_pos (by decide)
  have ha1 := nv_drop_div la hla cut (by omega)
  have hd1 := nv_drop_div (natL d) (natL_dig d) cut (by omega)
  rw [natL_nv] at hd1
  have hlow := est_low (nv la) d (10000 ^ cut) hP (by omega)
  have hge := natL_ge d hd0
  have hbelow : 0 < d / 10000 ^ cut := by
    refine Nat.div_pos ?_ hP
    exact Nat.le_trans (Nat.pow_le_pow_right (by decide) (by omega)) hge
  have hhigh := est_high (nv la) d (10000 ^ cut) hP hbelow
  have hbig : 10000 ≤ d / 10000 ^ cut ∨ 10000 ^ cut = 1 := by
    rcases Nat.eq_zero_or_pos cut with h0 | h0
    · right; rw [h0]
    · left
      rw [Nat.le_div_iff_mul_le hP, ← Nat.pow_succ']
      exact Nat.le_trans (Nat.pow_le_pow_right (by decide) (by omega)) hge
  have htop := est_top (nv la) d (10000 ^ cut) hP hbelow hq hbig
  have hab : nv (la.drop cut) < 18446744073709551616 := by
    have := nv_lt (hla.drop cut)
    have h4 : 10000 ^ (la.drop cut).length ≤ 10000 ^ 4 := Nat.pow_le_pow_right (by decide) (by rw [List.length_drop]; omega)
    omega
  have hbb : nv ((natL d).drop cut) < 1000000000000 := by
    have := nv_lt ((natL_dig d).drop cut)
    have h4 : 10000 ^ ((natL d).drop cut).length ≤ 10000 ^ 3 := Nat.pow_le_pow_right (by decide) (by rw [List.length_drop]; omega)
    omega
  have cw1 := fun W (hW : Below w.heap.size w W) => word_any (la.drop cut) (some ⟨ga, oa + cut, none⟩) (ca - cut) ga (oa + cut) W (fun _ => rfl) ((hua.drop cut).below hW hga) (hla.drop cut) (by rw [List.length_drop]; omega) hab
  have cw2 := fun W (hW : Below w.heap.size w W) => word_any ((natL d).drop cut) (some ⟨gd, od + cut, none⟩) (cd - cut) gd (od + cut) W (fun _ => rfl) ((hud.drop cut).below hW hgd) ((natL_dig d).drop cut) (by rw [List.length_drop]; omega) (by omega)
  rw [List.length_drop, ha1] at cw1
  rw [List.length_drop, hd1] at cw2
  rw [ha1] at hab
  rw [hd1] at hbb
  have hq2 : nv la / d < 10000 := by rw [Nat.div_lt_iff_lt_mul (by omega)]; exact hq
  have hcz : cut = 0 → nv la / 10000 ^ cut / (d / 10000 ^ cut) = nv la / d := fun h => by rw [h]; simp
  generalize nv la / 10000 ^ cut = above at *
  generalize d / 10000 ^ cut = below at *
  obtain ⟨q, hqe⟩ : ∃ q, q = nv la / d := ⟨_, rfl⟩
  rw [← hqe] at hlow hhigh hq2 hcz ⊢
  have HFD : Shut (∀ f, decide (d * f ≤ nv la) = decide (f ≤ q)) := ⟨fun f => by rw [decide_eq_decide, hqe, Nat.le_div_iff_mul_le (by omega), Nat.mul_comm]⟩
  have hqe0 : cut = 0 → above / below = q := hcz
  have c1 : (0 : Int) ≤ (cut : Int) := by omega
  have c2 : (cut : Int) ≤ (la.length : Int) := by omega
  have c3 : (la.length : Int) ≤ (ca : Int) := by omega
  have c4 : (cut : Int) ≤ ((natL d).length : Int) := by omega
  have c5 : ((natL d).length : Int) ≤ (cd : Int) := by omega
  have c6 : ¬ ca = cut := by omega
  have c7 : ¬ cd = cut := by omega
  have hmax : max (((natL d).length : Int) - 3) 0 = (cut : Int) := by omega
  have hmax2 : (if ((natL d).length : Int) - 3 < 0 then (0 : Int) else ((natL d).length : Int) - 3) = (cut : Int) := by split <;> omega
  have hB0 : Below w.heap.size w (w.alloc (.cells #[.slice (some ⟨ga, oa, none⟩) la.length ca] 52)) := (Below.refl _ w).alloc (Nat.le_refl _) _
  have hbox : (w.alloc (.cells #[.slice (some ⟨ga, oa, none⟩) la.length ca] 52)).cell? ⟨w.heap.size, 0, none⟩ = some (.slice (some ⟨ga, oa, none⟩) la.length ca) := by
    rw [(RowAt.new w #[.slice (some ⟨ga, oa, none⟩) la.length ca] 52).cell 0]; rfl
  have hz0 : (w.alloc (.cells #[.slice (some ⟨ga, oa, none⟩) la.length ca] 52)).heap.size = w.heap.size + 1 := World.size_alloc _ _
  have HAS : Shut _ := ⟨And.intro hAS hDS⟩
  have HLA : Shut _ := ⟨hla⟩
  have HGF : Shut (∀ (Wg : World) (lo hi : Nat), Below w.heap.size w Wg → Wg.cell? ⟨w.heap.size + 1, 0, none⟩ = some (.func (Fn.func 67) #[.slice (some ⟨gd, od, none⟩) (natL d).length cd] #[]) → Wg.cell? ⟨w.heap.size, 0, none⟩ = some (.slice (some ⟨ga, oa, none⟩) la.length ca) → lo ≤ q → q ≤ hi → hi ≤ 10000 → Calls Try.prog 72 #[.int .u64 lo, .int .u64 hi, .func (Fn.func 87) #[] #[.pointer (some ⟨w.heap.size + 1, 0, none⟩), .pointer (some ⟨w.heap.size, 0, none⟩)]] Wg fun e w' => e = .returned (.int .u64 q) ∧ Below Wg.heap.size Wg w') := ⟨fun Wg lo hi hW k1 k2 h1 h2 h3 => by
    refine greatF_any lo hi q (w.heap.size + 1) w.heap.size h1 h2 (by omega) Wg (fun W f hf hle => ?_)
    have hB := hW.trans (hf.mono hW.size)
    have := fits_any d f (by omega) (some ⟨gd, od, none⟩) cd la hla (some ⟨ga, oa, none⟩) ca (w.heap.size + 1) w.heap.size W ((hf.cell (p := ⟨w.heap.size + 1, 0, none⟩) (World.block_lt_of_cell? Wg _ k1)).trans k1) ((hf.cell (p := ⟨w.heap.size, 0, none⟩) (World.block_lt_of_cell? Wg _ k2)).trans k2) (hDS.below hB (Nat.le_refl _)) (hAS.below hB (Nat.le_refl _)) hl3 (by omega)
    rw [HFD.o f] at this
    exact this⟩
  obtain ⟨lo, hlo⟩ : ∃ lo, lo = above / (below + 1) := ⟨_, rfl⟩
  obtain ⟨hi, hhi⟩ : ∃ hi, hi = above / below := ⟨_, rfl⟩
  rw [← hlo] at hlow
  rw [← hhi] at hhigh htop hqe0
  have hloi : ((above : Int) / ((below : Int) + 1)) = (lo : Int) := by rw [hlo]; rfl
  have hhii : ((above : Int) / (below : Int)) = (hi : Int) := by rw [hhi]; rfl
  have hb0 : ((below : Int) == 0) = false := by rw [beq_eq_false_iff_ne]; omega
  have hb1 : ((below : Int) + 1 == 0) = false := by rw [beq_eq_false_iff_ne]; omega
  have hb2 : (below : Int) ≠ 0 := by omega
  have hb3 : (below : Int) + 1 ≠ 0 := by omega
  have HCZ2 : Shut _ := ⟨hqe0⟩
  clear hlo hhi
  clear hcz hqe0 hqe ha1 hd1 hA hD hAS hDS hua hud hP hge hbig hcut hq hla
  go_enter Try.func86, Try.ntmps86
  go_upto_region 2 with fail
  generalize w.alloc (.cells #[.slice (some ⟨ga, oa, none⟩) la.length ca] 52) = W0 at *
  have d1 := cw1 W0.drew hB0.drew
  have d2 := cw2 W0.drew hB0.drew
  go_region_held3 (fun w' => w'.cell? ⟨w.heap.size, 0, none⟩ = some (.slice (some ⟨ga, oa, none⟩) la.length ca)) (go_keep) (first | (go_at_call_of 60 (Value.slice (some ⟨ga, oa + cut, none⟩) (la.length - cut) (ca - cut)); refine d1.mono ?_; rintro e w1 ⟨rfl, rfl⟩) | (go_at_call_of 60 (Value.slice (some ⟨gd, od + cut, none⟩) ((natL d).length - cut) (cd - cut)); refine d2.mono ?_; rintro e w2 ⟨rfl, rfl⟩))
  clear d1 d2 cw1 cw2
  have hB1 := hB0.drew
  have hbox1 : W0.drew.cell? ⟨w.heap.size, 0, none⟩ = some (.slice (some ⟨ga, oa, none⟩) la.length ca) := hbox
  have hz1 : W0.drew.heap.size = w.heap.size + 1 := hz0
  generalize W0.drew = W1 at *
  go_upto_region 3 with fail
  go_quiet (fail)
  generalize hW2 : W1.drewN nq = W2 at *
  have hB2 : Below w.heap.size w W2 := by rw [← hW2]; exact below_drewN hB1 nq
  have hbox2 : W2.cell? ⟨w.heap.size, 0, none⟩ = some (.slice (some ⟨ga, oa, none⟩) la.length ca) := by rw [← hW2]; exact hbox1
  have hz2 : W2.heap.size = w.heap.size + 1 := by rw [← hW2]; exact hz1
  obtain ⟨Wg, hst, hBn, k1⟩ := store_func W2 (.func (Fn.func 67) #[.slice (some ⟨gd, od, none⟩) (natL d).length cd] #[]) rfl
  have hBg := hB2.trans (hBn.mono hB2.size)
  rw [hz2] at k1
  have k2 := (hBn.cell (p := ⟨w.heap.size, 0, none⟩) (by rw [hz2]; exact Nat.lt_succ_self _)).trans hbox2
  have hwq : IntKind.u32.wrap (q : Int) = (q : Int) := by rw [wrapU32]; omega
  have HZ2 : Shut _ := ⟨hz2⟩
  clear hW2 hB1 hbox1 hz1 hbox hB0 hz0 hBn hz2
  by_cases hc0 : cut = 0
  · have hcz : ((cut : Int) == 0) = true := by rw [beq_iff_eq]; omega
    have HQH : Shut _ := ⟨HCZ2.o hc0⟩
    clear hc0
    go_upto_region 7 with fail
    have cG := HGF.o Wg hi hi hBg k1 k2 (Nat.le_of_eq HQH.o) (by omega) (by omega)
    rw [← HZ2.o] at cG
    go_wp2_with (go_at_call 72; refine cG.mono ?_; rintro e w9 ⟨rfl, hB9⟩)
    go_ret
    exact ⟨rfl, hBg.trans (hB9.mono hBg.size)⟩
  · have hcz : ((cut : Int) == 0) = false := by rw [beq_eq_false_iff_ne]; omega
    clear hc0
    go_upto_region 7 with fail
    have cG := HGF.o Wg lo hi hBg k1 k2 hlow hhigh htop
    rw [← HZ2.o] at cG
    go_wp2_with (go_at_call 72; refine cG.mono ?_; rintro e w9 ⟨rfl, hB9⟩)
    go_ret
    exact ⟨rfl, hBg.trans (hB9.mono hBg.size)⟩
end Go.Proofs.Yteaecpmdooolkaa
