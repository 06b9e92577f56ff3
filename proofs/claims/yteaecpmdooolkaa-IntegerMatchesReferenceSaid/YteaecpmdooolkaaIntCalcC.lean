/-
  Contracts: calculate, Gcd, Root.
-/
import Derived.Test.YteaecpmdooolkaaIntFrom
import Derived.Test.YteaecpmdooolkaaIntRoot
namespace Go.Proofs.Yteaecpmdooolkaa
open Go.RowKit Nm

set_option maxHeartbeats 2000000 in
theorem numGcd_any (x y : Int) (u v : Value) (w : World) (hx : IsN w u x) (hy : IsN w v y) (hg : GcdC x.natAbs y.natAbs) :
    Calls Try.prog 53 #[u, v] w fun e w' => ∃ r, e = .returned r ∧ IsN w' r ((Nat.gcd x.natAbs y.natAbs : Nat) : Int) ∧ Below w.heap.size w w' := by
  obtain ⟨p, cap, rfl, hN⟩ := hx
  obtain ⟨q, cap', rfl, hN'⟩ := hy
  have HB0 : Shut _ := ⟨box3_below w #[.bool (decide (x < 0)), .slice p (natL x.natAbs).length cap] #[.bool (decide (y < 0)), .slice q (natL y.natAbs).length cap'] #[.bool false, .slice none 0 0]⟩
  obtain ⟨r1, r2, r3⟩ := box3_row w #[.bool (decide (x < 0)), .slice p (natL x.natAbs).length cap] #[.bool (decide (y < 0)), .slice q (natL y.natAbs).length cap'] #[.bool false, .slice none 0 0]
  go_enter Try.func53, Try.ntmps53
  go_upto_region 1 with fail
  rw [show ((w.alloc (.cells #[.bool (decide (x < 0)), .slice p (natL x.natAbs).length cap] 54)).alloc (.cells #[.bool (decide (y < 0)), .slice q (natL y.natAbs).length cap'] 54)).alloc (.cells #[.bool false, .slice none 0 0] 54) = box3 w #[.bool (decide (x < 0)), .slice p (natL x.natAbs).length cap] #[.bool (decide (y < 0)), .slice q (natL y.natAbs).length cap'] #[.bool false, .slice none 0 0] from rfl]
  generalize box3 w #[.bool (decide (x < 0)), .slice p (natL x.natAbs).length cap] #[.bool (decide (y < 0)), .slice q (natL y.natAbs).length cap'] #[.bool false, .slice none 0 0] = W0 at *
  obtain ⟨a1, a2, _, _⟩ := keepNum r1 (Below.refl _ W0)
  obtain ⟨b1, b2, _, _⟩ := keepNum r2 (Below.refl _ W0)
  have ct := hg _ _ W0 (hN.below HB0.o (Nat.le_refl _)) (hN'.below HB0.o (Nat.le_refl _))
  have HR3 : Shut _ := ⟨r3⟩
  have n1 : ¬ (w.heap.size = w.heap.size + 1 + 1) := by omega
  have n2 : ¬ (w.heap.size + 1 + 1 = w.heap.size) := by omega
  clear r1 r2 r3 hN hN' hg
  go_wp2_with (go_at_call 70; refine ct.mono ?_; rintro e w1 ⟨v1, rfl, hv1, hB1⟩; obtain ⟨p1, cp1, rfl, hv1'⟩ := hv1.out; obtain ⟨g1, g2, g3, g4⟩ := keepNum HR3.o hB1)
  have hF := ((HB0.o.trans (hB1.mono HB0.o.size)).setCell (p := ⟨w.heap.size + 1 + 1, 0, none⟩) (by show w.heap.size ≤ w.heap.size + 1 + 1; omega) (.bool false)).setCell (p := ⟨w.heap.size + 1 + 1, 1, none⟩) (by show w.heap.size ≤ w.heap.size + 1 + 1; omega) (.slice p1 (natL (Nat.gcd x.natAbs y.natAbs)).length cp1)
  have hv2 := hv1.setNum2 (RowAt.below HR3.o hB1 (RowAt.lt HR3.o)) (fun _ _ => by simp) (fun _ _ => by simp) false (.slice p1 (natL (Nat.gcd x.natAbs y.natAbs)).length cp1)
  refine bodyPost_ret (v := .agg #[.bool false, .slice p1 (natL (Nat.gcd x.natAbs y.natAbs)).length cp1]) (by simp [results, Try.results53, go_sem, g1, g2]) rfl ⟨_, rfl, ⟨p1, cp1, by rw [Int.natAbs_natCast, decide_eq_false (by omega)], by rw [Int.natAbs_natCast]; exact hv2⟩, hF⟩
theorem fits_gcd {x y : Int} (hx : Fits x) (hy : Fits y) : (natL ((Nat.gcd x.natAbs y.natAbs : Nat) : Int).natAbs).length ≤ 1000 := by
  have h1 := fits_lt hx
  have h2 := fits_lt hy
  rw [Int.natAbs_natCast]
  refine lt_len (Nat.lt_of_lt_of_le ?_ p200)
  generalize (10 : Nat) ^ 200 = P at *
  rcases Nat.eq_zero_or_pos x.natAbs with h | h
  · rw [h, Nat.gcd_zero_left]; omega
  · have := Nat.gcd_le_left y.natAbs h; omega

set_option maxHeartbeats 2000000 in
theorem calcGcd_ok (x y : Int) (hx : Fits x) (hy : Fits y) (hg : GcdC x.natAbs y.natAbs) (w : World) :
    Calls Try.prog 38 #[.string (txt x), .string (txt y), .func (Fn.func 53) #[] #[]] w fun e w' => e = .returned (calcR (((Nat.gcd x.natAbs y.natAbs : Nat) : Int))) ∧ Below w.heap.size w w' := by
  have hlx := fits_len hx
  have hly := fits_len hy
  have hsx := txt_size hx
  have hsy := txt_size hy
  have cp := fun W => parseBoth_any (txt x) (txt y) (by omega) (by omega) W
  rw [valid_txt x hx, valid_txt y hy, Bool.true_and] at cp
  have hle : (natL (((Nat.gcd x.natAbs y.natAbs : Nat) : Int)).natAbs).length ≤ 1000 := fits_gcd hx hy
  have ct := fun (r : Value) (W : World) (h : IsN W r (((Nat.gcd x.natAbs y.natAbs : Nat) : Int))) => text_any (((Nat.gcd x.natAbs y.natAbs : Nat) : Int)) r W h hle
  have cv := fun W => Valid_any (txt (((Nat.gcd x.natAbs y.natAbs : Nat) : Int))) (txt_size2 hle) W
  rw [valid_iff] at cv
  have HX : Shut _ := ⟨And.intro hx hy⟩
  have co := fun (u v : Value) (W : World) (h1 : IsN W u x) (h2 : IsN W v y) => numGcd_any x y u v W h1 h2 hg
  generalize hex : txt x = sx at *
  generalize hey : txt y = sy at *
  have HEX : Shut _ := ⟨And.intro hex hey⟩
  clear hex hey hx hy
  go_enter Try.func38, Try.ntmps38
  go_upto_region 2 with (go_at_call 46; refine (cp _).mono ?_; rintro e w1 ⟨b, p, n, c, b', p', n', c', rfl, hz1, hz2, hB1⟩)
  have hi1 := hz1 x HEX.o.1.symm HX.o.1
  have hi2 := hz2 y HEX.o.2.symm HX.o.2
  have hB2 : Below w1.heap.size w1 ((w1.alloc (.cells #[.bool b, .slice p n c] 54)).alloc (.cells #[.bool b', .slice p' n' c'] 54)) := ((Below.refl _ w1).alloc (Nat.le_refl _) _).alloc (by rw [World.size_alloc]; omega) _
  have hj1 := hi1.below hB2 (Nat.le_refl _)
  have hj2 := hi2.below hB2 (Nat.le_refl _)
  clear hz1 hz2 hi1 hi2
  have HJ : Shut _ := ⟨And.intro hj1 hj2⟩
  clear hj1 hj2
  by_cases hf : Fits (((Nat.gcd x.natAbs y.natAbs : Nat) : Int))
  · have HF : Shut _ := ⟨hf⟩
    rw [decide_eq_true hf] at cv
    clear hf
    go_wp2_with (first | (go_at_call 53; refine (co _ _ _ HJ.o.1 HJ.o.2).mono ?_; rintro e w2 ⟨r2, rfl, hr2, hB3⟩) | (go_at_call 49; refine (ct _ _ hr2).mono ?_; rintro e w3 ⟨rfl, hB4⟩) | (go_at_call 29; refine (cv _).mono ?_; rintro e w4 ⟨rfl, m4, rfl⟩))
    go_ret2
    have h5 := hB2.trans ((hB3.trans (hB4.mono hB3.size)).mono hB2.size)
    exact ⟨by rw [calcR_fit HF.o]; rfl, below_drewN (hB1.trans (h5.mono hB1.size)) m4⟩
  · have HF : Shut _ := ⟨hf⟩
    rw [decide_eq_false hf] at cv
    clear hf
    go_wp2_with (first | (go_at_call 53; refine (co _ _ _ HJ.o.1 HJ.o.2).mono ?_; rintro e w2 ⟨r2, rfl, hr2, hB3⟩) | (go_at_call 49; refine (ct _ _ hr2).mono ?_; rintro e w3 ⟨rfl, hB4⟩) | (go_at_call 29; refine (cv _).mono ?_; rintro e w4 ⟨rfl, m4, rfl⟩))
    go_ret2
    have h5 := hB2.trans ((hB3.trans (hB4.mono hB3.size)).mono hB2.size)
    exact ⟨by rw [calcR_not HF.o]; rfl, below_drewN (hB1.trans (h5.mono hB1.size)) m4⟩

set_option maxHeartbeats 1000000 in
theorem Gcd_ok (x y : Int) (hx : Fits x) (hy : Fits y) (hg : GcdC x.natAbs y.natAbs) (w : World) :
    Calls Try.prog 23 #[.string (txt x), .string (txt y)] w fun e w' => e = .returned (calcR (((Nat.gcd x.natAbs y.natAbs : Nat) : Int))) ∧ Below w.heap.size w w' := by
  have cc := calcGcd_ok x y hx hy hg w
  generalize txt x = sx at *
  generalize txt y = sy at *
  by_cases hf : Fits (((Nat.gcd x.natAbs y.natAbs : Nat) : Int))
  · have HF : Shut _ := ⟨calcR_fit hf⟩
    rw [calcR_fit hf] at cc
    clear hf
    go_enter Try.func23, Try.ntmps23
    go_wp2_with (go_at_call 38; refine cc.mono ?_; rintro e w1 ⟨rfl, hB1⟩)
    go_ret2
    exact ⟨by rw [HF.o]; rfl, hB1⟩
  · have HF : Shut _ := ⟨calcR_not hf⟩
    rw [calcR_not hf] at cc
    clear hf
    go_enter Try.func23, Try.ntmps23
    go_wp2_with (go_at_call 38; refine cc.mono ?_; rintro e w1 ⟨rfl, hB1⟩)
    go_ret2
    exact ⟨by rw [HF.o]; rfl, hB1⟩
set_option maxHeartbeats 1000000 in
theorem Gcd_bad (s t : ByteArray) (hs : s.size ≤ 1000000) (ht : t.size ≤ 1000000) (h : (validB s && validB t) = false) (w : World) :
    Calls Try.prog 23 #[.string s, .string t] w fun e w' => e = .returned (.tuple #[.string ⟨#[]⟩, .int .i64 30]) ∧ Below w.heap.size w w' := by
  have cc := fun f => calc_bad s t hs ht h f w
  go_enter Try.func23, Try.ntmps23
  go_wp2_with (go_at_call 38; refine (cc _).mono ?_; rintro e w1 ⟨rfl, hB1⟩)
  go_ret2
  exact ⟨rfl, hB1⟩

set_option maxHeartbeats 1000000 in
theorem Root_ok (z : Int) (hz : Fits z) (h0 : 0 ≤ z) (hr : RootC z.natAbs) (w : World) :
    Calls Try.prog 25 #[.string (txt z)] w fun e w' => e = .returned (.tuple #[.string (txt (sqr z.natAbs : Nat)), .int .i64 0]) ∧ Below w.heap.size w w' := by
  have cp := fun W => parse_ok z hz W
  have hd : decide (z < 0) = false := decide_eq_false (by omega)
  have hsl : (natL (sqr z.natAbs)).length ≤ 1000 := by
    have h1 := (sqr_spec z.natAbs).1
    have h2 := fits_lt hz
    refine lt_len (Nat.lt_of_lt_of_le ?_ p200)
    rcases Nat.eq_zero_or_pos (sqr z.natAbs) with h | h
    · rw [h]; generalize (10 : Nat) ^ 200 = P at *; omega
    · have := Nat.le_mul_of_pos_left (sqr z.natAbs) h
      generalize (10 : Nat) ^ 200 = P at *
      omega
  have ct := fun (u : Value) (W : World) (h : IsN W u ((sqr z.natAbs : Nat) : Int)) => text_any ((sqr z.natAbs : Nat) : Int) u W h (by rw [Int.natAbs_natCast]; exact hsl)
  have HI : Shut (∀ (W : World) (v : Value), NA W v (natL (sqr z.natAbs)) → ∃ p c, v = .slice p (natL (sqr z.natAbs)).length c ∧ IsN W (.agg #[.bool false, .slice p (natL (sqr z.natAbs)).length c]) ((sqr z.natAbs : Nat) : Int)) := ⟨fun W v h => by
    obtain ⟨p, c, rfl, h2⟩ := h.out
    exact ⟨p, c, rfl, p, c, by rw [Int.natAbs_natCast, decide_eq_false (by omega)], by rw [Int.natAbs_natCast]; exact h2⟩⟩
  generalize txt z = s at *
  generalize ht : txt ((sqr z.natAbs : Nat) : Int) = t at *
  go_enter Try.func25, Try.ntmps25
  go_upto_region 2 with (go_at_call 54; refine (cp _).mono ?_; rintro e w1 ⟨u, rfl, ⟨p, c, rfl, hn⟩, hB1⟩)
  have hB2 : Below w1.heap.size w1 (w1.alloc (.cells #[.bool false, .slice p (natL z.natAbs).length c] 54)) := (Below.refl _ _).alloc (Nat.le_refl _) _
  have cr := hr _ _ (hn.below hB2 (Nat.le_refl _))
  have HB1 : Shut _ := ⟨hB1⟩
  clear hn hr hd
  go_wp2_with (first | (go_at_call 55; refine cr.mono ?_; rintro e w3 ⟨v3, rfl, hv3, hB3⟩; obtain ⟨p3, c3, rfl, hi3⟩ := HI.o _ _ hv3) | (go_at_call 49; refine (ct _ _ hi3).mono ?_; rintro e w4 ⟨rfl, hB4⟩))
  go_ret2
  have h5 := hB2.trans ((hB3.trans (hB4.mono hB3.size)).mono hB2.size)
  exact ⟨rfl, HB1.o.trans (h5.mono HB1.o.size)⟩
set_option maxHeartbeats 1000000 in
theorem Root_neg (z : Int) (hz : Fits z) (h0 : z < 0) (w : World) :
    Calls Try.prog 25 #[.string (txt z)] w fun e w' => e = .returned (.tuple #[.string ⟨#[]⟩, .int .i64 30]) ∧ Below w.heap.size w w' := by
  have cp := fun W => parse_ok z hz W
  have hd : decide (z < 0) = true := decide_eq_true h0
  generalize txt z = s at *
  go_enter Try.func25, Try.ntmps25
  go_upto_region 2 with (go_at_call 54; refine (cp _).mono ?_; rintro e w1 ⟨u, rfl, ⟨p, c, rfl, hn⟩, hB1⟩)
  clear hn hd
  go_wp2
  go_ret2
  exact ⟨rfl, hB1.alloc hB1.size _⟩
end Go.Proofs.Yteaecpmdooolkaa
