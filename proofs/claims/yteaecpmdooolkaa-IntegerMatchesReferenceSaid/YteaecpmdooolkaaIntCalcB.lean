/-
  Contracts: calculate, Sub, Mul.
-/
import Derived.Test.YteaecpmdooolkaaIntCalcA
namespace Go.Proofs.Yteaecpmdooolkaa
open Go.RowKit Nm

set_option maxHeartbeats 2000000 in
theorem calcSub_ok (x y : Int) (hx : Fits x) (hy : Fits y) (w : World) :
    Calls Try.prog 38 #[.string (txt x), .string (txt y), .func (Fn.func 42) #[] #[]] w fun e w' => e = .returned (calcR (x - y)) ∧ Below w.heap.size w w' := by
  have hlx := fits_len hx
  have hly := fits_len hy
  have hsx := txt_size hx
  have hsy := txt_size hy
  have cp := fun W => parseBoth_any (txt x) (txt y) (by omega) (by omega) W
  rw [valid_txt x hx, valid_txt y hy, Bool.true_and] at cp
  have hle : (natL (x - y).natAbs).length ≤ 1000 := fits_sub hx hy
  have ct := fun (r : Value) (W : World) (h : IsN W r (x - y)) => text_any (x - y) r W h hle
  have cv := fun W => Valid_any (txt (x - y)) (txt_size2 hle) W
  rw [valid_iff] at cv
  have HX : Shut _ := ⟨And.intro hx hy⟩
  have co := fun (u v : Value) (W : World) (h1 : IsN W u x) (h2 : IsN W v y) => numMinus_any x y u v W h1 h2 (by omega) (by omega)
  generalize hex : txt x = sx at *
  generalize hey : txt y = sy at *
  have HEX : Shut _ := ⟨And.intro hex hey⟩
  clear hex hey hx hy
  go_enter Try.func38, Try.ntmps38
  go_upto_region 2 with (go_at_call 46; refine (cp _).mono ?_; rintro e w1 ⟨b, p, n, c, b', p', n', c', rfl, hz1, hz2, hB1⟩)
  have hi1 := hz1 x HEX.o.1.symm HX.o.1
  have hi2 := hz2 y HEX.o.2.symm HX.o.2
  have hB2 : Below w1.heap.size w1 ((w1.alloc (.cells #[.bool b, .slice p n c] 54)).alloc (.cells #[.bool b', .slice p' n' c'] 54)) := ((Below.refl _ w1).alloc (Nat.le_refl _) _).alloc (by rw [World.size_alloc]; omega) _
  have hj1 := hi1.below hB2 (Nat.le_refl _)
  have hj2 := hi2.below hB2 (Nat.le_refl _)
  clear hz1 hz2 hi1 hi2
  have HJ : Shut _ := ⟨And.intro hj1 hj2⟩
  clear hj1 hj2
  by_cases hf : Fits (x - y)
  · have HF : Shut _ := ⟨hf⟩
    rw [decide_eq_true hf] at cv
    clear hf
    go_wp2_with (first | (go_at_call 42; refine (co _ _ _ HJ.o.1 HJ.o.2).mono ?_; rintro e w2 ⟨r2, rfl, hr2, hB3⟩) | (go_at_call 49; refine (ct _ _ hr2).mono ?_; rintro e w3 ⟨rfl, hB4⟩) | (go_at_call 29; refine (cv _).mono ?_; rintro e w4 ⟨rfl, m4, rfl⟩))
    go_ret2
    have h5 := hB2.trans ((hB3.trans (hB4.mono hB3.size)).mono hB2.size)
    exact ⟨by rw [calcR_fit HF.o]; rfl, below_drewN (hB1.trans (h5.mono hB1.size)) m4⟩
  · have HF : Shut _ := ⟨hf⟩
    rw [decide_eq_false hf] at cv
    clear hf
    go_wp2_with (first | (go_at_call 42; refine (co _ _ _ HJ.o.1 HJ.o.2).mono ?_; rintro e w2 ⟨r2, rfl, hr2, hB3⟩) | (go_at_call 49; refine (ct _ _ hr2).mono ?_; rintro e w3 ⟨rfl, hB4⟩) | (go_at_call 29; refine (cv _).mono ?_; rintro e w4 ⟨rfl, m4, rfl⟩))
    go_ret2
    have h5 := hB2.trans ((hB3.trans (hB4.mono hB3.size)).mono hB2.size)
    exact ⟨by rw [calcR_not HF.o]; rfl, below_drewN (hB1.trans (h5.mono hB1.size)) m4⟩

set_option maxHeartbeats 2000000 in
theorem calcMul_ok (x y : Int) (hx : Fits x) (hy : Fits y) (w : World) :
    Calls Try.prog 38 #[.string (txt x), .string (txt y), .func (Fn.func 43) #[] #[]] w fun e w' => e = .returned (calcR (x * y)) ∧ Below w.heap.size w w' := by
  have hlx := fits_len hx
  have hly := fits_len hy
  have hsx := txt_size hx
  have hsy := txt_size hy
  have cp := fun W => parseBoth_any (txt x) (txt y) (by omega) (by omega) W
  rw [valid_txt x hx, valid_txt y hy, Bool.true_and] at cp
  have hle : (natL (x * y).natAbs).length ≤ 1000 := fits_mul hx hy
  have ct := fun (r : Value) (W : World) (h : IsN W r (x * y)) => text_any (x * y) r W h hle
  have cv := fun W => Valid_any (txt (x * y)) (txt_size2 hle) W
  rw [valid_iff] at cv
  have HX : Shut _ := ⟨And.intro hx hy⟩
  have co := fun (u v : Value) (W : World) (h1 : IsN W u x) (h2 : IsN W v y) => numTimes_any x y u v W h1 h2 (by omega) (by omega)
  generalize hex : txt x = sx at *
  generalize hey : txt y = sy at *
  have HEX : Shut _ := ⟨And.intro hex hey⟩
  clear hex hey hx hy
  go_enter Try.func38, Try.ntmps38
  go_upto_region 2 with (go_at_call 46; refine (cp _).mono ?_; rintro e w1 ⟨b, p, n, c, b', p', n', c', rfl, hz1, hz2, hB1⟩)
  have hi1 := hz1 x HEX.o.1.symm HX.o.1
  have hi2 := hz2 y HEX.o.2.symm HX.o.2
  have hB2 : Below w1.heap.size w1 ((w1.alloc (.cells #[.bool b, .slice p n c] 54)).alloc (.cells #[.bool b', .slice p' n' c'] 54)) := ((Below.refl _ w1).alloc (Nat.le_refl _) _).alloc (by rw [World.size_alloc]; omega) _
  have hj1 := hi1.below hB2 (Nat.le_refl _)
  have hj2 := hi2.below hB2 (Nat.le_refl _)
  clear hz1 hz2 hi1 hi2
  have HJ : Shut _ := ⟨And.intro hj1 hj2⟩
  clear hj1 hj2
  by_cases hf : Fits (x * y)
  · have HF : Shut _ := ⟨hf⟩
    rw [decide_eq_true hf] at cv
    clear hf
    go_wp2_with (first | (go_at_call 43; refine (co _ _ _ HJ.o.1 HJ.o.2).mono ?_; rintro e w2 ⟨r2, rfl, hr2, hB3⟩) | (go_at_call 49; refine (ct _ _ hr2).mono ?_; rintro e w3 ⟨rfl, hB4⟩) | (go_at_call 29; refine (cv _).mono ?_; rintro e w4 ⟨rfl, m4, rfl⟩))
    go_ret2
    have h5 := hB2.trans ((hB3.trans (hB4.mono hB3.size)).mono hB2.size)
    exact ⟨by rw [calcR_fit HF.o]; rfl, below_drewN (hB1.trans (h5.mono hB1.size)) m4⟩
  · have HF : Shut _ := ⟨hf⟩
    rw [decide_eq_false hf] at cv
    clear hf
    go_wp2_with (first | (go_at_call 43; refine (co _ _ _ HJ.o.1 HJ.o.2).mono ?_; rintro e w2 ⟨r2, rfl, hr2, hB3⟩) | (go_at_call 49; refine (ct _ _ hr2).mono ?_; rintro e w3 ⟨rfl, hB4⟩) | (go_at_call 29; refine (cv _).mono ?_; rintro e w4 ⟨rfl, m4, rfl⟩))
    go_ret2
    have h5 := hB2.trans ((hB3.trans (hB4.mono hB3.size)).mono hB2.size)
    exact ⟨by rw [calcR_not HF.o]; rfl, below_drewN (hB1.trans (h5.mono hB1.size)) m4⟩

set_option maxHeartbeats 1000000 in
theorem calc_bad (s t : ByteArray) (hs : s.size ≤ 1000000) (ht : t.size ≤ 1000000) (h : (validB s && validB t) = false) (f : Value) (w : World) :
    Calls Try.prog 38 #[.string s, .string t, f] w fun e w' => e = .returned (.tuple #[.string ⟨#[]⟩, .int .i64 30]) ∧ Below w.heap.size w w' := by
  have cp := fun W => parseBoth_any s t hs ht W
  rw [h] at cp
  go_enter Try.func38, Try.ntmps38
  go_wp2_with (go_at_call 46; refine (cp _).mono ?_; rintro e w1 ⟨b, p, n, c, b', p', n', c', rfl, hz1, hz2, hB1⟩)
  go_ret2
  exact ⟨rfl, (hB1.alloc hB1.size _).alloc (by rw [World.size_alloc]; have := hB1.size; omega) _⟩

set_option maxHeartbeats 1000000 in
theorem Add_ok (x y : Int) (hx : Fits x) (hy : Fits y) (w : World) :
    Calls Try.prog 15 #[.string (txt x), .string (txt y)] w fun e w' => e = .returned (calcR (x + y)) ∧ Below w.heap.size w w' := by
  have cc := calcAdd_ok x y hx hy w
  generalize txt x = sx at *
  generalize txt y = sy at *
  by_cases hf : Fits (x + y)
  · have HF : Shut _ := ⟨calcR_fit hf⟩
    rw [calcR_fit hf] at cc
    clear hf
    go_enter Try.func15, Try.ntmps15
    go_wp2_with (go_at_call 38; refine cc.mono ?_; rintro e w1 ⟨rfl, hB1⟩)
    go_ret2
    exact ⟨by rw [HF.o]; rfl, hB1⟩
  · have HF : Shut _ := ⟨calcR_not hf⟩
    rw [calcR_not hf] at cc
    clear hf
    go_enter Try.func15, Try.ntmps15
    go_wp2_with (go_at_call 38; refine cc.mono ?_; rintro e w1 ⟨rfl, hB1⟩)
    go_ret2
    exact ⟨by rw [HF.o]; rfl, hB1⟩
set_option maxHeartbeats 1000000 in
theorem Add_bad (s t : ByteArray) (hs : s.size ≤ 1000000) (ht : t.size ≤ 1000000) (h : (validB s && validB t) = false) (w : World) :
    Calls Try.prog 15 #[.string s, .string t] w fun e w' => e = .returned (.tuple #[.string ⟨#[]⟩, .int .i64 30]) ∧ Below w.heap.size w w' := by
  have cc := fun f => calc_bad s t hs ht h f w
  go_enter Try.func15, Try.ntmps15
  go_wp2_with (go_at_call 38; refine (cc _).mono ?_; rintro e w1 ⟨rfl, hB1⟩)
  go_ret2
  exact ⟨rfl, hB1⟩

set_option maxHeartbeats 1000000 in
theorem Sub_ok (x y : Int) (hx : Fits x) (hy : Fits y) (w : World) :
    Calls Try.prog 17 #[.string (txt x), .string (txt y)] w fun e w' => e = .returned (calcR (x - y)) ∧ Below w.heap.size w w' := by
  have cc := calcSub_ok x y hx hy w
  generalize txt x = sx at *
  generalize txt y = sy at *
  by_cases hf : Fits (x - y)
  · have HF : Shut _ := ⟨calcR_fit hf⟩
    rw [calcR_fit hf] at cc
    clear hf
    go_enter Try.func17, Try.ntmps17
    go_wp2_with (go_at_call 38; refine cc.mono ?_; rintro e w1 ⟨rfl, hB1⟩)
    go_ret2
    exact ⟨by rw [HF.o]; rfl, hB1⟩
  · have HF : Shut _ := ⟨calcR_not hf⟩
    rw [calcR_not hf] at cc
    clear hf
    go_enter Try.func17, Try.ntmps17
    go_wp2_with (go_at_call 38; refine cc.mono ?_; rintro e w1 ⟨rfl, hB1⟩)
    go_ret2
    exact ⟨by rw [HF.o]; rfl, hB1⟩
set_option maxHeartbeats 1000000 in
theorem Sub_bad (s t : ByteArray) (hs : s.size ≤ 1000000) (ht : t.size ≤ 1000000) (h : (validB s && validB t) = false) (w : World) :
    Calls Try.prog 17 #[.string s, .string t] w fun e w' => e = .returned (.tuple #[.string ⟨#[]⟩, .int .i64 30]) ∧ Below w.heap.size w w' := by
  have cc := fun f => calc_bad s t hs ht h f w
  go_enter Try.func17, Try.ntmps17
  go_wp2_with (go_at_call 38; refine (cc _).mono ?_; rintro e w1 ⟨rfl, hB1⟩)
  go_ret2
  exact ⟨rfl, hB1⟩

set_option maxHeartbeats 1000000 in
theorem Mul_ok (x y : Int) (hx : Fits x) (hy : Fits y) (w : World) :
    Calls Try.prog 19 #[.string (txt x), .string (txt y)] w fun e w' => e = .returned (calcR (x * y)) ∧ Below w.heap.size w w' := by
  have cc := calcMul_ok x y hx hy w
  generalize txt x = sx at *
  generalize txt y = sy at *
  by_cases hf : Fits (x * y)
  · have HF : Shut _ := ⟨calcR_fit hf⟩
    rw [calcR_fit hf] at cc
    clear hf
    go_enter Try.func19, Try.ntmps19
    go_wp2_with (go_at_call 38; refine cc.mono ?_; rintro e w1 ⟨rfl, hB1⟩)
    go_ret2
    exact ⟨by rw [HF.o]; rfl, hB1⟩
  · have HF : Shut _ := ⟨calcR_not hf⟩
    rw [calcR_not hf] at cc
    clear hf
    go_enter Try.func19, Try.ntmps19
    go_wp2_with (go_at_call 38; refine cc.mono ?_; rintro e w1 ⟨rfl, hB1⟩)
    go_ret2
    exact ⟨by rw [HF.o]; rfl, hB1⟩
set_option maxHeartbeats 1000000 in
theorem Mul_bad (s t : ByteArray) (hs : s.size ≤ 1000000) (ht : t.size ≤ 1000000) (h : (validB s && validB t) = false) (w : World) :
    Calls Try.prog 19 #[.string s, .string t] w fun e w' => e = .returned (.tuple #[.string ⟨#[]⟩, .int .i64 30]) ∧ Below w.heap.size w w' := by
  have cc := fun f => calc_bad s t hs ht h f w
  go_enter Try.func19, Try.ntmps19
  go_wp2_with (go_at_call 38; refine (cc _).mono ?_; rintro e w1 ⟨rfl, hB1⟩)
  go_ret2
  exact ⟨rfl, hB1⟩

set_option maxHeartbeats 1000000 in
theorem Compare_ok (x y : Int) (hx : Fits x) (hy : Fits y) (w : World) :
    Calls Try.prog 31 #[.string (txt x), .string (txt y)] w fun e w' => e = .returned (.int .i64 (cmpZ x y)) ∧ Below w.heap.size w w' := by
  have hlx := fits_len hx
  have hly := fits_len hy
  have hsx := txt_size hx
  have hsy := txt_size hy
  have cp := fun W => parseBoth_any (txt x) (txt y) (by omega) (by omega) W
  rw [valid_txt x hx, valid_txt y hy, Bool.true_and] at cp
  have HX : Shut _ := ⟨And.intro hx hy⟩
  have co := fun (u v : Value) (W : World) (h1 : IsN W u x) (h2 : IsN W v y) => numCompare_any x y u v W h1 h2 (by omega) (by omega)
  generalize hex : txt x = sx at *
  generalize hey : txt y = sy at *
  have HEX : Shut _ := ⟨And.intro hex hey⟩
  clear hex hey hx hy
  go_enter Try.func31, Try.ntmps31
  go_upto_region 2 with (go_at_call 46; refine (cp _).mono ?_; rintro e w1 ⟨b, p, n, c, b', p', n', c', rfl, hz1, hz2, hB1⟩)
  have hi1 := hz1 x HEX.o.1.symm HX.o.1
  have hi2 := hz2 y HEX.o.2.symm HX.o.2
  have hB2 : Below w1.heap.size w1 ((w1.alloc (.cells #[.bool b, .slice p n c] 54)).alloc (.cells #[.bool b', .slice p' n' c'] 54)) := ((Below.refl _ w1).alloc (Nat.le_refl _) _).alloc (by rw [World.size_alloc]; omega) _
  have hj1 := hi1.below hB2 (Nat.le_refl _)
  have hj2 := hi2.below hB2 (Nat.le_refl _)
  clear hz1 hz2 hi1 hi2
  have HJ : Shut _ := ⟨And.intro hj1 hj2⟩
  clear hj1 hj2
  go_wp2_with (go_at_call 62; refine (co _ _ _ HJ.o.1 HJ.o.2).mono ?_; rintro e w2 ⟨rfl, hB3⟩)
  go_ret
  have h5 := hB2.trans (hB3.mono hB2.size)
  exact ⟨rfl, hB1.trans (h5.mono hB1.size)⟩
set_option maxHeartbeats 1000000 in
theorem Compare_bad (s t : ByteArray) (hs : s.size ≤ 1000000) (ht : t.size ≤ 1000000) (h : (validB s && validB t) = false) (w : World) :
    Calls Try.prog 31 #[.string s, .string t] w fun e w' => e = .returned (.int .i64 0) ∧ Below w.heap.size w w' := by
  have cp := fun W => parseBoth_any s t hs ht W
  rw [h] at cp
  go_enter Try.func31, Try.ntmps31
  go_wp2_with (go_at_call 46; refine (cp _).mono ?_; rintro e w1 ⟨b, p, n, c, b', p', n', c', rfl, hz1, hz2, hB1⟩)
  go_ret
  exact ⟨rfl, (hB1.alloc hB1.size _).alloc (by rw [World.size_alloc]; have := hB1.size; omega) _⟩
end Go.Proofs.Yteaecpmdooolkaa
