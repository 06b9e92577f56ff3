/-
  Contracts: Div.
-/
import Derived.Test.YteaecpmdooolkaaIntCalcC
import Derived.Test.YteaecpmdooolkaaIntNumF
namespace Go.Proofs.Yteaecpmdooolkaa
open Go.RowKit Nm

theorem div_le (x y : Int) (hy : y ≠ 0) : (x / y).natAbs ≤ x.natAbs + 1 ∧ (x % y).natAbs ≤ y.natAbs := by
  by_cases hc : x < 0 ∧ 0 < x.natAbs % y.natAbs
  · obtain ⟨_, h2, _, h4⟩ := div_built x y hy _ _ (.inr ⟨hc.1, hc.2, rfl, rfl⟩)
    have := Nat.div_le_self x.natAbs y.natAbs
    omega
  · obtain ⟨_, h2, _, h4⟩ := div_built x y hy _ _ (.inl ⟨hc, rfl, rfl⟩)
    have := Nat.div_le_self x.natAbs y.natAbs
    have := Nat.mod_lt x.natAbs (show 0 < y.natAbs by omega)
    omega
theorem fits_div {x y : Int} (hx : Fits x) (hy : Fits y) (h0 : y ≠ 0) : (natL (x / y).natAbs).length ≤ 1000 ∧ (natL (x % y).natAbs).length ≤ 1000 := by
  have h1 := fits_lt hx
  have h2 := fits_lt hy
  have h3 := div_le x y h0
  have hp : 1 ≤ (10 : Nat) ^ 200 := Nat.pow_pos (by decide)
  refine ⟨lt_len (Nat.lt_of_lt_of_le ?_ p200), lt_len (Nat.lt_of_lt_of_le ?_ p200)⟩
  all_goals generalize (10 : Nat) ^ 200 = P at *
  all_goals omega

set_option maxHeartbeats 800000 in
theorem Div_ok (x y : Int) (hx : Fits x) (hy : Fits y) (h0 : y ≠ 0) (w : World) :
    Calls Try.prog 21 #[.string (txt x), .string (txt y)] w fun e w' => e = .returned (.tuple #[.string (txt (x / y)), .string (txt (x % y)), .int .i64 0]) ∧ Below w.heap.size w w' := by
  have hlx := fits_len hx
  have hly := fits_len hy
  have hsx := txt_size hx
  have hsy := txt_size hy
  have cp := fun W => parseBoth_any (txt x) (txt y) (by omega) (by omega) W
  rw [valid_txt x hx, valid_txt y hy, Bool.true_and] at cp
  have hle := fits_div hx hy h0
  have ct1 := fun (r : Value) (W : World) (h : IsN W r (x / y)) => text_any (x / y) r W h hle.1
  have ct2 := fun (r : Value) (W : World) (h : IsN W r (x % y)) => text_any (x % y) r W h hle.2
  have cz := fun (r : Value) (W : World) (h : IsN W r y) => isZero_any y r W h
  rw [decide_eq_false h0] at cz
  have HX : Shut _ := ⟨And.intro hx hy⟩
  have co := fun (u v : Value) (W : World) (h1 : IsN W u x) (h2 : IsN W v y) => numDiv_any x y u v W h1 h2 (by omega) (by omega) h0
  generalize hex : txt x = sx at *
  generalize hey : txt y = sy at *
  generalize txt (x / y) = sq at *
  generalize txt (x % y) = sr at *
  generalize x / y = Q at *
  generalize x % y = R at *
  have HEX : Shut _ := ⟨And.intro hex hey⟩
  clear hex hey hx hy hle h0
  go_enter Try.func21, Try.ntmps21
  go_upto_region 2 with (go_at_call 46; refine (cp _).mono ?_; rintro e w1 ⟨b, p, n, c, b', p', n', c', rfl, hz1, hz2, hB1⟩)
  have hi1 := hz1 x HEX.o.1.symm HX.o.1
  have hi2 := hz2 y HEX.o.2.symm HX.o.2
  have hB2 : Below w1.heap.size w1 ((w1.alloc (.cells #[.bool b, .slice p n c] 54)).alloc (.cells #[.bool b', .slice p' n' c'] 54)) := ((Below.refl _ w1).alloc (Nat.le_refl _) _).alloc (by rw [World.size_alloc]; omega) _
  have hj1 := hi1.below hB2 (Nat.le_refl _)
  have hj2 := hi2.below hB2 (Nat.le_refl _)
  have HJ : Shut _ := ⟨And.intro hj1 hj2⟩
  have r1 := (RowAt.new w1 #[.bool b, .slice p n c] 54).alloc (.cells #[.bool b', .slice p' n' c'] 54)
  have r2 := box2 w1 (.cells #[.bool b, .slice p n c] 54) (.bool b') (.slice p' n' c')
  clear hz1 hz2 hi1 hi2 hj1 hj2
  generalize (w1.alloc (.cells #[.bool b, .slice p n c] 54)).alloc (.cells #[.bool b', .slice p' n' c'] 54) = W1 at *
  obtain ⟨a1, a2, a3, a4⟩ := keepNum r1 (Below.refl _ W1)
  obtain ⟨b1, b2, b3, b4⟩ := keepNum r2 (Below.refl _ W1)
  have HR1 : Shut _ := ⟨r1⟩
  have HR2 : Shut _ := ⟨r2⟩
  clear r1 r2
  go_wp2_with (first | (go_at_call 47; refine (cz _ _ HJ.o.2).mono ?_; rintro e w2 ⟨rfl, hB3⟩; obtain ⟨c1, c2, _, _⟩ := keepNum HR1.o hB3; obtain ⟨d1, d2, _, _⟩ := keepNum HR2.o hB3) | (go_at_call 48; refine (co _ _ _ (HJ.o.1.below hB3 (Nat.le_refl _)) (HJ.o.2.below hB3 (Nat.le_refl _))).mono ?_; rintro e w3 ⟨u3, v3, rfl, hu3, hv3, hB4⟩; obtain ⟨p3, c3, rfl, hu3'⟩ := hu3; obtain ⟨p4, c4, rfl, hv3'⟩ := hv3))
  have hB5 : Below w3.heap.size w3 ((w3.alloc (.cells #[.bool (decide (Q < 0)), .slice p3 (natL Q.natAbs).length c3] 54)).alloc (.cells #[.bool (decide (R < 0)), .slice p4 (natL R.natAbs).length c4] 54)) := ((Below.refl _ w3).alloc (Nat.le_refl _) _).alloc (by rw [World.size_alloc]; omega) _
  have r3 := (RowAt.new w3 #[.bool (decide (Q < 0)), .slice p3 (natL Q.natAbs).length c3] 54).alloc (.cells #[.bool (decide (R < 0)), .slice p4 (natL R.natAbs).length c4] 54)
  have r4 := box2 w3 (.cells #[.bool (decide (Q < 0)), .slice p3 (natL Q.natAbs).length c3] 54) (.bool (decide (R < 0))) (.slice p4 (natL R.natAbs).length c4)
  have hq : IsN w3 (.agg #[.bool (decide (Q < 0)), .slice p3 (natL Q.natAbs).length c3]) Q := ⟨p3, c3, rfl, hu3'⟩
  have hr : IsN w3 (.agg #[.bool (decide (R < 0)), .slice p4 (natL R.natAbs).length c4]) R := ⟨p4, c4, rfl, hv3'⟩
  have HQ : Shut _ := ⟨And.intro hq hr⟩
  have HB5 : Shut _ := ⟨hB5⟩
  clear hq hr hu3' hv3' a1 a2 a3 a4 b1 b2 b3 b4 c1 c2 d1 d2 co cz cp hB5
  generalize (w3.alloc (.cells #[.bool (decide (Q < 0)), .slice p3 (natL Q.natAbs).length c3] 54)).alloc (.cells #[.bool (decide (R < 0)), .slice p4 (natL R.natAbs).length c4] 54) = W3 at *
  obtain ⟨a1, a2, a3, a4⟩ := keepNum r3 (Below.refl _ W3)
  obtain ⟨b1, b2, b3, b4⟩ := keepNum r4 (Below.refl _ W3)
  have HR3 : Shut _ := ⟨r3⟩
  have HR4 : Shut _ := ⟨r4⟩
  have hdr : Below W3.heap.size W3 W3.drew := (Below.refl _ _).drew
  have HD : Shut _ := ⟨hdr⟩
  clear r3 r4 hdr
  go_region_held3 (fun w' => w'.cell? ⟨w3.heap.size, 0, none⟩ = some (.bool (decide (Q < 0))) ∧ w'.cell? ⟨w3.heap.size, 1, none⟩ = some (.slice p3 (natL Q.natAbs).length c3) ∧ w'.cell? ⟨w3.heap.size + 1, 0, none⟩ = some (.bool (decide (R < 0))) ∧ w'.cell? ⟨w3.heap.size + 1, 1, none⟩ = some (.slice p4 (natL R.natAbs).length c4)) (go_keep) (first | (go_at_call_of 49 (Value.agg #[.bool (decide (Q < 0)), .slice p3 (natL Q.natAbs).length c3]); refine (ct1 _ W3.drew (HQ.o.1.below (HB5.o.trans (HD.o.mono HB5.o.size)) (Nat.le_refl _))).mono ?_; rintro e w4 ⟨rfl, hB6⟩; have hB6' := HD.o.trans (hB6.mono HD.o.size); obtain ⟨e1, e2, _, _⟩ := keepNum HR3.o hB6'; obtain ⟨f1, f2, _, _⟩ := keepNum HR4.o hB6') | (go_at_call_of 49 (Value.agg #[.bool (decide (R < 0)), .slice p4 (natL R.natAbs).length c4]); refine (ct2 _ w4 (HQ.o.2.below (HB5.o.trans (hB6'.mono HB5.o.size)) (Nat.le_refl _))).mono ?_; rintro e w5 ⟨rfl, hB7⟩; have hB7' := hB6'.trans (hB7.mono hB6'.size); obtain ⟨m1, m2, _, _⟩ := keepNum HR3.o hB7'; obtain ⟨o1, o2, _, _⟩ := keepNum HR4.o hB7'))
  all_goals go_wp2
  all_goals exact bodyPost_ret (v := .tuple #[.string sq, .string sr, .int .i64 0]) (by simp [results, Try.results21, go_sem]) rfl ⟨rfl, hB1.trans ((hB2.trans ((hB3.trans (hB4.mono hB3.size) |>.trans ((HB5.o.trans (hB7'.mono HB5.o.size)).mono (hB3.trans (hB4.mono hB3.size)).size)).mono hB2.size)).mono hB1.size)⟩

set_option maxHeartbeats 1000000 in
theorem Div_zero (x : Int) (hx : Fits x) (w : World) :
    Calls Try.prog 21 #[.string (txt x), .string (txt 0)] w fun e w' => e = .returned (.tuple #[.string ⟨#[]⟩, .string ⟨#[]⟩, .int .i64 30]) ∧ Below w.heap.size w w' := by
  have hy : Fits 0 := by unfold Fits; simp [decN]
  have hsx := txt_size hx
  have hsy := txt_size hy
  have cp := fun W => parseBoth_any (txt x) (txt 0) (by omega) (by omega) W
  rw [valid_txt x hx, valid_txt 0 hy, Bool.true_and] at cp
  have cz := fun (r : Value) (W : World) (h : IsN W r 0) => isZero_any 0 r W h
  rw [decide_eq_true rfl] at cz
  have HX : Shut _ := ⟨And.intro hx hy⟩
  generalize hex : txt x = sx at *
  generalize hey : txt 0 = sy at *
  have HEX : Shut _ := ⟨And.intro hex hey⟩
  clear hex hey hx hy
  go_enter Try.func21, Try.ntmps21
  go_upto_region 2 with (go_at_call 46; refine (cp _).mono ?_; rintro e w1 ⟨b, p, n, c, b', p', n', c', rfl, hz1, hz2, hB1⟩)
  have hi2 := hz2 0 HEX.o.2.symm HX.o.2
  have hB2 : Below w1.heap.size w1 ((w1.alloc (.cells #[.bool b, .slice p n c] 54)).alloc (.cells #[.bool b', .slice p' n' c'] 54)) := ((Below.refl _ w1).alloc (Nat.le_refl _) _).alloc (by rw [World.size_alloc]; omega) _
  have HJ : Shut _ := ⟨hi2.below hB2 (Nat.le_refl _)⟩
  clear hz1 hz2 hi2
  go_wp2_with (go_at_call 47; refine (cz _ _ HJ.o).mono ?_; rintro e w2 ⟨rfl, hB3⟩)
  exact bodyPost_ret (v := .tuple #[.string ⟨#[]⟩, .string ⟨#[]⟩, .int .i64 30]) (by simp [results, Try.results21, go_sem]) rfl ⟨rfl, hB1.trans ((hB2.trans (hB3.mono hB2.size)).mono hB1.size)⟩
set_option maxHeartbeats 1000000 in
theorem Div_bad (s t : ByteArray) (hs : s.size ≤ 1000000) (ht : t.size ≤ 1000000) (h : (validB s && validB t) = false) (w : World) :
    Calls Try.prog 21 #[.string s, .string t] w fun e w' => e = .returned (.tuple #[.string ⟨#[]⟩, .string ⟨#[]⟩, .int .i64 30]) ∧ Below w.heap.size w w' := by
  have cp := fun W => parseBoth_any s t hs ht W
  rw [h] at cp
  go_enter Try.func21, Try.ntmps21
  go_wp2_with (go_at_call 46; refine (cp _).mono ?_; rintro e w1 ⟨b, p, n, c, b', p', n', c', rfl, hz1, hz2, hB1⟩)
  exact bodyPost_ret (v := .tuple #[.string ⟨#[]⟩, .string ⟨#[]⟩, .int .i64 30]) (by simp [results, Try.results21, go_sem]) rfl ⟨rfl, (hB1.alloc hB1.size _).alloc (by rw [World.size_alloc]; have := hB1.size; omega) _⟩
end Go.Proofs.Yteaecpmdooolkaa
