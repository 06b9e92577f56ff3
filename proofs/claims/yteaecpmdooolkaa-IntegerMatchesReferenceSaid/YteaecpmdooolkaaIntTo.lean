/-
  Contracts: ToInt.
-/
import Derived.Test.YteaecpmdooolkaaIntGcd
import Derived.Test.YteaecpmdooolkaaIntFrom
namespace Go.Proofs.Yteaecpmdooolkaa
open Go.RowKit Nm

theorem wordNA' (a : Nat) (p : Option Addr) (c : Nat) (W : World) (h : NA W (.slice p (natL a).length c) (natL a)) (hl : (natL a).length ≤ 1000) (ha : a < 18446744073709551616) :
    Calls Try.prog 60 #[.slice p (natL a).length c] W fun e w' => e = .returned (.int .u64 (a : Nat)) ∧ w' = W := by
  obtain ⟨p1, c1, g1, o1, e1, _, _, hp1, hu1⟩ := h.open
  injection e1 with e11 e12 e13
  subst e11; subst e13
  have := word_any (natL a) p c g1 o1 W (fun h => (hp1 h).1) hu1 (natL_dig a) (by omega) (by rw [natL_nv]; exact ha)
  rwa [natL_nv] at this
theorem ToInt_bad (s : ByteArray) (hs : s.size ≤ 1000000) (h : validB s = false) (w : World) :
    Calls Try.prog 27 #[.string s] w fun e w' => e = .returned (.tuple #[.int .i64 0, .int .i64 30]) ∧ Below w.heap.size w w' := by
  have cp := fun W => parse_any s hs W
  rw [h] at cp
  go_enter Try.func27, Try.ntmps27
  go_wp2_with (go_at_call 54; refine (cp _).mono ?_; rintro e w1 ⟨b, p, n, c, rfl, hz1, hB1⟩)
  go_ret2
  exact ⟨rfl, hB1.alloc hB1.size _⟩

set_option maxRecDepth 100000 in
set_option maxHeartbeats 2000000 in
theorem ToInt_bigP (z : Int) (hz : Fits z) (h0 : 0 ≤ z) (h1 : ¬ z ≤ 9223372036854775807) (w : World) :
    Calls Try.prog 27 #[.string (txt z)] w fun e w' => e = .returned (.tuple #[(.int .i64 0), .int .i64 30]) ∧ Below w.heap.size w w' := by
  have cp := fun W => parse_ok z hz W
  have hla := fits_len hz
  have hd : decide (z < 0) = false := decide_eq_false (Int.not_lt.2 h0)
  have co : ∀ W, Calls Try.prog 59 #[.int .u64 9223372036854775807] W fun e w' => ∃ v, e = .returned v ∧ OwnU w' W.heap.size v (natL 9223372036854775807) ∧ Below W.heap.size W w' := fun W => ofWord_any 9223372036854775807 (by omega) W
  have hlL := word_len (show 9223372036854775807 < 18446744073709551616 by omega)
  have hcv : 0 < cmpN z.natAbs 9223372036854775807 := by unfold cmpN; (repeat' split) <;> omega
  have cc : ∀ (W : World) (p q : Option Addr) (ca cb : Nat), NA W (.slice p (natL z.natAbs).length ca) (natL z.natAbs) → NA W (.slice q (natL 9223372036854775807).length cb) (natL 9223372036854775807) → _ := fun W p q ca cb h1 h2 => cmpNA z.natAbs 9223372036854775807 p q ca cb W h1 h2 (by omega) (by omega)
  generalize natL 9223372036854775807 = lL at *
  generalize cmpN z.natAbs 9223372036854775807 = cv at *
  have HN : Shut (∀ (W : World) (u : Value), IsN W u z → ∃ p c, u = .agg #[.bool false, .slice p (natL z.natAbs).length c] ∧ NA W (.slice p (natL z.natAbs).length c) (natL z.natAbs)) := ⟨fun W u h => by
    obtain ⟨p, c, rfl, h2⟩ := h
    rw [hd]
    exact ⟨p, c, rfl, h2⟩⟩
  clear hd hla hlL
  generalize txt z = s at *
  go_enter Try.func27, Try.ntmps27
  go_upto_region 2 with (go_at_call 54; refine (cp _).mono ?_; rintro e w1 ⟨u, rfl, hu, hB1⟩; obtain ⟨p, c, rfl, hn⟩ := HN.o _ _ hu)
  have hB2 : Below w1.heap.size w1 (w1.alloc (.cells #[.bool false, .slice p (natL z.natAbs).length c] 54)) := (Below.refl _ _).alloc (Nat.le_refl _) _
  have r1 := RowAt.new w1 #[.bool false, .slice p (natL z.natAbs).length c] 54
  have hn2 := hn.below hB2 (Nat.le_refl _)
  have HB1 : Shut _ := ⟨hB1⟩
  have HB2 : Shut _ := ⟨hB2⟩
  generalize w1.alloc (.cells #[.bool false, .slice p (natL z.natAbs).length c] 54) = W2 at *
  obtain ⟨a1, a2, a3, a4⟩ := keepNum r1 (Below.refl _ W2)
  have HR : Shut _ := ⟨r1⟩
  have HN2 : Shut _ := ⟨hn2⟩
  have hd2 : Below W2.heap.size W2 W2.drew := (Below.refl _ _).drew
  clear r1 hn2 hn hB1 hB2 hu HN cp
  go_upto_region 7 with fail
  go_region_held3 (fun w' => w'.cell? ⟨w1.heap.size, 0, none⟩ = some (.bool false) ∧ w'.cell? ⟨w1.heap.size, 1, none⟩ = some (.slice p (natL z.natAbs).length c)) (go_keep) (first | (go_at_call 59; refine (co _).mono ?_; rintro e w3 ⟨v3, rfl, hO3, hB3⟩; obtain ⟨p3, c3, rfl, hv3⟩ := hO3.na.out; have hB3' := hd2.trans (hB3.mono hd2.size); obtain ⟨e1, e2, e3, e4⟩ := keepNum HR.o hB3') | (go_at_call 58; refine (cc _ _ _ _ _ (HN2.o.below hB3' (Nat.le_refl _)) hv3).mono ?_; rintro e w4 ⟨rfl, m4, rfl⟩))
  all_goals go_wp2
  all_goals go_ret2
  all_goals exact ⟨rfl, HB1.o.trans ((HB2.o.trans ((below_drewN hB3' m4).mono HB2.o.size)).mono HB1.o.size)⟩

set_option maxRecDepth 100000 in
set_option maxHeartbeats 2000000 in
theorem ToInt_bigN (z : Int) (hz : Fits z) (h0 : z < 0) (h1 : ¬ -9223372036854775808 ≤ z) (w : World) :
    Calls Try.prog 27 #[.string (txt z)] w fun e w' => e = .returned (.tuple #[(.int .i64 0), .int .i64 30]) ∧ Below w.heap.size w w' := by
  have cp := fun W => parse_ok z hz W
  have hla := fits_len hz
  have hd : decide (z < 0) = true := decide_eq_true h0
  have co : ∀ W, Calls Try.prog 59 #[.int .u64 9223372036854775808] W fun e w' => ∃ v, e = .returned v ∧ OwnU w' W.heap.size v (natL 9223372036854775808) ∧ Below W.heap.size W w' := fun W => ofWord_any 9223372036854775808 (by omega) W
  have hlL := word_len (show 9223372036854775808 < 18446744073709551616 by omega)
  have hcv : 0 < cmpN z.natAbs 9223372036854775808 := by unfold cmpN; (repeat' split) <;> omega
  have cc : ∀ (W : World) (p q : Option Addr) (ca cb : Nat), NA W (.slice p (natL z.natAbs).length ca) (natL z.natAbs) → NA W (.slice q (natL 9223372036854775808).length cb) (natL 9223372036854775808) → _ := fun W p q ca cb h1 h2 => cmpNA z.natAbs 9223372036854775808 p q ca cb W h1 h2 (by omega) (by omega)
  generalize natL 9223372036854775808 = lL at *
  generalize cmpN z.natAbs 9223372036854775808 = cv at *
  have HN : Shut (∀ (W : World) (u : Value), IsN W u z → ∃ p c, u = .agg #[.bool true, .slice p (natL z.natAbs).length c] ∧ NA W (.slice p (natL z.natAbs).length c) (natL z.natAbs)) := ⟨fun W u h => by
    obtain ⟨p, c, rfl, h2⟩ := h
    rw [hd]
    exact ⟨p, c, rfl, h2⟩⟩
  clear hd hla hlL
  generalize txt z = s at *
  go_enter Try.func27, Try.ntmps27
  go_upto_region 2 with (go_at_call 54; refine (cp _).mono ?_; rintro e w1 ⟨u, rfl, hu, hB1⟩; obtain ⟨p, c, rfl, hn⟩ := HN.o _ _ hu)
  have hB2 : Below w1.heap.size w1 (w1.alloc (.cells #[.bool true, .slice p (natL z.natAbs).length c] 54)) := (Below.refl _ _).alloc (Nat.le_refl _) _
  have r1 := RowAt.new w1 #[.bool true, .slice p (natL z.natAbs).length c] 54
  have hn2 := hn.below hB2 (Nat.le_refl _)
  have HB1 : Shut _ := ⟨hB1⟩
  have HB2 : Shut _ := ⟨hB2⟩
  generalize w1.alloc (.cells #[.bool true, .slice p (natL z.natAbs).length c] 54) = W2 at *
  obtain ⟨a1, a2, a3, a4⟩ := keepNum r1 (Below.refl _ W2)
  have HR : Shut _ := ⟨r1⟩
  have HN2 : Shut _ := ⟨hn2⟩
  have hd2 : Below W2.heap.size W2 W2.drew := (Below.refl _ _).drew
  clear r1 hn2 hn hB1 hB2 hu HN cp
  go_upto_region 7 with fail
  go_region_held3 (fun w' => w'.cell? ⟨w1.heap.size, 0, none⟩ = some (.bool true) ∧ w'.cell? ⟨w1.heap.size, 1, none⟩ = some (.slice p (natL z.natAbs).length c)) (go_keep) (first | (go_at_call 59; refine (co _).mono ?_; rintro e w3 ⟨v3, rfl, hO3, hB3⟩; obtain ⟨p3, c3, rfl, hv3⟩ := hO3.na.out; have hB3' := hd2.trans (hB3.mono hd2.size); obtain ⟨e1, e2, e3, e4⟩ := keepNum HR.o hB3') | (go_at_call 58; refine (cc _ _ _ _ _ (HN2.o.below hB3' (Nat.le_refl _)) hv3).mono ?_; rintro e w4 ⟨rfl, m4, rfl⟩))
  all_goals go_wp2
  all_goals go_ret2
  all_goals exact ⟨rfl, HB1.o.trans ((HB2.o.trans ((below_drewN hB3' m4).mono HB2.o.size)).mono HB1.o.size)⟩

set_option maxRecDepth 100000 in
set_option maxHeartbeats 2000000 in
theorem ToInt_okP (z : Int) (hz : Fits z) (h0 : 0 ≤ z) (h1 : z ≤ 9223372036854775807) (w : World) :
    Calls Try.prog 27 #[.string (txt z)] w fun e w' => e = .returned (.tuple #[(.int .i64 z), .int .i64 0]) ∧ Below w.heap.size w w' := by
  have cp := fun W => parse_ok z hz W
  have hla := fits_len hz
  have hd : decide (z < 0) = false := decide_eq_false (Int.not_lt.2 h0)
  have co : ∀ W, Calls Try.prog 59 #[.int .u64 9223372036854775807] W fun e w' => ∃ v, e = .returned v ∧ OwnU w' W.heap.size v (natL 9223372036854775807) ∧ Below W.heap.size W w' := fun W => ofWord_any 9223372036854775807 (by omega) W
  have hlL := word_len (show 9223372036854775807 < 18446744073709551616 by omega)
  have hcv : ¬ 0 < cmpN z.natAbs 9223372036854775807 := by unfold cmpN; (repeat' split) <;> omega
  have cc : ∀ (W : World) (p q : Option Addr) (ca cb : Nat), NA W (.slice p (natL z.natAbs).length ca) (natL z.natAbs) → NA W (.slice q (natL 9223372036854775807).length cb) (natL 9223372036854775807) → _ := fun W p q ca cb h1 h2 => cmpNA z.natAbs 9223372036854775807 p q ca cb W h1 h2 (by omega) (by omega)
  have cw : ∀ (W : World) (p : Option Addr) (c : Nat), NA W (.slice p (natL z.natAbs).length c) (natL z.natAbs) → _ := fun W p c h => wordNA' z.natAbs p c W h (by omega) (by omega)
  have hw : wrap64 ((z.natAbs : Nat) : Int) = z := by unfold wrap64; omega
  generalize natL 9223372036854775807 = lL at *
  generalize cmpN z.natAbs 9223372036854775807 = cv at *
  have HN : Shut (∀ (W : World) (u : Value), IsN W u z → ∃ p c, u = .agg #[.bool false, .slice p (natL z.natAbs).length c] ∧ NA W (.slice p (natL z.natAbs).length c) (natL z.natAbs)) := ⟨fun W u h => by
    obtain ⟨p, c, rfl, h2⟩ := h
    rw [hd]
    exact ⟨p, c, rfl, h2⟩⟩
  clear hd hla hlL
  generalize txt z = s at *
  have HW : Shut _ := ⟨hw⟩
  clear hz h0 h1 hw
  go_enter Try.func27, Try.ntmps27
  go_upto_region 2 with (go_at_call 54; refine (cp _).mono ?_; rintro e w1 ⟨u, rfl, hu, hB1⟩; obtain ⟨p, c, rfl, hn⟩ := HN.o _ _ hu)
  have hB2 : Below w1.heap.size w1 (w1.alloc (.cells #[.bool false, .slice p (natL z.natAbs).length c] 54)) := (Below.refl _ _).alloc (Nat.le_refl _) _
  have r1 := RowAt.new w1 #[.bool false, .slice p (natL z.natAbs).length c] 54
  have hn2 := hn.below hB2 (Nat.le_refl _)
  have HB1 : Shut _ := ⟨hB1⟩
  have HB2 : Shut _ := ⟨hB2⟩
  generalize w1.alloc (.cells #[.bool false, .slice p (natL z.natAbs).length c] 54) = W2 at *
  obtain ⟨a1, a2, a3, a4⟩ := keepNum r1 (Below.refl _ W2)
  have HR : Shut _ := ⟨r1⟩
  have HN2 : Shut _ := ⟨hn2⟩
  have hd2 : Below W2.heap.size W2 W2.drew := (Below.refl _ _).drew
  clear r1 hn2 hn hB1 hB2 hu HN cp
  go_upto_region 7 with fail
  go_region_held3 (fun w' => w'.cell? ⟨w1.heap.size, 0, none⟩ = some (.bool false) ∧ w'.cell? ⟨w1.heap.size, 1, none⟩ = some (.slice p (natL z.natAbs).length c)) (go_keep) (first | (go_at_call 59; refine (co _).mono ?_; rintro e w3 ⟨v3, rfl, hO3, hB3⟩; obtain ⟨p3, c3, rfl, hv3⟩ := hO3.na.out; have hB3' := hd2.trans (hB3.mono hd2.size); obtain ⟨e1, e2, e3, e4⟩ := keepNum HR.o hB3') | (go_at_call 58; refine (cc _ _ _ _ _ (HN2.o.below hB3' (Nat.le_refl _)) hv3).mono ?_; rintro e w4 ⟨rfl, m4, rfl⟩))
  all_goals have hB4 := below_drewN hB3' m4
  all_goals obtain ⟨f1, f2, f3, f4⟩ := keepNum HR.o hB4
  all_goals generalize w3.drewN m4 = w5 at *
  all_goals go_wp2_with (go_at_call 60; refine (cw _ _ _ (HN2.o.below hB4 (Nat.le_refl _))).mono ?_; rintro e w6 ⟨rfl, rfl⟩)
  all_goals go_ret2
  all_goals exact ⟨by show Ending.returned (.tuple #[.int .i64 (wrap64 ((z.natAbs : Nat) : Int)), .int .i64 0]) = _; rw [HW.o], HB1.o.trans ((HB2.o.trans (hB4.mono HB2.o.size)).mono HB1.o.size)⟩

set_option maxRecDepth 100000 in
set_option maxHeartbeats 2000000 in
theorem ToInt_okN (z : Int) (hz : Fits z) (h0 : z < 0) (h1 : -9223372036854775808 ≤ z) (w : World) :
    Calls Try.prog 27 #[.string (txt z)] w fun e w' => e = .returned (.tuple #[(.int .i64 z), .int .i64 0]) ∧ Below w.heap.size w w' := by
  have cp := fun W => parse_ok z hz W
  have hla := fits_len hz
  have hd : decide (z < 0) = true := decide_eq_true h0
  have co : ∀ W, Calls Try.prog 59 #[.int .u64 9223372036854775808] W fun e w' => ∃ v, e = .returned v ∧ OwnU w' W.heap.size v (natL 9223372036854775808) ∧ Below W.heap.size W w' := fun W => ofWord_any 9223372036854775808 (by omega) W
  have hlL := word_len (show 9223372036854775808 < 18446744073709551616 by omega)
  have hcv : ¬ 0 < cmpN z.natAbs 9223372036854775808 := by unfold cmpN; (repeat' split) <;> omega
  have cc : ∀ (W : World) (p q : Option Addr) (ca cb : Nat), NA W (.slice p (natL z.natAbs).length ca) (natL z.natAbs) → NA W (.slice q (natL 9223372036854775808).length cb) (natL 9223372036854775808) → _ := fun W p q ca cb h1 h2 => cmpNA z.natAbs 9223372036854775808 p q ca cb W h1 h2 (by omega) (by omega)
  have cw : ∀ (W : World) (p : Option Addr) (c : Nat), NA W (.slice p (natL z.natAbs).length c) (natL z.natAbs) → _ := fun W p c h => wordNA' z.natAbs p c W h (by omega) (by omega)
  have hw : wrap64 (-wrap64 ((z.natAbs : Nat) : Int)) = z := by unfold wrap64; omega
  generalize natL 9223372036854775808 = lL at *
  generalize cmpN z.natAbs 9223372036854775808 = cv at *
  have HN : Shut (∀ (W : World) (u : Value), IsN W u z → ∃ p c, u = .agg #[.bool true, .slice p (natL z.natAbs).length c] ∧ NA W (.slice p (natL z.natAbs).length c) (natL z.natAbs)) := ⟨fun W u h => by
    obtain ⟨p, c, rfl, h2⟩ := h
    rw [hd]
    exact ⟨p, c, rfl, h2⟩⟩
  clear hd hla hlL
  generalize txt z = s at *
  have HW : Shut _ := ⟨hw⟩
  clear hz h0 h1 hw
  go_enter Try.func27, Try.ntmps27
  go_upto_region 2 with (go_at_call 54; refine (cp _).mono ?_; rintro e w1 ⟨u, rfl, hu, hB1⟩; obtain ⟨p, c, rfl, hn⟩ := HN.o _ _ hu)
  have hB2 : Below w1.heap.size w1 (w1.alloc (.cells #[.bool true, .slice p (natL z.natAbs).length c] 54)) := (Below.refl _ _).alloc (Nat.le_refl _) _
  have r1 := RowAt.new w1 #[.bool true, .slice p (natL z.natAbs).length c] 54
  have hn2 := hn.below hB2 (Nat.le_refl _)
  have HB1 : Shut _ := ⟨hB1⟩
  have HB2 : Shut _ := ⟨hB2⟩
  generalize w1.alloc (.cells #[.bool true, .slice p (natL z.natAbs).length c] 54) = W2 at *
  obtain ⟨a1, a2, a3, a4⟩ := keepNum r1 (Below.refl _ W2)
  have HR : Shut _ := ⟨r1⟩
  have HN2 : Shut _ := ⟨hn2⟩
  have hd2 : Below W2.heap.size W2 W2.drew := (Below.refl _ _).drew
  clear r1 hn2 hn hB1 hB2 hu HN cp
  go_upto_region 7 with fail
  go_region_held3 (fun w' => w'.cell? ⟨w1.heap.size, 0, none⟩ = some (.bool true) ∧ w'.cell? ⟨w1.heap.size, 1, none⟩ = some (.slice p (natL z.natAbs).length c)) (go_keep) (first | (go_at_call 59; refine (co _).mono ?_; rintro e w3 ⟨v3, rfl, hO3, hB3⟩; obtain ⟨p3, c3, rfl, hv3⟩ := hO3.na.out; have hB3' := hd2.trans (hB3.mono hd2.size); obtain ⟨e1, e2, e3, e4⟩ := keepNum HR.o hB3') | (go_at_call 58; refine (cc _ _ _ _ _ (HN2.o.below hB3' (Nat.le_refl _)) hv3).mono ?_; rintro e w4 ⟨rfl, m4, rfl⟩))
  all_goals have hB4 := below_drewN hB3' m4
  all_goals obtain ⟨f1, f2, f3, f4⟩ := keepNum HR.o hB4
  all_goals generalize w3.drewN m4 = w5 at *
  all_goals go_wp2_with (go_at_call 60; refine (cw _ _ _ (HN2.o.below hB4 (Nat.le_refl _))).mono ?_; rintro e w6 ⟨rfl, rfl⟩)
  all_goals go_ret2
  all_goals exact ⟨by show Ending.returned (.tuple #[.int .i64 (wrap64 (-wrap64 ((z.natAbs : Nat) : Int))), .int .i64 0]) = _; rw [HW.o], HB1.o.trans ((HB2.o.trans (hB4.mono HB2.o.size)).mono HB1.o.size)⟩

def CTo (s : ByteArray) (n e : Int) : Prop := ∀ w : World, Calls Try.prog 27 #[.string s] w fun r w' => r = .returned (.tuple #[.int .i64 n, .int .i64 e]) ∧ Below w.heap.size w w'
theorem cTo (z : Int) (hz : Fits z) (h1 : -9223372036854775808 ≤ z) (h2 : z ≤ 9223372036854775807) : CTo (txt z) z 0 := fun w => by
  by_cases h : z < 0
  · exact ToInt_okN z hz h h1 w
  · exact ToInt_okP z hz (by omega) h2 w
theorem cToB (z : Int) (hz : Fits z) (h : ¬ (-9223372036854775808 ≤ z ∧ z ≤ 9223372036854775807)) : CTo (txt z) 0 30 := fun w => by
  by_cases hn : z < 0
  · exact ToInt_bigN z hz hn (by omega) w
  · exact ToInt_bigP z hz (by omega) (by omega) w
end Go.Proofs.Yteaecpmdooolkaa
