/-
  Contracts: Make of the reference.
-/
import Derived.Test.YtofcihnihpfljaaGreatRatFo
import Derived.Test.YtofcihnihpfljaaGreatRefV
namespace Go.Proofs.YtofcihnihpfljaaGreat
set_option maxRecDepth 1000000
namespace Rt
open Go.RowKit Go.Proofs.YtofcihnihpfljaaGreat.Nm
open N10 (Two)
theorem lstep {w w' : World} {o : Obj} (h : Below (w.alloc o).heap.size (w.alloc o) w') : Below w.heap.size w w' ∧ w'.heap[w.heap.size]? = some o :=
  ⟨((Below.refl w.heap.size w).alloc (Nat.le_refl _) o).trans (h.mono (by simp)), (h.block w.heap.size (by simp)).trans (World.alloc_heap_new w o)⟩
theorem lundrew {B : Nat} {w w' : World} (h : Below B w.drew w') : Below B w w' := ⟨h.os, h.tape, h.output, h.size, h.block⟩
theorem lkeep {w w' : World} {b : Nat} {o : Obj} (h : w.heap[b]? = some o) (hB : Below w.heap.size w w') : w'.heap[b]? = some o := (hB.block b (lt_of_block h)).trans h

set_option maxHeartbeats 2000000 in
theorem MakeR_up (s t n d g r1 r2 : ByteArray) (w : World) (h0 : (t.toList == [48]) = false)
    (cV1 : Two 60 #[.string s] (.bool true)) (cV2 : Two 60 #[.string t] (.bool true))
    (cC : Two 53 #[.string t, .string ⟨#[48]⟩] (.int .i64 1))
    (cG : Two 61 #[.string s, .string t] (.tuple #[.string g, .int .i64 0]))
    (cD1 : Two 52 #[.string s, .string g] (.tuple #[.string n, .string r1, .int .i64 0]))
    (cD2 : Two 52 #[.string t, .string g] (.tuple #[.string d, .string r2, .int .i64 0])) :
    Calls Tryz.prog 27 #[.string s, .string t] w fun e w' => e = .returned (.tuple #[.agg #[.string n, .string d], .int .i64 0]) ∧ Below w.heap.size w w' := by
  go_enter Tryz.func27, Tryz.ntmps27
  go_wp2_with (first | (go_at_call 60; with_reducible refine (cV1.run _).mono ?_; rintro e w1 ⟨rfl, hB1⟩; have b1 := (lstep hB1).1; have n1 := (lstep hB1).2; clear hB1) | (go_at_call 60; with_reducible refine (cV2.run _).mono ?_; rintro e w2 ⟨rfl, hB2⟩; have b2 := b1.trans (hB2.mono b1.size); have n2 := lkeep n1 hB2; clear hB2) | (go_at_call 53; with_reducible refine (cC.run _).mono ?_; rintro e w3 ⟨rfl, hB3⟩; have b3 := b2.trans (hB3.mono b2.size); have n3 := lkeep n2 hB3; clear hB3) | (go_at_call 61; with_reducible refine (cG.run _).mono ?_; rintro e w4 ⟨rfl, hB4⟩; have b4 := b3.trans (hB4.mono b3.size); have n4 := lkeep n3 hB4; clear hB4) | (go_at_call 52; with_reducible refine (cD1.run _).mono ?_; rintro e w5 ⟨rfl, hB5⟩; have b5 := b4.trans (hB5.mono b4.size); have n5 := lkeep n4 hB5; clear hB5) | (go_at_call 52; with_reducible refine (cD2.run _).mono ?_; rintro e w6 ⟨rfl, hB6⟩; have b6 := b5.trans (hB6.mono b5.size); have n6 := lkeep n5 hB6; clear hB6; obtain ⟨c0, c1, z0, z1⟩ := cell_box n6))
  have k0 := cell_two w6 w.heap.size (.string n) (.string d) _ _ c0 c1
  refine bodyPost_ret (v := .tuple #[.agg #[.string n, .string d], .int .i64 0]) (by simp [results, Tryz.results27, go_sem, k0.1, k0.2]) rfl ⟨rfl, (b6.setCell (by simp) _).setCell (by simp) _⟩
set_option maxHeartbeats 2000000 in
theorem MakeR_dn (s t s' t' n d g r1 r2 : ByteArray) (w : World) (h0 : (t.toList == [48]) = false)
    (cV1 : Two 60 #[.string s] (.bool true)) (cV2 : Two 60 #[.string t] (.bool true))
    (cC : Two 53 #[.string t, .string ⟨#[48]⟩] (.int .i64 (-1)))
    (cS1 : Two 48 #[.string ⟨#[48]⟩, .string s] (.tuple #[.string s', .int .i64 0]))
    (cS2 : Two 48 #[.string ⟨#[48]⟩, .string t] (.tuple #[.string t', .int .i64 0]))
    (cG : Two 61 #[.string s', .string t'] (.tuple #[.string g, .int .i64 0]))
    (cD1 : Two 52 #[.string s', .string g] (.tuple #[.string n, .string r1, .int .i64 0]))
    (cD2 : Two 52 #[.string t', .string g] (.tuple #[.string d, .string r2, .int .i64 0])) :
    Calls Tryz.prog 27 #[.string s, .string t] w fun e w' => e = .returned (.tuple #[.agg #[.string n, .string d], .int .i64 0]) ∧ Below w.heap.size w w' := by
  go_enter Tryz.func27, Tryz.ntmps27
  go_wp2_with (first | (go_at_call 60; with_reducible refine (cV1.run _).mono ?_; rintro e w1 ⟨rfl, hB1⟩; have b1 := (lstep hB1).1; have n1 := (lstep hB1).2; clear hB1) | (go_at_call 60; with_reducible refine (cV2.run _).mono ?_; rintro e w2 ⟨rfl, hB2⟩; have b2 := b1.trans (hB2.mono b1.size); have n2 := lkeep n1 hB2; clear hB2) | (go_at_call 53; with_reducible refine (cC.run _).mono ?_; rintro e w3 ⟨rfl, hB3⟩; have b3 := b2.trans (hB3.mono b2.size); have n3 := lkeep n2 hB3; clear hB3) | (go_at_call 48; with_reducible refine (cS1.run _).mono ?_; rintro e x1 ⟨rfl, hB1⟩; have y1 := b3.trans (hB1.mono b3.size); have v1 := lkeep n3 hB1; clear hB1) | (go_at_call 48; with_reducible refine (cS2.run _).mono ?_; rintro e x2 ⟨rfl, hB2⟩; have y2 := y1.trans (hB2.mono y1.size); have v2 := lkeep v1 hB2; clear hB2) | (go_at_call 61; with_reducible refine (cG.run _).mono ?_; rintro e w4 ⟨rfl, hB4⟩; have b4 := y2.trans (hB4.mono y2.size); have n4 := lkeep v2 hB4; clear hB4) | (go_at_call 52; with_reducible refine (cD1.run _).mono ?_; rintro e w5 ⟨rfl, hB5⟩; have b5 := b4.trans (hB5.mono b4.size); have n5 := lkeep n4 hB5; clear hB5) | (go_at_call 52; with_reducible refine (cD2.run _).mono ?_; rintro e w6 ⟨rfl, hB6⟩; have b6 := b5.trans (hB6.mono b5.size); have n6 := lkeep n5 hB6; clear hB6; obtain ⟨c0, c1, z0, z1⟩ := cell_box n6))
  have k0 := cell_two w6 w.heap.size (.string n) (.string d) _ _ c0 c1
  refine bodyPost_ret (v := .tuple #[.agg #[.string n, .string d], .int .i64 0]) (by simp [results, Tryz.results27, go_sem, k0.1, k0.2]) rfl ⟨rfl, (b6.setCell (by simp) _).setCell (by simp) _⟩
set_option maxHeartbeats 2000000 in
theorem MakeR_no (s t : ByteArray) (x y : Bool) (w : World) (h : (x && y && !(t.toList == [48])) = false)
    (cV1 : Two 60 #[.string s] (.bool x)) (cV2 : Two 60 #[.string t] (.bool y)) :
    Calls Tryz.prog 27 #[.string s, .string t] w fun e w' => e = .returned (.tuple #[.agg #[.string ⟨#[]⟩, .string ⟨#[]⟩], .int .i64 40]) ∧ Below w.heap.size w w' := by
  rcases (show x = false ∨ (x = true ∧ y = false) ∨ (x = true ∧ y = true ∧ (t.toList == [48]) = true) by revert h; cases x <;> cases y <;> cases (t.toList == [48]) <;> simp) with rfl | ⟨rfl, rfl⟩ | ⟨rfl, rfl, h0⟩
  all_goals
    clear h
    go_enter Tryz.func27, Tryz.ntmps27
    go_wp2_with (first | (go_at_call 60; with_reducible refine (cV1.run _).mono ?_; rintro e w1 ⟨rfl, hB1⟩; have b1 := (lstep hB1).1; have n1 := (lstep hB1).2; clear hB1) | (go_at_call 60; with_reducible refine (cV2.run _).mono ?_; rintro e w2 ⟨rfl, hB2⟩; have b2 := b1.trans (hB2.mono b1.size); have n2 := lkeep n1 hB2; clear hB2; obtain ⟨c0, c1, z0, z1⟩ := cell_box n2))
    have k0 := cell_two w2 w.heap.size (.string ⟨#[]⟩) (.string ⟨#[]⟩) _ _ c0 c1
    refine bodyPost_ret (v := .tuple #[.agg #[.string ⟨#[]⟩, .string ⟨#[]⟩], .int .i64 40]) (by simp [results, Tryz.results27, go_sem, k0.1, k0.2]) rfl ⟨rfl, (b2.setCell (by simp) _).setCell (by simp) _⟩
theorem two_V (s : ByteArray) (hs : s.size ≤ 1000000) : Two 60 #[.string s] (.bool (validB s)) := fun W => (N10.Valid_ref s hs W).mono fun _ _ h => ⟨h.1, N10.drawn_below h.2⟩
theorem two_Vt {x : Int} (hx : Fits x) : Two 60 #[.string (txt x)] (.bool true) := by
  have := two_V (txt x) (txt_size6 hx)
  rwa [valid_txt x hx] at this
theorem two_C {x y : Int} (hx : Fits x) (hy : Fits y) : Two 53 #[.string (txt x), .string (txt y)] (.int .i64 (cmpZ x y)) := fun W => N10.Compare_ref x y hx hy W
theorem two_S {x y : Int} (hx : Fits x) (hy : Fits y) (h : Fits (x - y)) : Two 48 #[.string (txt x), .string (txt y)] (.tuple #[.string (txt (x - y)), .int .i64 0]) := fun W => by
  have := N10.Sub_ref x y hx hy W
  rwa [calcR_fit h] at this
theorem two_G {x y : Int} (hx : Fits x) (hy : Fits y) : Two 61 #[.string (txt x), .string (txt y)] (.tuple #[.string (txt (Nat.gcd x.natAbs y.natAbs : Nat)), .int .i64 0]) := fun W => N10.Gcd_ref x y hx hy W
theorem two_D {x y : Int} (hx : Fits x) (hy : Fits y) (h0 : y ≠ 0) : Two 52 #[.string (txt x), .string (txt y)] (.tuple #[.string (txt (x / y)), .string (txt (x % y)), .int .i64 0]) := fun W => N10.Div_ref x y hx hy h0 W
/-- Make of the reference answers as Make does -/
theorem MakeR_all (s t : ByteArray) (hs : s.size ≤ 1000000) (ht : t.size ≤ 1000000) (w : World) :
    Calls Tryz.prog 27 #[.string s, .string t] w fun e w' => e = .returned (bR (redR s t)) ∧ Below w.heap.size w w' := by
  rcases N10.both s t with ⟨x, y, rfl, rfl, hx, hy⟩ | h
  · by_cases h0 : y = 0
    · rw [red_q0 hy h0]
      exact MakeR_no _ _ true true w (by rw [txt_eq0, h0]; rfl) (two_Vt hx) (two_Vt hy)
    · rw [red_q hx hy h0]
      have hne : ((txt y).toList == [48]) = false := by rw [txt_eq0]; simpa using h0
      have hg0 : Nat.gcd x.natAbs y.natAbs ≠ 0 := Nat.pos_iff_ne_zero.1 (Nat.gcd_pos_of_pos_right _ (by omega))
      have e0 : y.gcd x = Nat.gcd x.natAbs y.natAbs := by rw [Int.gcd, Nat.gcd_comm]
      have hgf := fits_gcdO (x := x) hy h0
      have cC := two_C hy fits0
      rw [txt_0] at cC
      show Calls _ _ _ _ fun e w' => e = .returned (.tuple #[.agg #[.string (txt (Rat.divInt x y).num), .string (txt ((Rat.divInt x y).den : Int))], .int .i64 0]) ∧ _
      obtain ⟨d1, d2⟩ := gcd_dvdI x y
      rw [Rat.num_divInt, Rat.den_divInt, if_neg h0, e0]
      rcases Int.lt_trichotomy y 0 with hy0 | hy0 | hy0
      · have cC' : Two 53 #[.string (txt y), .string ⟨#[48]⟩] (.int .i64 (-1)) := by rwa [cmpZ, if_pos hy0] at cC
        have fx := fits_neg hx
        have fy := fits_neg hy
        have s1 := two_S fits0 hx (by rw [Int.zero_sub]; exact fx)
        have s2 := two_S fits0 hy (by rw [Int.zero_sub]; exact fy)
        rw [Int.zero_sub, txt_0] at s1 s2
        have hG := two_G fx fy
        rw [Int.natAbs_neg, Int.natAbs_neg] at hG
        generalize Nat.gcd x.natAbs y.natAbs = g at *
        have hgi : (g : Int) ≠ 0 := by omega
        have r := MakeR_dn _ _ _ _ _ _ _ _ _ w hne (two_Vt hx) (two_Vt hy) cC' s1 s2 hG (two_D fx hgf hgi) (two_D fy hgf hgi)
        rw [Int.sign_eq_neg_one_of_neg hy0]
        have e1 : (-1 : Int) * x / (g : Int) = -x / (g : Int) := by rw [Int.neg_one_mul]
        have e2 : ((y.natAbs / g : Nat) : Int) = -y / (g : Int) := by rw [Int.natCast_ediv, show ((y.natAbs : Nat) : Int) = -y by omega]
        rw [e1, e2]; exact r
      · exact absurd hy0 h0
      · have cC' : Two 53 #[.string (txt y), .string ⟨#[48]⟩] (.int .i64 1) := by rwa [cmpZ, if_neg (by omega), if_neg (by omega)] at cC
        have hG := two_G hx hy
        generalize Nat.gcd x.natAbs y.natAbs = g at *
        have hgi : (g : Int) ≠ 0 := by omega
        have r := MakeR_up _ _ _ _ _ _ _ w hne (two_Vt hx) (two_Vt hy) cC' hG (two_D hx hgf hgi) (two_D hy hgf hgi)
        rw [Int.sign_eq_one_of_pos hy0, Int.one_mul]
        have e2 : ((y.natAbs / g : Nat) : Int) = y / (g : Int) := by rw [Int.natCast_ediv, show ((y.natAbs : Nat) : Int) = y by omega]
        rw [e2]; exact r
  · have hn : redR s t = none := by
      rw [redR, opGcd, op2_bad (N10.nb h)]; rfl
    rw [hn]
    exact MakeR_no _ _ _ _ w (by rcases h with h | h <;> rw [h] <;> simp) (two_V s hs) (two_V t ht)
end Rt
end Go.Proofs.YtofcihnihpfljaaGreat
