/-
  The law IntegerMatchesReference: its walk.
-/
import Derived.Test.YteaecpmdooolkaaRefV
import Derived.Lib.SmallJoins
import Derived.Lib.MinMax
namespace Go.Proofs.Yteaecpmdooolkaa
namespace N10
open Go.RowKit

theorem int64_wf {n : Int} (h : (Lit.int .i64 n).wf = true) : -9223372036854775808 ≤ n ∧ n ≤ 9223372036854775807 := Joins.in64_of_wf h
/-- all answers of one pair of strings -/
def PairF (s t : ByteArray) : Prop :=
  ∃ (r1 r2 r3 q4 r4 r5 r6 : ByteArray) (k1 k2 k3 k4 k5 k6 n7 k7 : Int) (b8 : Bool) (k9 : Int),
  (Two 15 #[.string s, .string t] (.tuple #[.string r1, .int .i64 k1]) ∧ Two 16 #[.string s, .string t] (.tuple #[.string r1, .int .i64 k1])) ∧ (Two 17 #[.string s, .string t] (.tuple #[.string r2, .int .i64 k2]) ∧ Two 18 #[.string s, .string t] (.tuple #[.string r2, .int .i64 k2])) ∧ (Two 19 #[.string s, .string t] (.tuple #[.string r3, .int .i64 k3]) ∧ Two 20 #[.string s, .string t] (.tuple #[.string r3, .int .i64 k3])) ∧ (Two 21 #[.string s, .string t] (.tuple #[.string q4, .string r4, .int .i64 k4]) ∧ Two 22 #[.string s, .string t] (.tuple #[.string q4, .string r4, .int .i64 k4])) ∧ (Two 23 #[.string s, .string t] (.tuple #[.string r5, .int .i64 k5]) ∧ Two 24 #[.string s, .string t] (.tuple #[.string r5, .int .i64 k5])) ∧ (Two 25 #[.string s] (.tuple #[.string r6, .int .i64 k6]) ∧ Two 26 #[.string s] (.tuple #[.string r6, .int .i64 k6])) ∧ (Two 27 #[.string s] (.tuple #[.int .i64 n7, .int .i64 k7]) ∧ Two 28 #[.string s] (.tuple #[.int .i64 n7, .int .i64 k7])) ∧ (Two 29 #[.string s] (.bool b8) ∧ Two 30 #[.string s] (.bool b8)) ∧ (Two 31 #[.string s, .string t] (.int .i64 k9) ∧ Two 32 #[.string s, .string t] (.int .i64 k9))
theorem pair_all (s t : ByteArray) (hs : s.size ≤ 1000000) (ht : t.size ≤ 1000000) : PairF s t := by
  obtain ⟨r1, k1, a1⟩ := pair_Add s t hs ht
  obtain ⟨r2, k2, a2⟩ := pair_Sub s t hs ht
  obtain ⟨r3, k3, a3⟩ := pair_Mul s t hs ht
  obtain ⟨q4, r4, k4, a4⟩ := pair_Div s t hs ht
  obtain ⟨r5, k5, a5⟩ := pair_Gcd s t hs ht
  obtain ⟨r6, k6, a6⟩ := pair_Root s hs
  obtain ⟨n7, k7, a7⟩ := pair_To s hs
  obtain ⟨b8, a8⟩ := pair_Valid s hs
  obtain ⟨k9, a9⟩ := pair_Compare s t hs ht
  exact ⟨r1, r2, r3, q4, r4, r5, r6, k1, k2, k3, k4, k5, k6, n7, k7, b8, k9, a1, a2, a3, a4, a5, a6, a7, a8, a9⟩
theorem made_two (s : ByteArray) (m : Nat) (hm : m ≤ 150) (hs : s.size ≤ maxLen) (w : World) :
    Calls Try.prog 13 #[.string s, .int .i64 m] w fun e w' => ∃ t : ByteArray, e = .returned (.string t) ∧ t.size ≤ 1000000 ∧ Below w.heap.size w w' :=
  (made_any s m hm hs w).mono fun e w' h => by
    obtain ⟨z, h1, h2, h3⟩ := h
    exact ⟨_, h1, by have := txt_size (z := z) (by unfold Fits; omega); omega, h3⟩

set_option maxRecDepth 100000 in
set_option maxHeartbeats 4000000 in
theorem matches_any (a b : ByteArray) (n : Int) (_ha : a.size ≤ maxLen) (_hb : b.size ≤ maxLen) (hn : (Lit.int .i64 n).wf = true) (w : World) :
    Calls Try.prog 3 #[.string a, .string b, .int .i64 n] w fun e w' => e = .returned (.bool true) ∧ Below w.heap.size w w' := by
  have wn := int64_wf hn
  obtain ⟨sn, hsn, cN⟩ := pair_From n wn.1 wn.2
  obtain ⟨ma, hma⟩ : ∃ ma, ma = min a.size 210 := ⟨_, rfl⟩
  have hmin1 : min ((a.size : Nat) : Int) 210 = (ma : Int) := by omega
  have hmin2 : (if (210 : Int) < ((a.size : Nat) : Int) then (210 : Int) else ((a.size : Nat) : Int)) = (ma : Int) := by split <;> omega
  obtain ⟨mb, hmb⟩ : ∃ mb, mb = min b.size 210 := ⟨_, rfl⟩
  have hmin3 : min ((b.size : Nat) : Int) 210 = (mb : Int) := by omega
  have hmin4 : (if (210 : Int) < ((b.size : Nat) : Int) then (210 : Int) else ((b.size : Nat) : Int)) = (mb : Int) := by split <;> omega
  have ma1 : ma ≤ a.size := by omega
  have mb1 : mb ≤ b.size := by omega
  have ma2 : ma ≤ 210 := by omega
  have mb2 : mb ≤ 210 := by omega
  have za : (a.extract 0 ma).size ≤ 210 := by rw [ByteArray.size_extract]; omega
  have zb : (b.extract 0 mb).size ≤ 210 := by rw [ByteArray.size_extract]; omega
  have HN : Shut _ := ⟨cN⟩
  have HSN : Shut _ := ⟨hsn⟩
  have HM1 : Shut (∀ W : World, Calls Try.prog 13 #[.string (a.extract 0 ma), .int .i64 70] W fun e w' => ∃ t : ByteArray, e = .returned (.string t) ∧ t.size ≤ 1000000 ∧ Below W.heap.size W w') := ⟨fun W => made_two (a.extract 0 ma) 70 (by decide) (by unfold maxLen; omega) W⟩
  have HM2 : Shut (∀ W : World, Calls Try.prog 13 #[.string (b.extract 0 mb), .int .i64 30] W fun e w' => ∃ t : ByteArray, e = .returned (.string t) ∧ t.size ≤ 1000000 ∧ Below W.heap.size W w') := ⟨fun W => made_two (b.extract 0 mb) 30 (by decide) (by unfold maxLen; omega) W⟩
  have HM3 : Shut (∀ W : World, Calls Try.prog 13 #[.string (a.extract 0 ma), .int .i64 12] W fun e w' => ∃ t : ByteArray, e = .returned (.string t) ∧ t.size ≤ 1000000 ∧ Below W.heap.size W w') := ⟨fun W => made_two (a.extract 0 ma) 12 (by decide) (by unfold maxLen; omega) W⟩
  clear hma hmb _ha _hb hn cN hsn wn
  go_enter Try.func3, Try.ntmps3
  go_wp2_with fail
  refine (sane_any _).mono ?_
  rintro e w1 ⟨rfl, hb1⟩
  go_upto_region 4 with fail
  generalize a.extract 0 ma = sa at *
  generalize b.extract 0 mb = sb at *
  clear hmin1 hmin2 hmin3 hmin4 ma1 mb1 ma2 mb2
  go_upto_region 99 with (first | (go_at_call 13; with_reducible refine (HM1.o _).mono ?_; rintro e w2 ⟨t2, rfl, ht2, hB⟩; have hb2 := hb1.trans (hB.mono hb1.size); clear hB) | (go_at_call 13; with_reducible refine (HM2.o _).mono ?_; rintro e w3 ⟨t3, rfl, ht3, hB⟩; have hb3 := hb2.trans (hB.mono hb2.size); clear hB) | (go_at_call 13; with_reducible refine (HM3.o _).mono ?_; rintro e w4 ⟨t4, rfl, ht4, hB⟩; have hb4 := hb3.trans (hB.mono hb3.size); clear hB) | (go_at_call 14; with_reducible refine (Two.run HN.o.2 _).mono ?_; rintro e w5 ⟨rfl, hB⟩; have hb5 := hb4.trans (hB.mono hb4.size); clear hB))
  have hal : Below w.heap.size w (w5.alloc (Obj.cells #[.string sa, .string sb, .string t2, .string t3, .string t4, .string sn] 23)) := hb5.alloc hb5.size _
  have hcs : ∀ k, k < 6 → (w5.alloc (Obj.cells #[.string sa, .string sb, .string t2, .string t3, .string t4, .string sn] 23)).cell? ⟨w5.heap.size, k, none⟩ = some (.string ([sa, sb, t2, t3, t4, sn].getD k sa)) := fun k hk => by
    rw [(RowAt.new w5 _ _).cell]
    match k, hk with
    | 0, _ => rfl
    | 1, _ => rfl
    | 2, _ => rfl
    | 3, _ => rfl
    | 4, _ => rfl
    | 5, _ => rfl
  have hg : w5.heap.size < (w5.alloc (Obj.cells #[.string sa, .string sb, .string t2, .string t3, .string t4, .string sn] 23)).heap.size := by rw [World.size_alloc]; omega
  generalize w5.alloc (Obj.cells #[.string sa, .string sb, .string t2, .string t3, .string t4, .string sn] 23) = w6 at *
  generalize w5.heap.size = g at *
  have HC : Shut _ := ⟨hcs⟩
  have HG : Shut _ := ⟨hg⟩
  have HZ : Shut (sa.size ≤ 1000000 ∧ sb.size ≤ 1000000 ∧ t2.size ≤ 1000000 ∧ t3.size ≤ 1000000 ∧ t4.size ≤ 1000000) := ⟨by omega⟩
  have HB6 : Shut _ := ⟨hal⟩
  clear hcs hg hal hb1 hb2 hb3 hb4 hb5 za zb ht2 ht3 ht4
  go_loopw [50] (fun iv wr => ∃ i : Nat, i ≤ 3 ∧ iv = .int .i64 i ∧ Shut (Below w6.heap.size w6 wr)) (fun iv _ => 3 - (intOf iv).toNat)
  case atStart => exact ⟨0, by decide, rfl, ⟨Below.refl _ _⟩⟩
  case round =>
    obtain ⟨i, hi, rfl, hB⟩ := hrel
    rcases (show i = 3 ∨ i < 3 by omega) with rfl | hi3
    · have hBB := HB6.o.trans (hB.o.mono HB6.o.size)
      have e0 : (sn.toList == sn.toList) = true := beq_self_eq_true _
      go_wp2_with (first | (go_at_call 33; with_reducible refine (Two.run HN.o.1 _).mono ?_; rintro e w7 ⟨rfl, hb7⟩) | (go_at_call 14; with_reducible refine (Two.run HN.o.2 _).mono ?_; rintro e w8 ⟨rfl, hb8⟩))
      go_ret
      have h7 := hBB.trans (hb7.mono hBB.size)
      exact ⟨rfl, h7.trans (hb8.mono h7.size)⟩
    · have hgr : g < wr.heap.size := Nat.lt_of_lt_of_le HG.o hB.o.size
      have hc0 := (hB.o.cell (p := ⟨g, i * 2, none⟩) HG.o).trans (HC.o (i * 2) (by omega))
      have hc1 := (hB.o.cell (p := ⟨g, i * 2 + 1, none⟩) HG.o).trans (HC.o (i * 2 + 1) (by omega))
      have hzs : ([sa, sb, t2, t3, t4, sn].getD (i * 2) sa).size ≤ 1000000 ∧ ([sa, sb, t2, t3, t4, sn].getD (i * 2 + 1) sa).size ≤ 1000000 := by
        rcases (show i = 0 ∨ i = 1 ∨ i = 2 by omega) with rfl | rfl | rfl
        · exact ⟨HZ.o.1, HZ.o.2.1⟩
        · exact ⟨HZ.o.2.2.1, HZ.o.2.2.2.1⟩
        · exact ⟨HZ.o.2.2.2.2, HSN.o⟩
      have hP := pair_all _ _ hzs.1 hzs.2
      generalize [sa, sb, t2, t3, t4, sn].getD (i * 2) sa = xs at *
      generalize [sa, sb, t2, t3, t4, sn].getD (i * 2 + 1) sa = xt at *
      obtain ⟨r1, r2, r3, q4, r4, r5, r6, k1, k2, k3, k4, k5, k6, n7, k7, b8, k9, hP⟩ := hP
      have HP : Shut _ := ⟨hP⟩
      have HBB := HB6.o.trans (hB.o.mono HB6.o.size)
      have HBW : Shut _ := ⟨HBB.trans (((Below.refl wr.heap.size wr).alloc (Nat.le_refl _) (Obj.cells #[.string xs, .string xt] 23)).mono HBB.size)⟩
      have HBL : Shut _ := ⟨hB.o.trans (((Below.refl wr.heap.size wr).alloc (Nat.le_refl _) (Obj.cells #[.string xs, .string xt] 23)).mono hB.o.size)⟩
      have e1 : (r1.toList == r1.toList) = true := beq_self_eq_true _
      have e2 : (r2.toList == r2.toList) = true := beq_self_eq_true _
      have e3 : (r3.toList == r3.toList) = true := beq_self_eq_true _
      have e4 : (q4.toList == q4.toList) = true := beq_self_eq_true _
      have e4' : (r4.toList == r4.toList) = true := beq_self_eq_true _
      have e5 : (r5.toList == r5.toList) = true := beq_self_eq_true _
      have e6 : (r6.toList == r6.toList) = true := beq_self_eq_true _
      have HX : Shut (∀ W, Below (wr.alloc (Obj.cells #[.string xs, .string xt] 23)).heap.size (wr.alloc (Obj.cells #[.string xs, .string xt] 23)) W → W.cell? ⟨wr.heap.size, 0, none⟩ = some (.string xs) ∧ W.cell? ⟨wr.heap.size, 1, none⟩ = some (.string xt)) := ⟨fun W hW => ⟨(hW.cell (p := ⟨wr.heap.size, 0, none⟩) (by rw [World.size_alloc]; exact Nat.lt_succ_self _)).trans ((RowAt.new wr _ _).cell 0), (hW.cell (p := ⟨wr.heap.size, 1, none⟩) (by rw [World.size_alloc]; exact Nat.lt_succ_self _)).trans ((RowAt.new wr _ _).cell 1)⟩⟩
      clear hP hzs HBB
      go_upto_region 7 with fail
      clear hB hc0 hc1 hgr
      generalize wr.alloc (Obj.cells #[.string xs, .string xt] 23) = wb at *
      generalize wr.heap.size = gx at *
      have hb0 := Below.refl wb.heap.size wb
      obtain ⟨c0, c1⟩ := HX.o _ hb0
      go_wp2_with fail
      refine (Two.run HP.o.1.1 _).mono ?_
      rintro e v1 ⟨rfl, hB⟩
      have hb1 := hb0.trans (hB.mono hb0.size)
      clear hB hb0 c0 c1
      obtain ⟨c0, c1⟩ := HX.o _ hb1
      go_wp2_with fail
      refine (Two.run HP.o.1.2 _).mono ?_
      rintro e v2 ⟨rfl, hB⟩
      have hb2 := hb1.trans (hB.mono hb1.size)
      clear hB hb1 c0 c1
      obtain ⟨c0, c1⟩ := HX.o _ hb2
      go_wp2_with fail
      refine (Two.run HP.o.2.1.1 _).mono ?_
      rintro e v3 ⟨rfl, hB⟩
      have hb3 := hb2.trans (hB.mono hb2.size)
      clear hB hb2 c0 c1
      obtain ⟨c0, c1⟩ := HX.o _ hb3
      go_wp2_with fail
      refine (Two.run HP.o.2.1.2 _).mono ?_
      rintro e v4 ⟨rfl, hB⟩
      have hb4 := hb3.trans (hB.mono hb3.size)
      clear hB hb3 c0 c1
      obtain ⟨c0, c1⟩ := HX.o _ hb4
      go_wp2_with fail
      refine (Two.run HP.o.2.2.1.1 _).mono ?_
      rintro e v5 ⟨rfl, hB⟩
      have hb5 := hb4.trans (hB.mono hb4.size)
      clear hB hb4 c0 c1
      obtain ⟨c0, c1⟩ := HX.o _ hb5
      go_wp2_with fail
      refine (Two.run HP.o.2.2.1.2 _).mono ?_
      rintro e v6 ⟨rfl, hB⟩
      have hb6 := hb5.trans (hB.mono hb5.size)
      clear hB hb5 c0 c1
      obtain ⟨c0, c1⟩ := HX.o _ hb6
      go_wp2_with fail
      refine (Two.run HP.o.2.2.2.1.1 _).mono ?_
      rintro e v7 ⟨rfl, hB⟩
      have hb7 := hb6.trans (hB.mono hb6.size)
      clear hB hb6 c0 c1
      obtain ⟨c0, c1⟩ := HX.o _ hb7
      go_wp2_with fail
      refine (Two.run HP.o.2.2.2.1.2 _).mono ?_
      rintro e v8 ⟨rfl, hB⟩
      have hb8 := hb7.trans (hB.mono hb7.size)
      clear hB hb7 c0 c1
      obtain ⟨c0, c1⟩ := HX.o _ hb8
      go_wp2_with fail
      refine (Two.run HP.o.2.2.2.2.1.1 _).mono ?_
      rintro e v9 ⟨rfl, hB⟩
      have hb9 := hb8.trans (hB.mono hb8.size)
      clear hB hb8 c0 c1
      obtain ⟨c0, c1⟩ := HX.o _ hb9
      go_wp2_with fail
      refine (Two.run HP.o.2.2.2.2.1.2 _).mono ?_
      rintro e v10 ⟨rfl, hB⟩
      have hb10 := hb9.trans (hB.mono hb9.size)
      clear hB hb9 c0 c1
      obtain ⟨c0, c1⟩ := HX.o _ hb10
      go_wp2_with fail
      refine (Two.run HP.o.2.2.2.2.2.1.1 _).mono ?_
      rintro e v11 ⟨rfl, hB⟩
      have hb11 := hb10.trans (hB.mono hb10.size)
      clear hB hb10 c0 c1
      obtain ⟨c0, c1⟩ := HX.o _ hb11
      go_wp2_with fail
      refine (Two.run HP.o.2.2.2.2.2.1.2 _).mono ?_
      rintro e v12 ⟨rfl, hB⟩
      have hb12 := hb11.trans (hB.mono hb11.size)
      clear hB hb11 c0 c1
      obtain ⟨c0, c1⟩ := HX.o _ hb12
      go_wp2_with fail
      refine (Two.run HP.o.2.2.2.2.2.2.1.1 _).mono ?_
      rintro e v13 ⟨rfl, hB⟩
      have hb13 := hb12.trans (hB.mono hb12.size)
      clear hB hb12 c0 c1
      obtain ⟨c0, c1⟩ := HX.o _ hb13
      go_wp2_with fail
      refine (Two.run HP.o.2.2.2.2.2.2.1.2 _).mono ?_
      rintro e v14 ⟨rfl, hB⟩
      have hb14 := hb13.trans (hB.mono hb13.size)
      clear hB hb13 c0 c1
      obtain ⟨c0, c1⟩ := HX.o _ hb14
      go_upto_region 33 with fail
      have hd15 : Below v14.heap.size v14 v14.drew := (Below.refl _ _).drew
      have hb15 := hb14.trans (hd15.mono hb14.size)
      clear hd15
      obtain ⟨d0, d1⟩ := HX.o _ hb15
      go_region_held3 (fun W' => W'.cell? ⟨gx, 0, none⟩ = some (.string xs) ∧ W'.cell? ⟨gx, 1, none⟩ = some (.string xt)) (go_keep) (first | (go_at_call 29; with_reducible refine (Two.run HP.o.2.2.2.2.2.2.2.1.1 _).mono ?_; rintro e v16 ⟨rfl, hB⟩; have hb16 := hb15.trans (hB.mono hb15.size); clear hB; obtain ⟨d2, d3⟩ := HX.o _ hb16) | (go_at_call 30; with_reducible refine (Two.run HP.o.2.2.2.2.2.2.2.1.2 _).mono ?_; rintro e v17 ⟨rfl, hB⟩; have hb17 := hb16.trans (hB.mono hb16.size); clear hB; obtain ⟨d4, d5⟩ := HX.o _ hb17) | (go_at_call 31; with_reducible refine (Two.run HP.o.2.2.2.2.2.2.2.2.1 _).mono ?_; rintro e v18 ⟨rfl, hB⟩; have hb18 := hb17.trans (hB.mono hb17.size); clear hB; obtain ⟨d6, d7⟩ := HX.o _ hb18) | (go_at_call 32; with_reducible refine (Two.run HP.o.2.2.2.2.2.2.2.2.2 _).mono ?_; rintro e v19 ⟨rfl, hB⟩; have hb19 := hb18.trans (hB.mono hb18.size); clear hB; obtain ⟨d8, d9⟩ := HX.o _ hb19))
      clear HX d0 d1 d2 d3 d4 d5 d6 d7 d8 d9
      go_wp2
      exact ⟨⟨i + 1, by omega, by go_num, ⟨HBL.o.trans (hb19.mono HBL.o.size)⟩⟩, by simp [intOf]; omega⟩
end N10
end Go.Proofs.Yteaecpmdooolkaa
