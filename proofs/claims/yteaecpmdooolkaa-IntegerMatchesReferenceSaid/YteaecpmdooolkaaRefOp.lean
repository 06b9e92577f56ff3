/-
  The reference: ToInt.
  The reference: FromInt.
  The reference: trimmed, Root.
-/
import Derived.Test.YteaecpmdooolkaaRefKn
import Derived.Test.YteaecpmdooolkaaIntRoot
namespace Go.Proofs.Yteaecpmdooolkaa
namespace N10
open Go.RowKit
open Nm (decN decN_zero decN_pos decN_dig decN_head decN_nil dvl dvl_snoc dvl_append decN_dvl)

theorem txt_nonneg (z : Int) (h : 0 ≤ z) : (∀ y ∈ bl (txt z), 48 ≤ y ∧ y < 58) ∧ dvl (bl (txt z)) = z.natAbs ∧ bl (txt z) ≠ [] := by
  rw [txt_bl]
  by_cases h0 : z = 0
  · rw [if_pos h0, h0]; exact ⟨by simp, rfl, by simp⟩
  · rw [if_neg h0, if_neg (by omega)]
    exact ⟨decN_dig _, decN_dvl _, fun e => by have := decN_nil.1 e; omega⟩
theorem txt_negS (z : Int) (h : z < 0) : ∃ D, bl (txt z) = 45 :: D ∧ (∀ y ∈ D, 48 ≤ y ∧ y < 58) ∧ dvl D = z.natAbs := by
  rw [txt_bl, if_neg (by omega), if_pos h]
  exact ⟨_, rfl, decN_dig _, decN_dvl _⟩
theorem size_pos {s : ByteArray} (h : bl s ≠ []) : 0 < s.size := by
  rw [← bl_len]; exact List.length_pos_iff.2 h
theorem dvl_take (l : List Nat) (k : Nat) : dvl (l.take k) ≤ dvl l := by
  have h := dvl_append (l.take k) (l.drop k)
  rw [List.take_append_drop] at h
  rw [h]
  have : dvl (l.take k) * 1 ≤ dvl (l.take k) * 10 ^ (l.drop k).length := Nat.mul_le_mul_left _ (Nat.pow_pos (by decide))
  omega
theorem dvl_next (l : List Nat) (k : Nat) (h : k < l.length) : dvl (l.take (k + 1)) = 10 * dvl (l.take k) + (l.getD k 0 - 48) := by
  rw [List.take_succ_eq_append_getElem h, dvl_snoc, List.getD_eq_getElem?_getD, List.getElem?_eq_getElem h]; rfl
theorem getD_mem {l : List Nat} {k : Nat} (h : k < l.length) : l.getD k 0 ∈ l := by
  rw [List.getD_eq_getElem?_getD, List.getElem?_eq_getElem h]; exact List.getElem_mem h
theorem t_min : txt (-9223372036854775808) = ⟨#[45, 57, 50, 50, 51, 51, 55, 50, 48, 51, 54, 56, 53, 52, 55, 55, 53, 56, 48, 56]⟩ := by decide +kernel
theorem t_max : txt (9223372036854775807) = ⟨#[57, 50, 50, 51, 51, 55, 50, 48, 51, 54, 56, 53, 52, 55, 55, 53, 56, 48, 55]⟩ := by decide +kernel
theorem ft_min : Fits (-9223372036854775808) := by unfold Fits; decide +kernel
theorem ft_max : Fits (9223372036854775807) := by unfold Fits; decide +kernel
set_option maxHeartbeats 400000 in
theorem ToInt_badR (s : ByteArray) (hs : s.size ≤ 1000000) (h : validB s = false) (w : World) :
    Calls Try.prog 28 #[.string s] w fun e w' => e = .returned (.tuple #[.int .i64 0, .int .i64 30]) ∧ Below w.heap.size w w' := by
  have cv := fun W => Valid_ref s hs W
  rw [h] at cv
  clear hs h
  go_enter Try.func28, Try.ntmps28
  go_wp2_with (go_at_call 30; with_reducible refine (cv _).mono ?_; rintro e w1 ⟨rfl, hm⟩; have hb1 := drawn_below hm; clear hm)
  go_ret2
  exact ⟨rfl, hb1⟩
theorem cmp_consts (z : Int) (hz : Fits z) : (∀ W, Calls Try.prog 32 #[.string (txt z), .string ⟨#[45, 57, 50, 50, 51, 51, 55, 50, 48, 51, 54, 56, 53, 52, 55, 55, 53, 56, 48, 56]⟩] W fun e w' => e = .returned (.int .i64 (cmpZ z (-9223372036854775808))) ∧ Below W.heap.size W w')
    ∧ (∀ W, Calls Try.prog 32 #[.string (txt z), .string ⟨#[57, 50, 50, 51, 51, 55, 50, 48, 51, 54, 56, 53, 52, 55, 55, 53, 56, 48, 55]⟩] W fun e w' => e = .returned (.int .i64 (cmpZ z 9223372036854775807)) ∧ Below W.heap.size W w') :=
  ⟨fun W => t_min ▸ Compare_ref z _ hz ft_min W, fun W => t_max ▸ Compare_ref z _ hz ft_max W⟩
set_option maxHeartbeats 400000 in
theorem ToInt_lowR (z : Int) (hz : Fits z) (h1 : z < -9223372036854775808) (w : World) :
    Calls Try.prog 28 #[.string (txt z)] w fun e w' => e = .returned (.tuple #[.int .i64 0, .int .i64 30]) ∧ Below w.heap.size w w' := by
  have cv := fun W => Valid_yes z hz W
  have ⟨c1, _⟩ := cmp_consts z hz
  rw [show cmpZ z (-9223372036854775808) = -1 by unfold cmpZ; rw [if_pos h1]] at c1
  clear hz h1
  generalize txt z = s at *
  go_enter Try.func28, Try.ntmps28
  go_wp2_with (first | (go_at_call 30; with_reducible refine (cv _).mono ?_; rintro e w1 ⟨rfl, hm⟩; have hb1 := drawn_below hm; clear hm) | (go_at_call 32; with_reducible refine (c1 _).mono ?_; rintro e w2 ⟨rfl, hb2⟩))
  go_ret2
  exact ⟨rfl, hb1.trans (hb2.mono hb1.size)⟩
set_option maxHeartbeats 400000 in
theorem ToInt_highR (z : Int) (hz : Fits z) (h1 : 9223372036854775807 < z) (w : World) :
    Calls Try.prog 28 #[.string (txt z)] w fun e w' => e = .returned (.tuple #[.int .i64 0, .int .i64 30]) ∧ Below w.heap.size w w' := by
  have cv := fun W => Valid_yes z hz W
  have ⟨c1, c2⟩ := cmp_consts z hz
  rw [show cmpZ z (-9223372036854775808) = 1 by unfold cmpZ; rw [if_neg (by omega), if_neg (by omega)]] at c1
  rw [show cmpZ z (9223372036854775807) = 1 by unfold cmpZ; rw [if_neg (by omega), if_neg (by omega)]] at c2
  clear hz h1
  generalize txt z = s at *
  go_enter Try.func28, Try.ntmps28
  go_wp2_with (first | (go_at_call 30; with_reducible refine (cv _).mono ?_; rintro e w1 ⟨rfl, hm⟩; have hb1 := drawn_below hm; clear hm) | (go_at_call 32; with_reducible refine (c1 _).mono ?_; rintro e w2 ⟨rfl, hb2⟩) | (go_at_call 32; with_reducible refine (c2 _).mono ?_; rintro e w3 ⟨rfl, hb3⟩))
  go_ret2
  exact ⟨rfl, (hb1.trans (hb2.mono hb1.size)).trans (hb3.mono (hb1.trans (hb2.mono hb1.size)).size)⟩
theorem cmp_in (z : Int) (h1 : -9223372036854775808 ≤ z) (h2 : z ≤ 9223372036854775807) : ∃ a b : Int, cmpZ z (-9223372036854775808) = a ∧ cmpZ z 9223372036854775807 = b ∧ ¬ a < 0 ∧ ¬ 0 < b := by
  refine ⟨_, _, rfl, rfl, ?_, ?_⟩
  · unfold cmpZ; (repeat' split) <;> omega
  · unfold cmpZ; (repeat' split) <;> omega
set_option maxHeartbeats 1000000 in
theorem ToInt_posR (z : Int) (hz : Fits z) (h0 : 0 ≤ z) (h2 : z ≤ 9223372036854775807) (w : World) :
    Calls Try.prog 28 #[.string (txt z)] w fun e w' => e = .returned (.tuple #[.int .i64 z, .int .i64 0]) ∧ Below w.heap.size w w' := by
  have cv := fun W => Valid_yes z hz W
  have ⟨c1, c2⟩ := cmp_consts z hz
  obtain ⟨a, b, ha, hb, ha0, hb0⟩ := cmp_in z (by omega) h2
  rw [ha] at c1
  rw [hb] at c2
  obtain ⟨d1, d2, d3⟩ := txt_nonneg z h0
  have hsz := size_pos d3
  have hmax := txt_size hz
  have HD : Shut (∀ k, k < (txt z).size → 48 ≤ (bl (txt z)).getD k 0 ∧ (bl (txt z)).getD k 0 < 58) := ⟨fun k hk => d1 _ (getD_mem (by rw [bl_len]; exact hk))⟩
  have HN : Shut (∀ k, k < (txt z).size → dvl ((bl (txt z)).take (k + 1)) = 10 * dvl ((bl (txt z)).take k) + ((bl (txt z)).getD k 0 - 48) ∧ dvl ((bl (txt z)).take (k + 1)) ≤ 9223372036854775807) := ⟨fun k hk => ⟨dvl_next _ k (by rw [bl_len]; exact hk), Nat.le_trans (dvl_take _ _) (by rw [d2]; omega)⟩⟩
  have HE : Shut (((dvl ((bl (txt z)).take (txt z).size) : Nat) : Int) = z) := ⟨by rw [List.take_of_length_le (by rw [bl_len]; exact Nat.le_refl _), d2]; omega⟩
  have h45 := (HD.o 0 hsz).1
  rw [bl_get _ 0 hsz] at h45
  clear d1 d2 d3 ha hb h0 h2 hz
  generalize txt z = s at *
  go_enter Try.func28, Try.ntmps28
  go_wp2_with (first | (go_at_call 30; with_reducible refine (cv _).mono ?_; rintro e w1 ⟨rfl, hm⟩; have hb1 := drawn_below hm; clear hm) | (go_at_call 32; with_reducible refine (c1 _).mono ?_; rintro e w2 ⟨rfl, hb2⟩) | (go_at_call 32; with_reducible refine (c2 _).mono ?_; rintro e w3 ⟨rfl, hb3⟩))
  have hB : Below w.heap.size w w3 := (hb1.trans (hb2.mono hb1.size)).trans (hb3.mono (hb1.trans (hb2.mono hb1.size)).size)
  have HB : Shut _ := ⟨hB⟩
  have hq : (((s[0].toNat : Nat) : Int) == 45) = false := by rw [beq_eq_false_iff_ne]; omega
  clear hb1 hb2 hb3 hB cv c1 c2 ha0 hb0
  go_loopw [4, 5] (fun nv iv wr => ∃ k : Nat, k ≤ s.size ∧ iv = .int .i64 k ∧ nv = .int .i64 ((dvl ((bl s).take k) : Nat) : Int) ∧ ∃ m, wr = w3.drewN m) (fun _ iv _ => s.size - (intOf iv).toNat)
  case atStart => exact ⟨0, by omega, rfl, rfl, 0, rfl⟩
  case round =>
    obtain ⟨k, hk, rfl, rfl, m, rfl⟩ := hrel
    by_cases hlt : k < s.size
    · have hD := HD.o k hlt
      have hN := HN.o k hlt
      have hgk := bl_get s k hlt
      rw [hgk] at hD hN
      have HN1 : Shut _ := ⟨hN.1⟩
      rw [hN.1] at hN
      generalize dvl ((bl s).take k) = V at *
      obtain ⟨D1, D2⟩ := hD
      obtain ⟨N1, N2⟩ := hN
      have hq2 : (((s[k].toNat : Nat) : Int) == 45) = false := by rw [beq_eq_false_iff_ne]; omega
      clear hgk
      go_wp2
      exact ⟨⟨k + 1, by omega, by go_num, by rw [HN1.o]; congr 1; omega, m, rfl⟩, by simp [intOf]; omega⟩
    · obtain rfl : k = s.size := by omega
      go_wp2
      go_ret2
      exact ⟨by rw [HE.o]; rfl, below_drewN HB.o m⟩
set_option maxHeartbeats 1000000 in
theorem ToInt_negR (z : Int) (hz : Fits z) (h0 : z < 0) (h2 : -9223372036854775808 ≤ z) (w : World) :
    Calls Try.prog 28 #[.string (txt z)] w fun e w' => e = .returned (.tuple #[.int .i64 z, .int .i64 0]) ∧ Below w.heap.size w w' := by
  have cv := fun W => Valid_yes z hz W
  have ⟨c1, c2⟩ := cmp_consts z hz
  obtain ⟨a, b, ha, hb, ha0, hb0⟩ := cmp_in z h2 (by omega)
  rw [ha] at c1
  rw [hb] at c2
  obtain ⟨D, d1, d2, d3⟩ := txt_negS z h0
  have hsz := size_pos (show bl (txt z) ≠ [] by rw [d1]; simp)
  have hmax := txt_size hz
  have hlen : (txt z).size = D.length + 1 := by rw [← bl_len, d1]; rfl
  have HG : Shut (∀ k (h : k + 1 < (txt z).size), 48 ≤ (txt z)[k + 1].toNat ∧ (txt z)[k + 1].toNat < 58 ∧ dvl (D.take (k + 1)) = 10 * dvl (D.take k) + ((txt z)[k + 1].toNat - 48) ∧ dvl (D.take (k + 1)) ≤ 9223372036854775808) := ⟨fun k hk => by
    have e : (txt z)[k + 1].toNat = D.getD k 0 := by rw [← bl_get _ _ hk, d1, List.getD_cons_succ]
    rw [e]
    have h := d2 _ (getD_mem (l := D) (k := k) (by omega))
    exact ⟨h.1, h.2, dvl_next _ k (by omega), Nat.le_trans (dvl_take _ _) (by rw [d3]; omega)⟩⟩
  have HE : Shut (-((dvl (D.take ((txt z).size - 1)) : Nat) : Int) = z) := ⟨by rw [List.take_of_length_le (by omega), d3]; omega⟩
  have h45 : (txt z)[0].toNat = 45 := by rw [← bl_get _ 0 hsz, d1]; rfl
  clear d1 d2 d3 ha hb h0 h2 hz hlen
  generalize txt z = s at *
  go_enter Try.func28, Try.ntmps28
  go_wp2_with (first | (go_at_call 30; with_reducible refine (cv _).mono ?_; rintro e w1 ⟨rfl, hm⟩; have hb1 := drawn_below hm; clear hm) | (go_at_call 32; with_reducible refine (c1 _).mono ?_; rintro e w2 ⟨rfl, hb2⟩) | (go_at_call 32; with_reducible refine (c2 _).mono ?_; rintro e w3 ⟨rfl, hb3⟩))
  have hB : Below w.heap.size w w3 := (hb1.trans (hb2.mono hb1.size)).trans (hb3.mono (hb1.trans (hb2.mono hb1.size)).size)
  have HB : Shut _ := ⟨hB⟩
  clear hb1 hb2 hb3 hB cv c1 c2 ha0 hb0
  go_loopw [4, 5] (fun nv iv wr => ∃ k : Nat, k ≤ s.size ∧ iv = .int .i64 k ∧ nv = .int .i64 (-((dvl (D.take (k - 1)) : Nat) : Int)) ∧ ∃ m, wr = w3.drewN m) (fun _ iv _ => s.size - (intOf iv).toNat)
  case atStart => exact ⟨0, by omega, rfl, rfl, 0, rfl⟩
  case round =>
    obtain ⟨k, hk, rfl, rfl, m, rfl⟩ := hrel
    by_cases hlt : k < s.size
    · cases k with
      | zero =>
        go_wp2
        exact ⟨⟨1, by omega, rfl, rfl, m, rfl⟩, by simp [intOf]; omega⟩
      | succ k =>
        obtain ⟨D1, D2, N1, N2⟩ := HG.o k hlt
        have HN1 : Shut _ := ⟨N1⟩
        rw [N1] at N2
        clear N1
        rw [Nat.add_sub_cancel]
        generalize dvl (D.take k) = V at *
        have hq2 : (((s[k + 1].toNat : Nat) : Int) == 45) = false := by rw [beq_eq_false_iff_ne]; omega
        go_wp2
        exact ⟨⟨k + 1 + 1, by omega, by go_num, by rw [Nat.add_sub_cancel, HN1.o]; congr 1; omega, m, rfl⟩, by simp [intOf]; omega⟩
    · obtain rfl : k = s.size := by omega
      go_wp2
      go_ret2
      exact ⟨by rw [HE.o]; rfl, below_drewN HB.o m⟩
end N10
end Go.Proofs.Yteaecpmdooolkaa
namespace Go.Proofs.Yteaecpmdooolkaa
namespace N10
open Go.RowKit

theorem tmod_neg (m : Nat) : Int.tmod (-(m : Int)) 10 = -((m % 10 : Nat) : Int) := by
  rw [Int.neg_tmod, Int.tmod_eq_emod_of_nonneg (by omega)]; omega
theorem tdiv_neg (m : Nat) : Int.tdiv (-(m : Int)) 10 = -((m / 10 : Nat) : Int) := by
  rw [Int.neg_tdiv, Int.tdiv_eq_ediv_of_nonneg (by omega)]; omega
theorem tmod_pos (m : Nat) : Int.tmod (m : Int) 10 = ((m % 10 : Nat) : Int) := by
  rw [Int.tmod_eq_emod_of_nonneg (by omega)]; omega
theorem tdiv_pos (m : Nat) : Int.tdiv (m : Int) 10 = ((m / 10 : Nat) : Int) := by
  rw [Int.tdiv_eq_ediv_of_nonneg (by omega)]; omega
theorem natL_word {n : Nat} (h : n < 18446744073709551616) : (natL n).length ≤ 20 := natL_len_le (Nat.lt_of_lt_of_le h (by decide +kernel))
/-- the state of the walk of FromInt -/
def FI (w wr : World) (lv : Value) (ds : List Nat) (m n : Nat) : Prop :=
  OwnJ wr w.heap.size lv ds ∧ natL n = ds ++ natL m ∧ Below w.heap.size w wr ∧ ds.length ≤ 20
set_option maxRecDepth 100000 in
set_option maxHeartbeats 1000000 in
theorem FromInt_ref (n : Int) (h1 : -9223372036854775808 ≤ n) (h2 : n ≤ 9223372036854775807) (w : World) :
    Calls Try.prog 14 #[.int .i64 n] w fun e w' => e = .returned (.string (txt n)) ∧ Below w.heap.size w w' := by
  obtain ⟨i0, hinf, hz0, hz1, hz2⟩ := info_parts infoI8
  obtain ⟨neg, hneg⟩ : ∃ neg, neg = decide (n < 0) := ⟨_, rfl⟩
  obtain ⟨N, hN⟩ : ∃ N, N = n.natAbs := ⟨_, rfl⟩
  have hsg := sg_of n
  rw [← hneg, ← hN] at hsg
  have hNb : N ≤ 9223372036854775808 := by omega
  have ct := fun v W h => text_ref2 N neg v W h (by have := natL_word (n := N) (by omega); omega)
  rw [hsg] at ct
  have hNp : neg = false → N ≤ 9223372036854775807 := fun h => by rw [hneg, decide_eq_false_iff_not] at h; omega
  have hnl := natL_word (n := N) (by omega)
  have HD : Shut (decide (n < 0) = neg) := ⟨hneg.symm⟩
  have HSG : Shut (sg neg N = n) := ⟨hsg⟩
  have HNL : Shut _ := ⟨hnl⟩
  clear hneg hN hsg hnl
  generalize hs : txt n = s at *
  clear hs
  go_enter Try.func14, Try.ntmps14
  go_wp2
  go_loopw [3, 4] (fun lv mv wr => ∃ (ds : List Nat) (m : Nat), mv = .int .i64 (sg neg m) ∧ m ≤ N ∧ Shut (FI w wr lv ds m N)) (fun _ mv _ => (intOf mv).natAbs)
  case atStart => exact ⟨[], N, by rw [HSG.o], Nat.le_refl _, ⟨⟨OwnJ.nil _ _, rfl, Below.refl _ _, by simp⟩⟩⟩
  case round =>
    rename World => wo
    obtain ⟨ds, m, rfl, hm, hS⟩ := hrel
    cases neg
    · have hM : sg false m = (m : Int) := rfl
      rw [hM]
      by_cases hm0 : m = 0
      · subst hm0
        have hr := hS.o.1.ni
        have hE := hS.o.2.1
        rw [natL_zero, List.append_nil] at hE
        rw [← hE] at hr
        have c9 := ct u3 wo hr
        have HB9 : Shut _ := ⟨hS.o.2.2.1⟩
        have hd9 := HD.o
        clear hS hr hE ct HSG HNL
        go_wp2_with (go_at_call 36; refine (c9).mono ?_; rintro e w5 ⟨rfl, hb5⟩)
        go_ret
        exact ⟨rfl, HB9.o.trans (hb5.mono HB9.o.size)⟩
      · have hO2 := hS.o.1
        have hE := hS.o.2.1
        rw [natL_pos hm0] at hE
        obtain ⟨d, hd⟩ : ∃ d, d = m % 10 := ⟨_, rfl⟩
        obtain ⟨q, hq⟩ : ∃ q, q = m / 10 := ⟨_, rfl⟩
        rw [← hd, ← hq] at hE
        have t1 := tmod_pos m
        have t2 := tdiv_pos m
        rw [← hd] at t1
        rw [← hq] at t2
        have hql : q < m := by omega
        have hd10 : d < 10 := by omega
        have hq2 : q ≤ N := by omega
        have hdl : ds.length ≤ 19 := by
          have := congrArg List.length hE
          have := HNL.o
          rw [List.length_append, List.length_cons] at *
          omega
        have HQL : Shut (q < m) := ⟨hql⟩
        have HE9 : Shut (natL N = (ds ++ [d]) ++ natL q) := ⟨by rw [hE, List.append_assoc]; rfl⟩
        have HB9 : Shut _ := ⟨hS.o.2.2.1⟩
        have hbs := HB9.o.size
        have hM0 : ¬ (m : Int) = 0 := by omega
        have hMa : (intOf (Value.int .i64 (m : Int))).natAbs = m := by simp [intOf]
        have HMA : Shut _ := ⟨hMa⟩
        clear hS hE hd hq hql hM ct hm0 hMa
        have hb1 : -9223372036854775808 ≤ (m : Int) := by omega
        have hb2 : (m : Int) ≤ 9223372036854775807 := by have := hNp rfl; omega
        have hq3 : (q : Int) ≤ 9223372036854775807 := by have := HQL.o; omega
        clear hNp
        generalize hZZ : (m : Int) = M at *
        clear hZZ
        by_cases hd0 : d = 0
        · subst hd0
          go_wp2_with (at_builtin; go_must (refine wpList_append_own _ rfl _ _ 44 rfl w.heap.size 3 i0 (.int .i64 0) 1 8 Try.underlying44 hinf hz0 hz1 hz2 rfl (by decide) _ _ _ rfl (World.ownsRow.alloc hO2 _) ⟨_, 0, none⟩ 1 1 [.int .i64 0] rfl rfl (cell_one_new _ _ _) (by simp [Value.oneCell']) (by unfold maxLen; omega) (by omega) (by rw [World.size_alloc]; omega) ?_); intro v' w' hown' hgrow _; have hB' := below_grownV (HB9.o.alloc hbs _) (Nat.le_refl _) (World.ownsRow.alloc hO2 _) hgrow)
          exact ⟨⟨ds ++ [0], q, rfl, hq2, ⟨⟨OwnJ.snoc hown', HE9.o, hB', by simp; omega⟩⟩⟩, by rw [HMA.o]; simp [intOf]; exact HQL.o⟩
        · have hdn : ¬ ((d : Nat) : Int) < 0 := by omega
          go_wp2_with (at_builtin; go_must (refine wpList_append_own _ rfl _ _ 44 rfl w.heap.size 3 i0 (.int .i64 0) 1 8 Try.underlying44 hinf hz0 hz1 hz2 rfl (by decide) _ _ _ rfl (World.ownsRow.alloc hO2 _) ⟨_, 0, none⟩ 1 1 [.int .i64 ((d : Nat) : Int)] rfl rfl (cell_one_new _ _ _) (by simp [Value.oneCell']) (by unfold maxLen; omega) (by omega) (by rw [World.size_alloc]; omega) ?_); intro v' w' hown' hgrow _; have hB' := below_grownV (HB9.o.alloc hbs _) (Nat.le_refl _) (World.ownsRow.alloc hO2 _) hgrow)
          exact ⟨⟨ds ++ [d], q, rfl, hq2, ⟨⟨OwnJ.snoc hown', HE9.o, hB', by simp; omega⟩⟩⟩, by rw [HMA.o]; simp [intOf]; exact HQL.o⟩
    · have hM : sg true m = (-(m : Int)) := rfl
      rw [hM]
      by_cases hm0 : m = 0
      · subst hm0
        have hr := hS.o.1.ni
        have hE := hS.o.2.1
        rw [natL_zero, List.append_nil] at hE
        rw [← hE] at hr
        have c9 := ct u3 wo hr
        have HB9 : Shut _ := ⟨hS.o.2.2.1⟩
        have hd9 := HD.o
        clear hS hr hE ct HSG HNL
        go_wp2_with (go_at_call 36; refine (c9).mono ?_; rintro e w5 ⟨rfl, hb5⟩)
        go_ret
        exact ⟨rfl, HB9.o.trans (hb5.mono HB9.o.size)⟩
      · have hO2 := hS.o.1
        have hE := hS.o.2.1
        rw [natL_pos hm0] at hE
        obtain ⟨d, hd⟩ : ∃ d, d = m % 10 := ⟨_, rfl⟩
        obtain ⟨q, hq⟩ : ∃ q, q = m / 10 := ⟨_, rfl⟩
        rw [← hd, ← hq] at hE
        have t1 := tmod_neg m
        have t2 := tdiv_neg m
        rw [← hd] at t1
        rw [← hq] at t2
        have hql : q < m := by omega
        have hd10 : d < 10 := by omega
        have hq2 : q ≤ N := by omega
        have hdl : ds.length ≤ 19 := by
          have := congrArg List.length hE
          have := HNL.o
          rw [List.length_append, List.length_cons] at *
          omega
        have HQL : Shut (q < m) := ⟨hql⟩
        have HE9 : Shut (natL N = (ds ++ [d]) ++ natL q) := ⟨by rw [hE, List.append_assoc]; rfl⟩
        have HB9 : Shut _ := ⟨hS.o.2.2.1⟩
        have hbs := HB9.o.size
        have hM0 : ¬ (-(m : Int)) = 0 := by omega
        have hMa : (intOf (Value.int .i64 (-(m : Int)))).natAbs = m := by simp [intOf]
        have HMA : Shut _ := ⟨hMa⟩
        clear hS hE hd hq hql hM ct hm0 hMa
        have hb1 : -9223372036854775808 ≤ (-(m : Int)) := by omega
        have hb2 : (-(m : Int)) ≤ 9223372036854775807 := by omega
        clear hNp
        generalize hZZ : (-(m : Int)) = M at *
        clear hZZ
        by_cases hd0 : d = 0
        · subst hd0
          go_wp2_with (at_builtin; go_must (refine wpList_append_own _ rfl _ _ 44 rfl w.heap.size 3 i0 (.int .i64 0) 1 8 Try.underlying44 hinf hz0 hz1 hz2 rfl (by decide) _ _ _ rfl (World.ownsRow.alloc hO2 _) ⟨_, 0, none⟩ 1 1 [.int .i64 0] rfl rfl (cell_one_new _ _ _) (by simp [Value.oneCell']) (by unfold maxLen; omega) (by omega) (by rw [World.size_alloc]; omega) ?_); intro v' w' hown' hgrow _; have hB' := below_grownV (HB9.o.alloc hbs _) (Nat.le_refl _) (World.ownsRow.alloc hO2 _) hgrow)
          exact ⟨⟨ds ++ [0], q, rfl, hq2, ⟨⟨OwnJ.snoc hown', HE9.o, hB', by simp; omega⟩⟩⟩, by rw [HMA.o]; simp [intOf]; exact HQL.o⟩
        · have hdn : -((d : Nat) : Int) < 0 := by omega
          go_wp2_with (at_builtin; go_must (refine wpList_append_own _ rfl _ _ 44 rfl w.heap.size 3 i0 (.int .i64 0) 1 8 Try.underlying44 hinf hz0 hz1 hz2 rfl (by decide) _ _ _ rfl (World.ownsRow.alloc hO2 _) ⟨_, 0, none⟩ 1 1 [.int .i64 ((d : Nat) : Int)] rfl rfl (cell_one_new _ _ _) (by simp [Value.oneCell']) (by unfold maxLen; omega) (by omega) (by rw [World.size_alloc]; omega) ?_); intro v' w' hown' hgrow _; have hB' := below_grownV (HB9.o.alloc hbs _) (Nat.le_refl _) (World.ownsRow.alloc hO2 _) hgrow)
          exact ⟨⟨ds ++ [d], q, rfl, hq2, ⟨⟨OwnJ.snoc hown', HE9.o, hB', by simp; omega⟩⟩⟩, by rw [HMA.o]; simp [intOf]; exact HQL.o⟩
end N10
end Go.Proofs.Yteaecpmdooolkaa
namespace Go.Proofs.Yteaecpmdooolkaa
namespace N10
open Go.RowKit

theorem OwnJ.zero (W : World) (B : Nat) (h : B ≤ W.heap.size) : OwnJ (W.alloc (.cells #[] 3)) B (.slice (some ⟨W.heap.size, 0, none⟩) 0 0) [] :=
  ⟨by simp, .inr ⟨W.heap.size, 0, #[], rfl, h, RowAt.new W _ _, by simp, by unfold maxLen; omega, by simp, by simp⟩⟩
set_option maxHeartbeats 400000 in
theorem trimmed_ref (l : List Nat) (v : Value) (w : World) (h : NI w v l) (hd : Dig l) (hl : l.length ≤ 1000) :
    Calls Try.prog 57 #[v] w fun e w' => ∃ u, e = .returned u ∧ NI w' u (natL (nv l)) ∧ Below w.heap.size w w' := by
  have hal : Below w.heap.size w (w.alloc (.cells #[] 3)) := (Below.refl _ _).alloc (Nat.le_refl _) _
  have HNI : Shut _ := ⟨h.below hal (Nat.le_refl _)⟩
  have HONE : Shut _ := ⟨OwnJ.zero w w.heap.size (Nat.le_refl _)⟩
  have ct := fun (v : Value) (W : World) (h : NI W v l) => trim_ref l v W h hd (by omega)
  obtain ⟨p, cap, g, o, rfl, _, _, _, _⟩ := h.open
  clear h hd
  go_enter Try.func57, Try.ntmps57
  go_wp2_with (first | (at_builtin; refine append_j64 rfl _ _ rfl w.heap.size _ [] rfl HONE.o _ l rfl HNI.o (by simp; omega) (by rw [World.size_alloc]; omega) ?_; intro v5 w5 hO5 _ hB5) | (go_at_call 37; refine (ct v5 w5 hO5.ni).mono ?_; rintro e w6 ⟨u6, rfl, hu6, hob6, rfl⟩))
  go_ret
  exact ⟨_, rfl, hu6, hal.trans ⟨hB5.os, hB5.tape, hB5.output, hB5.size, fun k hk => hB5.block k hk⟩⟩

theorem root_end (s j d X : Nat) (hX : X = 10 ^ (j + 1) * (s / 10 ^ (j + 1)) + 10 ^ j * d) (h1 : s < X + 10 ^ j) (h2 : d = 0 ∨ X ≤ s) : X = 10 ^ j * (s / 10 ^ j) := by
  have hp : 0 < 10 ^ j := Nat.pow_pos (by decide)
  have hle : X ≤ s := by
    rcases h2 with rfl | h
    · rw [hX, Nat.mul_zero, Nat.add_zero]; exact Nat.mul_div_le _ _
    · exact h
  have e : X = 10 ^ j * (10 * (s / 10 ^ (j + 1)) + d) := by rw [hX, Nat.pow_succ, Nat.mul_add, Nat.mul_assoc]
  generalize 10 * (s / 10 ^ (j + 1)) + d = t at *
  have : s / 10 ^ j = t := by
    refine Nat.div_eq_of_lt_le ?_ ?_
    · rw [Nat.mul_comm, ← e]; exact hle
    · rw [Nat.mul_comm, Nat.mul_succ, ← e]; exact h1
  rw [this]; exact e
theorem root_room (s j h d : Nat) (hj : j < h) (hs : s < 10 ^ h) (hd : d ≤ 9) : 10 ^ (j + 1) * (s / 10 ^ (j + 1)) + 10 ^ j * d < 10 ^ h := by
  have hq : s / 10 ^ (j + 1) < 10 ^ (h - (j + 1)) := by
    rw [Nat.div_lt_iff_lt_mul (Nat.pow_pos (by decide)), ← Nat.pow_add, show h - (j + 1) + (j + 1) = h by omega]; exact hs
  have h1 : 10 ^ (j + 1) * (s / 10 ^ (j + 1) + 1) ≤ 10 ^ (j + 1) * 10 ^ (h - (j + 1)) := Nat.mul_le_mul_left _ hq
  rw [← Nat.pow_add, show j + 1 + (h - (j + 1)) = h by omega, Nat.mul_add, Nat.mul_one] at h1
  have h2 : 10 ^ j * d < 10 ^ (j + 1) := by
    rw [Nat.pow_succ]; exact Nat.mul_lt_mul_of_pos_left (by omega) (Nat.pow_pos (by decide))
  omega
theorem root_first (s j : Nat) : s < 10 ^ (j + 1) * (s / 10 ^ (j + 1)) + 10 ^ j * 9 + 10 ^ j := by
  have h1 := Nat.div_add_mod s (10 ^ (j + 1))
  have h2 := Nat.mod_lt s (show 0 < 10 ^ (j + 1) from Nat.pow_pos (by decide))
  have : 10 ^ (j + 1) = 10 ^ j * 9 + 10 ^ j := by rw [Nat.pow_succ]; omega
  omega
theorem sqr_room (n L : Nat) (h : n < 10 ^ L) : sqr n < 10 ^ ((L + 1) / 2) := by
  rcases Nat.lt_or_ge (sqr n) (10 ^ ((L + 1) / 2)) with h1 | h1
  · exact h1
  · exfalso
    have h2 := (sqr_spec n).1
    have h3 : 10 ^ ((L + 1) / 2) * 10 ^ ((L + 1) / 2) ≤ sqr n * sqr n := Nat.mul_le_mul h1 h1
    rw [← Nat.pow_add] at h3
    have h4 : 10 ^ L ≤ 10 ^ ((L + 1) / 2 + (L + 1) / 2) := Nat.pow_le_pow_right (by decide) (by omega)
    omega
/-- the states of the loops of Root -/
def QO (w wr : World) (h n j : Nat) : Prop := IR wr w.heap.size (padL h (10 ^ j * (sqr n / 10 ^ j))) ∧ Below w.heap.size w wr
def QI (w wr : World) (h n j d : Nat) : Prop := IR wr w.heap.size (padL h (10 ^ (j + 1) * (sqr n / 10 ^ (j + 1)) + 10 ^ j * d)) ∧ Below w.heap.size w wr ∧ sqr n < 10 ^ (j + 1) * (sqr n / 10 ^ (j + 1)) + 10 ^ j * d + 10 ^ j
def dgt (W : World) (g j : Nat) : Nat := match W.cell? ⟨g, j, none⟩ with | some (.int _ d) => d.toNat | _ => 0

set_option maxRecDepth 100000 in
set_option maxHeartbeats 1000000 in
theorem Root_ref (x : Int) (hx : Fits x) (h0 : 0 ≤ x) (w : World) :
    Calls Try.prog 26 #[.string (txt x)] w fun e w' => e = .returned (.tuple #[.string (txt (sqr x.natAbs : Nat)), .int .i64 0]) ∧ Below w.heap.size w w' := by
  have lx := fitsL hx
  have ca := fun W => Valid_yes x hx W
  have dx := fun W => digits_ref x (by omega) W
  obtain ⟨e1, _, e3⟩ := txt_nonneg x h0
  have hsz := size_pos e3
  have h45 : hd0 (txt x) ≠ 45 := fun e => by
    have := (e1 _ (getD_mem (k := 0) (by rw [bl_len]; exact hsz))).1
    rw [hd0] at e
    omega
  have hget : (txt x)[0].toNat ≠ 45 := by rw [hd0_get _ hsz]; exact h45
  rw [decide_eq_false (show ¬ x < 0 by omega)] at dx
  generalize txt x = s at *
  generalize x.natAbs = n at *
  obtain ⟨r, hr⟩ : ∃ r, r = txt ((sqr n : Nat) : Int) := ⟨_, rfl⟩
  rw [← hr]
  have HR : Shut _ := ⟨hr⟩
  clear hr
  clear hx h0 h45 e1 e3
  obtain ⟨L, hL⟩ : ∃ L, L = (natL n).length := ⟨_, rfl⟩
  have hsq := sqr_room n L (by rw [hL]; exact natL_lt n)
  obtain ⟨h, hh⟩ : ∃ h, h = (L + 1) / 2 := ⟨_, rfl⟩
  rw [← hh] at hsq
  have HSQ : Shut (sqr n < 10 ^ h) := ⟨hsq⟩
  have HL : Shut _ := ⟨hL⟩
  have hdv : (((natL n).length : Int) + 1) / 2 = (h : Int) := by rw [← hL]; omega
  have hh100 : h ≤ 100 := by omega
  have hb2 : (((s[0].toNat : Nat) : Int) == 45) = false := by rw [beq_eq_false_iff_ne]; omega
  clear hsq hh
  go_enter Try.func26, Try.ntmps26
  go_upto_region 5 with (first | (go_at_call 30; with_reducible refine (ca _).mono ?_; rintro e w1 ⟨rfl, hm⟩; have hb1 := drawn_below hm; clear hm) | (go_at_call 40; with_reducible refine (dx _).mono ?_; rintro e w3 ⟨v3, rfl, hv3, hb3⟩; obtain ⟨p3, c3, g3, o3, rfl, _, _, _, _⟩ := hv3.open) | (at_make; go_must (refine make_j64 rfl _ _ rfl w3.heap.size h (by exact congrArg (Value.int .i64) hdv) (by exact congrArg (Value.int .i64) hdv) (by omega) (Nat.le_refl _) ?_); intro w5 hO5 hB5))
  go_upto_region 99 with fail
  obtain ⟨_, hu5, -, _, hm5⟩ := hO5.openS
  have HLB : Shut (L ≤ 200 ∧ n < 10 ^ L ∧ h ≤ 100 ∧ h = (L + 1) / 2) := ⟨⟨by rw [HL.o]; exact lx, by rw [HL.o]; exact natL_lt n, hh100, by omega⟩⟩
  have HS : Shut (QO w3 w5 h n h) := ⟨⟨by rw [Nat.div_eq_of_lt HSQ.o, Nat.mul_zero, padL_zero]; exact hu5, hB5⟩⟩
  have HW3 : Shut _ := ⟨And.intro hv3 (hb1.trans (hb3.mono hb1.size))⟩
  clear hO5 hu5 hB5 hb1 hb3 hv3 ca dx lx hdv
  go_loopw [7] (fun iv wr => ∃ j : Nat, j ≤ h ∧ iv = .int .i64 ((j : Int) - 1) ∧ Shut (QO w3 wr h n j)) (fun iv _ => (intOf iv + 1).toNat)
  case atStart => exact ⟨h, Nat.le_refl _, by go_num, HS⟩
  case round =>
    clear HS
    rename World => wo
    obtain ⟨j, hj, rfl, hS⟩ := hrel
    by_cases hj0 : j = 0
    · subst hj0
      have hu := hS.o.1
      rw [Nat.pow_zero, Nat.div_one, Nat.one_mul] at hu
      have hl := padL_len h (sqr n)
      have hni2 : NI wo (.slice (some ⟨w3.heap.size, 0, none⟩) h h) (padL h (sqr n)) := ⟨_, h, by rw [hl], by rw [hl]; exact Nat.le_refl _, hm5, .inr ⟨_, 0, rfl, hu.lt, hu.ia⟩⟩
      have ct := trim_ref (padL h (sqr n)) _ wo hni2 (padL_dig _ _) (by omega)
      rw [padL_nv h (sqr n) HSQ.o] at ct
      have hls : (natL (sqr n)).length ≤ 100 := Nat.le_trans (natL_len_le HSQ.o) hh100
      have cc := fun (v : Value) (W : World) (hv : NI W v (natL (sqr n))) => checked_ref false (sqr n) v W hv (by omega)
      rw [show sg false (sqr n) = ((sqr n : Nat) : Int) from rfl, calcR_fit (by unfold Fits; rw [decN_len, Int.natAbs_natCast]; omega)] at cc
      rw [← HR.o] at cc
      have HBB : Shut _ := ⟨HW3.o.2.trans (hS.o.2.mono HW3.o.2.size)⟩
      clear hu hni2 hl hls hS
      go_wp2_with (first | (go_at_call 37; refine ct.mono ?_; rintro e w6 ⟨u, rfl, hu2, _, rfl⟩) | (go_at_call 44; refine (cc _ _ hu2).mono ?_; rintro e w7 ⟨rfl, hb7⟩))
      go_ret2
      exact ⟨rfl, HBB.o.trans (hb7.mono HBB.o.size)⟩
    · obtain ⟨j, rfl⟩ : ∃ j', j = j' + 1 := ⟨j - 1, by omega⟩
      have hji : (((j + 1 : Nat) : Int) - 1) = (j : Int) := by omega
      rw [hji]
      have hjl : (j : Int) < (h : Int) := by omega
      have hu := hS.o.1
      have hfz := hu.frozen j
      have hcl := hu.j64 j (by rw [padL_len]; omega)
      have hs9 := hu.set64 j 9 (by rw [padL_len]; omega)
      rw [padL_set h _ j 9 (by omega) (by omega)] at hs9
      have hd0 : 10 ^ (j + 1) * (sqr n / 10 ^ (j + 1)) / 10 ^ j % 10 = 0 := by have := digit_of (sqr n / 10 ^ (j + 1)) j 0 (by decide); rwa [Nat.mul_zero, Nat.add_zero] at this
      rw [hd0, Nat.mul_zero, Nat.sub_zero] at hs9
      have HI0 : Shut (QI w3 (wo.setCell ⟨w3.heap.size, j, none⟩ (.int .i64 9)) h n j 9) := ⟨⟨hs9, hS.o.2.setCell (p := ⟨w3.heap.size, j, none⟩) (Nat.le_refl _) _, root_first _ _⟩⟩
      clear hu hs9 hd0 hS
      go_upto_region 99 with fail
      go_loopw [] (fun wr => ∃ d : Nat, d ≤ 9 ∧ Shut (QI w3 wr h n j d)) (fun wr => dgt wr w3.heap.size j)
      case atStart => exact ⟨9, by omega, HI0⟩
      case round =>
        clear HI0 hcl hfz
        obtain ⟨d, hd, hT⟩ := hrel
        have hu := hT.o.1
        have hcl := hu.j64 j (by rw [padL_len]; omega)
        have hfz := hu.frozen j
        rw [padL_getD h _ j (by omega), digit_of _ j d (by omega)] at hcl
        have hdg : dgt wr w3.heap.size j = d := by rw [dgt, hcl]; simp
        have hXr := root_room (sqr n) j h d (by omega) HSQ.o hd
        obtain ⟨X, hX⟩ : ∃ X, X = 10 ^ (j + 1) * (sqr n / 10 ^ (j + 1)) + 10 ^ j * d := ⟨_, rfl⟩
        by_cases hd0 : d = 0
        · have HQ : Shut (QO w3 wr h n j) := ⟨⟨by rw [← root_end (sqr n) j d _ rfl hT.o.2.2 (.inl hd0)]; exact hT.o.1, hT.o.2.1⟩⟩
          subst hd0
          clear hT hu hdg hXr hX
          go_wp2
          exact ⟨⟨j, by omega, rfl, HQ⟩, by simp [intOf]⟩
        · have hdi : (0 : Int) < (d : Int) := by omega
          rw [← hX] at hXr hu
          have hl := padL_len h X
          have hni : NI wr (.slice (some ⟨w3.heap.size, 0, none⟩) h h) (padL h X) := ⟨_, h, by rw [hl], by rw [hl]; exact Nat.le_refl _, hm5, .inr ⟨_, 0, rfl, hu.lt, hu.ia⟩⟩
          have ct := fun (W : World) (hB : Below wr.heap.size wr W) => trimmed_ref (padL h X) _ W (hni.below hB (Nat.le_refl _)) (padL_dig _ _) (by omega)
          rw [padL_nv h X hXr] at ct
          have hlX : (natL X).length ≤ 100 := Nat.le_trans (natL_len_le hXr) hh100
          have hlXX : (natL (X * X)).length ≤ 1000 := mul_len (by omega) (by omega)
          have cm := fun (va vb : Value) (W : World) (ha : NI W va (natL X)) (hb : NI W vb (natL X)) => times_ref X X va vb W ha hb (by omega) (by omega)
          have hLn : NI wr (.slice p3 (natL n).length c3) (natL n) := HW3.o.1.below hT.o.2.1 (Nat.le_refl _)
          have co := fun (va : Value) (W : World) (ha : NI W va (natL (X * X))) (hB : Below wr.heap.size wr W) => order_ref (X * X) n va _ W ha (hLn.below hB (Nat.le_refl _)) hlXX (by have := HLB.o.1; have := HL.o; omega)
          by_cases hgt : n < X * X
          · have hcm : 0 < cmpN (X * X) n := by unfold cmpN; (repeat' split) <;> omega
            have hsX : sqr n < X := by
              rcases Nat.lt_or_ge (sqr n) X with h1 | h1
              · exact h1
              · exact absurd (sqr_le.2 h1) (by omega)
            obtain ⟨d, rfl⟩ : ∃ d', d = d' + 1 := ⟨d - 1, by omega⟩
            have HFIN : Shut (∀ (m : Nat) (W : World), Below wr.heap.size wr W → (W.drewN m).cell? ⟨w3.heap.size, j, none⟩ = some (.int .i64 ((d + 1 : Nat) : Int)) ∧ (W.drewN m).frozen? ⟨w3.heap.size, j, none⟩ = false ∧ QI w3 ((W.drewN m).setCell ⟨w3.heap.size, j, none⟩ (.int .i64 ((d : Nat) : Int))) h n j d ∧ dgt ((W.drewN m).setCell ⟨w3.heap.size, j, none⟩ (.int .i64 ((d : Nat) : Int))) w3.heap.size j = d) := ⟨fun m W hB => by
              have hir := (hT.o.1.below hB hT.o.1.lt).drewN m
              have hc := hir.j64 j (by rw [padL_len]; omega)
              rw [padL_getD h _ j (by omega), digit_of _ j (d + 1) (by omega)] at hc
              have h2 := hir.set64 j d (by rw [padL_len]; omega)
              rw [padL_set h _ j d (by omega) (by omega), digit_of _ j (d + 1) (by omega), show 10 ^ (j + 1) * (sqr n / 10 ^ (j + 1)) + 10 ^ j * (d + 1) + 10 ^ j * d - 10 ^ j * (d + 1) = 10 ^ (j + 1) * (sqr n / 10 ^ (j + 1)) + 10 ^ j * d by omega] at h2
              have h9 := h2.j64 j (by rw [padL_len]; omega)
              rw [padL_getD h _ j (by omega), digit_of _ j d (by omega)] at h9
              refine ⟨hc, hir.frozen j, ⟨h2, ?_, ?_⟩, by rw [dgt, h9]; simp⟩
              · exact (below_drewN (hT.o.2.1.trans (hB.mono hT.o.2.1.size)) m).setCell (p := ⟨w3.heap.size, j, none⟩) (Nat.le_refl _) _
              · rw [Nat.mul_add, Nat.mul_one] at hX; omega⟩
            have HDG : Shut _ := ⟨hdg⟩
            have hd9 : d ≤ 9 := by omega
            clear hT hni hX hXr hl hlX hlXX hLn hgt hsX hdg hu
            generalize cmpN (X * X) n = cv at *
            go_wp2_with (first | (go_at_call 57; with_reducible refine (ct wr (Below.refl _ _)).mono ?_; rintro e w5 ⟨u5, rfl, hu5, hb5⟩) | (go_at_call 57; with_reducible refine (ct w5 hb5).mono ?_; rintro e w6 ⟨u6, rfl, hu6, hb6⟩; have hu7 := hu5.below hb6 (Nat.le_refl _); have hb56 := hb5.trans (hb6.mono hb5.size)) | (go_at_call 45; with_reducible refine (cm u5 u6 w6 hu7 hu6).mono ?_; rintro e w8 ⟨u8, rfl, hu8, hb8⟩; have hb58 := hb56.trans (hb8.mono hb56.size)) | (go_at_call 56; with_reducible refine (co u8 w8 hu8 hb58).mono ?_; rintro e w9 ⟨rfl, m, rfl⟩; obtain ⟨hc9, hf9, hQ9⟩ := HFIN.o m w8 hb58; have HQ9 : Shut _ := ⟨hQ9.1⟩; have HDQ : Shut _ := ⟨hQ9.2⟩; clear hQ9))
            exact ⟨⟨d, hd9, HQ9⟩, by rw [HDQ.o, HDG.o]; omega⟩
          · have hcm : ¬ 0 < cmpN (X * X) n := by unfold cmpN; (repeat' split) <;> omega
            have hsX : X ≤ sqr n := sqr_le.1 (by omega)
            have hQE := root_end (sqr n) j d X hX (by rw [hX]; exact hT.o.2.2) (.inr hsX)
            have HQ : Shut (∀ (m : Nat) (W : World), Below wr.heap.size wr W → QO w3 (W.drewN m) h n j) := ⟨fun m W hB => ⟨by rw [← hQE, hX]; exact (hT.o.1.below hB hT.o.1.lt).drewN m, below_drewN (hT.o.2.1.trans (hB.mono hT.o.2.1.size)) m⟩⟩
            clear hT hni hX hXr hl hlX hlXX hLn hgt hsX hdg hu hQE
            generalize cmpN (X * X) n = cv at *
            go_wp2_with (first | (go_at_call 57; with_reducible refine (ct wr (Below.refl _ _)).mono ?_; rintro e w5 ⟨u5, rfl, hu5, hb5⟩) | (go_at_call 57; with_reducible refine (ct w5 hb5).mono ?_; rintro e w6 ⟨u6, rfl, hu6, hb6⟩; have hu7 := hu5.below hb6 (Nat.le_refl _); have hb56 := hb5.trans (hb6.mono hb5.size)) | (go_at_call 45; with_reducible refine (cm u5 u6 w6 hu7 hu6).mono ?_; rintro e w8 ⟨u8, rfl, hu8, hb8⟩; have hb58 := hb56.trans (hb8.mono hb56.size)) | (go_at_call 56; with_reducible refine (co u8 w8 hu8 hb58).mono ?_; rintro e w9 ⟨rfl, m, rfl⟩))
            exact ⟨⟨j, by omega, rfl, ⟨HQ.o m w8 hb58⟩⟩, by simp [intOf]⟩
set_option maxHeartbeats 400000 in
theorem Root_badR (s : ByteArray) (hs : s.size ≤ 1000000) (h : validB s = false) (w : World) :
    Calls Try.prog 26 #[.string s] w fun e w' => e = .returned (.tuple #[.string ⟨#[]⟩, .int .i64 30]) ∧ Below w.heap.size w w' := by
  have ca := fun W => Valid_ref s hs W
  rw [h] at ca
  clear hs h
  go_enter Try.func26, Try.ntmps26
  go_wp2_with (go_at_call 30; with_reducible refine (ca _).mono ?_; rintro e w1 ⟨rfl, hm⟩; have hb1 := drawn_below hm; clear hm)
  go_ret2
  exact ⟨rfl, hb1⟩
set_option maxHeartbeats 400000 in
theorem Root_negR (z : Int) (hz : Fits z) (h0 : z < 0) (w : World) :
    Calls Try.prog 26 #[.string (txt z)] w fun e w' => e = .returned (.tuple #[.string ⟨#[]⟩, .int .i64 30]) ∧ Below w.heap.size w w' := by
  have ca := fun W => Valid_yes z hz W
  obtain ⟨D, d1, _, _⟩ := txt_negS z h0
  have hsz := size_pos (show bl (txt z) ≠ [] by rw [d1]; simp)
  have h45 : (txt z)[0].toNat = 45 := by rw [← bl_get _ 0 hsz, d1]; rfl
  clear d1 hz h0
  generalize txt z = s at *
  go_enter Try.func26, Try.ntmps26
  go_wp2_with (go_at_call 30; with_reducible refine (ca _).mono ?_; rintro e w1 ⟨rfl, hm⟩; have hb1 := drawn_below hm; clear hm)
  go_ret2
  exact ⟨rfl, hb1⟩
end N10
end Go.Proofs.Yteaecpmdooolkaa
