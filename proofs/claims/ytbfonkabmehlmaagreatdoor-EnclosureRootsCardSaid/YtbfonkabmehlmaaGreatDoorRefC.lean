/-
  The reference: digits.
-/
import Derived.Test.YtbfonkabmehlmaaGreatDoorRefB
namespace Go.Proofs.YtbfonkabmehlmaaGreatDoor
set_option maxRecDepth 1000000
namespace N10
open Go.RowKit
open Nm (decN decN_zero decN_pos decN_dig decN_head decN_len_le decN_lt)

theorem decN_len (n : Nat) : (decN n).length = (natL n).length := by rw [decN_natL]; simp
/-- the bytes of a number, from behind -/
theorem byte_at (n k : Nat) (hk : k < (natL n).length) (h : (natL n).length - 1 - k < (ba (decN n)).size) : (ba (decN n))[(natL n).length - 1 - k].toNat = 48 + (natL n).getD k 0 := by
  have h1 := bl_get (ba (decN n)) ((natL n).length - 1 - k) h
  rw [← h1, bl_ba _ (fun y hy => by have := decN_dig n y hy; omega), decN_natL]
  have hlen : ((natL n).reverse.map (48 + ·)).length = (natL n).length := by simp
  rw [List.getD_eq_getElem?_getD, List.getElem?_eq_getElem (by omega), List.getD_eq_getElem?_getD, List.getElem?_eq_getElem hk]
  simp only [List.getElem_map, List.getElem_reverse, Option.getD_some]
  congr 2
  omega
theorem dec_ne (n : Nat) : ((ba (decN n)).toList == [48]) = false ∨ n = 0 := by
  by_cases h : n = 0
  · exact .inr h
  · left
    have h2 := decN_head n h
    rw [show ([48] : List UInt8) = (⟨#[48]⟩ : ByteArray).toList by decide +kernel, str_eq]
    refine decide_eq_false fun e => ?_
    have h3 : bl (ba (decN n)) = bl ⟨#[48]⟩ := by rw [e]
    rw [bl_ba _ (fun y hy => by have := decN_dig n y hy; omega)] at h3
    rw [h3] at h2
    exact h2 rfl

set_option maxHeartbeats 2000000 in
theorem digits_pos (n : Nat) (hn : n ≠ 0) (hl : (natL n).length ≤ 1000) (w : World) :
    Calls Tryz.prog 100 #[.string (txt (n : Int))] w fun e w' => ∃ v, e = .returned (.tuple #[.bool false, v]) ∧ NI w' v (natL n) ∧ Below w.heap.size w w' := by
  obtain ⟨L, hL⟩ : ∃ L, L = (natL n).length := ⟨_, rfl⟩
  have hLs : (ba (decN n)).size = L := by rw [ba_size, decN_len, hL]
  have hbys := byte_at n
  rw [← hL] at hbys
  have hne := (dec_ne n).resolve_right hn
  have htx : txt (n : Int) = ba (decN n) := by rw [txt, if_neg (by omega), if_neg (by omega), Int.natAbs_natCast]
  rw [htx]
  have hL0 : 0 < L := by rw [hL]; rcases Nat.eq_zero_or_pos (natL n).length with h | h; exact absurd (natL_len0.1 h) hn; exact h
  obtain ⟨i0, hinf, hz0, hz1, hz2⟩ := info_parts infoI8
  generalize hds : ba (decN n) = ds at *
  have hp : 0 < ds.size := by omega
  have hb0 : ds[0].toNat ≠ 45 := by
    have h1 := hbys (L - 1) (by omega) (by omega)
    simp only [show L - 1 - (L - 1) = 0 by omega] at h1
    omega
  have hb0i : ((ds[0].toNat : Nat) : Int) ≠ 45 := by omega
  have hbe : (((ds[0].toNat : Nat) : Int) == 45) = false := by rw [beq_eq_false_iff_ne]; exact hb0i
  have HBY : Shut _ := ⟨hbys⟩
  have HL : Shut _ := ⟨hL⟩
  have hLL : L ≤ 1000 := by omega
  clear hbys hL htx hds hl hn
  go_enter Tryz.func100, Tryz.ntmps100
  go_upto_region 6 with fail

  go_loopw [5, 6] (fun v i wr => ∃ k : Nat, k ≤ L ∧ i = .int .i64 ((L : Int) - 1 - (k : Int)) ∧ Shut (OwnJ wr w.heap.size v ((natL n).take k)) ∧ Shut (Below w.heap.size w wr)) (fun _ i _ => (intOf i + 1).toNat)
  case atStart => exact ⟨0, Nat.zero_le _, by congr 1; omega, ⟨OwnJ.nil _ _⟩, ⟨Below.refl _ _⟩⟩
  case round =>
    obtain ⟨k, hk, rfl, hO, hB⟩ := hrel
    by_cases hkl : k = L
    · have HF : Shut ((natL n).take k = natL n) := ⟨List.take_of_length_le (by rw [← HL.o]; omega)⟩
      have hlt : ¬ (0 : Int) ≤ (L : Int) - 1 - (k : Int) := by omega
      have hO2 := hO.o
      rw [HF.o] at hO2
      have HO : Shut _ := ⟨hO2⟩
      clear hO hO2
      go_wp2
      go_ret2
      exact ⟨_, rfl, HO.o.ni, hB.o⟩
    · have hkL : k < L := by omega
      obtain ⟨j, hj⟩ : ∃ j : Nat, j = L - 1 - k := ⟨_, rfl⟩
      have hji : (L : Int) - 1 - (k : Int) = (j : Int) := by omega
      rw [hji]
      have hjL : j < ds.size := by omega
      have hby : ds[j].toNat = 48 + (natL n).getD k 0 := by
        subst hj
        exact HBY.o k hkL (by omega)
      have hdg := (natL_dig n).getD k
      have HT : Shut ((natL n).take (k + 1) = (natL n).take k ++ [(natL n).getD k 0]) := ⟨by
        have hk2 : k < (natL n).length := by rw [← HL.o]; exact hkL
        rw [List.take_succ_eq_append_getElem hk2, List.getD_eq_getElem?_getD, List.getElem?_eq_getElem hk2]; rfl⟩
      have htl : ((natL n).take k).length ≤ 1000 := by rw [List.length_take]; omega
      have hO2 := hO.o
      have hbs := hB.o.size
      obtain ⟨b, hb⟩ : ∃ b : Nat, ds[j].toNat = b := ⟨_, rfl⟩
      have hb48 : b = 48 + (natL n).getD k 0 := by rw [← hb]; exact hby
      have hb1 : 48 ≤ b := by omega
      have hb2 : b < 58 := by omega
      have HBD : Shut (b - 48 = (natL n).getD k 0) := ⟨by omega⟩
      have HJ : Shut _ := ⟨hj⟩
      clear hO hby hdg hb48 hji hj
      generalize (natL n).take k = xs at *
      generalize (natL n).getD k 0 = d at *
      go_wp2_with (at_builtin; go_must (refine wpList_append_own _ rfl _ _ 39 rfl w.heap.size 3 i0 (.int .i64 0) 1 8 Tryz.underlying39 hinf hz0 hz1 hz2 rfl (by decide) _ _ _ rfl (World.ownsRow.alloc hO2 _) ⟨_, 0, none⟩ 1 1 [.int .i64 ((b : Int) - 48)] rfl rfl (cell_one_new _ _ _) (by simp [Value.oneCell']) (by unfold maxLen; omega) (by omega) (by rw [World.size_alloc]; omega) ?_); intro v' w' hown' hgrow _; have hB' := below_grownV (hB.o.alloc hbs _) (Nat.le_refl _) (World.ownsRow.alloc hO2 _) hgrow)
      rw [show ((b : Int) - 48) = ((d : Nat) : Int) by have := HBD.o; omega] at hown'
      exact ⟨⟨k + 1, by omega, by rw [HJ.o]; congr 1; omega, ⟨by rw [HT.o]; exact OwnJ.snoc hown'⟩, ⟨hB'⟩⟩, by simp [intOf]⟩

set_option maxHeartbeats 2000000 in
theorem digits_neg (n : Nat) (hn : n ≠ 0) (hl : (natL n).length ≤ 1000) (w : World) :
    Calls Tryz.prog 100 #[.string (txt (-(n : Int)))] w fun e w' => ∃ v, e = .returned (.tuple #[.bool true, v]) ∧ NI w' v (natL n) ∧ Below w.heap.size w w' := by
  obtain ⟨L, hL⟩ : ∃ L, L = (natL n).length := ⟨_, rfl⟩
  have hLs : (ba (decN n)).size = L := by rw [ba_size, decN_len, hL]
  have hbys := byte_at n
  rw [← hL] at hbys
  have hne := (dec_ne n).resolve_right hn
  have htx : txt (-(n : Int)) = ba (45 :: decN n) := by rw [txt, if_neg (by omega), if_pos (by omega), Int.natAbs_neg, Int.natAbs_natCast]
  have hfull : (ba (45 :: decN n)).size = L + 1 := by rw [ba_size, List.length_cons, decN_len, hL]
  have hext : (ba (45 :: decN n)).extract 1 (L + 1) = ba (decN n) := by
    apply bl_inj
    rw [bl_extract, bl_ba (45 :: decN n) (fun y hy => by
      rcases List.mem_cons.1 hy with rfl | h
      · decide
      · have := decN_dig n y h; omega), bl_ba (decN n) (fun y hy => by have := decN_dig n y hy; omega)]
    rw [List.take_of_length_le (by rw [List.length_cons, decN_len, ← hL]; omega)]; rfl
  have hfirst : ∀ h : 0 < (ba (45 :: decN n)).size, (ba (45 :: decN n))[0].toNat = 45 := fun h => by
    rw [← bl_get _ 0 h, bl_ba _ (fun y hy => by
      rcases List.mem_cons.1 hy with rfl | h
      · decide
      · have := decN_dig n y h; omega)]; rfl
  rw [htx]
  have hL0 : 0 < L := by rw [hL]; rcases Nat.eq_zero_or_pos (natL n).length with h | h; exact absurd (natL_len0.1 h) hn; exact h
  obtain ⟨i0, hinf, hz0, hz1, hz2⟩ := info_parts infoI8
  generalize hds : ba (decN n) = ds at *
  generalize hfs : ba (45 :: decN n) = fs at *
  have hp : 0 < fs.size := by omega
  have hb0 := hfirst hp
  have hI : (1 : Int) ≤ (L : Int) + 1 := by omega
  have HBY : Shut _ := ⟨hbys⟩
  have HL : Shut _ := ⟨hL⟩
  have hLL : L ≤ 1000 := by omega
  clear hbys hL htx hds hl hn hfs hfirst
  go_enter Tryz.func100, Tryz.ntmps100
  go_upto_region 6 with fail

  go_loopw [5, 6] (fun v i wr => ∃ k : Nat, k ≤ L ∧ i = .int .i64 ((L : Int) - 1 - (k : Int)) ∧ Shut (OwnJ wr w.heap.size v ((natL n).take k)) ∧ Shut (Below w.heap.size w wr)) (fun _ i _ => (intOf i + 1).toNat)
  case atStart => exact ⟨0, Nat.zero_le _, by congr 1; omega, ⟨OwnJ.nil _ _⟩, ⟨Below.refl _ _⟩⟩
  case round =>
    obtain ⟨k, hk, rfl, hO, hB⟩ := hrel
    by_cases hkl : k = L
    · have HF : Shut ((natL n).take k = natL n) := ⟨List.take_of_length_le (by rw [← HL.o]; omega)⟩
      have hlt : ¬ (0 : Int) ≤ (L : Int) - 1 - (k : Int) := by omega
      have hO2 := hO.o
      rw [HF.o] at hO2
      have HO : Shut _ := ⟨hO2⟩
      clear hO hO2
      go_wp2
      go_ret2
      exact ⟨_, rfl, HO.o.ni, hB.o⟩
    · have hkL : k < L := by omega
      obtain ⟨j, hj⟩ : ∃ j : Nat, j = L - 1 - k := ⟨_, rfl⟩
      have hji : (L : Int) - 1 - (k : Int) = (j : Int) := by omega
      rw [hji]
      have hjL : j < ds.size := by omega
      have hby : ds[j].toNat = 48 + (natL n).getD k 0 := by
        subst hj
        exact HBY.o k hkL (by omega)
      have hdg := (natL_dig n).getD k
      have HT : Shut ((natL n).take (k + 1) = (natL n).take k ++ [(natL n).getD k 0]) := ⟨by
        have hk2 : k < (natL n).length := by rw [← HL.o]; exact hkL
        rw [List.take_succ_eq_append_getElem hk2, List.getD_eq_getElem?_getD, List.getElem?_eq_getElem hk2]; rfl⟩
      have htl : ((natL n).take k).length ≤ 1000 := by rw [List.length_take]; omega
      have hO2 := hO.o
      have hbs := hB.o.size
      obtain ⟨b, hb⟩ : ∃ b : Nat, ds[j].toNat = b := ⟨_, rfl⟩
      have hb48 : b = 48 + (natL n).getD k 0 := by rw [← hb]; exact hby
      have hb1 : 48 ≤ b := by omega
      have hb2 : b < 58 := by omega
      have HBD : Shut (b - 48 = (natL n).getD k 0) := ⟨by omega⟩
      have HJ : Shut _ := ⟨hj⟩
      clear hO hby hdg hb48 hji hj
      generalize (natL n).take k = xs at *
      generalize (natL n).getD k 0 = d at *
      go_wp2_with (at_builtin; go_must (refine wpList_append_own _ rfl _ _ 39 rfl w.heap.size 3 i0 (.int .i64 0) 1 8 Tryz.underlying39 hinf hz0 hz1 hz2 rfl (by decide) _ _ _ rfl (World.ownsRow.alloc hO2 _) ⟨_, 0, none⟩ 1 1 [.int .i64 ((b : Int) - 48)] rfl rfl (cell_one_new _ _ _) (by simp [Value.oneCell']) (by unfold maxLen; omega) (by omega) (by rw [World.size_alloc]; omega) ?_); intro v' w' hown' hgrow _; have hB' := below_grownV (hB.o.alloc hbs _) (Nat.le_refl _) (World.ownsRow.alloc hO2 _) hgrow)
      rw [show ((b : Int) - 48) = ((d : Nat) : Int) by have := HBD.o; omega] at hown'
      exact ⟨⟨k + 1, by omega, by rw [HJ.o]; congr 1; omega, ⟨by rw [HT.o]; exact OwnJ.snoc hown'⟩, ⟨hB'⟩⟩, by simp [intOf]⟩

theorem digits_zero (w : World) :
    Calls Tryz.prog 100 #[.string ⟨#[48]⟩] w fun e w' => ∃ v, e = .returned (.tuple #[.bool (decide ((0 : Int) < 0)), v]) ∧ NI w' v [] ∧ Below w.heap.size w w' := by
  have hd : decide ((0 : Int) < 0) = false := by decide
  rw [hd]
  go_enter Tryz.func100, Tryz.ntmps100
  go_upto_region 6 with fail
  go_loopw [5, 6] (fun v i wr => v = .slice none 0 0 ∧ i = .int .i64 0 ∧ wr = w) (fun _ _ _ => 0)
  case atStart => exact ⟨rfl, rfl, rfl⟩
  case round =>
    obtain ⟨rfl, rfl, rfl⟩ := hrel
    go_wp2
    go_ret2
    exact ⟨_, rfl, ⟨none, 0, rfl, Nat.le_refl _, by unfold maxLen; omega, .inl ⟨rfl, rfl, rfl⟩⟩, Below.refl _ _⟩
theorem digits_ref (z : Int) (hl : (natL z.natAbs).length ≤ 1000) (w : World) :
    Calls Tryz.prog 100 #[.string (txt z)] w fun e w' => ∃ v, e = .returned (.tuple #[.bool (decide (z < 0)), v]) ∧ NI w' v (natL z.natAbs) ∧ Below w.heap.size w w' := by
  rcases Int.lt_trichotomy z 0 with h | h | h
  · have := digits_neg z.natAbs (by omega) hl w
    rw [show -((z.natAbs : Nat) : Int) = z by omega] at this
    rw [decide_eq_true h]; exact this
  · subst h
    rw [show (0 : Int).natAbs = 0 from rfl, natL_zero, txt_0]
    exact digits_zero w
  · have := digits_pos z.natAbs (by omega) hl w
    rw [show ((z.natAbs : Nat) : Int) = z by omega] at this
    rw [decide_eq_false (by omega)]; exact this
end N10
end Go.Proofs.YtbfonkabmehlmaaGreatDoor
