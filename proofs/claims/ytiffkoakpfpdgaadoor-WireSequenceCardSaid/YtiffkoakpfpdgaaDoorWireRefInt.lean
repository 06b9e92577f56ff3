/-
  The contracts of the reference's PutString, Int and String.
-/
import Derived.Test.YtiffkoakpfpdgaaDoorWireRefPut
import Derived.Test.YtiffkoakpfpdgaaDoorWireStr
namespace Go.Proofs.YtiffkoakpfpdgaaDoor
open Go.RowKit

set_option maxRecDepth 100000 in
set_option maxHeartbeats 400000 in
theorem refPutStr_out (s : ByteArray) (w : World) (h : 65536 < s.size) :
    Calls Tryd.prog 20 #[.string s] w fun e w' => e = .returned (.tuple #[.string ⟨#[]⟩, .int .i64 10]) ∧ Below w.heap.size w w' := by
  go_enter Tryd.func20, Tryd.ntmps20
  go_wp2
  go_ret2
  exact ⟨rfl, Below.refl _ _⟩

set_option maxRecDepth 100000 in
set_option maxHeartbeats 400000 in
theorem refPutStr_any (s : ByteArray) (w : World) (h : s.size ≤ 65536) :
    Calls Tryd.prog 20 #[.string s] w fun e w' => e = .returned (.tuple #[.string ⟨(Wm.encS s.data.toList).toArray⟩, .int .i64 0]) ∧ Below w.heap.size w w' := by
  have hz := Wm.zz_lt (s.size : Int) (by unfold Wm.MX; omega) (by unfold Wm.MX; omega)
  have hl := Wm.enc_len 9 (Wm.zz (s.size : Int)) (by omega) (by omega)
  have HE : Hid ((⟨(Wm.enc (Wm.zz (s.size : Int))).toArray⟩ : ByteArray) ++ s = ⟨(Wm.encS s.data.toList).toArray⟩) := Lib.hid (cat_str _ s)
  clear hz
  go_enter Tryd.func20, Tryd.ntmps20
  go_wp2_with (go_at_call 13; refine (refPutInt_any (s.size : Int) (by omega) (by omega) _).mono ?_; rintro e w' ⟨rfl, hB⟩)
  go_ret2
  exact ⟨by rw [HE.out]; rfl, hB⟩

theorem refPutInt_z (z : Nat) (hz : z < 9223372036854775807) (n : Int) (hn : n = Wm.unzz z) (w : World) :
    Calls Tryd.prog 13 #[.int .i64 n] w fun e w' => e = .returned (.tuple #[.string ⟨(Wm.enc z).toArray⟩, .int .i64 0]) ∧ Below w.heap.size w w' := by
  obtain ⟨r1, r2⟩ := Wm.unzz_range z hz
  have := refPutInt_any n (by unfold Wm.MX at r1; omega) (by unfold Wm.MX at r2; omega) w
  rw [hn, Wm.zz_unzz] at this
  rw [hn]; exact this

set_option maxRecDepth 100000 in
set_option maxHeartbeats 400000 in
theorem refInt_arg (s : ByteArray) (a : Int) (w : World) (ha : a < 0 ∨ (s.size : Int) < a) :
    Calls Tryd.prog 16 #[.string s, .int .i64 a] w fun e w' => e = .returned (.tuple #[.int .i64 0, .int .i64 0, .int .i64 2]) ∧ Below w.heap.size w w' := by
  by_cases h : a < 0
  · clear ha
    go_enter Tryd.func16, Tryd.ntmps16
    go_wp2
    go_ret3
    exact ⟨rfl, Below.refl _ _⟩
  · have h2 : (s.size : Int) < a := by omega
    clear ha
    go_enter Tryd.func16, Tryd.ntmps16
    go_wp2
    go_ret3
    exact ⟨rfl, Below.refl _ _⟩

theorem ref_grp (acc k b : Nat) (ha : acc < 128 ^ k) (hk : k < 9) :
    IntKind.u64.wrap ((acc : Int) + IntKind.u64.wrap ((b : Int) % 128 * 2 ^ (7 * k))) = ((acc + 128 ^ k * (b % 128) : Nat) : Int) := by
  have h1 := p128_mono k hk
  have h2 := acc_lt k acc (b % 128) ha (by omega)
  have h3 := shl_grp (b % 128) k (by omega) hk
  rw [show ((b : Int) % 128) = ((b % 128 : Nat) : Int) by omega, h3, ← Int.natCast_add]
  exact wrap_u64_nat _ (by omega)

set_option maxRecDepth 100000 in
set_option maxHeartbeats 1000000 in
theorem refInt_any (s : ByteArray) (a : Nat) (w : World) (hs : s.size ≤ maxLen) (ha : a ≤ s.size) :
    Calls Tryd.prog 16 #[.string s, .int .i64 a] w fun e w' => e = .returned (intVal a (Wm.decI (s.data.toList.drop a))) ∧ Below w.heap.size w w' := by
  unfold maxLen at hs
  have hl : (s.data.toList.drop a).length = s.size - a := by rw [List.length_drop]; rfl
  have HL := Lib.hid hl; clear hl
  have d1 : decide ((a : Int) < 0) = false := by simp
  have d2 : decide (s.size < a) = false := by simp; omega
  go_enter Tryd.func16, Tryd.ntmps16
  go_wp2
  go_loop [7, 8] (fun z i => ∃ k acc : Nat, a + k ≤ s.size ∧ k ≤ 9 ∧ i = .int .i64 k ∧ z = .int .u64 acc ∧ acc < 128 ^ k ∧ Wm.jn 9 (s.data.toList.drop a) = Wm.jnAt (s.data.toList.drop a) k acc) (fun _ i => 9 - (intOf i).toNat)
  case atStart => exact ⟨0, 0, by omega, by omega, rfl, rfl, by simp, (Wm.jnAt_zero _).symm⟩
  case round =>
    obtain ⟨k, acc, hk, hk9, rfl, rfl, hacc, hj⟩ := hrel
    have HJ := Lib.hid hj; clear hj
    have HA := Lib.hid hacc; clear hacc
    by_cases hlt : a + k < s.size ∧ k < 9
    · obtain ⟨h1, h2⟩ := hlt
      have hb : s[a + k].toNat < 256 := UInt8.toNat_lt _
      have e1 := ref_grp acc k s[a + k].toNat HA.out h2
      have zlt := acc_lt k acc (s[a + k].toNat % 128) HA.out (by omega)
      have zmx := p128_mono k h2
      have HG : Hid ((s.data.toList.drop a)[k]'(by rw [HL.out]; omega) = s[a + k]) := Lib.hid (by rw [List.getElem_drop]; rfl)
      generalize hz : acc + 128 ^ k * (s[a + k].toNat % 128) = Z at *
      have HZ := Lib.hid hz
      clear hz
      by_cases h0 : 128 ≤ s[a + k].toNat
      · have HM := Lib.hid (Wm.jnAt_more (s.data.toList.drop a) k acc h2 (by rw [HL.out]; omega) (by rw [HG.out]; exact h0))
        have HZL := Lib.hid zlt
        clear zlt zmx
        go_wp2
        exact ⟨⟨k + 1, Z, by omega, by omega, by go_num, rfl, HZL.out, by rw [HJ.out, HM.out, HG.out, ← HZ.out, show s[a + k].toNat % 128 = s[a + k].toNat - 128 by omega]⟩, by simp [intOf]; omega⟩
      · have HM := Lib.hid (Wm.jnAt_last (s.data.toList.drop a) k acc h2 (by rw [HL.out]; omega) (by rw [HG.out]; omega))
        rw [HG.out] at HM
        have hZ : Z < 9223372036854775808 := by omega
        clear zlt zmx
        have hX : (s.extract a (a + k + 1)).toList = (s.data.toList.drop a).take (k + 1) := by
          rw [Lib.toList_data, Lib.extract_data, show a + k + 1 - a = k + 1 by omega]
        by_cases hm : 9223372036854775806 < Z
        · have HD : Hid (Wm.decI (s.data.toList.drop a) = none) := Lib.hid (by
            unfold Wm.decI; rw [HJ.out, HM.out]
            by_cases hc : k ≠ 0 ∧ s[a + k].toNat = 0
            · rw [if_pos hc]
            · have hz := HZ.out
              rw [show s[a + k].toNat % 128 = s[a + k].toNat by omega] at hz
              rw [if_neg hc, hz]; dsimp only; rw [if_pos (by omega)])
          have hp : Z % 2 = 1 := by omega
          clear hX
          go_wp2_with (go_at_call 13; go_must (refine (refPutInt_out _ (.inl (by omega)) _).mono ?_); rintro e w' ⟨rfl, hB⟩)
          go_ret3
          exact ⟨by rw [HD.out]; rfl, hB⟩
        · by_cases hc : k ≠ 0 ∧ s[a + k].toNat = 0
          · have HD : Hid (Wm.decI (s.data.toList.drop a) = none) := Lib.hid (by
              unfold Wm.decI; rw [HJ.out, HM.out, if_pos hc])
            have hcmp : (Wm.enc Z == (s.extract a (a + k + 1)).toList) = false := by
              rw [hX, beq_eq_false_iff_ne]
              intro e
              rw [List.take_succ_eq_append_getElem (by rw [HL.out]; omega), HG.out] at e
              have h0 : s[a + k] = 0 := UInt8.toNat_inj.1 (by rw [hc.2]; rfl)
              rw [h0] at e
              have := Wm.enc_last Z _ e
              have hlen := congrArg List.length this
              rw [List.length_take, HL.out] at hlen
              simp at hlen
              omega
            clear hc hX
            rcases Nat.mod_two_eq_zero_or_one Z with hp | hp
            · go_wp2_with fail
              refine (refPutInt_z Z (by omega) _ (by unfold Wm.unzz; rw [if_neg (by omega)]; omega) _).mono ?_
              rintro e w' ⟨rfl, hB⟩
              go_wp2
              go_ret3
              exact ⟨by rw [HD.out]; rfl, hB⟩
            · go_wp2_with fail
              refine (refPutInt_z Z (by omega) _ (by unfold Wm.unzz; rw [if_pos (by omega)]; omega) _).mono ?_
              rintro e w' ⟨rfl, hB⟩
              go_wp2
              go_ret3
              exact ⟨by rw [HD.out]; rfl, hB⟩
          · have hj : Wm.jn 9 (s.data.toList.drop a) = some (Z, k + 1) := by
              have hz := HZ.out
              rw [show s[a + k].toNat % 128 = s[a + k].toNat by omega] at hz
              rw [HJ.out, HM.out, if_neg hc, hz]
            have HD : Hid (Wm.decI (s.data.toList.drop a) = some (Wm.unzz Z, k + 1)) := Lib.hid (by
              unfold Wm.decI; rw [hj]; dsimp only; rw [if_neg (by omega)])
            have hcmp : (Wm.enc Z == (s.extract a (a + k + 1)).toList) = true := by
              obtain ⟨b1, b2, b3, b4⟩ := Wm.jn_some _ _ _ _ hj
              rw [hX, beq_iff_eq]
              conv => rhs; rw [← b4, b2]
              simp
            clear hc hX hj
            rcases Nat.mod_two_eq_zero_or_one Z with hp | hp
            · have HU : Hid (Wm.unzz Z = (Z : Int) / 2) := Lib.hid (by unfold Wm.unzz; rw [if_neg (by omega)]; omega)
              go_wp2_with fail
              refine (refPutInt_z Z (by omega) _ (by unfold Wm.unzz; rw [if_neg (by omega)]; omega) _).mono ?_
              rintro e w' ⟨rfl, hB⟩
              go_wp2
              go_ret3
              exact ⟨by rw [HD.out, HU.out]; exact int_some (by omega), hB⟩
            · have HU : Hid (Wm.unzz Z = -((Z : Int) / 2) - 1) := Lib.hid (by unfold Wm.unzz; rw [if_pos (by omega)]; omega)
              go_wp2_with fail
              refine (refPutInt_z Z (by omega) _ (by unfold Wm.unzz; rw [if_pos (by omega)]; omega) _).mono ?_
              rintro e w' ⟨rfl, hB⟩
              go_wp2
              go_ret3
              exact ⟨by rw [HD.out, HU.out]; exact int_some (by omega), hB⟩
    · have HD : Hid (Wm.decI (s.data.toList.drop a) = none) := Lib.hid (by unfold Wm.decI; rw [HJ.out, Wm.jnAt_end _ _ _ (by rw [HL.out]; omega)])
      by_cases c9 : k < 9
      · have c8 : ¬ a + k < s.size := by omega
        go_wp2
        go_ret3
        exact ⟨by rw [HD.out]; rfl, Below.refl _ _⟩
      · go_wp2
        go_ret3
        exact ⟨by rw [HD.out]; rfl, Below.refl _ _⟩

theorem refInt_none (s : ByteArray) (a : Nat) (w : World) (hs : s.size ≤ maxLen) (ha : a ≤ s.size) (h : Wm.decI (s.data.toList.drop a) = none) :
    Calls Tryd.prog 16 #[.string s, .int .i64 a] w fun e w' => e = .returned (.tuple #[.int .i64 0, .int .i64 0, .int .i64 10]) ∧ Below w.heap.size w w' := by
  have := refInt_any s a w hs ha; rw [h] at this; exact this
theorem refInt_some (s : ByteArray) (a : Nat) (w : World) (hs : s.size ≤ maxLen) (ha : a ≤ s.size) (n : Int) (k : Nat) (h : Wm.decI (s.data.toList.drop a) = some (n, k)) :
    Calls Tryd.prog 16 #[.string s, .int .i64 a] w fun e w' => e = .returned (.tuple #[.int .i64 n, .int .i64 ((a + k : Nat) : Int), .int .i64 0]) ∧ Below w.heap.size w w' := by
  have := refInt_any s a w hs ha; rw [h] at this; exact this

set_option maxRecDepth 100000 in
set_option maxHeartbeats 400000 in
theorem refStr_arg (s : ByteArray) (a : Int) (w : World) (ha : a < 0 ∨ (s.size : Int) < a) :
    Calls Tryd.prog 18 #[.string s, .int .i64 a] w fun e w' => e = .returned (.tuple #[.string ⟨#[]⟩, .int .i64 0, .int .i64 2]) ∧ Below w.heap.size w w' := by
  have HA := Lib.hid ha; clear ha
  go_enter Tryd.func18, Tryd.ntmps18
  go_wp2_with (go_at_call 16; refine (refInt_arg s a _ HA.out).mono ?_; rintro e w' ⟨rfl, hB⟩)
  go_ret3
  exact ⟨rfl, hB⟩

set_option maxRecDepth 100000 in
set_option maxHeartbeats 400000 in
theorem refStr_any (s : ByteArray) (a : Nat) (w : World) (hs : s.size ≤ maxLen) (ha : a ≤ s.size) :
    Calls Tryd.prog 18 #[.string s, .int .i64 a] w fun e w' => e = .returned (strVal a (Wm.decS (s.data.toList.drop a))) ∧ Below w.heap.size w w' := by
  cases hd : Wm.decI (s.data.toList.drop a) with
  | none =>
    have HS : Hid (Wm.decS (s.data.toList.drop a) = none) := Lib.hid (by unfold Wm.decS; rw [hd])
    have HC := Lib.hid (fun w => refInt_none s a w hs ha hd)
    clear hd
    go_enter Tryd.func18, Tryd.ntmps18
    go_wp2_with (go_at_call 16; refine (HC.out _).mono ?_; rintro e w' ⟨rfl, hB⟩)
    go_ret3
    exact ⟨by rw [HS.out]; rfl, hB⟩
  | some p =>
    obtain ⟨n, k⟩ := p
    have HC := Lib.hid (fun w => refInt_some s a w hs ha n k hd)
    obtain ⟨r1, r2, -, -, r5, -, -⟩ := Wm.decI_some _ _ _ hd
    have hl : (s.data.toList.drop a).length = s.size - a := by rw [List.length_drop]; rfl
    have HD := Lib.hid hd
    rw [hl] at r5
    clear hd
    by_cases hc : n < 0 ∨ 65536 < n ∨ ((s.size - a - k : Nat) : Int) < n
    · have HS : Hid (Wm.decS (s.data.toList.drop a) = none) := Lib.hid (by unfold Wm.decS; rw [HD.out]; dsimp only; rw [hl, if_pos hc])
      clear hl
      unfold maxLen at hs
      unfold Wm.MX at r1 r2
      by_cases c1 : n < 0
      · clear hc
        go_enter Tryd.func18, Tryd.ntmps18
        go_wp2_with (go_at_call 16; refine (HC.out _).mono ?_; rintro e w' ⟨rfl, hB⟩)
        go_ret3
        exact ⟨by rw [HS.out]; rfl, hB⟩
      · by_cases c2 : 65536 < n
        · clear hc
          go_enter Tryd.func18, Tryd.ntmps18
          go_wp2_with (go_at_call 16; refine (HC.out _).mono ?_; rintro e w' ⟨rfl, hB⟩)
          go_ret3
          exact ⟨by rw [HS.out]; rfl, hB⟩
        · have c3 : ((s.size - a - k : Nat) : Int) < n := by omega
          clear hc
          go_enter Tryd.func18, Tryd.ntmps18
          go_wp2_with (go_at_call 16; refine (HC.out _).mono ?_; rintro e w' ⟨rfl, hB⟩)
          go_ret3
          exact ⟨by rw [HS.out]; rfl, hB⟩
    · have HS : Hid (Wm.decS (s.data.toList.drop a) = some (((s.data.toList.drop a).drop k).take n.toNat, k + n.toNat)) := Lib.hid (by unfold Wm.decS; rw [HD.out]; dsimp only; rw [hl, if_neg hc])
      have c1 : 0 ≤ n := by omega
      have c2 : n ≤ 65536 := by omega
      have c3 : n ≤ ((s.size - a - k : Nat) : Int) := by omega
      clear hc hl HD
      obtain ⟨m, rfl⟩ := Int.eq_ofNat_of_zero_le c1
      have HT : Hid (s.extract (a + k) (a + k + m) = ⟨(((s.data.toList.drop a).drop k).take m).toArray⟩) := Lib.hid (by
        apply ByteArray.ext; apply Array.toList_inj.1
        rw [Lib.extract_data]; simp)
      unfold maxLen at hs
      go_enter Tryd.func18, Tryd.ntmps18
      go_wp2_with (go_at_call 16; refine (HC.out _).mono ?_; rintro e w' ⟨rfl, hB⟩)
      go_ret3
      exact ⟨by rw [HS.out, HT.out]; exact str_some (by omega), hB⟩

end Go.Proofs.YtiffkoakpfpdgaaDoor
