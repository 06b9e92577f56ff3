/-
  The law WireUnique: its walk.
-/
import Derived.Test.YtiffkoakpfpdgaaDoorWireTrunc
import Derived.Deep.DeepCutAuto
import Derived.RegionTactic
import Derived.BigRegion
namespace Go.Proofs.YtiffkoakpfpdgaaDoor
open Go.RowKit

theorem pick_int (c : Int) (n : Int) (h1 : -9223372036854775808 ≤ c) (h2 : c ≤ 9223372036854775807) (hn : 0 < n) (hm : n ≤ 100000) : ∃ j : Nat, (j : Int) < n ∧ ∀ w,
    Calls Tryd.prog 14 #[.int .i64 c, .int .i64 n] w fun e w' => e = .returned (.int .i64 (j : Int)) ∧ w = w' := by
  obtain ⟨r1, r2⟩ := pk_range c n hn
  obtain ⟨j, hj⟩ := Int.eq_ofNat_of_zero_le r1
  refine ⟨j, by omega, fun w => ?_⟩
  rw [← hj]
  exact pick_any c n h1 h2 hn (by omega) w

/-- a byte made into a string -/
theorem conv_byte (f : Nat) (hf : f < 256) (g c : Nat) (W : World) (h : W.cell? ⟨g, 0, none⟩ = some (.int .u8 (f : Int))) :
    Sem.run Tryd.prog (convert 38 9 (.slice (some ⟨g, 0, none⟩) 1 c)) W = .ok (.string ⟨#[UInt8.ofNat f]⟩) W :=
  Go.run_convert_bytes_back (P := Tryd.prog) W 38 9 5 ⟨g, 0, none⟩ c [UInt8.ofNat f] Tryd.underlying38 Tryd.underlying5 Tryd.underlying9 (fun j hj => by
    obtain rfl : j = 0 := by simpa using hj
    rw [Addr.add_lit, h]
    simp [Nat.mod_eq_of_lt hf])

theorem str_none (s : ByteArray) (a : Nat) (w : World) (hs : s.size ≤ maxLen) (ha : a ≤ s.size) (h : Wm.decS (s.data.toList.drop a) = none) :
    Calls Tryd.prog 17 #[.string s, .int .i64 a] w fun e w' => e = .returned (.tuple #[.string ⟨#[]⟩, .int .i64 0, .int .i64 10]) ∧ Below w.heap.size w w' := by
  have := str_any s a w hs ha; rw [h] at this; exact this
theorem str_some' (s : ByteArray) (a : Nat) (w : World) (hs : s.size ≤ maxLen) (ha : a ≤ s.size) (V : ByteArray) (k : Nat) (h : Wm.decS (s.data.toList.drop a) = some (V.data.toList, k)) :
    Calls Tryd.prog 17 #[.string s, .int .i64 a] w fun e w' => e = .returned (.tuple #[.string V, .int .i64 ((a + k : Nat) : Int), .int .i64 0]) ∧ Below w.heap.size w w' := by
  have := str_any s a w hs ha; rw [h] at this; exact this

set_option maxRecDepth 100000 in
set_option maxHeartbeats 1000000 in
theorem uniq_any (s : ByteArray) (x : Int) (f : Nat) (w : World) (h1 : -9223372036854775808 ≤ x) (h2 : x ≤ 9223372036854775807) (hf : f < 256) (ht : Tab w) :
    Calls Tryd.prog 5 #[.string s, .int .i64 x, .int .u8 f] w fun e w' => e = .returned (.bool true) ∧ Below w.heap.size w w' := by
  obtain ⟨ns, s1, s2, s3⟩ := min2 s.size 300 (by decide)
  go_enter Tryd.func5, Tryd.ntmps5
  go_upto_region 2 with (go_at_call 10; refine (sane_any _ ht).mono ?_; rintro e w1 ⟨rfl, hB1⟩)
  have hconv := conv_byte f hf w1.heap.size
  go_region
  have hT : ((⟨#[UInt8.ofNat f]⟩ : ByteArray) ++ s.extract 0 ns).size ≤ 301 := by
    rw [ByteArray.size_append, ByteArray.size_extract]
    show 1 + _ ≤ _
    omega
  have hB2 : Below w.heap.size w (w1.alloc (.cells #[.int .u8 (f : Int)] 5)).drew := (hB1.alloc hB1.size _).drew
  generalize (⟨#[UInt8.ofNat f]⟩ : ByteArray) ++ s.extract 0 ns = T at *
  generalize (w1.alloc (.cells #[.int .u8 (f : Int)] 5)).drew = w2 at *
  clear hconv hB1 ht
  obtain ⟨k1, hk1, PK⟩ := pick_int x ((T.size : Int) + 1) h1 h2 (by omega) (by omega)
  have PK' := Lib.hid PK
  clear PK
  go_wp2_with fail
  refine (PK'.out _).mono ?_
  rintro e w' ⟨rfl, rfl⟩
  go_wp2
  have hc0 : (w2.alloc (.cells #[.int .i64 0, .int .i64 (k1 : Int)] 3)).cell? ⟨w2.heap.size, 0, none⟩ = some (.int .i64 0) := by rw [World.cell?_alloc_mark]; rfl
  have hc1 : (w2.alloc (.cells #[.int .i64 0, .int .i64 (k1 : Int)] 3)).cell? ⟨w2.heap.size, 1, none⟩ = some (.int .i64 (k1 : Int)) := by rw [World.cell?_alloc_mark]; rfl
  have hB3 : Below w.heap.size w (w2.alloc (.cells #[.int .i64 0, .int .i64 (k1 : Int)] 3)) := hB2.alloc hB2.size _
  have hg3 : w2.heap.size < (w2.alloc (.cells #[.int .i64 0, .int .i64 (k1 : Int)] 3)).heap.size := by rw [World.size_alloc]; omega
  generalize w2.alloc (.cells #[.int .i64 0, .int .i64 (k1 : Int)] 3) = w3 at *
  clear hB2
  generalize w2.heap.size = g at *
  go_loopw [38] (fun i wr => ∃ j : Nat, j ≤ 2 ∧ i = .int .i64 j ∧ wr.cell? ⟨g, 0, none⟩ = some (.int .i64 0) ∧ wr.cell? ⟨g, 1, none⟩ = some (.int .i64 (k1 : Int)) ∧ Below w.heap.size w wr ∧ g < wr.heap.size) (fun i _ => 2 - (intOf i).toNat)
  case atStart => exact ⟨0, by omega, rfl, hc0, hc1, hB3, hg3⟩
  case round =>
    clear hc0 hc1 hB3 hg3
    obtain ⟨j, hj, rfl, hc0, hc1, hB, hg⟩ := hrel
    by_cases hlt : j < 2
    · obtain ⟨k, hk, hck⟩ : ∃ k : Nat, k ≤ T.size ∧ wr.cell? ⟨g, j, none⟩ = some (.int .i64 (k : Int)) := by
        match j, hlt with
        | 0, _ => exact ⟨0, Nat.zero_le _, hc0⟩
        | 1, _ => exact ⟨k1, by omega, hc1⟩
      have hl : (T.data.toList.drop k).length = T.size - k := by rw [List.length_drop]; rfl
      cases hd : Wm.decI (T.data.toList.drop k) with
      | none =>
        have hS : Wm.decS (T.data.toList.drop k) = none := by unfold Wm.decS; rw [hd]
        have HD := Lib.hid hd
        have HS := Lib.hid hS
        clear hd hS hl
        go_wp2_with fail
        refine (int_none' T k _ (by unfold maxLen; omega) hk HD.out).mono ?_
        rintro e w' ⟨rfl, rfl⟩
        go_wp2_with fail
        refine (putInt_any 0 (by decide) (by decide) _).mono ?_
        rintro e w5 ⟨rfl, hB5⟩
        rw [show (⟨(Wm.enc (Wm.zz 0)).toArray⟩ : ByteArray) = encB 0 from rfl]
        go_wp2_with fail
        refine (str_none T k _ (by unfold maxLen; omega) hk HS.out).mono ?_
        rintro e w6 ⟨rfl, hB6⟩
        go_wp2_with fail
        refine (putStr_any (⟨#[]⟩ : ByteArray) _ (by decide)).mono ?_
        rintro e w7 ⟨rfl, hB7⟩
        rw [show (⟨(Wm.encS ((⟨#[]⟩ : ByteArray)).data.toList).toArray⟩ : ByteArray) = encSB ((⟨#[]⟩ : ByteArray)) from rfl]
        have hb7 := (hB5.trans (hB6.mono hB5.size)).trans (hB7.mono (hB5.trans (hB6.mono hB5.size)).size)
        have d0 := (hb7.cell (p := ⟨g, 0, none⟩) hg).trans hc0
        have d1 := (hb7.cell (p := ⟨g, 1, none⟩) hg).trans hc1
        have hbw := hB.trans (hb7.mono hB.size)
        have hg' := Nat.lt_of_lt_of_le hg hb7.size
        clear hB5 hB6 hB7 hb7
        go_wp2
        exact ⟨⟨j + 1, by omega, by go_num, d0, d1, hbw, hg'⟩, by simp [intOf]; omega⟩
      | some p =>
        obtain ⟨n, m⟩ := p
        obtain ⟨r1, r2, r3, r4, r5, r6, r7⟩ := Wm.decI_some _ _ _ hd
        rw [hl] at r5
        have hcmp : ((T.extract k (k + m)).toList == (encB n).toList) = true := by
          rw [beq_iff_eq, Lib.toList_data, Lib.toList_data, Lib.extract_data, encB_list, show k + m - k = m by omega]; exact r7
        have HD := Lib.hid hd
        unfold Wm.MX at r1 r2
        clear hd r3 r6 r7
        cases hS : Wm.decS (T.data.toList.drop k) with
        | none =>
          have HS := Lib.hid hS
          clear hS hl
          go_wp2_with fail
          refine (int_some' T k _ (by unfold maxLen; omega) hk n m HD.out).mono ?_
          rintro e w' ⟨rfl, rfl⟩
          go_wp2_with fail
          refine (putInt_any n r1 r2 _).mono ?_
          rintro e w5 ⟨rfl, hB5⟩
          rw [show (⟨(Wm.enc (Wm.zz n)).toArray⟩ : ByteArray) = encB n from rfl]
          go_wp2_with fail
          refine (str_none T k _ (by unfold maxLen; omega) hk HS.out).mono ?_
          rintro e w6 ⟨rfl, hB6⟩
          go_wp2_with fail
          refine (putStr_any (⟨#[]⟩ : ByteArray) _ (by decide)).mono ?_
          rintro e w7 ⟨rfl, hB7⟩
          rw [show (⟨(Wm.encS ((⟨#[]⟩ : ByteArray)).data.toList).toArray⟩ : ByteArray) = encSB ((⟨#[]⟩ : ByteArray)) from rfl]
          have hb7 := (hB5.trans (hB6.mono hB5.size)).trans (hB7.mono (hB5.trans (hB6.mono hB5.size)).size)
          have d0 := (hb7.cell (p := ⟨g, 0, none⟩) hg).trans hc0
          have d1 := (hb7.cell (p := ⟨g, 1, none⟩) hg).trans hc1
          have hbw := hB.trans (hb7.mono hB.size)
          have hg' := Nat.lt_of_lt_of_le hg hb7.size
          clear hB5 hB6 hB7 hb7
          go_wp2
          exact ⟨⟨j + 1, by omega, by go_num, d0, d1, hbw, hg'⟩, by simp [intOf]; omega⟩
        | some q =>
          obtain ⟨t, m'⟩ := q
          obtain ⟨q1, q2, q3, q4, q5⟩ := Wm.decS_some _ _ _ hS
          rw [hl] at q3
          have hV : (⟨t.toArray⟩ : ByteArray).size ≤ 65536 := by show t.toArray.size ≤ _; rw [List.size_toArray]; exact q1
          have hcmp2 : ((T.extract k (k + m')).toList == (encSB ⟨t.toArray⟩).toList) = true := by
            rw [beq_iff_eq, Lib.toList_data, Lib.toList_data, Lib.extract_data, encSB_list, show k + m' - k = m' by omega, q5]
          have hS2 : Wm.decS (T.data.toList.drop k) = some ((⟨t.toArray⟩ : ByteArray).data.toList, m') := hS
          generalize (⟨t.toArray⟩ : ByteArray) = V at *
          have HS := Lib.hid hS2
          clear hS hl q1 q2 q4 q5 hS2
          go_wp2_with fail
          refine (int_some' T k _ (by unfold maxLen; omega) hk n m HD.out).mono ?_
          rintro e w' ⟨rfl, rfl⟩
          go_wp2_with fail
          refine (putInt_any n r1 r2 _).mono ?_
          rintro e w5 ⟨rfl, hB5⟩
          rw [show (⟨(Wm.enc (Wm.zz n)).toArray⟩ : ByteArray) = encB n from rfl]
          go_wp2_with fail
          refine (str_some' T k _ (by unfold maxLen; omega) hk V m' HS.out).mono ?_
          rintro e w6 ⟨rfl, hB6⟩
          go_wp2_with fail
          refine (putStr_any V _ hV).mono ?_
          rintro e w7 ⟨rfl, hB7⟩
          rw [show (⟨(Wm.encS (V).data.toList).toArray⟩ : ByteArray) = encSB (V) from rfl]
          have hb7 := (hB5.trans (hB6.mono hB5.size)).trans (hB7.mono (hB5.trans (hB6.mono hB5.size)).size)
          have d0 := (hb7.cell (p := ⟨g, 0, none⟩) hg).trans hc0
          have d1 := (hb7.cell (p := ⟨g, 1, none⟩) hg).trans hc1
          have hbw := hB.trans (hb7.mono hB.size)
          have hg' := Nat.lt_of_lt_of_le hg hb7.size
          clear hB5 hB6 hB7 hb7
          go_wp2
          exact ⟨⟨j + 1, by omega, by go_num, d0, d1, hbw, hg'⟩, by simp [intOf]; omega⟩
    · go_wp2
      go_ret
      exact ⟨rfl, hB⟩

end Go.Proofs.YtiffkoakpfpdgaaDoor
