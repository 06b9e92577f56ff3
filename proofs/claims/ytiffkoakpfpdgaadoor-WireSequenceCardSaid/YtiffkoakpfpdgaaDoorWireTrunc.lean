/-
  The law WireTruncated: its walk.
-/
import Derived.Test.YtiffkoakpfpdgaaDoorWireRound
namespace Go.Proofs.YtiffkoakpfpdgaaDoor
open Go.RowKit

theorem pick_nat (c : Int) (n : Nat) (h1 : -9223372036854775808 ≤ c) (h2 : c ≤ 9223372036854775807) (hn : 0 < n) (hm : n ≤ 100000) : ∃ j : Nat, j < n ∧ ∀ w,
    Calls Tryd.prog 14 #[.int .i64 c, .int .i64 n] w fun e w' => e = .returned (.int .i64 (j : Int)) ∧ w = w' := by
  obtain ⟨r1, r2⟩ := pk_range c n (by omega)
  obtain ⟨j, hj⟩ := Int.eq_ofNat_of_zero_le r1
  refine ⟨j, by omega, fun w => ?_⟩
  rw [← hj]
  exact pick_any c n h1 h2 (by omega) (by omega) w

def encB (n : Int) : ByteArray := ⟨(Wm.enc (Wm.zz n)).toArray⟩
def encSB (r : ByteArray) : ByteArray := ⟨(Wm.encS r.data.toList).toArray⟩
theorem encB_list (n : Int) : (encB n).data.toList = Wm.enc (Wm.zz n) := by simp [encB]
theorem encSB_list (r : ByteArray) : (encSB r).data.toList = Wm.encS r.data.toList := by simp [encSB]
theorem encB_size (n : Int) (h1 : -4611686018427387903 ≤ n) (h2 : n ≤ 4611686018427387903) : 0 < (encB n).size ∧ (encB n).size ≤ 9 := by
  have hz := Wm.zz_lt n h1 h2
  exact ⟨Wm.enc_pos _, Wm.enc_len 9 (Wm.zz n) (by omega) (by omega)⟩
theorem encSB_size (r : ByteArray) (h : r.size ≤ 300) : 0 < (encSB r).size ∧ (encSB r).size ≤ 309 := by
  refine ⟨?_, encS_size _ (by simpa using h)⟩
  show 0 < (Wm.encS r.data.toList).toArray.size
  rw [List.size_toArray]
  unfold Wm.encS
  have := Wm.enc_pos (Wm.zz (r.data.toList.length : Int))
  rw [List.length_append]
  omega
theorem cut_list (s : ByteArray) (k : Nat) : (s.extract 0 k).data.toList = s.data.toList.take k := by rw [Lib.extract_data]; simp

theorem cut_int (n : Int) (h1 : -4611686018427387903 ≤ n) (h2 : n ≤ 4611686018427387903) (k : Nat) (hk : k < (encB n).size) (w : World) :
    Calls Tryd.prog 15 #[.string ((encB n).extract 0 k), .int .i64 0] w fun e w' => e = .returned (.tuple #[.int .i64 0, .int .i64 0, .int .i64 10]) ∧ w = w' := by
  have := (encB_size n h1 h2).2
  refine int_none' _ 0 w (by rw [ByteArray.size_extract]; unfold maxLen; omega) (Nat.zero_le _) ?_
  rw [cut_list, encB_list, List.drop_zero]
  exact Wm.decI_cut n h1 h2 k hk
theorem cut_str (r : ByteArray) (h : r.size ≤ 300) (k : Nat) (hk : k < (encSB r).size) (w : World) :
    Calls Tryd.prog 17 #[.string ((encSB r).extract 0 k), .int .i64 0] w fun e w' => e = .returned (.tuple #[.string ⟨#[]⟩, .int .i64 0, .int .i64 10]) ∧ Below w.heap.size w w' := by
  have := (encSB_size r h).2
  have hc := str_any ((encSB r).extract 0 k) 0 w (by rw [ByteArray.size_extract]; unfold maxLen; omega) (Nat.zero_le _)
  rw [cut_list, encSB_list, List.drop_zero, Wm.decS_cut _ (by simp; omega) k (by rw [← encSB_list]; simpa using hk)] at hc
  exact hc

/-- an encoding is the beginning of another only if both are of one integer -/
theorem encB_prefix (n m : Int) (h1 : -4611686018427387903 ≤ n) (h2 : n ≤ 4611686018427387903) (h3 : -4611686018427387903 ≤ m) (h4 : m ≤ 4611686018427387903) (hne : n ≠ m) :
    (((encB m).extract 0 (encB n).size).toList == (encB n).toList) = false := by
  rw [beq_eq_false_iff_ne]
  intro e
  rw [Lib.toList_data, Lib.toList_data, cut_list, encB_list, encB_list] at e
  have hz := Wm.zz_lt n h1 h2
  have hy := Wm.zz_lt m h3 h4
  have := Wm.enc_prefix (Wm.zz m) (Wm.zz n) (by omega) (by omega) [] ((Wm.enc (Wm.zz m)).drop (encB n).size) (by rw [← e, List.take_append_drop, List.append_nil])
  have h5 := Wm.unzz_zz n
  have h6 := Wm.unzz_zz m
  rw [this] at h6
  exact hne (h5.symm.trans h6)

set_option maxRecDepth 100000 in
set_option maxHeartbeats 1000000 in
theorem trunc_any (c d : Int) (t : ByteArray) (x : Int) (w : World) (h1 : -9223372036854775808 ≤ c) (h2 : c ≤ 9223372036854775807) (h3 : -9223372036854775808 ≤ d) (h4 : d ≤ 9223372036854775807)
    (h5 : -9223372036854775808 ≤ x) (h6 : x ≤ 9223372036854775807) (ht : Tab w) :
    Calls Tryd.prog 7 #[.int .i64 c, .int .i64 d, .string t, .int .i64 x] w fun e w' => e = .returned (.bool true) ∧ Below w.heap.size w w' := by
  obtain ⟨nt, t1, t2, t3⟩ := min2 t.size 200 (by decide)
  obtain ⟨n1, n2⟩ := nf_range c
  obtain ⟨m1, m2⟩ := nf_range d
  have N1 := Lib.hid (numberFrom_any c h1 h2)
  have N2 := Lib.hid (numberFrom_any d h3 h4)
  generalize nf c = n at *
  generalize nf d = m at *
  go_enter Tryd.func7, Tryd.ntmps7
  go_wp2_with fail
  refine (sane_any _ ht).mono ?_
  rintro e w1 ⟨rfl, hB1⟩
  clear ht
  go_wp2_with fail
  refine (N1.out _).mono ?_
  rintro e w2 ⟨rfl, hB2⟩
  have hb2 := hB1.trans (hB2.mono hB1.size)
  clear hB1 hB2
  go_wp2_with fail
  refine (putInt_any n n1 n2 _).mono ?_
  rintro e w3 ⟨rfl, hB3⟩
  have hb3 := hb2.trans (hB3.mono hb2.size)
  clear hb2 hB3
  rw [show (⟨(Wm.enc (Wm.zz n)).toArray⟩ : ByteArray) = encB n from rfl]
  go_wp2_with fail
  refine (N2.out _).mono ?_
  rintro e w4 ⟨rfl, hB4⟩
  have hb4 := hb3.trans (hB4.mono hb3.size)
  clear hb3 hB4
  go_wp2_with fail
  refine (putInt_any m m1 m2 _).mono ?_
  rintro e w5 ⟨rfl, hB5⟩
  have hb5 := hb4.trans (hB5.mono hb4.size)
  clear hb4 hB5
  rw [show (⟨(Wm.enc (Wm.zz m)).toArray⟩ : ByteArray) = encB m from rfl]
  go_wp2_with fail
  have hR : (t.extract 0 nt).size ≤ 200 := by rw [ByteArray.size_extract]; omega
  generalize t.extract 0 nt = R at *
  refine (putStr_any R _ (by omega)).mono ?_
  rintro e w6 ⟨rfl, hB6⟩
  have hb6 := hb5.trans (hB6.mono hb5.size)
  clear hb5 hB6
  rw [show (⟨(Wm.encS R.data.toList).toArray⟩ : ByteArray) = encSB R from rfl]
  obtain ⟨a1, a2⟩ := encB_size n n1 n2
  obtain ⟨b1, b2⟩ := encB_size m m1 m2
  obtain ⟨s1, s2⟩ := encSB_size R (by omega)
  obtain ⟨i, hi, PI⟩ := pick_nat x (encB n).size h5 h6 a1 (by omega)
  obtain ⟨j, hj, PJ⟩ := pick_nat x (encSB R).size h5 h6 s1 (by omega)
  have PI' := Lib.hid PI
  have PJ' := Lib.hid PJ
  have CI := Lib.hid (cut_int n n1 n2 i hi)
  have CJ := Lib.hid (cut_str R (by omega) j hj)
  clear PI PJ
  have e1 : (((encB n).size : Int) == 0) = false := beq_eq_false_iff_ne.2 (by omega)
  have e2 : (((encSB R).size : Int) == 0) = false := beq_eq_false_iff_ne.2 (by omega)
  go_wp2_with fail
  refine (PI'.out _).mono ?_
  rintro e w' ⟨rfl, rfl⟩
  go_wp2_with fail
  refine (CI.out _).mono ?_
  rintro e w' ⟨rfl, rfl⟩
  go_wp2_with fail
  refine (PJ'.out _).mono ?_
  rintro e w' ⟨rfl, rfl⟩
  go_wp2_with fail
  refine (CJ.out _).mono ?_
  rintro e w7 ⟨rfl, hB7⟩
  have hb7 := hb6.trans (hB7.mono hb6.size)
  clear hb6 hB7 CI CJ PI' PJ'
  by_cases hnm : n = m
  · subst hnm
    have hcmp : (((encB n).extract 0 (encB n).size).toList == (encB n).toList) = true := by rw [ByteArray.extract_zero_size]; exact beq_self_eq_true _
    go_wp2_with fail
    refine (N1.out _).mono ?_
    rintro e w8 ⟨rfl, hB8⟩
    have hb8 := hb7.trans (hB8.mono hb7.size)
    go_wp2_with fail
    refine (N2.out _).mono ?_
    rintro e w9 ⟨rfl, hB9⟩
    have hb9 := hb8.trans (hB9.mono hb8.size)
    go_wp2
    go_ret
    exact ⟨rfl, hb9⟩
  · have hcmp := encB_prefix n m n1 n2 m1 m2 hnm
    have hnb : (n == m) = false := beq_eq_false_iff_ne.2 hnm
    clear hnm
    by_cases hle : (encB n).size ≤ (encB m).size
    · go_wp2_with fail
      refine (N1.out _).mono ?_
      rintro e w8 ⟨rfl, hB8⟩
      have hb8 := hb7.trans (hB8.mono hb7.size)
      go_wp2_with fail
      refine (N2.out _).mono ?_
      rintro e w9 ⟨rfl, hB9⟩
      have hb9 := hb8.trans (hB9.mono hb8.size)
      go_wp2
      go_ret
      exact ⟨rfl, hb9⟩
    · go_wp2_with fail
      refine (N1.out _).mono ?_
      rintro e w8 ⟨rfl, hB8⟩
      have hb8 := hb7.trans (hB8.mono hb7.size)
      go_wp2_with fail
      refine (N2.out _).mono ?_
      rintro e w9 ⟨rfl, hB9⟩
      have hb9 := hb8.trans (hB9.mono hb8.size)
      go_wp2
      go_ret
      exact ⟨rfl, hb9⟩

end Go.Proofs.YtiffkoakpfpdgaaDoor
