/-
  The law WireMatchesReference: its walk.
-/
import Derived.Test.YtiffkoakpfpdgaaDoorWireUniq
namespace Go.Proofs.YtiffkoakpfpdgaaDoor
open Go.RowKit

theorem put_both (k : Int) : ∃ (S : ByteArray) (E : Int), (∀ w, Calls Tryd.prog 12 #[.int .i64 k] w fun e w' => e = .returned (.tuple #[.string S, .int .i64 E]) ∧ Below w.heap.size w w') ∧
    (∀ w, Calls Tryd.prog 13 #[.int .i64 k] w fun e w' => e = .returned (.tuple #[.string S, .int .i64 E]) ∧ Below w.heap.size w w') := by
  by_cases h : k < -4611686018427387903 ∨ 4611686018427387903 < k
  · exact ⟨_, _, putInt_out k h, refPutInt_out k h⟩
  · exact ⟨_, _, putInt_any k (by omega) (by omega), refPutInt_any k (by omega) (by omega)⟩

theorem int_both (s : ByteArray) (k : Int) (hs : s.size ≤ maxLen) : ∃ n m E : Int, (∀ w, Calls Tryd.prog 15 #[.string s, .int .i64 k] w fun e w' => e = .returned (.tuple #[.int .i64 n, .int .i64 m, .int .i64 E]) ∧ w = w') ∧
    (∀ w, Calls Tryd.prog 16 #[.string s, .int .i64 k] w fun e w' => e = .returned (.tuple #[.int .i64 n, .int .i64 m, .int .i64 E]) ∧ Below w.heap.size w w') := by
  by_cases h : k < 0 ∨ (s.size : Int) < k
  · exact ⟨_, _, _, fun w => int_arg s k w h, fun w => refInt_arg s k w h⟩
  · obtain ⟨a, rfl⟩ := Int.eq_ofNat_of_zero_le (show 0 ≤ k by omega)
    cases hd : Wm.decI (s.data.toList.drop a) with
    | none => exact ⟨_, _, _, fun w => int_none' s a w hs (by omega) hd, fun w => refInt_none s a w hs (by omega) hd⟩
    | some p => exact ⟨_, _, _, fun w => int_some' s a w hs (by omega) p.1 p.2 hd, fun w => refInt_some s a w hs (by omega) p.1 p.2 hd⟩

theorem str_both (s : ByteArray) (k : Int) (hs : s.size ≤ maxLen) : ∃ (S : ByteArray) (m E : Int), (∀ w, Calls Tryd.prog 17 #[.string s, .int .i64 k] w fun e w' => e = .returned (.tuple #[.string S, .int .i64 m, .int .i64 E]) ∧ Below w.heap.size w w') ∧
    (∀ w, Calls Tryd.prog 18 #[.string s, .int .i64 k] w fun e w' => e = .returned (.tuple #[.string S, .int .i64 m, .int .i64 E]) ∧ Below w.heap.size w w') := by
  by_cases h : k < 0 ∨ (s.size : Int) < k
  · exact ⟨_, _, _, fun w => str_arg s k w h, fun w => refStr_arg s k w h⟩
  · obtain ⟨a, rfl⟩ := Int.eq_ofNat_of_zero_le (show 0 ≤ k by omega)
    have h1 := fun w => str_any s a w hs (by omega)
    have h2 := fun w => refStr_any s a w hs (by omega)
    cases hd : Wm.decS (s.data.toList.drop a) with
    | none => rw [hd] at h1 h2; exact ⟨_, _, _, h1, h2⟩
    | some p => rw [hd] at h1 h2; exact ⟨_, _, _, h1, h2⟩

set_option maxRecDepth 100000 in
set_option maxHeartbeats 1000000 in
theorem match_any (n : Int) (s : ByteArray) (x : Int) (w : World) (h1 : -9223372036854775808 ≤ n) (h2 : n ≤ 9223372036854775807) (h3 : -9223372036854775808 ≤ x) (h4 : x ≤ 9223372036854775807) (ht : Tab w) :
    Calls Tryd.prog 3 #[.int .i64 n, .string s, .int .i64 x] w fun e w' => e = .returned (.bool true) ∧ Below w.heap.size w w' := by
  obtain ⟨ns, s1, s2, s3⟩ := min2 s.size 300 (by decide)
  have hp := ht.pos
  have HT := Lib.hid ht; clear ht
  go_enter Tryd.func3, Tryd.ntmps3
  go_wp2_with fail
  refine (sane_any _ HT.out).mono ?_
  rintro e w1 ⟨rfl, hB1⟩
  go_wp2_with fail
  have hT : (s.extract 0 ns).size ≤ 300 := by rw [ByteArray.size_extract]; omega
  generalize s.extract 0 ns = T at *
  refine (numberFrom_any n h1 h2 _).mono ?_
  rintro e w2 ⟨rfl, hB2⟩
  have hb2 := hB1.trans (hB2.mono hB1.size)
  clear hB1 hB2
  generalize nf n = k1 at *
  go_wp2
  have hc0 : (w2.alloc (.cells #[.int .i64 n, .int .i64 k1] 3)).cell? ⟨w2.heap.size, 0, none⟩ = some (.int .i64 n) := by rw [World.cell?_alloc_mark]; rfl
  have hc1 : (w2.alloc (.cells #[.int .i64 n, .int .i64 k1] 3)).cell? ⟨w2.heap.size, 1, none⟩ = some (.int .i64 k1) := by rw [World.cell?_alloc_mark]; rfl
  have hB3 : Below w.heap.size w (w2.alloc (.cells #[.int .i64 n, .int .i64 k1] 3)) := hb2.alloc hb2.size _
  have hg3 : w2.heap.size < (w2.alloc (.cells #[.int .i64 n, .int .i64 k1] 3)).heap.size := by rw [World.size_alloc]; omega
  generalize w2.alloc (.cells #[.int .i64 n, .int .i64 k1] 3) = w3 at *
  clear hb2
  generalize w2.heap.size = g at *
  go_loopw [44] (fun i wr => ∃ j : Nat, j ≤ 2 ∧ i = .int .i64 j ∧ wr.cell? ⟨g, 0, none⟩ = some (.int .i64 n) ∧ wr.cell? ⟨g, 1, none⟩ = some (.int .i64 k1) ∧ Below w.heap.size w wr ∧ g < wr.heap.size) (fun i _ => 2 - (intOf i).toNat)
  case atStart => exact ⟨0, by omega, rfl, hc0, hc1, hB3, hg3⟩
  case round =>
    clear hc0 hc1 hB3 hg3
    obtain ⟨j, hj, rfl, hc0, hc1, hB, hg⟩ := hrel
    by_cases hlt : j < 2
    · obtain ⟨k, hck⟩ : ∃ k : Int, wr.cell? ⟨g, j, none⟩ = some (.int .i64 k) := by
        match j, hlt with
        | 0, _ => exact ⟨n, hc0⟩
        | 1, _ => exact ⟨k1, hc1⟩
      obtain ⟨S, E, p1, p2⟩ := put_both k
      have P1 := Lib.hid p1
      have P2 := Lib.hid p2
      clear p1 p2
      go_wp2_with fail
      refine (P1.out _).mono ?_
      rintro e w4 ⟨rfl, hB4⟩
      go_wp2_with fail
      refine (P2.out _).mono ?_
      rintro e w5 ⟨rfl, hB5⟩
      have hb5 := hB4.trans (hB5.mono hB4.size)
      have d0 := (hb5.cell (p := ⟨g, 0, none⟩) hg).trans hc0
      have d1 := (hb5.cell (p := ⟨g, 1, none⟩) hg).trans hc1
      have hbw := hB.trans (hb5.mono hB.size)
      have hg' := Nat.lt_of_lt_of_le hg hb5.size
      clear hB4 hB5 hb5
      go_wp2
      exact ⟨⟨j + 1, by omega, by go_num, d0, d1, hbw, hg'⟩, by simp [intOf]; omega⟩
    · clear hc0 hc1 hg
      obtain ⟨k2, hk2, PK⟩ := pick_int x ((T.size : Int) + 2) h3 h4 (by omega) (by omega)
      have PK' := Lib.hid PK
      clear PK hk2
      go_wp2_with fail
      refine (PK'.out _).mono ?_
      rintro e w' ⟨rfl, rfl⟩
      go_wp2
      have hc0 : (wr.alloc (.cells #[.int .i64 x, .int .i64 (k2 : Int)] 3)).cell? ⟨wr.heap.size, 0, none⟩ = some (.int .i64 x) := by rw [World.cell?_alloc_mark]; rfl
      have hc1 : (wr.alloc (.cells #[.int .i64 x, .int .i64 (k2 : Int)] 3)).cell? ⟨wr.heap.size, 1, none⟩ = some (.int .i64 (k2 : Int)) := by rw [World.cell?_alloc_mark]; rfl
      have hB3 : Below w.heap.size w (wr.alloc (.cells #[.int .i64 x, .int .i64 (k2 : Int)] 3)) := hB.alloc hB.size _
      have hg3 : wr.heap.size < (wr.alloc (.cells #[.int .i64 x, .int .i64 (k2 : Int)] 3)).heap.size := by rw [World.size_alloc]; omega
      generalize wr.alloc (.cells #[.int .i64 x, .int .i64 (k2 : Int)] 3) = w8 at *
      clear hB
      generalize wr.heap.size = g2 at *
      go_loopw [75] (fun i wr => ∃ j : Nat, j ≤ 2 ∧ i = .int .i64 j ∧ wr.cell? ⟨g2, 0, none⟩ = some (.int .i64 x) ∧ wr.cell? ⟨g2, 1, none⟩ = some (.int .i64 (k2 : Int)) ∧ Below w.heap.size w wr ∧ g2 < wr.heap.size) (fun i _ => 2 - (intOf i).toNat)
      case atStart => exact ⟨0, by omega, rfl, hc0, hc1, hB3, hg3⟩
      case round =>
        clear hc0 hc1 hB3 hg3
        obtain ⟨i, hi, rfl, hc0, hc1, hB, hg⟩ := hrel
        by_cases hlt2 : i < 2
        · obtain ⟨k, hck⟩ : ∃ k : Int, wr.cell? ⟨g2, i, none⟩ = some (.int .i64 k) := by
            match i, hlt2 with
            | 0, _ => exact ⟨x, hc0⟩
            | 1, _ => exact ⟨_, hc1⟩
          obtain ⟨a, m, E, p1, p2⟩ := int_both T k (by unfold maxLen; omega)
          obtain ⟨S, m', E', q1, q2⟩ := str_both T k (by unfold maxLen; omega)
          have P1 := Lib.hid p1
          have P2 := Lib.hid p2
          have Q1 := Lib.hid q1
          have Q2 := Lib.hid q2
          clear p1 p2 q1 q2
          go_wp2_with fail
          refine (P1.out _).mono ?_
          rintro e w' ⟨rfl, rfl⟩
          go_wp2_with fail
          refine (P2.out _).mono ?_
          rintro e w5 ⟨rfl, hB5⟩
          go_wp2_with fail
          refine (Q1.out _).mono ?_
          rintro e w6 ⟨rfl, hB6⟩
          go_wp2_with fail
          refine (Q2.out _).mono ?_
          rintro e w7 ⟨rfl, hB7⟩
          have hb7 := (hB5.trans (hB6.mono hB5.size)).trans (hB7.mono (hB5.trans (hB6.mono hB5.size)).size)
          have d0 := (hb7.cell (p := ⟨g2, 0, none⟩) hg).trans hc0
          have d1 := (hb7.cell (p := ⟨g2, 1, none⟩) hg).trans hc1
          have hbw := hB.trans (hb7.mono hB.size)
          have hg' := Nat.lt_of_lt_of_le hg hb7.size
          clear hB5 hB6 hB7 hb7
          go_wp2
          exact ⟨⟨i + 1, by omega, by go_num, d0, d1, hbw, hg'⟩, by simp [intOf]; omega⟩
        · go_wp2_with fail
          refine (putStr_any T _ (by omega)).mono ?_
          rintro e w5 ⟨rfl, hB5⟩
          rw [show (⟨(Wm.encS T.data.toList).toArray⟩ : ByteArray) = encSB T from rfl]
          go_wp2_with fail
          refine (refPutStr_any T _ (by omega)).mono ?_
          rintro e w6 ⟨rfl, hB6⟩
          rw [show (⟨(Wm.encS T.data.toList).toArray⟩ : ByteArray) = encSB T from rfl]
          have hb6 := hB5.trans (hB6.mono hB5.size)
          have hbw := hB.trans (hb6.mono hB.size)
          have ht6 := Lib.hid (HT.out.below hp hbw)
          clear hB5 hB6 hb6 hB
          go_wp2_with fail
          refine (sum_any T _ (by unfold maxLen; omega) ht6.out).mono ?_
          rintro e w' ⟨rfl, rfl⟩
          go_wp2_with fail
          refine (refSum_any T _ (by unfold maxLen; omega)).mono ?_
          rintro e w' ⟨rfl, rfl⟩
          go_wp2
          go_ret
          exact ⟨rfl, hbw⟩

end Go.Proofs.YtiffkoakpfpdgaaDoor
