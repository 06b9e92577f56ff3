/-
  The law WireRoundTrip: its walk.
-/
import Derived.Test.YtiffkoakpfpdgaaDoorWireSane
import Derived.Test.YtiffkoakpfpdgaaDoorWireNum
namespace Go.Proofs.YtiffkoakpfpdgaaDoor
open Go.RowKit

/-- 'min(len(s), m)' in the walk's spelling -/
theorem min2 (x : Nat) (u : Int) (hu : 0 ≤ u) : ∃ n : Nat, n ≤ x ∧ (n : Int) ≤ u ∧ min (x : Int) u = (n : Int) := by
  obtain ⟨v, rfl⟩ := Int.eq_ofNat_of_zero_le hu
  exact ⟨min x v, by omega, by omega, by omega⟩

theorem rt_int (p q : ByteArray) (n : Int) (h1 : -4611686018427387903 ≤ n) (h2 : n ≤ 4611686018427387903) (hp : p.size ≤ 200) (hq : q.size ≤ 200) (m : Nat) (hm : m = p.size) (w : World) :
    Calls Tryd.prog 15 #[.string (p ++ ⟨(Wm.enc (Wm.zz n)).toArray⟩ ++ q), .int .i64 m] w fun e w' => e = .returned (.tuple #[.int .i64 n, .int .i64 ((p.size + (⟨(Wm.enc (Wm.zz n)).toArray⟩ : ByteArray).size : Nat) : Int), .int .i64 0]) ∧ w = w' := by
  subst hm
  have hz := Wm.zz_lt n h1 h2
  have hl := Wm.enc_len 9 (Wm.zz n) (by omega) (by omega)
  refine int_some' _ p.size w ?_ ?_ n (Wm.enc (Wm.zz n)).length ?_
  · rw [ByteArray.size_append, ByteArray.size_append]
    show p.size + (Wm.enc (Wm.zz n)).toArray.size + q.size ≤ _
    rw [List.size_toArray]; unfold maxLen; omega
  · rw [ByteArray.size_append, ByteArray.size_append]; omega
  · have e : (p ++ ⟨(Wm.enc (Wm.zz n)).toArray⟩ ++ q).data.toList.drop p.size = Wm.enc (Wm.zz n) ++ q.data.toList := by
      simp
    rw [e]
    exact Wm.decI_enc n h1 h2 _

theorem encS_size (l : List UInt8) (h : l.length ≤ 300) : (⟨(Wm.encS l).toArray⟩ : ByteArray).size ≤ 309 := by
  have hz := Wm.zz_lt (l.length : Int) (by unfold Wm.MX; omega) (by unfold Wm.MX; omega)
  have hl := Wm.enc_len 9 (Wm.zz (l.length : Int)) (by omega) (by omega)
  show (Wm.encS l).toArray.size ≤ _
  rw [List.size_toArray]
  unfold Wm.encS
  rw [List.length_append]
  omega
theorem rt_str (p q r : ByteArray) (hp : p.size ≤ 200) (hq : q.size ≤ 200) (hr : r.size ≤ 200) (m : Nat) (hm : m = p.size) (w : World) :
    Calls Tryd.prog 17 #[.string (p ++ ⟨(Wm.encS r.data.toList).toArray⟩ ++ q), .int .i64 m] w fun e w' => e = .returned (.tuple #[.string r, .int .i64 ((p.size + (⟨(Wm.encS r.data.toList).toArray⟩ : ByteArray).size : Nat) : Int), .int .i64 0]) ∧ Below w.heap.size w w' := by
  subst hm
  have hl := encS_size r.data.toList (by simp; omega)
  have h := str_any (p ++ ⟨(Wm.encS r.data.toList).toArray⟩ ++ q) p.size w (by rw [ByteArray.size_append, ByteArray.size_append]; unfold maxLen; omega) (by rw [ByteArray.size_append, ByteArray.size_append]; omega)
  have e : (p ++ ⟨(Wm.encS r.data.toList).toArray⟩ ++ q).data.toList.drop p.size = Wm.encS r.data.toList ++ q.data.toList := by
    simp
  rw [e, Wm.decS_encS _ _ (by simp; omega)] at h
  exact h

set_option maxRecDepth 100000 in
set_option maxHeartbeats 1000000 in
theorem round_any (c : Int) (t a b : ByteArray) (w : World) (h1 : -9223372036854775808 ≤ c) (h2 : c ≤ 9223372036854775807) (ht : Tab w) :
    Calls Tryd.prog 4 #[.int .i64 c, .string t, .agg #[.string a, .string b]] w fun e w' => e = .returned (.bool true) ∧ Below w.heap.size w w' := by
  have hp := ht.pos
  have HT := Lib.hid ht; clear ht
  obtain ⟨na, a1, a2, a3⟩ := min2 a.size 200 (by decide)
  obtain ⟨nb, b1, b2, b3⟩ := min2 b.size 200 (by decide)
  obtain ⟨nt, t1, t2, t3⟩ := min2 t.size 200 (by decide)
  go_enter Tryd.func4, Tryd.ntmps4
  go_wp2_with fail
  have hB0 : Below w.heap.size w (w.alloc (.cells #[.string a, .string b] 36)) := (Below.refl _ w).alloc (Nat.le_refl _) _
  have hc0 : (w.alloc (.cells #[.string a, .string b] 36)).cell? ⟨w.heap.size, 0, none⟩ = some (.string a) := by rw [World.cell?_alloc_mark]; rfl
  have hc1 : (w.alloc (.cells #[.string a, .string b] 36)).cell? ⟨w.heap.size, 1, none⟩ = some (.string b) := by rw [World.cell?_alloc_mark]; rfl
  have hz0 : (w.alloc (.cells #[.string a, .string b] 36)).heap.size = w.heap.size + 1 := World.size_alloc _ _
  generalize w.alloc (.cells #[.string a, .string b] 36) = w0 at *
  refine (sane_any _ (HT.out.below hp hB0)).mono ?_
  rintro e w1 ⟨rfl, hB1⟩
  have hd0 := (hB1.cell (p := ⟨w.heap.size, 0, none⟩) (by simp; omega)).trans hc0
  have hd1 := (hB1.cell (p := ⟨w.heap.size, 1, none⟩) (by simp; omega)).trans hc1
  have hZ := Lib.hid hz0
  have hB := hB0.trans (hB1.mono hB0.size)
  have hsz : w.heap.size < w1.heap.size := by have := hB1.size; omega
  clear hz0 hc0 hc1 hB0 hB1
  go_wp2_with fail
  refine (numberFrom_any c h1 h2 _).mono ?_
  rintro e w2 ⟨rfl, hB2⟩
  have hc0 := (hB2.cell (p := ⟨w.heap.size, 0, none⟩) hsz).trans hd0
  have hc1 := (hB2.cell (p := ⟨w.heap.size, 1, none⟩) hsz).trans hd1
  have hb2 := hB.trans (hB2.mono hB.size)
  obtain ⟨n1, n2⟩ := nf_range c
  generalize nf c = n at *
  clear hd0 hd1 hB2 hB hsz
  go_wp2_with fail
  have hP : (a.extract 0 na).size ≤ 200 := by rw [ByteArray.size_extract]; omega
  have hQ : (b.extract 0 nb).size ≤ 200 := by rw [ByteArray.size_extract]; omega
  have hR : (t.extract 0 nt).size ≤ 200 := by rw [ByteArray.size_extract]; omega
  generalize a.extract 0 na = P at *
  generalize b.extract 0 nb = Q at *
  generalize t.extract 0 nt = R at *
  refine (putInt_any n n1 n2 _).mono ?_
  rintro e w3 ⟨rfl, hB3⟩
  have hb3 := hb2.trans (hB3.mono hb2.size)
  have hz := Wm.zz_lt n n1 n2
  have hl := Wm.enc_len 9 (Wm.zz n) (by omega) (by omega)
  have hA : (⟨(Wm.enc (Wm.zz n)).toArray⟩ : ByteArray).size ≤ 9 := hl
  have HR := Lib.hid (rt_int P Q n n1 n2 hP hQ)
  generalize (⟨(Wm.enc (Wm.zz n)).toArray⟩ : ByteArray) = A at *
  clear hb2 hB3 hc0 hc1
  go_wp2_with fail
  refine (putStr_any R w3 (by omega)).mono ?_
  rintro e w4 ⟨rfl, hB4⟩
  have hb4 := hb3.trans (hB4.mono hb3.size)
  have hS := encS_size R.data.toList (by simp; omega)
  have HS := Lib.hid (rt_str P Q R hP hQ hR)
  generalize (⟨(Wm.encS R.data.toList).toArray⟩ : ByteArray) = S at *
  clear hb3 hB4
  go_wp2_with fail
  refine (HR.out _ (by omega) _).mono ?_
  rintro e w5 ⟨rfl, rfl⟩
  go_wp2_with fail
  refine (HS.out _ (by omega) _).mono ?_
  rintro e w6 ⟨rfl, hB6⟩
  have hb6 := hb4.trans (hB6.mono hb4.size)
  go_wp2
  go_ret
  exact ⟨rfl, hb6⟩

end Go.Proofs.YtiffkoakpfpdgaaDoor
