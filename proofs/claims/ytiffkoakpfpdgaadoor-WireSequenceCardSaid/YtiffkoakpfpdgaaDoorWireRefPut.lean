/-
  The contract of the reference's PutInt.
-/
import Derived.Test.YtiffkoakpfpdgaaDoorWirePutS
import Derived.Maps.AppendAt
import Derived.RangeFuncBox
namespace Go.Proofs.YtiffkoakpfpdgaaDoor
open Go.RowKit

theorem infoByte : (Tryd.prog.info? 5).map (fun i => (i.zero, i.size, i.bytes)) = some (some (.int .u8 0), 1, 1) := by kernel_rfl
def bv (b : UInt8) : Value := .int .u8 ((b.toNat : Nat) : Int)
/-- 'string(b)' of a row that the call owns -/
theorem own_back {W : World} {base g cap : Nat} (l : List UInt8) (h : W.ownsRow base 5 1 (.slice (some ⟨g, 0, none⟩) l.length cap) l.length (l.map bv)) :
    Sem.run Tryd.prog (convert 38 9 (.slice (some ⟨g, 0, none⟩) l.length cap)) W = .ok (.string ⟨l.toArray⟩) W :=
  Go.run_convert_bytes_back (P := Tryd.prog) W 38 9 5 ⟨g, 0, none⟩ cap l Tryd.underlying38 Tryd.underlying5 Tryd.underlying9 (fun j hj => by
    rw [h.cells (g := g) rfl j (.int .u8 ((l[j].toNat : Nat) : Int)) (by simp [hj, bv])])

theorem own_snoc {W : World} {base : Nat} {v : Value} {pre : List UInt8} (x : UInt8) {y : Int} (hx : ((x.toNat : Nat) : Int) = y) (h : W.ownsRow base 5 1 v (pre.length + 1) (pre.map bv ++ [.int .u8 y])) :
    W.ownsRow base 5 1 v (pre ++ [x]).length ((pre ++ [x]).map bv) := by
  rw [show (pre ++ [x]).length = pre.length + 1 by simp, List.map_append]
  show W.ownsRow base 5 1 v (pre.length + 1) (pre.map bv ++ [bv x])
  unfold bv at h ⊢
  rw [hx]; exact h
theorem own_back' {W : World} {base g cap n : Nat} {l : List UInt8} (h : W.ownsRow base 5 1 (.slice (some ⟨g, 0, none⟩) (n + 1) cap) l.length (l.map bv)) :
    Sem.run Tryd.prog (convert 38 9 (.slice (some ⟨g, 0, none⟩) (n + 1) cap)) W = .ok (.string ⟨l.toArray⟩) W := by
  have e : n + 1 = l.length := by
    rcases h.2 with ⟨h0, _⟩ | ⟨_, _, _, hv, _⟩
    · simp at h0
    · simp at hv; omega
  rw [e] at h ⊢
  exact own_back l h

set_option maxRecDepth 100000 in
set_option maxHeartbeats 400000 in
theorem refPutInt_out (n : Int) (h : n < -4611686018427387903 ∨ 4611686018427387903 < n) (w : World) :
    Calls Tryd.prog 13 #[.int .i64 n] w fun e w' => e = .returned (.tuple #[.string ⟨#[]⟩, .int .i64 10]) ∧ Below w.heap.size w w' := by
  by_cases h1 : n < -4611686018427387903
  · clear h
    go_enter Tryd.func13, Tryd.ntmps13
    go_wp2
    go_ret2
    exact ⟨rfl, Below.refl _ _⟩
  · have h2 : 4611686018427387903 < n := by omega
    clear h
    go_enter Tryd.func13, Tryd.ntmps13
    go_wp2
    go_ret2
    exact ⟨rfl, Below.refl _ _⟩

set_option maxRecDepth 100000 in
set_option maxHeartbeats 1000000 in
theorem refPutInt_any (n : Int) (h1 : -4611686018427387903 ≤ n) (h2 : n ≤ 4611686018427387903) (w : World) :
    Calls Tryd.prog 13 #[.int .i64 n] w fun e w' => e = .returned (.tuple #[.string ⟨(Wm.enc (Wm.zz n)).toArray⟩, .int .i64 0]) ∧ Below w.heap.size w w' := by
  have hz := Wm.zz_lt n h1 h2
  go_enter Tryd.func13, Tryd.ntmps13
  go_wp2_with (go_at_call 25; refine (zigzag_any n h1 h2 _).mono ?_; rintro e w' ⟨rfl, rfl⟩)
  generalize hzz : Wm.zz n = z at *
  have HZ := Lib.hid hzz
  clear hzz
  go_loopw [4, 5] (fun r v wr => ∃ (pre : List UInt8) (rest : Nat), r = .int .u64 rest ∧ Wm.enc z = pre ++ Wm.enc rest ∧ rest < 9223372036854775808 ∧
      pre.length ≤ 9 ∧ wr.ownsRow w.heap.size 5 1 v pre.length (pre.map bv) ∧ Below w.heap.size w wr) (fun r _ _ => (intOf r).toNat)
  case atStart => exact ⟨[], z, rfl, rfl, by omega, by simp, World.ownsRow_nil _ _ _ _, Below.refl _ _⟩
  case round =>
    obtain ⟨pre, rest, rfl, hx, hr, hp9, hown, hB⟩ := hrel
    have HX := Lib.hid hx; clear hx
    by_cases hb : 128 ≤ rest
    · have HE := Lib.hid (Wm.enc_big rest hb)
      have hx : (((UInt8.ofNat (rest % 128 + 128)).toNat : Nat) : Int) = (rest : Int) % 128 + 128 := by rw [Wm.toNat_small _ (by omega)]; omega
      have hlen : (pre ++ Wm.enc rest).length ≤ 9 := by rw [← HX.out]; exact Wm.enc_len 9 z (by omega) (by omega)
      have hep := Wm.enc_pos rest
      rw [List.length_append] at hlen
      obtain ⟨i0, hi, hz0, hz1, hz2⟩ := info_parts infoByte
      have HX2 := Lib.hid hx
      clear hx
      go_wp2_with (at_builtin; go_must (refine wpList_append_own _ rfl _ _ 38 rfl w.heap.size 5 i0 (.int .u8 0) 1 1 Tryd.underlying38 hi hz0 hz1 hz2 rfl (by decide) _ _ _ rfl (hown.alloc _) ⟨wr.heap.size, 0, none⟩ 1 1 [.int .u8 ((rest : Int) % 128 + 128)] rfl rfl (cell_one_new _ _ _) (by simp [Value.oneCell']) (by unfold maxLen; omega) (by omega) (by have := hB.size; simp; omega) ?_); intro v' w1 hown' hgrow _)
      refine ⟨⟨pre ++ [UInt8.ofNat (rest % 128 + 128)], rest / 128, by first | rfl | go_num, by rw [HX.out, HE.out]; simp, by omega, by simp; omega, ?_, ?_⟩, by simp [intOf]; omega⟩
      · exact own_snoc (UInt8.ofNat (rest % 128 + 128)) HX2.out hown'
      · exact (hB.alloc hB.size _).grown hgrow (by have := hB.size; simp; omega) (fun k hk => (hown.lt k hk).1)
    · have HE := Lib.hid (Wm.enc_small rest (by omega))
      have HX2 := Lib.hid (last_byte rest (by omega))
      have HF : Hid (Wm.enc z = pre ++ [UInt8.ofNat rest]) := Lib.hid (by rw [HX.out, HE.out])
      have hlen : (pre ++ Wm.enc rest).length ≤ 9 := by rw [← HX.out]; exact Wm.enc_len 9 z (by omega) (by omega)
      have hep := Wm.enc_pos rest
      rw [List.length_append] at hlen
      obtain ⟨i0, hi, hz0, hz1, hz2⟩ := info_parts infoByte
      go_wp2_with (at_builtin; go_must (refine wpList_append_own _ rfl _ _ 38 rfl w.heap.size 5 i0 (.int .u8 0) 1 1 Tryd.underlying38 hi hz0 hz1 hz2 rfl (by decide) _ _ _ rfl (hown.alloc _) ⟨wr.heap.size, 0, none⟩ 1 1 [.int .u8 (rest : Int)] rfl rfl (cell_one_new _ _ _) (by simp [Value.oneCell']) (by unfold maxLen; omega) (by omega) (by have := hB.size; simp; omega) ?_); intro v' w1 hown' hgrow _; obtain ⟨g', cap', rfl⟩ := ownsRow_succ hown'; have hback := own_back' (own_snoc (UInt8.ofNat rest) HX2.out hown'))
      go_ret2
      exact ⟨by rw [HZ.out, HF.out]; rfl, (hB.alloc hB.size _).grown hgrow (by have := hB.size; simp; omega) (fun k hk => (hown.lt k hk).1)⟩

end Go.Proofs.YtiffkoakpfpdgaaDoor
