/-
  The iterator of PutInt: groups hands its loop the bytes of an encoding, one by one.
-/
import Derived.RangeFuncNested
import Derived.RangeFuncBound
import Derived.RangeFuncCalls
import Derived.RangeFuncLeaves
import Derived.Shelf.Abstract
import Derived.Shelf.RegionOpen
import Derived.OwnWalkIn
import Derived.TacticsInMore
import Derived.LoopNIn
import Derived.LoopIn
import Derived.Test.YtiffkoakpfpdgaaDoorWireMem
import Derived.Test.YtiffkoakpfpdgaaDoorWireJoin
namespace Go.Proofs.YtiffkoakpfpdgaaDoor
open Go.RowKit Go.Shelf

attribute [local go_sem] Oper.semAt_some

theorem grp_byte (r : Nat) (hr : r < 18446744073709551616) : (((UInt8.ofNat (r % 128 + 128)).toNat : Nat) : Int) = bits .or .u8 (bits .and .u64 (r : Int) 127 % 256) 128 := by
  have h1 := u64_and_nat r 127 hr (by omega)
  rw [nat_mask7] at h1
  have h1' : bits .and .u64 (r : Int) 127 = ((r % 128 : Nat) : Int) := h1
  have h3 : 128 ||| r % 128 = 128 + r % 128 := nat_join 7 128 (r % 128) (by decide) (by omega)
  have h2 : bits .or .u8 ((r % 128 : Nat) : Int) 128 = ((r % 128 ||| 128 : Nat) : Int) := u8_or_nat (r % 128) 128 (by omega) (by omega)
  rw [h1', show ((r % 128 : Nat) : Int) % 256 = ((r % 128 : Nat) : Int) by omega, h2, Nat.or_comm, h3, Wm.toNat_small _ (by omega), Nat.add_comm]
theorem last_byte (r : Nat) (hr : r < 128) : (((UInt8.ofNat r).toNat : Nat) : Int) = (r : Int) := by rw [Wm.toNat_small _ (by omega)]

set_option maxRecDepth 100000 in
set_option maxHeartbeats 1000000 in
theorem groups1_in (F : Fence) (n : Nat) (hf : F.fn 28) (hro : F.round = none) (hn : 1 ≤ n) (l Bn n₀ : Nat) (z : Nat) (hz : z < 9223372036854775808) (J Jx : List UInt8 → World → Prop)
    (hY : ∀ pre x W, J pre W → pre.length < (Wm.enc z).length → YieldAt F (n - 1) Tryd.prog l #[.int .u8 x.toNat] W fun e W' =>
      (e = .returned (.bool true) ∧ J (pre ++ [x]) W' ∧ Below n₀ W W') ∨ (e = .returned (.bool false) ∧ Jx (pre ++ [x]) W'))
    (W : World) (hBn : W.cell? ⟨Bn, 0, none⟩ = some (.int .u64 z)) (h0 : J [] W) :
    CallsIn F n Tryd.prog 28 #[.func (.yield l) #[] #[], .pointer (some ⟨Bn, 0, none⟩)] W fun e W' => (∃ v, e = .returned v) ∧
      ((∃ ys, ys = Wm.enc z ∧ J ys W') ∨ (∃ pre, pre <+: Wm.enc z ∧ Jx pre W')) := by
  refine callsIn_of_wp Tryd.func28 rfl hf ?_ hro
  simp only [Tryd.ntmps28, List.size_toArray, List.length_cons, List.length_nil, Nat.reduceAdd, Nat.reduceSub, Array.replicate_succ, Array.replicate_zero, List.push_toArray, List.append_toArray, List.nil_append, List.cons_append]
  gi_wp2
  gi_loopw [3] (fun p wr => ∃ (pre : List UInt8) (rest : Nat), p = .int .u64 rest ∧ Wm.enc z = pre ++ Wm.enc rest ∧ rest < 9223372036854775808 ∧ J pre wr)
    (fun p _ => (intOf p).toNat)
  case atStart =>
    exact ⟨[], z, rfl, rfl, hz, h0⟩
  case round =>
    obtain ⟨pre, rest, rfl, hx, hr, hJs⟩ := hrel
    have HX := Lib.hid hx; clear hx
    by_cases hb : 128 ≤ rest
    · have HE := Lib.hid (Wm.enc_big rest hb)
      obtain ⟨fn, tmps, assign, body, hy, hR⟩ := hY pre (UInt8.ofNat (rest % 128 + 128)) wr hJs (by rw [HX.out, HE.out]; simp)
      rw [grp_byte rest (by omega)] at hy
      gi_wp2
      refine hR.mono ?_
      rintro e W3 (⟨rfl, hJ3, hk3⟩ | ⟨rfl, hJx3⟩)
      · gi_wp2
        go_roundw
        case rel => exact ⟨pre ++ [UInt8.ofNat (rest % 128 + 128)], rest / 128, by first | rfl | go_num, by rw [HX.out, HE.out]; simp, by omega, hJ3⟩
        case measure => simp [intOf]; omega
      · gi_wp2
        refine bodyPost_ret (results_none rfl _ _ _) rfl ?_
        exact ⟨⟨_, rfl⟩, .inr ⟨pre ++ [UInt8.ofNat (rest % 128 + 128)], ⟨Wm.enc (rest / 128), by rw [HX.out, HE.out]; simp⟩, hJx3⟩⟩
    · have HE := Lib.hid (Wm.enc_small rest (by omega))
      obtain ⟨fn, tmps, assign, body, hy, hR⟩ := hY pre (UInt8.ofNat rest) wr hJs (by rw [HX.out, HE.out]; simp)
      rw [last_byte rest (by omega)] at hy
      gi_wp2
      refine hR.mono ?_
      rintro e W3 (⟨rfl, hJ3, hk3⟩ | ⟨rfl, hJx3⟩)
      · gi_wp2
        go_end0
        exact ⟨⟨_, rfl⟩, .inl ⟨pre ++ [UInt8.ofNat rest], by rw [HX.out, HE.out], hJ3⟩⟩
      · gi_wp2
        go_end0
        exact ⟨⟨_, rfl⟩, .inr ⟨pre ++ [UInt8.ofNat rest], ⟨[], by rw [HX.out, HE.out]; simp⟩, hJx3⟩⟩

end Go.Proofs.YtiffkoakpfpdgaaDoor
