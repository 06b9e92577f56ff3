/-
  The contract of NumberFrom.
-/
import Derived.Test.YtiffkoakpfpdgaaDoorWireSmall
import Derived.IntWalk
namespace Go.Proofs.YtiffkoakpfpdgaaDoor
open Go.RowKit

def tbl (j : Nat) : Int := [64, 128, 8192, 16384, 1073741824, 36028797018963968, 576460752303423488, 2].getD j 0
theorem tbl_range : ∀ j, j < 8 → 0 < tbl j ∧ tbl j ≤ 576460752303423488 := by decide
/-- what NumberFrom gives -/
def nf (c : Int) : Int := if 8 ≤ pk c 16 then -pk (pk c 4611686018427387904 / 8) (tbl (pk c 8).toNat) else pk (pk c 4611686018427387904 / 8) (tbl (pk c 8).toNat)
theorem nf_range (c : Int) : -4611686018427387903 ≤ nf c ∧ nf c ≤ 4611686018427387903 := by
  have h8 := pk_range c 8 (by decide)
  obtain ⟨t1, t2⟩ := tbl_range (pk c 8).toNat (by omega)
  have h := pk_range (pk c 4611686018427387904 / 8) _ t1
  unfold nf
  split <;> omega
theorem tbl_cell (w : World) (j : Nat) (hj : j < 8) (t : TypeId) : (w.alloc (.cells #[.int .i64 64, .int .i64 128, .int .i64 8192, .int .i64 16384, .int .i64 1073741824, .int .i64 36028797018963968, .int .i64 576460752303423488, .int .i64 2] t)).cell? ⟨w.heap.size, j, none⟩ = some (.int .i64 (tbl j)) := by
  rw [World.cell?_alloc_mark]
  match j, hj with
  | 0, _ | 1, _ | 2, _ | 3, _ | 4, _ | 5, _ | 6, _ | 7, _ => rfl

set_option maxRecDepth 100000 in
set_option maxHeartbeats 400000 in
theorem numberFrom_any (c : Int) (h1 : -9223372036854775808 ≤ c) (h2 : c ≤ 9223372036854775807) (w : World) :
    Calls Tryd.prog 11 #[.int .i64 c] w fun e w' => e = .returned (.int .i64 (nf c)) ∧ Below w.heap.size w w' := by
  have r62 := pk_range c 4611686018427387904 (by decide)
  have r8 := pk_range c 8 (by decide)
  have r16 := pk_range c 16 (by decide)
  obtain ⟨t1, t2⟩ := tbl_range (pk c 8).toNat (by omega)
  have rn := pk_range (pk c 4611686018427387904 / 8) _ t1
  have P62 := Lib.hid (fun w => pick_any c 4611686018427387904 h1 h2 (by decide) (by decide) w)
  have P8 := Lib.hid (fun w => pick_any c 8 h1 h2 (by decide) (by decide) w)
  have P16 := Lib.hid (fun w => pick_any c 16 h1 h2 (by decide) (by decide) w)
  have PN := Lib.hid (fun w => pick_any (pk c 4611686018427387904 / 8) (tbl (pk c 8).toNat) (by omega) (by omega) t1 (by omega) w)
  have hcell := tbl_cell w (pk c 8).toNat (by omega) 3
  have HN : Hid (nf c = if 8 ≤ pk c 16 then -pk (pk c 4611686018427387904 / 8) (tbl (pk c 8).toNat) else pk (pk c 4611686018427387904 / 8) (tbl (pk c 8).toNat)) := Lib.hid rfl
  generalize pk (pk c 4611686018427387904 / 8) (tbl (pk c 8).toNat) = n at *
  generalize tbl (pk c 8).toNat = t at *
  generalize pk c 4611686018427387904 = a at *
  generalize pk c 16 = d at *
  generalize pk c 8 = b at *
  go_enter Tryd.func11, Tryd.ntmps11
  go_wp2_with fail
  refine (P62.out _).mono ?_
  rintro e w' ⟨rfl, rfl⟩
  go_wp2_with fail
  have hB : Below w.heap.size w (w.alloc (.cells #[.int .i64 64, .int .i64 128, .int .i64 8192, .int .i64 16384, .int .i64 1073741824, .int .i64 36028797018963968, .int .i64 576460752303423488, .int .i64 2] 3)) := (Below.refl _ w).alloc (Nat.le_refl _) _
  generalize (w.alloc (.cells #[.int .i64 64, .int .i64 128, .int .i64 8192, .int .i64 16384, .int .i64 1073741824, .int .i64 36028797018963968, .int .i64 576460752303423488, .int .i64 2] 3)) = w1 at *
  refine (P8.out _).mono ?_
  rintro e w' ⟨rfl, rfl⟩
  go_wp2_with fail
  refine (PN.out _).mono ?_
  rintro e w' ⟨rfl, rfl⟩
  go_wp2_with fail
  refine (P16.out _).mono ?_
  rintro e w' ⟨rfl, rfl⟩
  by_cases h : 8 ≤ d
  · go_wp2
    go_ret
    exact ⟨by rw [HN.out, if_pos h]; rfl, hB⟩
  · go_wp2
    go_ret
    exact ⟨by rw [HN.out, if_neg (by omega)]; rfl, hB⟩

end Go.Proofs.YtiffkoakpfpdgaaDoor
