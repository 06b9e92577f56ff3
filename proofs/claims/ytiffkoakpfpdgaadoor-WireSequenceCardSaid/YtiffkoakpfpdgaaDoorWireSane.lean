/-
  The contract of sane: the fixed examples.
-/
import Derived.Test.YtiffkoakpfpdgaaDoorWireRefInt
namespace Go.Proofs.YtiffkoakpfpdgaaDoor
open Go.RowKit

theorem Tab.pos {w : World} (h : Tab w) : 0 < w.heap.size := World.block_lt_of_cell? w _ (h 0 (by decide))
theorem Tab.below {w w' : World} {B : Nat} (h : Tab w) (hp : 0 < B) (hb : Below B w w') : Tab w' := fun i hi => (hb.cell (p := ⟨0, i, none⟩) hp).trans (h i hi)

theorem enc127 : Wm.enc (Wm.zz (-64)) = [127] := by rw [show Wm.zz (-64) = 127 from rfl, Wm.enc_small _ (by decide)]; rfl
theorem enc128 : Wm.enc (Wm.zz 64) = [128, 1] := by rw [show Wm.zz 64 = 128 from rfl, Wm.enc_big _ (by decide), Wm.enc_small _ (by decide)]; rfl
theorem enc4 : Wm.encS [97, 98] = [4, 97, 98] := by unfold Wm.encS; rw [show Wm.zz ((([97, 98] : List UInt8).length : Nat) : Int) = 4 from rfl, Wm.enc_small _ (by decide)]; rfl

theorem s1 (w : World) : Calls Tryd.prog 12 #[.int .i64 (-64)] w fun e w' => e = .returned (.tuple #[.string ⟨#[127]⟩, .int .i64 0]) ∧ Below w.heap.size w w' := by
  have := putInt_any (-64) (by decide) (by decide) w; rw [enc127] at this; exact this
theorem s2 (w : World) : Calls Tryd.prog 12 #[.int .i64 64] w fun e w' => e = .returned (.tuple #[.string ⟨#[128, 1]⟩, .int .i64 0]) ∧ Below w.heap.size w w' := by
  have := putInt_any 64 (by decide) (by decide) w; rw [enc128] at this; exact this
theorem s3 (w : World) : Calls Tryd.prog 15 #[.string ⟨#[97, 172, 2, 98]⟩, .int .i64 1] w fun e w' => e = .returned (.tuple #[.int .i64 150, .int .i64 3, .int .i64 0]) ∧ w = w' :=
  int_some' ⟨#[97, 172, 2, 98]⟩ 1 w (by decide +kernel) (by decide) 150 2 (by decide +kernel)
theorem s4 (w : World) : Calls Tryd.prog 15 #[.string ⟨#[128, 0]⟩, .int .i64 0] w fun e w' => e = .returned (.tuple #[.int .i64 0, .int .i64 0, .int .i64 10]) ∧ w = w' :=
  int_none' ⟨#[128, 0]⟩ 0 w (by decide +kernel) (by decide) (by decide +kernel)
theorem s5 (w : World) : Calls Tryd.prog 19 #[.string ⟨#[97, 98]⟩] w fun e w' => e = .returned (.tuple #[.string ⟨#[4, 97, 98]⟩, .int .i64 0]) ∧ Below w.heap.size w w' := by
  have := putStr_any ⟨#[97, 98]⟩ w (by decide +kernel)
  rw [show ((⟨#[97, 98]⟩ : ByteArray).data.toList) = [97, 98] from rfl, enc4] at this
  exact this
theorem s6 (w : World) : Calls Tryd.prog 17 #[.string ⟨#[4, 97, 98, 99]⟩, .int .i64 0] w fun e w' => e = .returned (.tuple #[.string ⟨#[97, 98]⟩, .int .i64 3, .int .i64 0]) ∧ Below w.heap.size w w' := by
  have := str_any ⟨#[4, 97, 98, 99]⟩ 0 w (by decide +kernel) (by decide)
  rw [show Wm.decS ((⟨#[4, 97, 98, 99]⟩ : ByteArray).data.toList.drop 0) = some ([97, 98], 3) by decide +kernel] at this
  exact this
theorem s7 (w : World) : Calls Tryd.prog 17 #[.string ⟨#[4, 97]⟩, .int .i64 0] w fun e w' => e = .returned (.tuple #[.string ⟨#[]⟩, .int .i64 0, .int .i64 10]) ∧ Below w.heap.size w w' := by
  have := str_any ⟨#[4, 97]⟩ 0 w (by decide +kernel) (by decide)
  rw [show Wm.decS ((⟨#[4, 97]⟩ : ByteArray).data.toList.drop 0) = none by decide +kernel] at this
  exact this
theorem s8 (w : World) : Calls Tryd.prog 12 #[.int .i64 4611686018427387904] w fun e w' => e = .returned (.tuple #[.string ⟨#[]⟩, .int .i64 10]) ∧ Below w.heap.size w w' :=
  putInt_out _ (.inr (by decide)) w
theorem s9 (w : World) : Calls Tryd.prog 15 #[.string ⟨#[]⟩, .int .i64 1] w fun e w' => e = .returned (.tuple #[.int .i64 0, .int .i64 0, .int .i64 2]) ∧ w = w' :=
  int_arg ⟨#[]⟩ 1 w (.inr (by decide))
theorem crc9 : Wm.crc [49, 50, 51, 52, 53, 54, 55, 56, 57] = 3808858755 := by decide +kernel
theorem s10 (w : World) (ht : Tab w) : Calls Tryd.prog 21 #[.string ⟨#[49, 50, 51, 52, 53, 54, 55, 56, 57]⟩] w fun e w' => e = .returned (.int .i64 3808858755) ∧ w = w' := by
  have := sum_any ⟨#[49, 50, 51, 52, 53, 54, 55, 56, 57]⟩ w (by decide +kernel) ht
  rw [show ((⟨#[49, 50, 51, 52, 53, 54, 55, 56, 57]⟩ : ByteArray).data.toList) = [49, 50, 51, 52, 53, 54, 55, 56, 57] from rfl, crc9] at this
  exact this

set_option maxRecDepth 100000 in
set_option maxHeartbeats 1000000 in
theorem sane_any (w : World) (ht : Tab w) :
    Calls Tryd.prog 10 #[] w fun e w' => e = .returned (.bool true) ∧ Below w.heap.size w w' := by
  have hp := ht.pos
  have HT := Lib.hid ht; clear ht
  go_enter Tryd.func10, Tryd.ntmps10
  go_wp2_with fail
  refine (s1 _).mono ?_
  rintro e w1 ⟨rfl, hB1⟩
  go_wp2_with fail
  refine (s2 _).mono ?_
  rintro e w2 ⟨rfl, hB2⟩
  have hb2 := hB1.trans (hB2.mono hB1.size)
  clear hB1 hB2
  go_wp2_with fail
  refine (s3 _).mono ?_
  rintro e w' ⟨rfl, rfl⟩
  go_wp2_with fail
  refine (s4 _).mono ?_
  rintro e w' ⟨rfl, rfl⟩
  go_wp2_with fail
  refine (s5 _).mono ?_
  rintro e w5 ⟨rfl, hB5⟩
  have hb5 := hb2.trans (hB5.mono hb2.size)
  clear hb2 hB5
  go_wp2_with fail
  refine (s6 _).mono ?_
  rintro e w6 ⟨rfl, hB6⟩
  have hb6 := hb5.trans (hB6.mono hb5.size)
  clear hb5 hB6
  go_wp2_with fail
  refine (s7 _).mono ?_
  rintro e w7 ⟨rfl, hB7⟩
  have hb7 := hb6.trans (hB7.mono hb6.size)
  clear hb6 hB7
  go_wp2_with fail
  refine (s8 _).mono ?_
  rintro e w8 ⟨rfl, hB8⟩
  have hb8 := hb7.trans (hB8.mono hb7.size)
  clear hb7 hB8
  go_wp2_with fail
  refine (s9 _).mono ?_
  rintro e w' ⟨rfl, rfl⟩
  go_wp2_with fail
  refine (s10 _ (HT.out.below hp hb8)).mono ?_
  rintro e w' ⟨rfl, rfl⟩
  go_wp2
  go_ret
  exact ⟨rfl, hb8⟩

end Go.Proofs.YtiffkoakpfpdgaaDoor
