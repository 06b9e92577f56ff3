/-
  The contract of PutString.
-/
import Derived.Test.YtiffkoakpfpdgaaDoorWirePut
namespace Go.Proofs.YtiffkoakpfpdgaaDoor
open Go.RowKit

theorem cat_str (l : List UInt8) (s : ByteArray) : (⟨l.toArray⟩ : ByteArray) ++ s = ⟨(l ++ s.data.toList).toArray⟩ := by
  apply ByteArray.ext
  apply Array.toList_inj.1
  simp

set_option maxRecDepth 100000 in
set_option maxHeartbeats 400000 in
theorem putStr_out (s : ByteArray) (w : World) (h : 65536 < s.size) :
    Calls Tryd.prog 19 #[.string s] w fun e w' => e = .returned (.tuple #[.string ⟨#[]⟩, .int .i64 10]) ∧ Below w.heap.size w w' := by
  go_enter Tryd.func19, Tryd.ntmps19
  go_wp2
  go_ret2
  exact ⟨rfl, Below.refl _ _⟩

set_option maxRecDepth 100000 in
set_option maxHeartbeats 400000 in
theorem putStr_any (s : ByteArray) (w : World) (h : s.size ≤ 65536) :
    Calls Tryd.prog 19 #[.string s] w fun e w' => e = .returned (.tuple #[.string ⟨(Wm.encS s.data.toList).toArray⟩, .int .i64 0]) ∧ Below w.heap.size w w' := by
  have hz := Wm.zz_lt (s.size : Int) (by unfold Wm.MX; omega) (by unfold Wm.MX; omega)
  have hl := Wm.enc_len 9 (Wm.zz (s.size : Int)) (by omega) (by omega)
  have HE : Hid ((⟨(Wm.enc (Wm.zz (s.size : Int))).toArray⟩ : ByteArray) ++ s = ⟨(Wm.encS s.data.toList).toArray⟩) := Lib.hid (cat_str _ s)
  clear hz
  go_enter Tryd.func19, Tryd.ntmps19
  go_wp2_with (go_at_call 12; refine (putInt_any (s.size : Int) (by omega) (by omega) _).mono ?_; rintro e w' ⟨rfl, hB⟩)
  go_ret2
  exact ⟨by rw [HE.out]; rfl, hB⟩

end Go.Proofs.YtiffkoakpfpdgaaDoor
