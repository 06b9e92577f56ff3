/-
  Package enclosure: must, for a string.
-/
import Derived.Test.YtbfonkabmehlmaaGreatDoorEnG
namespace Go.Proofs.YtbfonkabmehlmaaGreatDoor
set_option maxRecDepth 1000000
namespace En
open Go.RowKit Go.Extern.Stop Go.Stop Go.Extern
theorem mustS_ok (s : ByteArray) (w : World) : Calls Tryz.prog 86 #[.string s, .int .i64 0] w fun e w' => e = .returned (.string s) ∧ Below w.heap.size w w' := by
  have hr := refuse_no
  go_enter Tryz.func86, Tryz.ntmps86
  go_wp2_with (go_at_call 83; refine (hr _).mono ?_; rintro e w' ⟨rfl, rfl⟩)
  go_ret
  exact ⟨rfl, Below.refl _ _⟩
theorem mustS_no (a : Addr) (s : ByteArray) (c : Int) (hc : c ≠ 0) (w : World) (hv : Ref a w) : Calls Tryz.prog 86 #[.string s, .int .i64 c] w fun e w' => e = .panicked (refP a) ∧ Below w.heap.size w w' := by
  have hb : (c != 0) = true := by simp [hc]
  go_enter Tryz.func86, Tryz.ntmps86
  have hr := refuse_yes a _ hv
  go_wp2_with (go_at_call 83; refine hr.mono ?_; rintro e w' ⟨rfl, rfl⟩)
  exact ⟨rfl, rfl, Below.refl _ _⟩
/-- must, either way -/
theorem must_att (a : Addr) (n d : ByteArray) (c : Int) (w : World) (hv : Ref a w) : Calls Tryz.prog 65 #[.agg #[.string n, .string d], .int .i64 c] w fun e w' => e = (if c = 0 then .returned (.agg #[.string n, .string d]) else .panicked (refP a)) ∧ Below w.heap.size w w' := by
  by_cases hc : c = 0
  · subst hc; exact must_ok n d w
  · rw [if_neg hc]; exact must_no a n d c hc w hv
end En
end Go.Proofs.YtbfonkabmehlmaaGreatDoor
