/-
  Package enclosure: codeOf, refuseIf, must.
-/
import Derived.Test.YtbfonkabmehlmaaGreatDoorEnB
import Derived.Below
namespace Go.Proofs.YtbfonkabmehlmaaGreatDoor
set_option maxRecDepth 1000000
namespace En
open Go.RowKit Go.Extern.Stop Go.Stop Go.Extern
/-- the refusal that lies at a -/
abbrev refV (a : Addr) : Value := .iface 200 (.pointer (some a))
abbrev refP (a : Addr) : List PanicEntry := [{ v := refV a, recovered := false }]
theorem codeOf_nil (w : World) : Calls Tryz.prog 117 #[.nilIface] w fun e w' => e = .returned (.int .i64 0) ∧ w' = w := by
  have hn : ∀ w : World, (binOp BinOp.eql 20 .nilIface .nilIface).run Tryz.prog w = .ok (.bool true) w := fun _ => by kernel_rfl
  go_enter Tryz.func117, Tryz.ntmps117
  go_wp2
  go_ret
  exact ⟨rfl, rfl⟩
theorem codeOf_ref (a : Addr) (w : World) (hv : w.cell? ⟨0, 0, none⟩ = some (refV a)) : Calls Tryz.prog 117 #[refV a] w fun e w' => e = .returned (.int .i64 50) ∧ w' = w := by
  have hI := isError
  have hs := is_same a w
  unfold refV at hv hs ⊢
  go_enter Tryz.func117, Tryz.ntmps117
  go_wp2_with (go_at_call 155; refine hs.mono ?_; rintro e w' ⟨rfl, rfl⟩)
  go_ret
  exact ⟨rfl, rfl⟩
theorem refuse_no (w : World) : Calls Tryz.prog 83 #[.bool false] w fun e w' => e = .returned (.tuple #[]) ∧ w' = w := by
  go_enter Tryz.func83, Tryz.ntmps83
  go_wp2
  go_end0
  exact ⟨rfl, rfl⟩
theorem refuse_yes (a : Addr) (w : World) (hv : w.cell? ⟨0, 0, none⟩ = some (refV a)) : Calls Tryz.prog 83 #[.bool true] w fun e w' => e = .panicked (refP a) ∧ w' = w := by
  unfold refV at hv
  go_enter Tryz.func83, Tryz.ntmps83
  go_wp2
  exact ⟨rfl, rfl, rfl⟩
end En
end Go.Proofs.YtbfonkabmehlmaaGreatDoor
