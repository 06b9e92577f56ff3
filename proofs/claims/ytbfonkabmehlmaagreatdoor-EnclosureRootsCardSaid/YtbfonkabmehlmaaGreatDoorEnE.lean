/-
  Package enclosure: what the deferred closure of attempt leaves.
-/
import Derived.Test.YtbfonkabmehlmaaGreatDoorEnD
namespace Go.Proofs.YtbfonkabmehlmaaGreatDoor
set_option maxRecDepth 1000000
namespace En
open Go.RowKit Go.Extern.Stop Go.Stop Go.Extern
theorem idleI (p : Addr) (x : Value) (w : World) (hc : w.cell? p = some x) (hz : w.frozen? p = false) :
    CallsD Tryz.prog 134 #[.pointer (some p)] .returning w fun e u' w' => e = .returned (.tuple #[]) ∧ u' = .returning ∧ w' = w.setCell p (.int .i64 0) := by
  have hn := codeOf_nil w
  refine callsD_of_wpS Tryz.func134 rfl fun c₀ cs hu => ?_
  apply wpS_region
  simp [wpOpsS, go_sem, recoverD, hu, Tryz.ntmps134]
  refine hn.mono ?_
  rintro e w' ⟨rfl, rfl⟩
  cases c₀
  simp_all [go_sem, bodyPostS, results, Tryz.results134]
theorem caughtI (a : Addr) (p : Addr) (x : Value) (older : List PanicEntry) (w : World) (hv : Ref a w) (hc : w.cell? p = some x) (hz : w.frozen? p = false) :
    CallsD Tryz.prog 134 #[.pointer (some p)] (.panicking ({ v := refV a, recovered := false } :: older)) w fun e u' w' => e = .returned (.tuple #[]) ∧ u' = .panicking ({ v := refV a, recovered := true } :: older) ∧ w' = w.setCell p (.int .i64 50) := by
  have hn := codeOf_ref a w hv
  clear hv
  unfold refV at *
  refine callsD_of_wpS Tryz.func134 rfl fun c₀ cs hu => ?_
  apply wpS_region
  simp [wpOpsS, go_sem, recoverD, hu, Tryz.ntmps134]
  refine hn.mono ?_
  rintro e w' ⟨rfl, rfl⟩
  simp [go_sem, hc, hz, bodyPostS, results, Tryz.results134]
theorem idleR (p : Addr) (x : Value) (w : World) (hc : w.cell? p = some x) (hz : w.frozen? p = false) :
    CallsD Tryz.prog 116 #[.pointer (some p)] .returning w fun e u' w' => e = .returned (.tuple #[]) ∧ u' = .returning ∧ w' = w.setCell p (.int .i64 0) := by
  have hn := codeOf_nil w
  refine callsD_of_wpS Tryz.func116 rfl fun c₀ cs hu => ?_
  apply wpS_region
  simp [wpOpsS, go_sem, recoverD, hu, Tryz.ntmps116]
  refine hn.mono ?_
  rintro e w' ⟨rfl, rfl⟩
  cases c₀
  simp_all [go_sem, bodyPostS, results, Tryz.results116]
theorem caughtR (a : Addr) (p : Addr) (x : Value) (older : List PanicEntry) (w : World) (hv : Ref a w) (hc : w.cell? p = some x) (hz : w.frozen? p = false) :
    CallsD Tryz.prog 116 #[.pointer (some p)] (.panicking ({ v := refV a, recovered := false } :: older)) w fun e u' w' => e = .returned (.tuple #[]) ∧ u' = .panicking ({ v := refV a, recovered := true } :: older) ∧ w' = w.setCell p (.int .i64 50) := by
  have hn := codeOf_ref a w hv
  clear hv
  unfold refV at *
  refine callsD_of_wpS Tryz.func116 rfl fun c₀ cs hu => ?_
  apply wpS_region
  simp [wpOpsS, go_sem, recoverD, hu, Tryz.ntmps116]
  refine hn.mono ?_
  rintro e w' ⟨rfl, rfl⟩
  simp [go_sem, hc, hz, bodyPostS, results, Tryz.results116]
end En
end Go.Proofs.YtbfonkabmehlmaaGreatDoor
