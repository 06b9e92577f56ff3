/-
  Package enclosure: what the deferred closure of attempt leaves.
-/
import Derived.Test.YtncgigpjdjpgmaaGreatDoorEnD
namespace Go.Proofs.YtncgigpjdjpgmaaGreatDoor
set_option maxRecDepth 1000000
namespace En
open Go.RowKit Go.Extern.Stop Go.Stop Go.Extern
theorem idleI (p : Addr) (x : Value) (w : World) (hc : w.cell? p = some x) (hz : w.frozen? p = false) :
    CallsD Tryz.prog 136 #[.pointer (some p)] .returning w fun e u' w' => e = .returned (.tuple #[]) ∧ u' = .returning ∧ w' = w.setCell p (.int .i64 0) := by
  have hn := codeOf_nil w
  refine callsD_of_wpS Tryz.func136 rfl fun c₀ cs hu => ?_
  apply wpS_region
  simp [wpOpsS, go_sem, recoverD, hu, Tryz.ntmps136]
  refine hn.mono ?_
  rintro e w' ⟨rfl, rfl⟩
  cases c₀
  simp_all [go_sem, bodyPostS, results, Tryz.results136]
theorem caughtI (a : Addr) (p : Addr) (x : Value) (older : List PanicEntry) (w : World) (hv : Ref a w) (hc : w.cell? p = some x) (hz : w.frozen? p = false) :
    CallsD Tryz.prog 136 #[.pointer (some p)] (.panicking ({ v := refV a, recovered := false } :: older)) w fun e u' w' => e = .returned (.tuple #[]) ∧ u' = .panicking ({ v := refV a, recovered := true } :: older) ∧ w' = w.setCell p (.int .i64 50) := by
  have hn := codeOf_ref a w hv
  clear hv
  unfold refV at *
  refine callsD_of_wpS Tryz.func136 rfl fun c₀ cs hu => ?_
  apply wpS_region
  simp [wpOpsS, go_sem, recoverD, hu, Tryz.ntmps136]
  refine hn.mono ?_
  rintro e w' ⟨rfl, rfl⟩
  simp [go_sem, hc, hz, bodyPostS, results, Tryz.results136]
theorem idleR (p : Addr) (x : Value) (w : World) (hc : w.cell? p = some x) (hz : w.frozen? p = false) :
    CallsD Tryz.prog 118 #[.pointer (some p)] .returning w fun e u' w' => e = .returned (.tuple #[]) ∧ u' = .returning ∧ w' = w.setCell p (.int .i64 0) := by
  have hn := codeOf_nil w
  refine callsD_of_wpS Tryz.func118 rfl fun c₀ cs hu => ?_
  apply wpS_region
  simp [wpOpsS, go_sem, recoverD, hu, Tryz.ntmps118]
  refine hn.mono ?_
  rintro e w' ⟨rfl, rfl⟩
  cases c₀
  simp_all [go_sem, bodyPostS, results, Tryz.results118]
theorem caughtR (a : Addr) (p : Addr) (x : Value) (older : List PanicEntry) (w : World) (hv : Ref a w) (hc : w.cell? p = some x) (hz : w.frozen? p = false) :
    CallsD Tryz.prog 118 #[.pointer (some p)] (.panicking ({ v := refV a, recovered := false } :: older)) w fun e u' w' => e = .returned (.tuple #[]) ∧ u' = .panicking ({ v := refV a, recovered := true } :: older) ∧ w' = w.setCell p (.int .i64 50) := by
  have hn := codeOf_ref a w hv
  clear hv
  unfold refV at *
  refine callsD_of_wpS Tryz.func118 rfl fun c₀ cs hu => ?_
  apply wpS_region
  simp [wpOpsS, go_sem, recoverD, hu, Tryz.ntmps118]
  refine hn.mono ?_
  rintro e w' ⟨rfl, rfl⟩
  simp [go_sem, hc, hz, bodyPostS, results, Tryz.results118]
end En
end Go.Proofs.YtncgigpjdjpgmaaGreatDoor
