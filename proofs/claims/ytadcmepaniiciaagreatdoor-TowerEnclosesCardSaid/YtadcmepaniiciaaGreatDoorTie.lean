/-
  DERIVED. GIVEN WITH THE SEED: THE PROGRAM's TIES (one call each: nine closed facts by the kernel) AND EACH ROW's TIE, after the 31st guide's Derived/Test/Toyas{Tie, Card}.lean. No idea stands in it: it is a product of the set-up. Laid BY PROGRAM, IN A SANDBOX (cutbox-door.mjs). By AI agents, Wed Nov 11 2026. No macro, syntax, notation, axiom, sorry.
-/
import Derived.Test.YtadcmepaniiciaaGreatDoorRows
import Derived.LaidByTextLater
import Derived.SevenTiedAt
import Derived.LaidSub
import Derived.LaidOnce
namespace Go.Proofs.YtadcmepaniiciaaGreatDoor
open Go
set_option maxRecDepth 100000
theorem seatTie1 : Tryz.prog.laidByTextLater [("workpiece/enclosure.errRefused", Rows.laid_workpiece_enclosure_errRefused), ("workpiece/tower.zero", Rows.laid_workpiece_tower_zero), ("workpiece/tower.one", Rows.laid_workpiece_tower_one)] [.sentinel, .data, .data] true :=
  Program.laidByTextLater_by_one 38 8 3 (by kernel_rfl) (by kernel_rfl) (by kernel_rfl) (by kernel_rfl) (by kernel_rfl) (by kernel_rfl) (fun _ _ => by kernel_rfl)
theorem noOwnUnsafe : Tryz.pinned.checked.prog.headLifts.contains "ownunsafe" = false := by kernel_rfl
theorem tie : Tryz.prog.laidByTextLater [("workpiece/enclosure.errRefused", Rows.laid_workpiece_enclosure_errRefused), ("workpiece/tower.zero", Rows.laid_workpiece_tower_zero), ("workpiece/tower.one", Rows.laid_workpiece_tower_one)] [.sentinel, .data, .data] true :=
  Program.laidByTextLater.sub seatTie1 ["workpiece/enclosure.errRefused", "workpiece/tower.zero", "workpiece/tower.one"] (by kernel_rfl) (by kernel_rfl)
theorem towerRing_row_tie : Rows.towerRingRow.laidByTextAt .later Tryz.pinned [.sentinel, .data, .data] true :=
  OpenClaim.laidByTextAt_later rfl rfl tie noOwnUnsafe
theorem towerInverts_row_tie : Rows.towerInvertsRow.laidByTextAt .later Tryz.pinned [.sentinel, .data, .data] true :=
  OpenClaim.laidByTextAt_later rfl rfl tie noOwnUnsafe
theorem towerSigns_row_tie : Rows.towerSignsRow.laidByTextAt .later Tryz.pinned [.sentinel, .data, .data] true :=
  OpenClaim.laidByTextAt_later rfl rfl tie noOwnUnsafe
theorem towerRoots_row_tie : Rows.towerRootsRow.laidByTextAt .later Tryz.pinned [.sentinel, .data, .data] true :=
  OpenClaim.laidByTextAt_later rfl rfl tie noOwnUnsafe
theorem towerOrder_row_tie : Rows.towerOrderRow.laidByTextAt .later Tryz.pinned [.sentinel, .data, .data] true :=
  OpenClaim.laidByTextAt_later rfl rfl tie noOwnUnsafe
theorem towerEncloses_row_tie : Rows.towerEnclosesRow.laidByTextAt .later Tryz.pinned [.sentinel, .data, .data] true :=
  OpenClaim.laidByTextAt_later rfl rfl tie noOwnUnsafe
theorem towerNested_row_tie : Rows.towerNestedRow.laidByTextAt .later Tryz.pinned [.sentinel, .data, .data] true :=
  OpenClaim.laidByTextAt_later rfl rfl tie noOwnUnsafe
theorem towerRingUpto_row_tie : Rows.towerRingUptoRow.laidByTextAt .later Tryz.pinned [.sentinel, .data, .data] true :=
  OpenClaim.laidByTextAt_later rfl rfl tie noOwnUnsafe
theorem towerInvertsUpto_row_tie : Rows.towerInvertsUptoRow.laidByTextAt .later Tryz.pinned [.sentinel, .data, .data] true :=
  OpenClaim.laidByTextAt_later rfl rfl tie noOwnUnsafe
theorem towerSignsUpto_row_tie : Rows.towerSignsUptoRow.laidByTextAt .later Tryz.pinned [.sentinel, .data, .data] true :=
  OpenClaim.laidByTextAt_later rfl rfl tie noOwnUnsafe
theorem towerRootsUpto_row_tie : Rows.towerRootsUptoRow.laidByTextAt .later Tryz.pinned [.sentinel, .data, .data] true :=
  OpenClaim.laidByTextAt_later rfl rfl tie noOwnUnsafe
theorem towerOrderUpto_row_tie : Rows.towerOrderUptoRow.laidByTextAt .later Tryz.pinned [.sentinel, .data, .data] true :=
  OpenClaim.laidByTextAt_later rfl rfl tie noOwnUnsafe
theorem towerEnclosesUpto_row_tie : Rows.towerEnclosesUptoRow.laidByTextAt .later Tryz.pinned [.sentinel, .data, .data] true :=
  OpenClaim.laidByTextAt_later rfl rfl tie noOwnUnsafe
theorem towerNestedUpto_row_tie : Rows.towerNestedUptoRow.laidByTextAt .later Tryz.pinned [.sentinel, .data, .data] true :=
  OpenClaim.laidByTextAt_later rfl rfl tie noOwnUnsafe
end Go.Proofs.YtadcmepaniiciaaGreatDoor
