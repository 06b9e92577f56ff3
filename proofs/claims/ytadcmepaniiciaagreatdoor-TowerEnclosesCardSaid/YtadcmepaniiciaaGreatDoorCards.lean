/-
  DERIVED. GIVEN WITH THE SEED: THE CARDS: each row of YtadcmepaniiciaaGreatDoorRows.lean that lists a variable, with what it lists TIED to the program's text (the seventh form; the later family's looks); each row that meets fmt, with fmt's text TOLD by the authors' own Lean function (tested against real Go, not proved from fmt's source: count such statements apart). THE CARD IS WHAT COUNTS. Prove the row's statement (the work); the ties are given (YtadcmepaniiciaaGreatDoorTie.lean); close each card by the builder's one call (the guide's Derived/Test/ToyasCard.lean, 'card_holds'). Laid BY PROGRAM, IN A SANDBOX (cutbox-door.mjs). By AI agents, Wed Nov 11 2026. No macro, syntax, notation, axiom, sorry.
-/
import Derived.Test.YtadcmepaniiciaaGreatDoorRows
import GoSem.ClaimSeven
namespace Go.Proofs.YtadcmepaniiciaaGreatDoor
namespace Rows

/-- THE TIED CARD OF 'workpiecelaw06.TowerRing'. -/
def towerRingCard : Claim7 := { stood := { row := towerRingRow, standIns := [], harness := (true, "e56d9799c8566686c5cb8a0bb6f43f9f679767a3d51947ba08c0571c7120aaf5"), looks := true }, kinds := [], alts := [], laidByText := true, laidKinds := [.sentinel, .data, .data], laidTests := true, laidLooks := .later }
def TowerRingCardSaid : Prop := Claim7.holds Tryz.pinned (.plain (OpenSpec.ofChange towerRingSpec)) towerRingCard

/-- THE TIED CARD OF 'workpiecelaw06.TowerInverts'. -/
def towerInvertsCard : Claim7 := { stood := { row := towerInvertsRow, standIns := [], harness := (true, "e56d9799c8566686c5cb8a0bb6f43f9f679767a3d51947ba08c0571c7120aaf5"), looks := true }, kinds := [], alts := [], laidByText := true, laidKinds := [.sentinel, .data, .data], laidTests := true, laidLooks := .later }
def TowerInvertsCardSaid : Prop := Claim7.holds Tryz.pinned (.plain (OpenSpec.ofChange towerInvertsSpec)) towerInvertsCard

/-- THE TIED CARD OF 'workpiecelaw06.TowerSigns'. -/
def towerSignsCard : Claim7 := { stood := { row := towerSignsRow, standIns := [], harness := (true, "e56d9799c8566686c5cb8a0bb6f43f9f679767a3d51947ba08c0571c7120aaf5"), looks := true }, kinds := [], alts := [], laidByText := true, laidKinds := [.sentinel, .data, .data], laidTests := true, laidLooks := .later }
def TowerSignsCardSaid : Prop := Claim7.holds Tryz.pinned (.plain (OpenSpec.ofChange towerSignsSpec)) towerSignsCard

/-- THE TIED CARD OF 'workpiecelaw06.TowerRoots'. -/
def towerRootsCard : Claim7 := { stood := { row := towerRootsRow, standIns := [], harness := (true, "e56d9799c8566686c5cb8a0bb6f43f9f679767a3d51947ba08c0571c7120aaf5"), looks := true }, kinds := [], alts := [], laidByText := true, laidKinds := [.sentinel, .data, .data], laidTests := true, laidLooks := .later }
def TowerRootsCardSaid : Prop := Claim7.holds Tryz.pinned (.plain (OpenSpec.ofChange towerRootsSpec)) towerRootsCard

/-- THE TIED CARD OF 'workpiecelaw06.TowerOrder'. -/
def towerOrderCard : Claim7 := { stood := { row := towerOrderRow, standIns := [], harness := (true, "e56d9799c8566686c5cb8a0bb6f43f9f679767a3d51947ba08c0571c7120aaf5"), looks := true }, kinds := [], alts := [], laidByText := true, laidKinds := [.sentinel, .data, .data], laidTests := true, laidLooks := .later }
def TowerOrderCardSaid : Prop := Claim7.holds Tryz.pinned (.plain (OpenSpec.ofChange towerOrderSpec)) towerOrderCard

/-- THE TIED CARD OF 'workpiecelaw06.TowerEncloses'. -/
def towerEnclosesCard : Claim7 := { stood := { row := towerEnclosesRow, standIns := [], harness := (true, "e56d9799c8566686c5cb8a0bb6f43f9f679767a3d51947ba08c0571c7120aaf5"), looks := true }, kinds := [], alts := [], laidByText := true, laidKinds := [.sentinel, .data, .data], laidTests := true, laidLooks := .later }
def TowerEnclosesCardSaid : Prop := Claim7.holds Tryz.pinned (.plain (OpenSpec.ofChange towerEnclosesSpec)) towerEnclosesCard

/-- THE TIED CARD OF 'workpiecelaw06.TowerNested'. -/
def towerNestedCard : Claim7 := { stood := { row := towerNestedRow, standIns := [], harness := (true, "e56d9799c8566686c5cb8a0bb6f43f9f679767a3d51947ba08c0571c7120aaf5"), looks := true }, kinds := [], alts := [], laidByText := true, laidKinds := [.sentinel, .data, .data], laidTests := true, laidLooks := .later }
def TowerNestedCardSaid : Prop := Claim7.holds Tryz.pinned (.plain (OpenSpec.ofChange towerNestedSpec)) towerNestedCard

/-- THE SECOND FORM's CARD OF 'workpiecelaw06.TowerRing'. -/
def towerRingUptoCard : Claim7 := { stood := { row := towerRingUptoRow, standIns := [], harness := (true, "e56d9799c8566686c5cb8a0bb6f43f9f679767a3d51947ba08c0571c7120aaf5"), looks := true }, kinds := [], alts := [], laidByText := true, laidKinds := [.sentinel, .data, .data], laidTests := true, laidLooks := .later }
def TowerRingUptoCardSaid : Prop := Claim7.holds Tryz.pinned (.plain (OpenSpec.upto towerRingSpec)) towerRingUptoCard

/-- THE SECOND FORM's CARD OF 'workpiecelaw06.TowerInverts'. -/
def towerInvertsUptoCard : Claim7 := { stood := { row := towerInvertsUptoRow, standIns := [], harness := (true, "e56d9799c8566686c5cb8a0bb6f43f9f679767a3d51947ba08c0571c7120aaf5"), looks := true }, kinds := [], alts := [], laidByText := true, laidKinds := [.sentinel, .data, .data], laidTests := true, laidLooks := .later }
def TowerInvertsUptoCardSaid : Prop := Claim7.holds Tryz.pinned (.plain (OpenSpec.upto towerInvertsSpec)) towerInvertsUptoCard

/-- THE SECOND FORM's CARD OF 'workpiecelaw06.TowerSigns'. -/
def towerSignsUptoCard : Claim7 := { stood := { row := towerSignsUptoRow, standIns := [], harness := (true, "e56d9799c8566686c5cb8a0bb6f43f9f679767a3d51947ba08c0571c7120aaf5"), looks := true }, kinds := [], alts := [], laidByText := true, laidKinds := [.sentinel, .data, .data], laidTests := true, laidLooks := .later }
def TowerSignsUptoCardSaid : Prop := Claim7.holds Tryz.pinned (.plain (OpenSpec.upto towerSignsSpec)) towerSignsUptoCard

/-- THE SECOND FORM's CARD OF 'workpiecelaw06.TowerRoots'. -/
def towerRootsUptoCard : Claim7 := { stood := { row := towerRootsUptoRow, standIns := [], harness := (true, "e56d9799c8566686c5cb8a0bb6f43f9f679767a3d51947ba08c0571c7120aaf5"), looks := true }, kinds := [], alts := [], laidByText := true, laidKinds := [.sentinel, .data, .data], laidTests := true, laidLooks := .later }
def TowerRootsUptoCardSaid : Prop := Claim7.holds Tryz.pinned (.plain (OpenSpec.upto towerRootsSpec)) towerRootsUptoCard

/-- THE SECOND FORM's CARD OF 'workpiecelaw06.TowerOrder'. -/
def towerOrderUptoCard : Claim7 := { stood := { row := towerOrderUptoRow, standIns := [], harness := (true, "e56d9799c8566686c5cb8a0bb6f43f9f679767a3d51947ba08c0571c7120aaf5"), looks := true }, kinds := [], alts := [], laidByText := true, laidKinds := [.sentinel, .data, .data], laidTests := true, laidLooks := .later }
def TowerOrderUptoCardSaid : Prop := Claim7.holds Tryz.pinned (.plain (OpenSpec.upto towerOrderSpec)) towerOrderUptoCard

/-- THE SECOND FORM's CARD OF 'workpiecelaw06.TowerEncloses'. -/
def towerEnclosesUptoCard : Claim7 := { stood := { row := towerEnclosesUptoRow, standIns := [], harness := (true, "e56d9799c8566686c5cb8a0bb6f43f9f679767a3d51947ba08c0571c7120aaf5"), looks := true }, kinds := [], alts := [], laidByText := true, laidKinds := [.sentinel, .data, .data], laidTests := true, laidLooks := .later }
def TowerEnclosesUptoCardSaid : Prop := Claim7.holds Tryz.pinned (.plain (OpenSpec.upto towerEnclosesSpec)) towerEnclosesUptoCard

/-- THE SECOND FORM's CARD OF 'workpiecelaw06.TowerNested'. -/
def towerNestedUptoCard : Claim7 := { stood := { row := towerNestedUptoRow, standIns := [], harness := (true, "e56d9799c8566686c5cb8a0bb6f43f9f679767a3d51947ba08c0571c7120aaf5"), looks := true }, kinds := [], alts := [], laidByText := true, laidKinds := [.sentinel, .data, .data], laidTests := true, laidLooks := .later }
def TowerNestedUptoCardSaid : Prop := Claim7.holds Tryz.pinned (.plain (OpenSpec.upto towerNestedSpec)) towerNestedUptoCard
end Rows
end Go.Proofs.YtadcmepaniiciaaGreatDoor
