/-
  DERIVED. GIVEN WITH THE SEED: THE CARDS: each row of YtbfonkabmehlmaaGreatDoorRows.lean that lists a variable, with what it lists TIED to the program's text (the seventh form; the later family's looks); each row that meets fmt, with fmt's text TOLD by the authors' own Lean function (tested against real Go, not proved from fmt's source: count such statements apart). THE CARD IS WHAT COUNTS. Prove the row's statement (the work); the ties are given (YtbfonkabmehlmaaGreatDoorTie.lean); close each card by the builder's one call (the guide's Derived/Test/ToyasCard.lean, 'card_holds'). Laid BY PROGRAM, IN A SANDBOX (cutbox-door.mjs). By AI agents, Wed Nov 11 2026. No macro, syntax, notation, axiom, sorry.
-/
import Derived.Test.YtbfonkabmehlmaaGreatDoorRows
import GoSem.ClaimSeven
namespace Go.Proofs.YtbfonkabmehlmaaGreatDoor
namespace Rows

/-- THE TIED CARD OF 'workpiecelaw05.EnclosureMatchesReference'. -/
def enclosureMatchesReferenceCard : Claim7 := { stood := { row := enclosureMatchesReferenceRow, standIns := [], harness := (true, "9853b2a48c6a5acfbcb391477bd6fa864051ed31a7238d7b59f363ffee1df0cf"), looks := true }, kinds := [], alts := [], laidByText := true, laidKinds := [.sentinel], laidTests := true, laidLooks := .later }
def EnclosureMatchesReferenceCardSaid : Prop := Claim7.holds Tryz.pinned (.plain (OpenSpec.ofChange enclosureMatchesReferenceSpec)) enclosureMatchesReferenceCard

/-- THE TIED CARD OF 'workpiecelaw05.EnclosureTight'. -/
def enclosureTightCard : Claim7 := { stood := { row := enclosureTightRow, standIns := [], harness := (true, "9853b2a48c6a5acfbcb391477bd6fa864051ed31a7238d7b59f363ffee1df0cf"), looks := true }, kinds := [], alts := [], laidByText := true, laidKinds := [.sentinel], laidTests := true, laidLooks := .later }
def EnclosureTightCardSaid : Prop := Claim7.holds Tryz.pinned (.plain (OpenSpec.ofChange enclosureTightSpec)) enclosureTightCard

/-- THE TIED CARD OF 'workpiecelaw05.EnclosureNarrower'. -/
def enclosureNarrowerCard : Claim7 := { stood := { row := enclosureNarrowerRow, standIns := [], harness := (true, "9853b2a48c6a5acfbcb391477bd6fa864051ed31a7238d7b59f363ffee1df0cf"), looks := true }, kinds := [], alts := [], laidByText := true, laidKinds := [.sentinel], laidTests := true, laidLooks := .later }
def EnclosureNarrowerCardSaid : Prop := Claim7.holds Tryz.pinned (.plain (OpenSpec.ofChange enclosureNarrowerSpec)) enclosureNarrowerCard

/-- THE TIED CARD OF 'workpiecelaw05.EnclosureRoots'. -/
def enclosureRootsCard : Claim7 := { stood := { row := enclosureRootsRow, standIns := [], harness := (true, "9853b2a48c6a5acfbcb391477bd6fa864051ed31a7238d7b59f363ffee1df0cf"), looks := true }, kinds := [], alts := [], laidByText := true, laidKinds := [.sentinel], laidTests := true, laidLooks := .later }
def EnclosureRootsCardSaid : Prop := Claim7.holds Tryz.pinned (.plain (OpenSpec.ofChange enclosureRootsSpec)) enclosureRootsCard

/-- THE TIED CARD OF 'workpiecelaw05.EnclosureMeets'. -/
def enclosureMeetsCard : Claim7 := { stood := { row := enclosureMeetsRow, standIns := [], harness := (true, "9853b2a48c6a5acfbcb391477bd6fa864051ed31a7238d7b59f363ffee1df0cf"), looks := true }, kinds := [], alts := [], laidByText := true, laidKinds := [.sentinel], laidTests := true, laidLooks := .later }
def EnclosureMeetsCardSaid : Prop := Claim7.holds Tryz.pinned (.plain (OpenSpec.ofChange enclosureMeetsSpec)) enclosureMeetsCard

/-- THE SECOND FORM's CARD OF 'workpiecelaw05.EnclosureMatchesReference'. -/
def enclosureMatchesReferenceUptoCard : Claim7 := { stood := { row := enclosureMatchesReferenceUptoRow, standIns := [], harness := (true, "9853b2a48c6a5acfbcb391477bd6fa864051ed31a7238d7b59f363ffee1df0cf"), looks := true }, kinds := [], alts := [], laidByText := true, laidKinds := [.sentinel], laidTests := true, laidLooks := .later }
def EnclosureMatchesReferenceUptoCardSaid : Prop := Claim7.holds Tryz.pinned (.plain (OpenSpec.upto enclosureMatchesReferenceSpec)) enclosureMatchesReferenceUptoCard

/-- THE SECOND FORM's CARD OF 'workpiecelaw05.EnclosureTight'. -/
def enclosureTightUptoCard : Claim7 := { stood := { row := enclosureTightUptoRow, standIns := [], harness := (true, "9853b2a48c6a5acfbcb391477bd6fa864051ed31a7238d7b59f363ffee1df0cf"), looks := true }, kinds := [], alts := [], laidByText := true, laidKinds := [.sentinel], laidTests := true, laidLooks := .later }
def EnclosureTightUptoCardSaid : Prop := Claim7.holds Tryz.pinned (.plain (OpenSpec.upto enclosureTightSpec)) enclosureTightUptoCard

/-- THE SECOND FORM's CARD OF 'workpiecelaw05.EnclosureNarrower'. -/
def enclosureNarrowerUptoCard : Claim7 := { stood := { row := enclosureNarrowerUptoRow, standIns := [], harness := (true, "9853b2a48c6a5acfbcb391477bd6fa864051ed31a7238d7b59f363ffee1df0cf"), looks := true }, kinds := [], alts := [], laidByText := true, laidKinds := [.sentinel], laidTests := true, laidLooks := .later }
def EnclosureNarrowerUptoCardSaid : Prop := Claim7.holds Tryz.pinned (.plain (OpenSpec.upto enclosureNarrowerSpec)) enclosureNarrowerUptoCard

/-- THE SECOND FORM's CARD OF 'workpiecelaw05.EnclosureRoots'. -/
def enclosureRootsUptoCard : Claim7 := { stood := { row := enclosureRootsUptoRow, standIns := [], harness := (true, "9853b2a48c6a5acfbcb391477bd6fa864051ed31a7238d7b59f363ffee1df0cf"), looks := true }, kinds := [], alts := [], laidByText := true, laidKinds := [.sentinel], laidTests := true, laidLooks := .later }
def EnclosureRootsUptoCardSaid : Prop := Claim7.holds Tryz.pinned (.plain (OpenSpec.upto enclosureRootsSpec)) enclosureRootsUptoCard

/-- THE SECOND FORM's CARD OF 'workpiecelaw05.EnclosureMeets'. -/
def enclosureMeetsUptoCard : Claim7 := { stood := { row := enclosureMeetsUptoRow, standIns := [], harness := (true, "9853b2a48c6a5acfbcb391477bd6fa864051ed31a7238d7b59f363ffee1df0cf"), looks := true }, kinds := [], alts := [], laidByText := true, laidKinds := [.sentinel], laidTests := true, laidLooks := .later }
def EnclosureMeetsUptoCardSaid : Prop := Claim7.holds Tryz.pinned (.plain (OpenSpec.upto enclosureMeetsSpec)) enclosureMeetsUptoCard
end Rows
end Go.Proofs.YtbfonkabmehlmaaGreatDoor
