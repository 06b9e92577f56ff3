/-
  NARROWER THAN 'FOR EVERY INPUT', by the rows' own cells (each row's printed sentence says how): EnclosureMatchesReference: laid · EnclosureTight: laid · EnclosureNarrower: laid · EnclosureRoots: laid · EnclosureMeets: laid.
  DERIVED. THE GIVEN ROWS OF THIS SEAT. 5 by the template 'for every input the law returns true; each argument reads behind the call as it read before'; 0 by the template 'total and deterministic' (their statements: YtbfonkabmehlmaaGreatDoorTotals.lean).
  GIVEN WITH THE SEED: the statements are not yours to turn. If you find one false, say at which input.
  Laid BY PROGRAM, IN A SANDBOX (cutbox-rows.mjs): the forced cells as the released guide's own fill.sh prints them over the translation 78cbc794303899d3… (all of the seat's roots in one cut). By AI agents, Wed Nov 11 2026. No macro, syntax, notation, axiom, sorry.
-/
import Derived.Test.YtbfonkabmehlmaaGreatDoorChecked
import GoSem.Claim
import GoSem.ClaimJoined
import GoSem.ClaimMapViews
import Derived.JoinedTies
import Derived.KernelRfl
namespace Go.Proofs.YtbfonkabmehlmaaGreatDoor
/- THE CELL 'sum', in the pinned program and in every row, IS THE sha256 OF THE DUMP (.gsa) THAT YtbfonkabmehlmaaGreatDoorProg.lean LOADS. Nothing in Lean hashes anything: it is a label: what it is worth is what the hold of that sum in a sandbox is worth. -/
noncomputable def Tryz.pinned : Pinned := { name := "ytbfonkabmehlmaagreatdoor", sum := "78cbc794303899d328895d36988063eb9454dfaf90570fa1f8edfcb52490f172", checked := Tryz.checked }
namespace Rows
def none {H : Type} : Left H := { results := [], args := [] }

/- WHAT THE LISTED PACKAGE-LEVEL VARIABLES READ AS WHEN THE CALL BEGINS. Each datum BY PROGRAM (the guide's laid-datum.mjs) off the statement by which the dump's own 'gosem.cut.vars' lays the variable. In a bare row this is a premise. The card (YtbfonkabmehlmaaGreatDoorCards.lean) ties it to the program's text. -/
def laid_workpiece_enclosure_errRefused {H : Type} : DataW H := .iface "*errors.errorString" (.ptr (.agg [.lit (.string [101, 110, 99, 108, 111, 115, 117, 114, 101, 58, 32, 114, 101, 102, 117, 115, 101, 100])]))

/-- 'workpiecelaw05.EnclosureMatchesReference': WHATEVER THE INPUT: true; the input reads as it did. -/
def enclosureMatchesReferenceSpec : ChangeSpec := { name := "enclosureMatchesReference", fn := fun _ => fun
  | [d1, d2, d3, d4, d5, d6] => { results := [.lit (.bool true)], args := [d1, d2, d3, d4, d5, d6] }
  | _ => none }
def enclosureMatchesReferenceRow : OpenClaim := { program := "ytbfonkabmehlmaagreatdoor", sum := "78cbc794303899d328895d36988063eb9454dfaf90570fa1f8edfcb52490f172", func := "workpiece/workpiecelaw05.EnclosureMatchesReference", spec := "enclosureMatchesReference", inPlace := ["internal/reflectlite.TypeOf", "internal/abi.NoEscape", "internal/bytealg.MakeNoZero"], unfollowed := true, recurses := true, named := ["workpiece/enclosure.errRefused"], apart := false, laid := [("workpiece/enclosure.errRefused", laid_workpiece_enclosure_errRefused)] }
def EnclosureMatchesReferenceSaid : Prop := enclosureMatchesReferenceRow.holds Tryz.pinned (OpenSpec.ofChange enclosureMatchesReferenceSpec)

/-- ITS FALSE NEIGHBOUR: 'it returns false'. Refute it at one input. -/
def enclosureMatchesReferenceWrong : ChangeSpec := { name := "enclosureMatchesReference", fn := fun _ => fun
  | [d1, d2, d3, d4, d5, d6] => { results := [.lit (.bool false)], args := [d1, d2, d3, d4, d5, d6] }
  | _ => none }
def EnclosureMatchesReferenceWrongFalsely : Prop := enclosureMatchesReferenceRow.holds Tryz.pinned (OpenSpec.ofChange enclosureMatchesReferenceWrong)

/-- 'workpiecelaw05.EnclosureTight': WHATEVER THE INPUT: true; the input reads as it did. -/
def enclosureTightSpec : ChangeSpec := { name := "enclosureTight", fn := fun _ => fun
  | [d1, d2] => { results := [.lit (.bool true)], args := [d1, d2] }
  | _ => none }
def enclosureTightRow : OpenClaim := { program := "ytbfonkabmehlmaagreatdoor", sum := "78cbc794303899d328895d36988063eb9454dfaf90570fa1f8edfcb52490f172", func := "workpiece/workpiecelaw05.EnclosureTight", spec := "enclosureTight", inPlace := ["internal/reflectlite.TypeOf", "internal/abi.NoEscape", "internal/bytealg.MakeNoZero"], unfollowed := true, recurses := true, named := ["workpiece/enclosure.errRefused"], apart := false, laid := [("workpiece/enclosure.errRefused", laid_workpiece_enclosure_errRefused)] }
def EnclosureTightSaid : Prop := enclosureTightRow.holds Tryz.pinned (OpenSpec.ofChange enclosureTightSpec)

/-- ITS FALSE NEIGHBOUR: 'it returns false'. Refute it at one input. -/
def enclosureTightWrong : ChangeSpec := { name := "enclosureTight", fn := fun _ => fun
  | [d1, d2] => { results := [.lit (.bool false)], args := [d1, d2] }
  | _ => none }
def EnclosureTightWrongFalsely : Prop := enclosureTightRow.holds Tryz.pinned (OpenSpec.ofChange enclosureTightWrong)

/-- 'workpiecelaw05.EnclosureNarrower': WHATEVER THE INPUT: true; the input reads as it did. -/
def enclosureNarrowerSpec : ChangeSpec := { name := "enclosureNarrower", fn := fun _ => fun
  | [d1, d2, d3, d4] => { results := [.lit (.bool true)], args := [d1, d2, d3, d4] }
  | _ => none }
def enclosureNarrowerRow : OpenClaim := { program := "ytbfonkabmehlmaagreatdoor", sum := "78cbc794303899d328895d36988063eb9454dfaf90570fa1f8edfcb52490f172", func := "workpiece/workpiecelaw05.EnclosureNarrower", spec := "enclosureNarrower", inPlace := ["internal/reflectlite.TypeOf", "internal/abi.NoEscape", "internal/bytealg.MakeNoZero"], unfollowed := true, recurses := true, named := ["workpiece/enclosure.errRefused"], apart := false, laid := [("workpiece/enclosure.errRefused", laid_workpiece_enclosure_errRefused)] }
def EnclosureNarrowerSaid : Prop := enclosureNarrowerRow.holds Tryz.pinned (OpenSpec.ofChange enclosureNarrowerSpec)

/-- ITS FALSE NEIGHBOUR: 'it returns false'. Refute it at one input. -/
def enclosureNarrowerWrong : ChangeSpec := { name := "enclosureNarrower", fn := fun _ => fun
  | [d1, d2, d3, d4] => { results := [.lit (.bool false)], args := [d1, d2, d3, d4] }
  | _ => none }
def EnclosureNarrowerWrongFalsely : Prop := enclosureNarrowerRow.holds Tryz.pinned (OpenSpec.ofChange enclosureNarrowerWrong)

/-- 'workpiecelaw05.EnclosureRoots': WHATEVER THE INPUT: true; the input reads as it did. -/
def enclosureRootsSpec : ChangeSpec := { name := "enclosureRoots", fn := fun _ => fun
  | [d1, d2, d3, d4] => { results := [.lit (.bool true)], args := [d1, d2, d3, d4] }
  | _ => none }
def enclosureRootsRow : OpenClaim := { program := "ytbfonkabmehlmaagreatdoor", sum := "78cbc794303899d328895d36988063eb9454dfaf90570fa1f8edfcb52490f172", func := "workpiece/workpiecelaw05.EnclosureRoots", spec := "enclosureRoots", inPlace := ["internal/reflectlite.TypeOf", "internal/abi.NoEscape", "internal/bytealg.MakeNoZero"], unfollowed := true, recurses := true, named := ["workpiece/enclosure.errRefused"], apart := false, laid := [("workpiece/enclosure.errRefused", laid_workpiece_enclosure_errRefused)] }
def EnclosureRootsSaid : Prop := enclosureRootsRow.holds Tryz.pinned (OpenSpec.ofChange enclosureRootsSpec)

/-- ITS FALSE NEIGHBOUR: 'it returns false'. Refute it at one input. -/
def enclosureRootsWrong : ChangeSpec := { name := "enclosureRoots", fn := fun _ => fun
  | [d1, d2, d3, d4] => { results := [.lit (.bool false)], args := [d1, d2, d3, d4] }
  | _ => none }
def EnclosureRootsWrongFalsely : Prop := enclosureRootsRow.holds Tryz.pinned (OpenSpec.ofChange enclosureRootsWrong)

/-- 'workpiecelaw05.EnclosureMeets': WHATEVER THE INPUT: true; the input reads as it did. -/
def enclosureMeetsSpec : ChangeSpec := { name := "enclosureMeets", fn := fun _ => fun
  | [d1, d2, d3] => { results := [.lit (.bool true)], args := [d1, d2, d3] }
  | _ => none }
def enclosureMeetsRow : OpenClaim := { program := "ytbfonkabmehlmaagreatdoor", sum := "78cbc794303899d328895d36988063eb9454dfaf90570fa1f8edfcb52490f172", func := "workpiece/workpiecelaw05.EnclosureMeets", spec := "enclosureMeets", inPlace := ["internal/reflectlite.TypeOf", "internal/abi.NoEscape", "internal/bytealg.MakeNoZero"], unfollowed := true, recurses := true, named := ["workpiece/enclosure.errRefused"], apart := false, laid := [("workpiece/enclosure.errRefused", laid_workpiece_enclosure_errRefused)] }
def EnclosureMeetsSaid : Prop := enclosureMeetsRow.holds Tryz.pinned (OpenSpec.ofChange enclosureMeetsSpec)

/-- ITS FALSE NEIGHBOUR: 'it returns false'. Refute it at one input. -/
def enclosureMeetsWrong : ChangeSpec := { name := "enclosureMeets", fn := fun _ => fun
  | [d1, d2, d3] => { results := [.lit (.bool false)], args := [d1, d2, d3] }
  | _ => none }
def EnclosureMeetsWrongFalsely : Prop := enclosureMeetsRow.holds Tryz.pinned (OpenSpec.ofChange enclosureMeetsWrong)

/- THE SECOND FORM. 'bulk': how many values and letters a reading holds, each counted each time it is reached (what is shared counts as often as it is met; a slice's spare places count too). A statement '..UptoSaid' is the law's where the arguments, and the package variables that the reading takes, are together of bulk at most 1048576: NARROWER than '..Said'. Prove '..Said' where nothing that the law and all that it calls make is longer than what came in: it says more and counts as full. Else prove '..UptoSaid'. A law counts once. -/
mutual
def uptoBulk {H : Type} : DataW H → Nat
  | .lit (.string bytes) => bytes.length + 1
  | .lit _ => 1
  | .nil => 1
  | .ptr d => uptoBulk d + 1
  | .slice elems spare => uptoBulkAll elems + uptoBulkAll spare + 1
  | .agg parts => uptoBulkAll parts + 1
  | .iface _ d => uptoBulk d + 1
  | .map entries => uptoBulkEntries entries + 1
  | .held _ => 1
def uptoBulkAll {H : Type} : List (DataW H) → Nat
  | [] => 0
  | d :: r => uptoBulk d + uptoBulkAll r
def uptoBulkEntries {H : Type} : List (Lit × DataW H) → Nat
  | [] => 0
  | x :: r => uptoBulkEntry x + uptoBulkEntries r
def uptoBulkEntry {H : Type} : Lit × DataW H → Nat
  | (.string bytes, d) => bytes.length + uptoBulk d + 1
  | (_, d) => uptoBulk d + 1
 end
def uptoSmall : (H : Type) → List (DataW H) → Bool := fun _ ds => decide (uptoBulkAll ds ≤ 1048576)
def OpenSpec.upto (s : _root_.Go.ChangeSpec) : _root_.Go.OpenSpec := { _root_.Go.OpenSpec.ofChange s with cond := some uptoSmall }

/-- 'workpiecelaw05.EnclosureMatchesReference', WHERE WHAT IT READS IS OF BULK AT MOST 1048576: true; the input reads as it did. -/
def enclosureMatchesReferenceUptoRow : OpenClaim := { program := "ytbfonkabmehlmaagreatdoor", sum := "78cbc794303899d328895d36988063eb9454dfaf90570fa1f8edfcb52490f172", func := "workpiece/workpiecelaw05.EnclosureMatchesReference", spec := "enclosureMatchesReference", inPlace := ["internal/reflectlite.TypeOf", "internal/abi.NoEscape", "internal/bytealg.MakeNoZero"], unfollowed := true, recurses := true, named := ["workpiece/enclosure.errRefused"], apart := false, laid := [("workpiece/enclosure.errRefused", laid_workpiece_enclosure_errRefused)], narrowed := true }
def EnclosureMatchesReferenceUptoSaid : Prop := enclosureMatchesReferenceUptoRow.holds Tryz.pinned (OpenSpec.upto enclosureMatchesReferenceSpec)

/-- 'workpiecelaw05.EnclosureTight', WHERE WHAT IT READS IS OF BULK AT MOST 1048576: true; the input reads as it did. -/
def enclosureTightUptoRow : OpenClaim := { program := "ytbfonkabmehlmaagreatdoor", sum := "78cbc794303899d328895d36988063eb9454dfaf90570fa1f8edfcb52490f172", func := "workpiece/workpiecelaw05.EnclosureTight", spec := "enclosureTight", inPlace := ["internal/reflectlite.TypeOf", "internal/abi.NoEscape", "internal/bytealg.MakeNoZero"], unfollowed := true, recurses := true, named := ["workpiece/enclosure.errRefused"], apart := false, laid := [("workpiece/enclosure.errRefused", laid_workpiece_enclosure_errRefused)], narrowed := true }
def EnclosureTightUptoSaid : Prop := enclosureTightUptoRow.holds Tryz.pinned (OpenSpec.upto enclosureTightSpec)

/-- 'workpiecelaw05.EnclosureNarrower', WHERE WHAT IT READS IS OF BULK AT MOST 1048576: true; the input reads as it did. -/
def enclosureNarrowerUptoRow : OpenClaim := { program := "ytbfonkabmehlmaagreatdoor", sum := "78cbc794303899d328895d36988063eb9454dfaf90570fa1f8edfcb52490f172", func := "workpiece/workpiecelaw05.EnclosureNarrower", spec := "enclosureNarrower", inPlace := ["internal/reflectlite.TypeOf", "internal/abi.NoEscape", "internal/bytealg.MakeNoZero"], unfollowed := true, recurses := true, named := ["workpiece/enclosure.errRefused"], apart := false, laid := [("workpiece/enclosure.errRefused", laid_workpiece_enclosure_errRefused)], narrowed := true }
def EnclosureNarrowerUptoSaid : Prop := enclosureNarrowerUptoRow.holds Tryz.pinned (OpenSpec.upto enclosureNarrowerSpec)

/-- 'workpiecelaw05.EnclosureRoots', WHERE WHAT IT READS IS OF BULK AT MOST 1048576: true; the input reads as it did. -/
def enclosureRootsUptoRow : OpenClaim := { program := "ytbfonkabmehlmaagreatdoor", sum := "78cbc794303899d328895d36988063eb9454dfaf90570fa1f8edfcb52490f172", func := "workpiece/workpiecelaw05.EnclosureRoots", spec := "enclosureRoots", inPlace := ["internal/reflectlite.TypeOf", "internal/abi.NoEscape", "internal/bytealg.MakeNoZero"], unfollowed := true, recurses := true, named := ["workpiece/enclosure.errRefused"], apart := false, laid := [("workpiece/enclosure.errRefused", laid_workpiece_enclosure_errRefused)], narrowed := true }
def EnclosureRootsUptoSaid : Prop := enclosureRootsUptoRow.holds Tryz.pinned (OpenSpec.upto enclosureRootsSpec)

/-- 'workpiecelaw05.EnclosureMeets', WHERE WHAT IT READS IS OF BULK AT MOST 1048576: true; the input reads as it did. -/
def enclosureMeetsUptoRow : OpenClaim := { program := "ytbfonkabmehlmaagreatdoor", sum := "78cbc794303899d328895d36988063eb9454dfaf90570fa1f8edfcb52490f172", func := "workpiece/workpiecelaw05.EnclosureMeets", spec := "enclosureMeets", inPlace := ["internal/reflectlite.TypeOf", "internal/abi.NoEscape", "internal/bytealg.MakeNoZero"], unfollowed := true, recurses := true, named := ["workpiece/enclosure.errRefused"], apart := false, laid := [("workpiece/enclosure.errRefused", laid_workpiece_enclosure_errRefused)], narrowed := true }
def EnclosureMeetsUptoSaid : Prop := enclosureMeetsUptoRow.holds Tryz.pinned (OpenSpec.upto enclosureMeetsSpec)

end Rows
end Go.Proofs.YtbfonkabmehlmaaGreatDoor
