/-
  NARROWER THAN 'FOR EVERY INPUT', by the rows' own cells (each row's printed sentence says how): TowerRing: laid · TowerInverts: laid · TowerSigns: laid · TowerRoots: laid · TowerOrder: laid · TowerEncloses: laid · TowerNested: laid.
  DERIVED. THE GIVEN ROWS OF THIS SEAT. 7 by the template 'for every input the law returns true; each argument reads behind the call as it read before'; 0 by the template 'total and deterministic' (their statements: YtadcmepaniiciaaGreatDoorTotals.lean).
  GIVEN WITH THE SEED: the statements are not yours to turn. If you find one false, say at which input.
  Laid BY PROGRAM, IN A SANDBOX (cutbox-rows.mjs): the forced cells as the released guide's own fill.sh prints them over the translation 6358fd091d7ce410… (all of the seat's roots in one cut). By AI agents, Wed Nov 11 2026. No macro, syntax, notation, axiom, sorry.
-/
import Derived.Test.YtadcmepaniiciaaGreatDoorChecked
import GoSem.Claim
import GoSem.ClaimJoined
import GoSem.ClaimMapViews
import Derived.JoinedTies
import Derived.KernelRfl
namespace Go.Proofs.YtadcmepaniiciaaGreatDoor
/- THE CELL 'sum', in the pinned program and in every row, IS THE sha256 OF THE DUMP (.gsa) THAT YtadcmepaniiciaaGreatDoorProg.lean LOADS. Nothing in Lean hashes anything: it is a label: what it is worth is what the hold of that sum in a sandbox is worth. -/
noncomputable def Tryz.pinned : Pinned := { name := "ytadcmepaniiciaagreatdoor", sum := "6358fd091d7ce4104e2d5f5ed0982a4009f9faa37db681b980ef40d2cf852e16", checked := Tryz.checked }
namespace Rows
def none {H : Type} : Left H := { results := [], args := [] }

/- WHAT THE LISTED PACKAGE-LEVEL VARIABLES READ AS WHEN THE CALL BEGINS. Each datum BY PROGRAM (the guide's laid-datum.mjs) off the statement by which the dump's own 'gosem.cut.vars' lays the variable. In a bare row this is a premise. The card (YtadcmepaniiciaaGreatDoorCards.lean) ties it to the program's text. -/
def laid_workpiece_enclosure_errRefused {H : Type} : DataW H := .iface "*errors.errorString" (.ptr (.agg [.lit (.string [101, 110, 99, 108, 111, 115, 117, 114, 101, 58, 32, 114, 101, 102, 117, 115, 101, 100])]))
def laid_workpiece_tower_zero {H : Type} : DataW H := .agg [.lit (.string [48]), .lit (.string [49])]
def laid_workpiece_tower_one {H : Type} : DataW H := .agg [.lit (.string [49]), .lit (.string [49])]

/-- 'workpiecelaw06.TowerRing': WHATEVER THE INPUT: true; the input reads as it did. -/
def towerRingSpec : ChangeSpec := { name := "towerRing", fn := fun _ => fun
  | [d] => { results := [.lit (.bool true)], args := [d] }
  | _ => none }
def towerRingRow : OpenClaim := { program := "ytadcmepaniiciaagreatdoor", sum := "6358fd091d7ce4104e2d5f5ed0982a4009f9faa37db681b980ef40d2cf852e16", func := "workpiece/workpiecelaw06.TowerRing", spec := "towerRing", inPlace := ["internal/abi.NoEscape", "internal/bytealg.MakeNoZero", "internal/reflectlite.TypeOf"], unfollowed := true, recurses := true, named := ["workpiece/tower.zero", "workpiece/tower.one", "workpiece/enclosure.errRefused"], apart := false, laid := [("workpiece/enclosure.errRefused", laid_workpiece_enclosure_errRefused), ("workpiece/tower.zero", laid_workpiece_tower_zero), ("workpiece/tower.one", laid_workpiece_tower_one)] }
def TowerRingSaid : Prop := towerRingRow.holds Tryz.pinned (OpenSpec.ofChange towerRingSpec)

/-- ITS FALSE NEIGHBOUR: 'it returns false'. Refute it at one input. -/
def towerRingWrong : ChangeSpec := { name := "towerRing", fn := fun _ => fun
  | [d] => { results := [.lit (.bool false)], args := [d] }
  | _ => none }
def TowerRingWrongFalsely : Prop := towerRingRow.holds Tryz.pinned (OpenSpec.ofChange towerRingWrong)

/-- 'workpiecelaw06.TowerInverts': WHATEVER THE INPUT: true; the input reads as it did. -/
def towerInvertsSpec : ChangeSpec := { name := "towerInverts", fn := fun _ => fun
  | [d] => { results := [.lit (.bool true)], args := [d] }
  | _ => none }
def towerInvertsRow : OpenClaim := { program := "ytadcmepaniiciaagreatdoor", sum := "6358fd091d7ce4104e2d5f5ed0982a4009f9faa37db681b980ef40d2cf852e16", func := "workpiece/workpiecelaw06.TowerInverts", spec := "towerInverts", inPlace := ["internal/abi.NoEscape", "internal/bytealg.MakeNoZero", "internal/reflectlite.TypeOf"], unfollowed := true, recurses := true, named := ["workpiece/tower.zero", "workpiece/tower.one", "workpiece/enclosure.errRefused"], apart := false, laid := [("workpiece/enclosure.errRefused", laid_workpiece_enclosure_errRefused), ("workpiece/tower.zero", laid_workpiece_tower_zero), ("workpiece/tower.one", laid_workpiece_tower_one)] }
def TowerInvertsSaid : Prop := towerInvertsRow.holds Tryz.pinned (OpenSpec.ofChange towerInvertsSpec)

/-- ITS FALSE NEIGHBOUR: 'it returns false'. Refute it at one input. -/
def towerInvertsWrong : ChangeSpec := { name := "towerInverts", fn := fun _ => fun
  | [d] => { results := [.lit (.bool false)], args := [d] }
  | _ => none }
def TowerInvertsWrongFalsely : Prop := towerInvertsRow.holds Tryz.pinned (OpenSpec.ofChange towerInvertsWrong)

/-- 'workpiecelaw06.TowerSigns': WHATEVER THE INPUT: true; the input reads as it did. -/
def towerSignsSpec : ChangeSpec := { name := "towerSigns", fn := fun _ => fun
  | [d] => { results := [.lit (.bool true)], args := [d] }
  | _ => none }
def towerSignsRow : OpenClaim := { program := "ytadcmepaniiciaagreatdoor", sum := "6358fd091d7ce4104e2d5f5ed0982a4009f9faa37db681b980ef40d2cf852e16", func := "workpiece/workpiecelaw06.TowerSigns", spec := "towerSigns", inPlace := ["internal/abi.NoEscape", "internal/bytealg.MakeNoZero", "internal/reflectlite.TypeOf"], unfollowed := true, recurses := true, named := ["workpiece/tower.zero", "workpiece/tower.one", "workpiece/enclosure.errRefused"], apart := false, laid := [("workpiece/enclosure.errRefused", laid_workpiece_enclosure_errRefused), ("workpiece/tower.zero", laid_workpiece_tower_zero), ("workpiece/tower.one", laid_workpiece_tower_one)] }
def TowerSignsSaid : Prop := towerSignsRow.holds Tryz.pinned (OpenSpec.ofChange towerSignsSpec)

/-- ITS FALSE NEIGHBOUR: 'it returns false'. Refute it at one input. -/
def towerSignsWrong : ChangeSpec := { name := "towerSigns", fn := fun _ => fun
  | [d] => { results := [.lit (.bool false)], args := [d] }
  | _ => none }
def TowerSignsWrongFalsely : Prop := towerSignsRow.holds Tryz.pinned (OpenSpec.ofChange towerSignsWrong)

/-- 'workpiecelaw06.TowerRoots': WHATEVER THE INPUT: true; the input reads as it did. -/
def towerRootsSpec : ChangeSpec := { name := "towerRoots", fn := fun _ => fun
  | [d] => { results := [.lit (.bool true)], args := [d] }
  | _ => none }
def towerRootsRow : OpenClaim := { program := "ytadcmepaniiciaagreatdoor", sum := "6358fd091d7ce4104e2d5f5ed0982a4009f9faa37db681b980ef40d2cf852e16", func := "workpiece/workpiecelaw06.TowerRoots", spec := "towerRoots", inPlace := ["internal/abi.NoEscape", "internal/bytealg.MakeNoZero", "internal/reflectlite.TypeOf"], unfollowed := true, recurses := true, named := ["workpiece/tower.zero", "workpiece/tower.one", "workpiece/enclosure.errRefused"], apart := false, laid := [("workpiece/enclosure.errRefused", laid_workpiece_enclosure_errRefused), ("workpiece/tower.zero", laid_workpiece_tower_zero), ("workpiece/tower.one", laid_workpiece_tower_one)] }
def TowerRootsSaid : Prop := towerRootsRow.holds Tryz.pinned (OpenSpec.ofChange towerRootsSpec)

/-- ITS FALSE NEIGHBOUR: 'it returns false'. Refute it at one input. -/
def towerRootsWrong : ChangeSpec := { name := "towerRoots", fn := fun _ => fun
  | [d] => { results := [.lit (.bool false)], args := [d] }
  | _ => none }
def TowerRootsWrongFalsely : Prop := towerRootsRow.holds Tryz.pinned (OpenSpec.ofChange towerRootsWrong)

/-- 'workpiecelaw06.TowerOrder': WHATEVER THE INPUT: true; the input reads as it did. -/
def towerOrderSpec : ChangeSpec := { name := "towerOrder", fn := fun _ => fun
  | [d1, d2, d3] => { results := [.lit (.bool true)], args := [d1, d2, d3] }
  | _ => none }
def towerOrderRow : OpenClaim := { program := "ytadcmepaniiciaagreatdoor", sum := "6358fd091d7ce4104e2d5f5ed0982a4009f9faa37db681b980ef40d2cf852e16", func := "workpiece/workpiecelaw06.TowerOrder", spec := "towerOrder", inPlace := ["internal/abi.NoEscape", "internal/bytealg.MakeNoZero", "internal/reflectlite.TypeOf"], unfollowed := true, recurses := true, named := ["workpiece/tower.zero", "workpiece/tower.one", "workpiece/enclosure.errRefused"], apart := false, laid := [("workpiece/enclosure.errRefused", laid_workpiece_enclosure_errRefused), ("workpiece/tower.zero", laid_workpiece_tower_zero), ("workpiece/tower.one", laid_workpiece_tower_one)] }
def TowerOrderSaid : Prop := towerOrderRow.holds Tryz.pinned (OpenSpec.ofChange towerOrderSpec)

/-- ITS FALSE NEIGHBOUR: 'it returns false'. Refute it at one input. -/
def towerOrderWrong : ChangeSpec := { name := "towerOrder", fn := fun _ => fun
  | [d1, d2, d3] => { results := [.lit (.bool false)], args := [d1, d2, d3] }
  | _ => none }
def TowerOrderWrongFalsely : Prop := towerOrderRow.holds Tryz.pinned (OpenSpec.ofChange towerOrderWrong)

/-- 'workpiecelaw06.TowerEncloses': WHATEVER THE INPUT: true; the input reads as it did. -/
def towerEnclosesSpec : ChangeSpec := { name := "towerEncloses", fn := fun _ => fun
  | [d1, d2, d3] => { results := [.lit (.bool true)], args := [d1, d2, d3] }
  | _ => none }
def towerEnclosesRow : OpenClaim := { program := "ytadcmepaniiciaagreatdoor", sum := "6358fd091d7ce4104e2d5f5ed0982a4009f9faa37db681b980ef40d2cf852e16", func := "workpiece/workpiecelaw06.TowerEncloses", spec := "towerEncloses", inPlace := ["internal/abi.NoEscape", "internal/bytealg.MakeNoZero", "internal/reflectlite.TypeOf"], unfollowed := true, recurses := true, named := ["workpiece/tower.zero", "workpiece/tower.one", "workpiece/enclosure.errRefused"], apart := false, laid := [("workpiece/enclosure.errRefused", laid_workpiece_enclosure_errRefused), ("workpiece/tower.zero", laid_workpiece_tower_zero), ("workpiece/tower.one", laid_workpiece_tower_one)] }
def TowerEnclosesSaid : Prop := towerEnclosesRow.holds Tryz.pinned (OpenSpec.ofChange towerEnclosesSpec)

/-- ITS FALSE NEIGHBOUR: 'it returns false'. Refute it at one input. -/
def towerEnclosesWrong : ChangeSpec := { name := "towerEncloses", fn := fun _ => fun
  | [d1, d2, d3] => { results := [.lit (.bool false)], args := [d1, d2, d3] }
  | _ => none }
def TowerEnclosesWrongFalsely : Prop := towerEnclosesRow.holds Tryz.pinned (OpenSpec.ofChange towerEnclosesWrong)

/-- 'workpiecelaw06.TowerNested': WHATEVER THE INPUT: true; the input reads as it did. -/
def towerNestedSpec : ChangeSpec := { name := "towerNested", fn := fun _ => fun
  | [d1, d2, d3] => { results := [.lit (.bool true)], args := [d1, d2, d3] }
  | _ => none }
def towerNestedRow : OpenClaim := { program := "ytadcmepaniiciaagreatdoor", sum := "6358fd091d7ce4104e2d5f5ed0982a4009f9faa37db681b980ef40d2cf852e16", func := "workpiece/workpiecelaw06.TowerNested", spec := "towerNested", inPlace := ["internal/abi.NoEscape", "internal/bytealg.MakeNoZero", "internal/reflectlite.TypeOf"], unfollowed := true, recurses := true, named := ["workpiece/tower.zero", "workpiece/tower.one", "workpiece/enclosure.errRefused"], apart := false, laid := [("workpiece/enclosure.errRefused", laid_workpiece_enclosure_errRefused), ("workpiece/tower.zero", laid_workpiece_tower_zero), ("workpiece/tower.one", laid_workpiece_tower_one)] }
def TowerNestedSaid : Prop := towerNestedRow.holds Tryz.pinned (OpenSpec.ofChange towerNestedSpec)

/-- ITS FALSE NEIGHBOUR: 'it returns false'. Refute it at one input. -/
def towerNestedWrong : ChangeSpec := { name := "towerNested", fn := fun _ => fun
  | [d1, d2, d3] => { results := [.lit (.bool false)], args := [d1, d2, d3] }
  | _ => none }
def TowerNestedWrongFalsely : Prop := towerNestedRow.holds Tryz.pinned (OpenSpec.ofChange towerNestedWrong)

/- THE SECOND FORM. 'bulk': how many values and letters a reading holds, each counted each time it is reached (what is shared counts as often as it is met; a slice's spare places count too). A statement '..UptoSaid' is the law's where the arguments, and the package variables that the reading takes, are together of bulk at most 1048576: NARROWER than '..Said'. Prove '..Said' where nothing that the law and all that it calls make is longer than what came in: it says more and counts as full. Else prove '..UptoSaid'. A law counts once. -/
mutual
def uptoBulk {H : Type} : DataW H → Nat
  | .lit (.string bytes) => bytes.length + 1
  | .lit _ => 1
  | .nil => 1
  | .ptr d => uptoBulk d + 1
  | .slice elems spare => uptoBulkAll elems + uptoBulkAll spare + 1
  | .agg parts => uptoBulkAll parts + 1
  | .iface _ d => uptoBulk d + 1
  | .map entries => uptoBulkEntries entries + 1
  | .held _ => 1
def uptoBulkAll {H : Type} : List (DataW H) → Nat
  | [] => 0
  | d :: r => uptoBulk d + uptoBulkAll r
def uptoBulkEntries {H : Type} : List (Lit × DataW H) → Nat
  | [] => 0
  | x :: r => uptoBulkEntry x + uptoBulkEntries r
def uptoBulkEntry {H : Type} : Lit × DataW H → Nat
  | (.string bytes, d) => bytes.length + uptoBulk d + 1
  | (_, d) => uptoBulk d + 1
 end
def uptoSmall : (H : Type) → List (DataW H) → Bool := fun _ ds => decide (uptoBulkAll ds ≤ 1048576)
def OpenSpec.upto (s : _root_.Go.ChangeSpec) : _root_.Go.OpenSpec := { _root_.Go.OpenSpec.ofChange s with cond := some uptoSmall }

/-- 'workpiecelaw06.TowerRing', WHERE WHAT IT READS IS OF BULK AT MOST 1048576: true; the input reads as it did. -/
def towerRingUptoRow : OpenClaim := { program := "ytadcmepaniiciaagreatdoor", sum := "6358fd091d7ce4104e2d5f5ed0982a4009f9faa37db681b980ef40d2cf852e16", func := "workpiece/workpiecelaw06.TowerRing", spec := "towerRing", inPlace := ["internal/abi.NoEscape", "internal/bytealg.MakeNoZero", "internal/reflectlite.TypeOf"], unfollowed := true, recurses := true, named := ["workpiece/tower.zero", "workpiece/tower.one", "workpiece/enclosure.errRefused"], apart := false, laid := [("workpiece/enclosure.errRefused", laid_workpiece_enclosure_errRefused), ("workpiece/tower.zero", laid_workpiece_tower_zero), ("workpiece/tower.one", laid_workpiece_tower_one)], narrowed := true }
def TowerRingUptoSaid : Prop := towerRingUptoRow.holds Tryz.pinned (OpenSpec.upto towerRingSpec)

/-- 'workpiecelaw06.TowerInverts', WHERE WHAT IT READS IS OF BULK AT MOST 1048576: true; the input reads as it did. -/
def towerInvertsUptoRow : OpenClaim := { program := "ytadcmepaniiciaagreatdoor", sum := "6358fd091d7ce4104e2d5f5ed0982a4009f9faa37db681b980ef40d2cf852e16", func := "workpiece/workpiecelaw06.TowerInverts", spec := "towerInverts", inPlace := ["internal/abi.NoEscape", "internal/bytealg.MakeNoZero", "internal/reflectlite.TypeOf"], unfollowed := true, recurses := true, named := ["workpiece/tower.zero", "workpiece/tower.one", "workpiece/enclosure.errRefused"], apart := false, laid := [("workpiece/enclosure.errRefused", laid_workpiece_enclosure_errRefused), ("workpiece/tower.zero", laid_workpiece_tower_zero), ("workpiece/tower.one", laid_workpiece_tower_one)], narrowed := true }
def TowerInvertsUptoSaid : Prop := towerInvertsUptoRow.holds Tryz.pinned (OpenSpec.upto towerInvertsSpec)

/-- 'workpiecelaw06.TowerSigns', WHERE WHAT IT READS IS OF BULK AT MOST 1048576: true; the input reads as it did. -/
def towerSignsUptoRow : OpenClaim := { program := "ytadcmepaniiciaagreatdoor", sum := "6358fd091d7ce4104e2d5f5ed0982a4009f9faa37db681b980ef40d2cf852e16", func := "workpiece/workpiecelaw06.TowerSigns", spec := "towerSigns", inPlace := ["internal/abi.NoEscape", "internal/bytealg.MakeNoZero", "internal/reflectlite.TypeOf"], unfollowed := true, recurses := true, named := ["workpiece/tower.zero", "workpiece/tower.one", "workpiece/enclosure.errRefused"], apart := false, laid := [("workpiece/enclosure.errRefused", laid_workpiece_enclosure_errRefused), ("workpiece/tower.zero", laid_workpiece_tower_zero), ("workpiece/tower.one", laid_workpiece_tower_one)], narrowed := true }
def TowerSignsUptoSaid : Prop := towerSignsUptoRow.holds Tryz.pinned (OpenSpec.upto towerSignsSpec)

/-- 'workpiecelaw06.TowerRoots', WHERE WHAT IT READS IS OF BULK AT MOST 1048576: true; the input reads as it did. -/
def towerRootsUptoRow : OpenClaim := { program := "ytadcmepaniiciaagreatdoor", sum := "6358fd091d7ce4104e2d5f5ed0982a4009f9faa37db681b980ef40d2cf852e16", func := "workpiece/workpiecelaw06.TowerRoots", spec := "towerRoots", inPlace := ["internal/abi.NoEscape", "internal/bytealg.MakeNoZero", "internal/reflectlite.TypeOf"], unfollowed := true, recurses := true, named := ["workpiece/tower.zero", "workpiece/tower.one", "workpiece/enclosure.errRefused"], apart := false, laid := [("workpiece/enclosure.errRefused", laid_workpiece_enclosure_errRefused), ("workpiece/tower.zero", laid_workpiece_tower_zero), ("workpiece/tower.one", laid_workpiece_tower_one)], narrowed := true }
def TowerRootsUptoSaid : Prop := towerRootsUptoRow.holds Tryz.pinned (OpenSpec.upto towerRootsSpec)

/-- 'workpiecelaw06.TowerOrder', WHERE WHAT IT READS IS OF BULK AT MOST 1048576: true; the input reads as it did. -/
def towerOrderUptoRow : OpenClaim := { program := "ytadcmepaniiciaagreatdoor", sum := "6358fd091d7ce4104e2d5f5ed0982a4009f9faa37db681b980ef40d2cf852e16", func := "workpiece/workpiecelaw06.TowerOrder", spec := "towerOrder", inPlace := ["internal/abi.NoEscape", "internal/bytealg.MakeNoZero", "internal/reflectlite.TypeOf"], unfollowed := true, recurses := true, named := ["workpiece/tower.zero", "workpiece/tower.one", "workpiece/enclosure.errRefused"], apart := false, laid := [("workpiece/enclosure.errRefused", laid_workpiece_enclosure_errRefused), ("workpiece/tower.zero", laid_workpiece_tower_zero), ("workpiece/tower.one", laid_workpiece_tower_one)], narrowed := true }
def TowerOrderUptoSaid : Prop := towerOrderUptoRow.holds Tryz.pinned (OpenSpec.upto towerOrderSpec)

/-- 'workpiecelaw06.TowerEncloses', WHERE WHAT IT READS IS OF BULK AT MOST 1048576: true; the input reads as it did. -/
def towerEnclosesUptoRow : OpenClaim := { program := "ytadcmepaniiciaagreatdoor", sum := "6358fd091d7ce4104e2d5f5ed0982a4009f9faa37db681b980ef40d2cf852e16", func := "workpiece/workpiecelaw06.TowerEncloses", spec := "towerEncloses", inPlace := ["internal/abi.NoEscape", "internal/bytealg.MakeNoZero", "internal/reflectlite.TypeOf"], unfollowed := true, recurses := true, named := ["workpiece/tower.zero", "workpiece/tower.one", "workpiece/enclosure.errRefused"], apart := false, laid := [("workpiece/enclosure.errRefused", laid_workpiece_enclosure_errRefused), ("workpiece/tower.zero", laid_workpiece_tower_zero), ("workpiece/tower.one", laid_workpiece_tower_one)], narrowed := true }
def TowerEnclosesUptoSaid : Prop := towerEnclosesUptoRow.holds Tryz.pinned (OpenSpec.upto towerEnclosesSpec)

/-- 'workpiecelaw06.TowerNested', WHERE WHAT IT READS IS OF BULK AT MOST 1048576: true; the input reads as it did. -/
def towerNestedUptoRow : OpenClaim := { program := "ytadcmepaniiciaagreatdoor", sum := "6358fd091d7ce4104e2d5f5ed0982a4009f9faa37db681b980ef40d2cf852e16", func := "workpiece/workpiecelaw06.TowerNested", spec := "towerNested", inPlace := ["internal/abi.NoEscape", "internal/bytealg.MakeNoZero", "internal/reflectlite.TypeOf"], unfollowed := true, recurses := true, named := ["workpiece/tower.zero", "workpiece/tower.one", "workpiece/enclosure.errRefused"], apart := false, laid := [("workpiece/enclosure.errRefused", laid_workpiece_enclosure_errRefused), ("workpiece/tower.zero", laid_workpiece_tower_zero), ("workpiece/tower.one", laid_workpiece_tower_one)], narrowed := true }
def TowerNestedUptoSaid : Prop := towerNestedUptoRow.holds Tryz.pinned (OpenSpec.upto towerNestedSpec)

end Rows
end Go.Proofs.YtadcmepaniiciaaGreatDoor
