/-
  What the rows of layer 1 share: the table's cells out of what the row lists, a world for the witness, the last step behind 'Below'.
-/
import Derived.Test.YtiffkoakpfpdgaaDoorCards
import Derived.Test.YtiffkoakpfpdgaaDoorTie
import Derived.Test.YtiffkoakpfpdgaaDoorWireSum
import Derived.ProofKit
import Derived.OpenShut
import Derived.Deep.DeepHandedRow
import Derived.Lib.LaidTab
import Derived.Lib.SmallJoins
namespace Go.Proofs.YtiffkoakpfpdgaaDoor
open Go.ChangeShapes Go.WideShapes Go.ChangeAt Go.RowKit

theorem own : ownKnob Tryd.prog.godebug = none := by kernel_rfl
theorem gTab : Tryd.prog.globalNamed "workpiece/wire.nibbleSums" = some 0 := by kernel_rfl
theorem gTabType : (Tryd.prog.globals[0]?).map (·.type) = some 55 := by kernel_rfl
theorem cellsTab : Tryd.prog.cellsOf 55 = 16 := by kernel_rfl
theorem cellsWord : Tryd.prog.cellsOf 43 = 1 := by kernel_rfl

/-- the table's sixteen numbers -/
def words : List Int := [0, 274646895, 549293790, 820201905, 1098587580, 1361435347, 1640403810, 1905808397, 2197175160, 2460548119, 2722870694, 2987750089, 3280807620, 3553878443, 3811616794, 4084100981]
theorem words_nib : ∀ i, i < 16 → words.getD i 0 = ((Wm.nib i : Nat) : Int) := by decide +kernel

theorem table {W : World} (h : laidMetH Tryd.prog [("workpiece/wire.nibbleSums", Rows.laid_workpiece_wire_nibbleSums)] W) : Lib.TabIs Tryd.prog W "workpiece/wire.nibbleSums" .u32 words :=
  Lib.tabIs_of_head (rest := []) gTab gTabType Tryd.underlying55 Tryd.underlying43 cellsWord cellsTab h

theorem tab_of {W : World} (h : laidMetH Tryd.prog [("workpiece/wire.nibbleSums", Rows.laid_workpiece_wire_nibbleSums)] W) : Tab W := fun i hi => by
  have := (table h).cell gTab i hi
  rw [words_nib i hi] at this
  exact this

/-- a world for the witness: the settled one, the table holding what its initialiser lays -/
noncomputable def laidWorld (os : Os) : World :=
  { World.holding Tryd.prog os ⟨#[], #[], []⟩ with heap := (World.holding Tryd.prog os ⟨#[], #[], []⟩).heap.modify 0 fun
      | .cells _ t frozen => .cells (words.map (Value.int .u32)).toArray t frozen
      | o => o }

section
variable {H : Type} {enc : TypeId × Value → H} {P : Program}
/-- the last step, where of the world behind the call 'Below' alone is known -/
theorem post_of_below {f : Func} {s : ChangeSpec} {apart fresh handsOn again : Bool} {W W' : World} {args : Array Value} {v : Value} {ds gs : List (DataW H)} {before pa pv : List MemPlace}
    (hW : DataW.Whole enc P f.params.toList s.vars apart W args.toList ds gs before)
    (hres : ∀ (b : Nat) (sp : Nat → Bool) (hd : Bool), DataW.TrodAll enc P W' b sp hd f.resultTypes.toList (v.resultList f.resultTypes.size) (s.fn H (ds ++ gs)).results [])
    (hargs : ∀ sp : Nat → Bool, (∀ p ∈ before, sp p.block = true) → DataW.TrodAll enc P W' 0 sp true f.params.toList args.toList (s.fn H (ds ++ gs)).args pa)
    (hvars : ∀ sp : Nat → Bool, (∀ p ∈ before, sp p.block = true) → DataW.TrodVars enc P W' sp s.vars (s.fn H (ds ++ gs)).vars pv)
    (hps : before = pa ++ pv) (hb : Below W.heap.size W W')
    (hok : ∀ (j : Nat) (t : TypeId) (r : Value), f.resultTypes[j]? = some t → (v.resultList f.resultTypes.size)[j]? = some r → Value.okWide P W' .any 0 t r) :
    s.post enc P f apart fresh handsOn again W args v W' := by
  subst hps
  have hlt : ∀ p ∈ pa ++ pv, p.block < W.heap.size := fun p hp => hW.lt p hp
  refine ⟨ds, gs, pa ++ pv, [], pa, pv, hW, hres _ _ _, ?_, ?_, World.keptBut_mono (fun p hp => ⟨hp, .inr (by simpa using hp)⟩) (hb.frame (· ∈ pa ++ pv)), fun _ => ?_⟩
  · exact hargs _ fun p hp => decide_eq_true (hlt p hp)
  · exact hvars _ fun p hp => decide_eq_true (hlt p hp)
  · obtain ⟨_, _, _, _, _, hz, hn⟩ := hW
    refine ⟨hok, _, _, ([] ++ pa) ++ pv, ⟨[] ++ pa, pv, trodAll_append (hargs _ (fun _ _ => rfl)) (hres _ _ _), hvars _ (fun _ _ => rfl), rfl, fun b off hp => ?_, fun ha => by simpa using hn ha⟩, fun p hp _ => by simpa using hp⟩
    have hin : MemPlace.cell b off ∈ pa ++ pv := by simpa using hp
    exact (hb.frozen (p := ⟨b, off, none⟩) (hlt _ hin)).trans (hz b off hin)
end

section
variable {H : Type} {enc : TypeId × Value → H} {w : World} {base : Nat} {sp : Nat → Bool} {held : Bool}
theorem cellsPair : Tryd.prog.cellsOf 36 = 2 := by kernel_rfl
theorem cellsStr : Tryd.prog.cellsOf 9 = 1 := by kernel_rfl
/-- an array of two strings, opened -/
theorem open_pair {W : World} {r : Reach} {b0 : Nat} {v : Value} {d : DataW H} {p : List MemPlace} (hv : Value.okWide Tryd.prog W r b0 36 v) (h : DataW.Trod enc Tryd.prog w base sp held 36 v d p) :
    ∃ a b : ByteArray, v = .agg #[.string a, .string b] ∧ d = .agg [.lit (.string a.data.toList), .lit (.string b.data.toList)] ∧ p = [] ∧ a.size ≤ maxLen ∧ b.size ≤ maxLen := by
  obtain ⟨cs, rfl, hsz, _⟩ : ∃ cs, v = .agg cs ∧ cs.size = Tryd.prog.cellsOf 36 ∧ Row.okWide Tryd.prog W r b0 36 cs := by
    simpa [Value.okWide, Tryd.underlying36] using hv
  rw [cellsPair] at hsz
  obtain ⟨c0, c1, rfl⟩ := Joins.array2 hsz
  obtain ⟨fuel, hf⟩ := h
  obtain ⟨xs, m, rfl, hx, _, hl, hi⟩ := DataW.trod_array Tryd.underlying36 hf
  have k0 := hi 0 (by decide)
  have k1 := hi 1 (by decide)
  rw [cellsStr] at k0 k1
  match xs, hl with
  | [x0, x1], _ =>
    simp [Value.cells] at k0 k1
    obtain ⟨a, e0, rfl, z0⟩ := DataW.trod_string Tryd.underlying9 k0
    obtain ⟨b, e1, rfl, z1⟩ := DataW.trod_string Tryd.underlying9 k1
    simp at e0 e1
    subst e0 e1
    simp at hx
    exact ⟨a, b, rfl, hx.1, hx.2, z0, z1⟩
theorem shut_pair {a b : ByteArray} (ha : a.size ≤ maxLen) (hb : b.size ≤ maxLen) : DataW.Trod enc Tryd.prog w base sp held 36 (.agg #[.string a, .string b]) (.agg [.lit (.string a.data.toList), .lit (.string b.data.toList)]) [] :=
  ⟨2, by simp [DataW.trod, Value.cells, Tryd.underlying36, Tryd.underlying9, cellsPair, cellsStr, ha, hb, show List.range 2 = [0, 1] from rfl]⟩
end

end Go.Proofs.YtiffkoakpfpdgaaDoor
