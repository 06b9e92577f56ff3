/-
  What the rows of layer 2 share: the two tables' cells out of what the row lists, a world for the witness, the last step behind 'Below', a slice of strings opened.
-/
import Derived.Test.YtnceemdemjjhlaaDoorCards
import Derived.Test.YtnceemdemjjhlaaDoorTie
import Derived.Test.YtnceemdemjjhlaaDoorDigSane
import Derived.ProofKit
import Derived.OpenShut
import Derived.Deep.DeepHandedRow
import Derived.Lib.LaidTab
import Derived.Lib.SmallJoins
import Derived.SliceStrings
namespace Go.Proofs.YtnceemdemjjhlaaDoor
open Go.ChangeShapes Go.WideShapes Go.ChangeAt Go.RowKit

theorem own : ownKnob Tryd.prog.godebug = none := by kernel_rfl
theorem gS : Tryd.prog.globalNamed "workpiece/digest.initialState" = some 0 := by kernel_rfl
theorem gST : (Tryd.prog.globals[0]?).map (·.type) = some 61 := by kernel_rfl
theorem gR : Tryd.prog.globalNamed "workpiece/digest.roundWords" = some 1 := by kernel_rfl
theorem gRT : (Tryd.prog.globals[1]?).map (·.type) = some 72 := by kernel_rfl
theorem cellsS : Tryd.prog.cellsOf 61 = 8 := by kernel_rfl
theorem cellsR : Tryd.prog.cellsOf 72 = 64 := by kernel_rfl
theorem cellsWord : Tryd.prog.cellsOf 47 = 1 := by kernel_rfl
theorem cellsStr : Tryd.prog.cellsOf 9 = 1 := by kernel_rfl
def ints0 : List Int := [1779033703, 3144134277, 1013904242, 2773480762, 1359893119, 2600822924, 528734635, 1541459225]
def ints1 : List Int := [1116352408, 1899447441, 3049323471, 3921009573, 961987163, 1508970993, 2453635748, 2870763221, 3624381080, 310598401, 607225278, 1426881987, 1925078388, 2162078206, 2614888103, 3248222580, 3835390401, 4022224774, 264347078, 604807628, 770255983, 1249150122, 1555081692, 1996064986, 2554220882, 2821834349, 2952996808, 3210313671, 3336571891, 3584528711, 113926993, 338241895, 666307205, 773529912, 1294757372, 1396182291, 1695183700, 1986661051, 2177026350, 2456956037, 2730485921, 2820302411, 3259730800, 3345764771, 3516065817, 3600352804, 4094571909, 275423344, 430227734, 506948616, 659060556, 883997877, 958139571, 1322822218, 1537002063, 1747873779, 1955562222, 2024104815, 2227730452, 2361852424, 2428436474, 2756734187, 3204031479, 3329325298]
theorem ints0_H0 : ∀ i, i < 8 → ints0.getD i 0 = ((Sh.H0.getD i 0 : Nat) : Int) := by decide +kernel
theorem ints1_K : ∀ i, i < 64 → ints1.getD i 0 = ((Sh.K.getD i 0 : Nat) : Int) := by decide +kernel

theorem laid_tail {P : Program} {W : World} {x : String × DataW Unit} {rest : List (String × DataW Unit)} (h : laidMet P (x :: rest) W) : laidMet P rest W := by
  obtain ⟨ps, ⟨g, t, cs, fuel, p, q, hg, ht, hv, hd, hr, rfl⟩, hn, hall⟩ := h
  exact ⟨q, hr, (List.nodup_append.1 hn).2.1, fun b off hm => hall b off (List.mem_append_right _ hm)⟩
abbrev theLaid : List (String × DataW Unit) := [("workpiece/digest.initialState", Rows.laid_workpiece_digest_initialState), ("workpiece/digest.roundWords", Rows.laid_workpiece_digest_roundWords)]
theorem table0 {W : World} (h : laidMetH Tryd.prog theLaid W) : Lib.TabIs Tryd.prog W "workpiece/digest.initialState" .u32 ints0 :=
  Lib.tabIs_of_head (rest := [("workpiece/digest.roundWords", Rows.laid_workpiece_digest_roundWords)]) gS gST Tryd.underlying61 Tryd.underlying47 cellsWord cellsS h
theorem table1 {W : World} (h : laidMetH Tryd.prog theLaid W) : Lib.TabIs Tryd.prog W "workpiece/digest.roundWords" .u32 ints1 :=
  Lib.tabIs_of_head (rest := []) gR gRT Tryd.underlying72 Tryd.underlying47 cellsWord cellsR (laid_tail h)
theorem tab_of {W : World} (h : laidMetH Tryd.prog theLaid W) : Tab W := by
  have h1 : ∀ i, i < 64 → W.cell? ⟨1, i, none⟩ = some (.int .u32 ((Sh.K.getD i 0 : Nat) : Int)) := fun i hi => by
    have := (table1 h).cell gR i hi
    rw [ints1_K i hi] at this
    exact this
  refine ⟨h1, fun i hi => ?_, ?_⟩
  · have := (table0 h).cell gS i hi
    rw [ints0_H0 i hi] at this
    exact this
  · exact World.block_lt_of_cell? W _ (h1 0 (by omega))

def laidCells (c : Array Value) : Obj → Obj
  | .cells _ t frozen => .cells c t frozen
  | o => o
/-- a world for the witness: the settled one, the tables holding what their initialisers lay -/
noncomputable def laidWorld (os : Os) : World :=
  { World.holding Tryd.prog os ⟨#[], #[], []⟩ with heap := ((World.holding Tryd.prog os ⟨#[], #[], []⟩).heap.modify 0 (laidCells (ints0.map (Value.int .u32)).toArray)).modify 1 (laidCells (ints1.map (Value.int .u32)).toArray) }

section
variable {H : Type} {enc : TypeId × Value → H} {P : Program}
/-- the last step, where of the world behind the call 'Below' alone is known -/
theorem post_of_below {f : Func} {s : ChangeSpec} {apart fresh handsOn again : Bool} {W W' : World} {args : Array Value} {v : Value} {ds gs : List (DataW H)} {before pa pv : List MemPlace}
    (hW : DataW.Whole enc P f.params.toList s.vars apart W args.toList ds gs before)
    (hres : ∀ (b : Nat) (sp : Nat → Bool) (hd : Bool), DataW.TrodAll enc P W' b sp hd f.resultTypes.toList (v.resultList f.resultTypes.size) (s.fn H (ds ++ gs)).results [])
    (hargs : ∀ sp : Nat → Bool, (∀ p ∈ before, sp p.block = true) → DataW.TrodAll enc P W' 0 sp true f.params.toList args.toList (s.fn H (ds ++ gs)).args pa)
    (hvars : ∀ sp : Nat → Bool, (∀ p ∈ before, sp p.block = true) → DataW.TrodVars enc P W' sp s.vars (s.fn H (ds ++ gs)).vars pv)
    (hps : before = pa ++ pv) (hb : Below W.heap.size W W')
    (hok : ∀ (j : Nat) (t : TypeId) (r : Value), f.resultTypes[j]? = some t → (v.resultList f.resultTypes.size)[j]? = some r → Value.okWide P W' .any 0 t r) :
    s.post enc P f apart fresh handsOn again W args v W' := by
  subst hps
  have hlt : ∀ p ∈ pa ++ pv, p.block < W.heap.size := fun p hp => hW.lt p hp
  refine ⟨ds, gs, pa ++ pv, [], pa, pv, hW, hres _ _ _, ?_, ?_, World.keptBut_mono (fun p hp => ⟨hp, .inr (by simpa using hp)⟩) (hb.frame (· ∈ pa ++ pv)), fun _ => ?_⟩
  · exact hargs _ fun p hp => decide_eq_true (hlt p hp)
  · exact hvars _ fun p hp => decide_eq_true (hlt p hp)
  · obtain ⟨_, _, _, _, _, hz, hn⟩ := hW
    refine ⟨hok, _, _, ([] ++ pa) ++ pv, ⟨[] ++ pa, pv, trodAll_append (hargs _ (fun _ _ => rfl)) (hres _ _ _), hvars _ (fun _ _ => rfl), rfl, fun b off hp => ?_, fun ha => by simpa using hn ha⟩, fun p hp _ => by simpa using hp⟩
    have hin : MemPlace.cell b off ∈ pa ++ pv := by simpa using hp
    exact (hb.frozen (p := ⟨b, off, none⟩) (hlt _ hin)).trans (hz b off hin)
end


theorem laidOut : laidOutB Tryd.prog = true := by kernel_rfl
/-- a slice of strings that came in -/
theorem open_sl {H : Type} {enc : TypeId × Value → H} {W : World} {a : Option Addr} {la ca : Nat} {d : DataW H} {p : List MemPlace} (h : DataW.Trod enc Tryd.prog W 0 (fun _ => true) true 26 (.slice a la ca) d p) :
    ∃ (ls : List ByteArray) (b o : Nat), ls.length = la ∧ (1 ≤ ls.length → a = some ⟨b, o, none⟩) ∧ SA W b o ls ∧ la ≤ 9223372036854775807 ∧ (∀ s ∈ ls, s.size ≤ 9223372036854775807) := by
  obtain ⟨f0, g0⟩ := h
  rcases open_strings Tryd.underlying26 Tryd.underlying9 cellsStr g0 with ⟨hcs, _⟩ | ⟨ad, len, cap, ss, hcs, _, hl, hm, hz, _, hcell, hws⟩
  · simp [Value.cells] at hcs
    obtain ⟨rfl, rfl, rfl⟩ := hcs
    exact ⟨[], 0, 0, rfl, fun h => by simp at h, fun i h => by simp at h, by omega, fun s h => by simp at h⟩
  · simp [Value.cells] at hcs
    obtain ⟨rfl, rfl, rfl⟩ := hcs
    simp only [if_true] at hz
    unfold maxLen at hm hws
    rcases Nat.eq_zero_or_pos la with h0 | h0
    · subst h0
      exact ⟨[], 0, 0, rfl, fun h => by simp at h, fun i h => by simp at h, by omega, fun s h => by simp at h⟩
    · obtain ⟨b, off, spot⟩ := ad
      have hspot : spot = none := by simpa [Addr.add] using World.cell?_spot (hcell 0 (by omega))
      subst hspot
      refine ⟨ss.take la, b, off, by rw [List.length_take]; omega, fun _ => rfl, fun i hi => ?_, by omega, fun s hs => by have := hws s (List.mem_of_mem_take hs); omega⟩
      rw [List.length_take] at hi
      have := hcell i (by omega)
      rw [Go.WideShapes.add_plain] at this
      rw [this, List.getElem_take]
      simp [List.getD, show i < ss.length by omega]

end Go.Proofs.YtnceemdemjjhlaaDoor
