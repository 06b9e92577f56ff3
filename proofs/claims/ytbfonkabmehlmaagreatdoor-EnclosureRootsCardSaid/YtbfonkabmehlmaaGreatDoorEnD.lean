/-
  Package enclosure: must.
-/
import Derived.Test.YtbfonkabmehlmaaGreatDoorEnC
import Derived.RangeFuncRecord
namespace Go.Proofs.YtbfonkabmehlmaaGreatDoor
set_option maxRecDepth 1000000
namespace En
open Go.RowKit Go.Extern.Stop Go.Stop Go.Extern
/-- the package's variable holds the refusal -/
def Ref (a : Addr) (W : World) : Prop := W.cell? ⟨0, 0, none⟩ = some (refV a)
theorem Ref.keep {a : Addr} {W W' : World} (h : Ref a W) (hB : Below W.heap.size W W') : Ref a W' := (hB.cell (p := ⟨0, 0, none⟩) (World.block_lt_of_cell? W _ h)).trans h
/-- the call answers the value, or is refused -/
def Att (f : Nat) (args : Array Value) (a : Addr) (o : Option Value) : Prop := ∀ W : World, Ref a W → Calls Tryz.prog f args W fun e W' => e = (match o with | some v => .returned v | none => .panicked (refP a)) ∧ Below W.heap.size W W'
theorem res_two (w : World) (a r : Obj) : ((w.alloc a).alloc r).heap[w.heap.size + 1]? = some r := by
  have := World.alloc_heap_new (w.alloc a) r
  rwa [World.size_alloc] at this
theorem lcell {W : World} {b : Nat} {cs : Array Value} {T : TypeId} (h : W.heap[b]? = some (.cells cs T (0, 0))) (i : Nat) {v : Value} (hv : cs[i]? = some v) : W.cell? ⟨b, i, none⟩ = some v := by simp [World.cell?, h, hv]
theorem lfree {W : World} {b : Nat} {cs : Array Value} {T : TypeId} (h : W.heap[b]? = some (.cells cs T (0, 0))) (i : Nat) : W.frozen? ⟨b, i, none⟩ = false := by simp [World.frozen?, h]
theorem lkeep {w w' : World} {b : Nat} {o : Obj} (h : w.heap[b]? = some o) (hB : Below w.heap.size w w') : w'.heap[b]? = some o := (hB.block b (Array.getElem?_eq_some_iff.1 h).1).trans h
theorem box4_set {W : World} {b : Nat} {a0 a1 a2 a3 x y z t : Value} {T : TypeId} (h : W.heap[b]? = some (.cells #[a0, a1, a2, a3] T (0, 0))) : ((((W.setCell ⟨b, 0, none⟩ x).setCell ⟨b, 1, none⟩ y).setCell ⟨b, 2, none⟩ z).setCell ⟨b, 3, none⟩ t).heap[b]? = some (.cells #[x, y, z, t] T (0, 0)) := by
  obtain ⟨hl, hg⟩ := Array.getElem?_eq_some_iff.1 h
  simp [World.setCell, hl, Array.getElem_modify, hg]
theorem box1_set {W : World} {b : Nat} {a0 x : Value} {T : TypeId} (h : W.heap[b]? = some (.cells #[a0] T (0, 0))) : (W.setCell ⟨b, 0, none⟩ x).heap[b]? = some (.cells #[x] T (0, 0)) := by
  obtain ⟨hl, hg⟩ := Array.getElem?_eq_some_iff.1 h
  simp [World.setCell, hl, Array.getElem_modify, hg]
theorem must_ok (n d : ByteArray) (w : World) : Calls Tryz.prog 65 #[.agg #[.string n, .string d], .int .i64 0] w fun e w' => e = .returned (.agg #[.string n, .string d]) ∧ Below w.heap.size w w' := by
  have hr := refuse_no
  go_enter Tryz.func65, Tryz.ntmps65
  go_wp2_with (go_at_call 83; refine (hr _).mono ?_; rintro e w' ⟨rfl, rfl⟩)
  have n_r := res_two w (.cells #[.string n, .string d] 23) (.cells #[.string n, .string d] 23)
  have u := ((Below.refl w.heap.size w).alloc (Nat.le_refl _) (.cells #[.string n, .string d] 23)).alloc (by simp) (.cells #[.string n, .string d] 23)
  have z0 := lcell n_r 0 (v := .string n) rfl
  have z1 := lcell n_r 1 (v := .string d) rfl
  exact bodyPost_ret (v := .agg #[.string n, .string d]) (by simp [results, Tryz.results65, go_sem]) rfl ⟨rfl, u⟩
theorem must_no (a : Addr) (n d : ByteArray) (c : Int) (hc : c ≠ 0) (w : World) (hv : Ref a w) : Calls Tryz.prog 65 #[.agg #[.string n, .string d], .int .i64 c] w fun e w' => e = .panicked (refP a) ∧ Below w.heap.size w w' := by
  have hb : (c != 0) = true := by simp [hc]
  go_enter Tryz.func65, Tryz.ntmps65
  have u := ((Below.refl w.heap.size w).alloc (Nat.le_refl _) (.cells #[.string n, .string d] 23)).alloc (by simp) (.cells #[.string ⟨#[]⟩, .string ⟨#[]⟩] 23)
  have hr := refuse_yes a _ (hv.keep u)
  go_wp2_with (go_at_call 83; refine hr.mono ?_; rintro e w' ⟨rfl, rfl⟩)
  exact ⟨rfl, rfl, u⟩
end En
end Go.Proofs.YtbfonkabmehlmaaGreatDoor
