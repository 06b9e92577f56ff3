/-
  Worlds in which boxes of strings are written.
-/
import Derived.Test.YtappobhpdpfojaaGreatIntA
namespace Go.Proofs.YtappobhpdpfojaaGreat
set_option maxRecDepth 1000000
namespace Rt
open Go.RowKit Nm

/-- outside the blocks bs the world w' is what w was -/
structure Rim (bs : Nat → Prop) (w w' : World) : Prop where
  os : w'.os = w.os
  tape : w'.tape = w.tape
  output : w'.output = w.output
  size : w.heap.size ≤ w'.heap.size
  block : ∀ k, k < w.heap.size → ¬ bs k → w'.heap[k]? = w.heap[k]?
theorem Rim.refl (bs : Nat → Prop) (w : World) : Rim bs w w := ⟨rfl, rfl, rfl, Nat.le_refl _, fun _ _ _ => rfl⟩
theorem Rim.trans {bs : Nat → Prop} {a b c : World} (h : Rim bs a b) (k : Rim bs b c) : Rim bs a c :=
  ⟨k.os.trans h.os, k.tape.trans h.tape, k.output.trans h.output, Nat.le_trans h.size k.size, fun i hi hn => (k.block i (Nat.lt_of_lt_of_le hi h.size) hn).trans (h.block i hi hn)⟩
theorem Rim.mono {bs cs : Nat → Prop} {a b : World} (h : Rim bs a b) (hm : ∀ k, bs k → cs k) : Rim cs a b :=
  ⟨h.os, h.tape, h.output, h.size, fun k hk hn => h.block k hk fun hb => hn (hm k hb)⟩
theorem Rim.of_below {bs : Nat → Prop} {a b : World} (h : Below a.heap.size a b) : Rim bs a b := ⟨h.os, h.tape, h.output, h.size, fun k hk _ => h.block k hk⟩
theorem Rim.below {bs : Nat → Prop} {a b : World} {B : Nat} (h : Rim bs a b) (hB : B ≤ a.heap.size) (hb : ∀ k, bs k → B ≤ k) : Below B a b :=
  ⟨h.os, h.tape, h.output, h.size, fun k hk => h.block k (by omega) fun hc => by have := hb k hc; omega⟩
theorem Rim.none {bs : Nat → Prop} {a b : World} (h : Rim bs a b) (hb : ∀ k, ¬ bs k) : Below a.heap.size a b := ⟨h.os, h.tape, h.output, h.size, fun k hk => h.block k hk (hb k)⟩
theorem Rim.set {bs : Nat → Prop} (w : World) (a : Addr) (v : Value) (h : bs a.block) : Rim bs w (w.setCell a v) :=
  ⟨rfl, rfl, rfl, by simp [World.setCell], fun k _ hn => Below.heap_setCell _ _ _ _ (fun e => hn (e ▸ h))⟩
theorem Rim.drew {bs : Nat → Prop} {a b : World} (h : Rim bs a b) : Rim bs a b.drew := ⟨h.os, h.tape, h.output, h.size, h.block⟩
theorem Rim.alloc {bs : Nat → Prop} {a b : World} (h : Rim bs a b) (o : Obj) : Rim bs a (b.alloc o) := h.trans (.of_below ((Below.refl _ b).alloc (Nat.le_refl _) o))
theorem Rim.heap {bs : Nat → Prop} {a b : World} (h : Rim bs a b) {k : Nat} {o : Obj} (ho : a.heap[k]? = some o) (hn : ¬ bs k) : b.heap[k]? = some o := (h.block k (lt_of_block ho) hn).trans ho
theorem Rim.row {bs : Nat → Prop} {a b : World} (h : Rim bs a b) {base : Nat} {e : TypeId} {size : Nat} {v : Value} {n : Nat} {xs : List Value} (hr : a.ownsRow base e size v n xs) (hn : ∀ k, v.ownBlock = some k → ¬ bs k) : b.ownsRow base e size v n xs := by
  obtain ⟨h1, h2⟩ := hr
  refine ⟨h1, ?_⟩
  rcases h2 with h2 | ⟨g, cap, cur, hv, hg, hh, r⟩
  · exact .inl h2
  · exact .inr ⟨g, cap, cur, hv, hg, h.heap hh (hn g (by rw [hv]; rfl)), r⟩

/-- the cell a holds the string s -/
structure Box (w : World) (a : Addr) (s : ByteArray) : Prop where
  cell : w.cell? a = some (.string s)
  free : w.frozen? a = false
theorem Box.lt {w : World} {a : Addr} {s : ByteArray} (h : Box w a s) : a.block < w.heap.size := World.block_lt_of_cell? w a h.cell
theorem Box.keep {bs : Nat → Prop} {w w' : World} {a : Addr} {s : ByteArray} (h : Box w a s) (ho : Rim bs w w') (hn : ¬ bs a.block) : Box w' a s :=
  have hb := ho.block a.block h.lt hn
  ⟨(World.cell?_of_block hb).trans h.cell, (World.frozen?_of_block hb).trans h.free⟩
theorem Box.set {w : World} {a : Addr} {s : ByteArray} (h : Box w a s) (t : ByteArray) : Box (w.setCell a (.string t)) a t :=
  ⟨World.cell?_setCell_same w a _ h.cell, by rw [World.frozen?_setCell]; exact h.free⟩
theorem Box.other {w : World} {a b : Addr} {s : ByteArray} (h : Box w b s) (hne : a ≠ b) (v : Value) : Box (w.setCell a v) b s :=
  ⟨by rw [World.cell?_setCell_other w a b _ hne]; exact h.cell, by rw [World.frozen?_setCell]; exact h.free⟩

def upd (st : Nat → ByteArray) (i : Nat) (v : ByteArray) : Nat → ByteArray := fun j => if j = i then v else st j
/-- the cells ad hold the strings st -/
structure Holds (ad : List Addr) (st : Nat → ByteArray) (w : World) : Prop where
  box : ∀ i (h : i < ad.length), Box w ad[i] (st i)
  small : ∀ i, i < ad.length → (st i).size ≤ 1000000
def blk (ad : List Addr) (k : Nat) : Prop := ∃ a ∈ ad, a.block = k
theorem Holds.keep {ad : List Addr} {bs : Nat → Prop} {st : Nat → ByteArray} {w w' : World} (h : Holds ad st w) (ho : Rim bs w w') (hn : ∀ a ∈ ad, ¬ bs a.block) : Holds ad st w' :=
  ⟨fun i hi => (h.box i hi).keep ho (hn _ (List.getElem_mem hi)), h.small⟩
theorem Holds.set {ad : List Addr} {st : Nat → ByteArray} {w : World} (h : Holds ad st w) (hd : ad.Nodup) {i : Nat} (hi : i < ad.length) {v : ByteArray} (hv : v.size ≤ 1000000) : Holds ad (upd st i v) (w.setCell ad[i] (.string v)) := by
  refine ⟨fun j hj => ?_, fun j hj => ?_⟩
  · by_cases e : j = i
    · subst e
      rw [show upd st j v j = v from if_pos rfl]
      exact (h.box j hj).set v
    · rw [show upd st i v j = st j from if_neg e]
      exact (h.box j hj).other (fun hc => e ((List.getElem_inj hd).1 hc).symm) _
  · by_cases e : j = i
    · rw [show upd st i v j = v from if_pos e]; exact hv
    · rw [show upd st i v j = st j from if_neg e]; exact h.small j hj
theorem Holds.pre {ad bs : List Addr} {st : Nat → ByteArray} {w : World} (h : Holds (ad ++ bs) st w) : Holds ad st w :=
  ⟨fun i hi => by have := h.box i (by rw [List.length_append]; omega); rwa [List.getElem_append_left hi] at this, fun i hi => h.small i (by rw [List.length_append]; omega)⟩
end Rt
end Go.Proofs.YtappobhpdpfojaaGreat
