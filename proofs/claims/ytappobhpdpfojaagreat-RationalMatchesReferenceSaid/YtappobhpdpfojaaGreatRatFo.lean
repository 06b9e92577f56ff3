/-
  Contracts: the law's four operations.
-/
import Derived.Test.YtappobhpdpfojaaGreatRatE
import Derived.Test.YtappobhpdpfojaaGreatRatF
import Derived.Test.YtappobhpdpfojaaGreatRatJs
import Derived.Test.YtappobhpdpfojaaGreatRatN
import Derived.Test.YtappobhpdpfojaaGreatRatY
namespace Go.Proofs.YtappobhpdpfojaaGreat
set_option maxRecDepth 1000000
namespace Rt
open Go.RowKit Go.Proofs.YtappobhpdpfojaaGreat.Nm
def updV (x : Nat → Value) (i : Nat) (v : Value) : Nat → Value := fun j => if j = i then v else x j
/-- the first n cells of block k -/
structure Cs (k n : Nat) (W : World) (x : Nat → Value) : Prop where
  cell : ∀ i, i < n → W.cell? ⟨k, i, none⟩ = some (x i)
  free : ∀ i, i < n → W.frozen? ⟨k, i, none⟩ = false
theorem Cs.keep {k n : Nat} {W W' : World} {x : Nat → Value} (h : Cs k n W x) (hB : Below W.heap.size W W') (hn : 0 < n) : Cs k n W' x := by
  have hb := hB.block k (World.block_lt_of_cell? W ⟨k, 0, none⟩ (h.cell 0 hn))
  exact ⟨fun i hi => (World.cell?_of_block hb).trans (h.cell i hi), fun i hi => (World.frozen?_of_block hb).trans (h.free i hi)⟩
theorem Cs.set {k n : Nat} {W : World} {x : Nat → Value} (h : Cs k n W x) (i : Nat) (v : Value) (hi : i < n) : Cs k n (W.setCell ⟨k, i, none⟩ v) (updV x i v) := by
  refine ⟨fun j hj => ?_, fun j hj => by rw [World.frozen?_setCell]; exact h.free j hj⟩
  by_cases he : j = i
  · subst he
    rw [World.cell?_setCell_same W _ v (h.cell j hj), updV, if_pos rfl]
  · rw [World.cell?_setCell_other W _ _ v (fun e => he (by injection e with _ e; exact e.symm)), updV, if_neg he]; exact h.cell j hj
theorem Cs.off {k n : Nat} {W : World} {x : Nat → Value} (h : Cs k n W x) (a : Addr) (v : Value) (ha : a.block ≠ k) : Cs k n (W.setCell a v) x :=
  ⟨fun j hj => by rw [World.cell?_setCell_other W _ _ v (fun e => ha (by rw [e]))]; exact h.cell j hj, fun j hj => by rw [World.frozen?_setCell]; exact h.free j hj⟩
theorem Cs.of {W : World} {k : Nat} {vs : Array Value} {T : TypeId} {n : Nat} {x : Nat → Value} (hg : W.heap[k]? = some (.cells vs T (0, 0))) (h : ∀ i, i < n → vs[i]? = some (x i)) : Cs k n W x :=
  ⟨fun i hi => by simp [World.cell?, hg, h i hi], fun i hi => by simp [World.frozen?, hg]⟩
theorem Cs.new (w : World) (vs : Array Value) (T : TypeId) (n : Nat) (x : Nat → Value) (h : ∀ i, i < n → vs[i]? = some (x i)) : Cs w.heap.size n (w.alloc (.cells vs T)) x := by
  exact Cs.of (World.alloc_heap_new w (.cells vs T)) h
theorem Cs.alloc {k n : Nat} {W : World} {x : Nat → Value} (h : Cs k n W x) (hn : 0 < n) (o : Obj) : Cs k n (W.alloc o) x := h.keep ((Below.refl W.heap.size W).alloc (Nat.le_refl _) o) hn
/-- the boxes of four: two fractions, two results, two arrays -/
structure Fr (b : Nat) (W : World) (s t u v : ByteArray) (x y : Nat → Value) : Prop where
  fa : Cs b 2 W (fun i => if i = 0 then .string s else .string t)
  fb : Cs (b + 1) 2 W (fun i => if i = 0 then .string u else .string v)
  fp : Cs (b + 1 + 1) 8 W (fun _ => .string ⟨#[]⟩)
  fq : Cs (b + 1 + 1 + 1) 4 W (fun _ => .int .i64 0)
  fr : Cs (b + 1 + 1 + 1 + 1) 8 W x
  fe : Cs (b + 1 + 1 + 1 + 1 + 1) 4 W y
theorem Fr.keep {b : Nat} {W W' : World} {s t u v : ByteArray} {x y : Nat → Value} (h : Fr b W s t u v x y) (hB : Below W.heap.size W W') : Fr b W' s t u v x y :=
  ⟨h.fa.keep hB (by decide), h.fb.keep hB (by decide), h.fp.keep hB (by decide), h.fq.keep hB (by decide), h.fr.keep hB (by decide), h.fe.keep hB (by decide)⟩
theorem Fr.setR {b : Nat} {W : World} {s t u v : ByteArray} {x y : Nat → Value} (h : Fr b W s t u v x y) (i : Nat) (z : Value) (hi : i < 8) : Fr b (W.setCell ⟨b + 1 + 1 + 1 + 1, i, none⟩ z) s t u v (updV x i z) y :=
  ⟨h.fa.off _ _ (by show b + 1 + 1 + 1 + 1 ≠ _; omega), h.fb.off _ _ (by show b + 1 + 1 + 1 + 1 ≠ _; omega), h.fp.off _ _ (by show b + 1 + 1 + 1 + 1 ≠ _; omega), h.fq.off _ _ (by show b + 1 + 1 + 1 + 1 ≠ _; omega), h.fr.set i z hi, h.fe.off _ _ (by show b + 1 + 1 + 1 + 1 ≠ _; omega)⟩
theorem Fr.setE {b : Nat} {W : World} {s t u v : ByteArray} {x y : Nat → Value} (h : Fr b W s t u v x y) (i : Nat) (z : Value) (hi : i < 4) : Fr b (W.setCell ⟨b + 1 + 1 + 1 + 1 + 1, i, none⟩ z) s t u v x (updV y i z) :=
  ⟨h.fa.off _ _ (by show b + 1 + 1 + 1 + 1 + 1 ≠ _; omega), h.fb.off _ _ (by show b + 1 + 1 + 1 + 1 + 1 ≠ _; omega), h.fp.off _ _ (by show b + 1 + 1 + 1 + 1 + 1 ≠ _; omega), h.fq.off _ _ (by show b + 1 + 1 + 1 + 1 + 1 ≠ _; omega), h.fr.off _ _ (by show b + 1 + 1 + 1 + 1 + 1 ≠ _; omega), h.fe.set i z hi⟩
theorem Fr.ab {b : Nat} {W : World} {s t u v : ByteArray} {x y : Nat → Value} (h : Fr b W s t u v x y) : W.cell? ⟨b, 0, none⟩ = some (.string s) ∧ W.cell? ⟨b, 1, none⟩ = some (.string t) ∧ W.cell? ⟨b + 1, 0, none⟩ = some (.string u) ∧ W.cell? ⟨b + 1, 1, none⟩ = some (.string v) :=
  ⟨h.fa.cell 0 (by decide), h.fa.cell 1 (by decide), h.fb.cell 0 (by decide), h.fb.cell 1 (by decide)⟩
def empty8 : Array Value := #[.string ⟨#[]⟩, .string ⟨#[]⟩, .string ⟨#[]⟩, .string ⟨#[]⟩, .string ⟨#[]⟩, .string ⟨#[]⟩, .string ⟨#[]⟩, .string ⟨#[]⟩]
theorem Fr.new (w : World) (s t u v : ByteArray) (T1 T2 T3 : TypeId) : Fr w.heap.size ((((((w.alloc (.cells #[.string s, .string t] T1)).alloc (.cells #[.string u, .string v] T1)).alloc (.cells #[.string ⟨#[]⟩, .string ⟨#[]⟩, .string ⟨#[]⟩, .string ⟨#[]⟩, .string ⟨#[]⟩, .string ⟨#[]⟩, .string ⟨#[]⟩, .string ⟨#[]⟩] T2)).alloc (.cells #[.int .i64 0, .int .i64 0, .int .i64 0, .int .i64 0] T3)).alloc (.cells #[.string ⟨#[]⟩, .string ⟨#[]⟩, .string ⟨#[]⟩, .string ⟨#[]⟩, .string ⟨#[]⟩, .string ⟨#[]⟩, .string ⟨#[]⟩, .string ⟨#[]⟩] T2)).alloc (.cells #[.int .i64 0, .int .i64 0, .int .i64 0, .int .i64 0] T3)) s t u v (fun _ => .string ⟨#[]⟩) (fun _ => .int .i64 0) := by
  have h2 : ∀ (a b : ByteArray) (i : Nat), i < 2 → (#[Value.string a, Value.string b] : Array Value)[i]? = some (if i = 0 then .string a else .string b) := fun a b i hi => match i, hi with | 0, _ => rfl | 1, _ => rfl
  have h8 : ∀ i, i < 8 → (#[.string ⟨#[]⟩, .string ⟨#[]⟩, .string ⟨#[]⟩, .string ⟨#[]⟩, .string ⟨#[]⟩, .string ⟨#[]⟩, .string ⟨#[]⟩, .string ⟨#[]⟩] : Array Value)[i]? = some (.string ⟨#[]⟩) := fun i hi => match i, hi with | 0, _ => rfl | 1, _ => rfl | 2, _ => rfl | 3, _ => rfl | 4, _ => rfl | 5, _ => rfl | 6, _ => rfl | 7, _ => rfl
  have h4 : ∀ i, i < 4 → (#[.int .i64 0, .int .i64 0, .int .i64 0, .int .i64 0] : Array Value)[i]? = some (.int .i64 0) := fun i hi => match i, hi with | 0, _ => rfl | 1, _ => rfl | 2, _ => rfl | 3, _ => rfl
  have e : ∀ (W : World) (o : Obj), (W.alloc o).heap.size = W.heap.size + 1 := fun W o => by simp
  refine ⟨?_, ?_, ?_, ?_, ?_, ?_⟩
  · exact (((((Cs.new w _ _ 2 _ (h2 s t)).alloc (by decide) _).alloc (by decide) _).alloc (by decide) _).alloc (by decide) _).alloc (by decide) _
  · have := Cs.new (w.alloc (.cells #[.string s, .string t] T1)) _ T1 2 _ (h2 u v)
    rw [e] at this
    exact (((this.alloc (by decide) _).alloc (by decide) _).alloc (by decide) _).alloc (by decide) _
  · have := Cs.new ((w.alloc (.cells #[.string s, .string t] T1)).alloc (.cells #[.string u, .string v] T1)) _ T2 8 _ h8
    rw [e, e] at this
    exact ((this.alloc (by decide) _).alloc (by decide) _).alloc (by decide) _
  · have := Cs.new (((w.alloc (.cells #[.string s, .string t] T1)).alloc (.cells #[.string u, .string v] T1)).alloc (.cells #[.string ⟨#[]⟩, .string ⟨#[]⟩, .string ⟨#[]⟩, .string ⟨#[]⟩, .string ⟨#[]⟩, .string ⟨#[]⟩, .string ⟨#[]⟩, .string ⟨#[]⟩] T2)) _ T3 4 _ h4
    rw [e, e, e] at this
    exact (this.alloc (by decide) _).alloc (by decide) _
  · have := Cs.new ((((w.alloc (.cells #[.string s, .string t] T1)).alloc (.cells #[.string u, .string v] T1)).alloc (.cells #[.string ⟨#[]⟩, .string ⟨#[]⟩, .string ⟨#[]⟩, .string ⟨#[]⟩, .string ⟨#[]⟩, .string ⟨#[]⟩, .string ⟨#[]⟩, .string ⟨#[]⟩] T2)).alloc (.cells #[.int .i64 0, .int .i64 0, .int .i64 0, .int .i64 0] T3)) _ T2 8 _ h8
    rw [e, e, e, e] at this
    exact this.alloc (by decide) _
  · have := Cs.new (((((w.alloc (.cells #[.string s, .string t] T1)).alloc (.cells #[.string u, .string v] T1)).alloc (.cells #[.string ⟨#[]⟩, .string ⟨#[]⟩, .string ⟨#[]⟩, .string ⟨#[]⟩, .string ⟨#[]⟩, .string ⟨#[]⟩, .string ⟨#[]⟩, .string ⟨#[]⟩] T2)).alloc (.cells #[.int .i64 0, .int .i64 0, .int .i64 0, .int .i64 0] T3)).alloc (.cells #[.string ⟨#[]⟩, .string ⟨#[]⟩, .string ⟨#[]⟩, .string ⟨#[]⟩, .string ⟨#[]⟩, .string ⟨#[]⟩, .string ⟨#[]⟩, .string ⟨#[]⟩] T2)) _ T3 4 _ h4
    rw [e, e, e, e, e] at this
    exact this
set_option maxHeartbeats 4000000 in
theorem four_any (s t u v : ByteArray) (hs : s.size ≤ 1000000) (ht : t.size ≤ 1000000) (hu : u.size ≤ 1000000) (hv : v.size ≤ 1000000) (n1 d1 n2 d2 n3 d3 n4 d4 : ByteArray) (c1 c2 c3 c4 : Int)
    (h1 : bR (sumR opAdd s t u v) = .tuple #[.agg #[.string n1, .string d1], .int .i64 c1]) (h2 : bR (sumR opSub s t u v) = .tuple #[.agg #[.string n2, .string d2], .int .i64 c2])
    (h3 : bR (mulR s t u v) = .tuple #[.agg #[.string n3, .string d3], .int .i64 c3]) (h4 : bR (divR s t u v) = .tuple #[.agg #[.string n4, .string d4], .int .i64 c4]) (w : World) :
    Calls Tryz.prog 14 #[rv s t, rv u v] w fun e w' => e = .returned (.tuple #[.agg #[.string n1, .string d1, .string n2, .string d2, .string n3, .string d3, .string n4, .string d4], .agg #[.int .i64 c1, .int .i64 c2, .int .i64 c3, .int .i64 c4]]) ∧ Below w.heap.size w w' := by
  have cA := fun W => Add_all s t u v hs ht hu hv W
  have cS := fun W => Sub_all s t u v hs ht hu hv W
  have cM := fun W => Mul_all s t u v hs ht hu hv W
  have cD := fun W => Div_all s t u v hs ht hu hv W
  rw [h1] at cA
  rw [h2] at cS
  rw [h3] at cM
  rw [h4] at cD
  clear h1 h2 h3 h4 hs ht hu hv
  unfold rv at cA cS cM cD ⊢
  go_enter Tryz.func14, Tryz.ntmps14
  have hF0 := Fr.new w s t u v 23 31 33
  have hF0 := Fr.new w s t u v 23 31 33
  have hF0 := Fr.new w s t u v 23 31 33
  have hF0 := Fr.new w s t u v 23 31 33
  have hF0 := Fr.new w s t u v 23 31 33
  have hF0 := Fr.new w s t u v 23 31 33
  go_wp2_with fail
  refine (cA _).mono ?_
  rintro e w1 ⟨rfl, hb1⟩
  have hF1 := hF0.keep hb1
  obtain ⟨a0, a1, a2, a3⟩ := hF1.ab
  have r0 := hF1.fr.cell 0 (by decide)
  have r1 := hF1.fr.cell 1 (by decide)
  have f0 := hF1.fr.free 0 (by decide)
  have f1 := hF1.fr.free 1 (by decide)
  have e0 := hF1.fe.cell 0 (by decide)
  have g0 := hF1.fe.free 0 (by decide)
  have hG1 := ((hF1.setR 0 (.string n1) (by decide)).setR 1 (.string d1) (by decide)).setE 0 (.int .i64 c1) (by decide)
  go_wp2_with fail
  refine (cS _).mono ?_
  rintro e w2 ⟨rfl, hb2⟩
  have hF2 := hG1.keep hb2
  obtain ⟨a0, a1, a2, a3⟩ := hF2.ab
  have r0 := hF2.fr.cell 2 (by decide)
  have r1 := hF2.fr.cell 3 (by decide)
  have f0 := hF2.fr.free 2 (by decide)
  have f1 := hF2.fr.free 3 (by decide)
  have e0 := hF2.fe.cell 1 (by decide)
  have g0 := hF2.fe.free 1 (by decide)
  have hG2 := ((hF2.setR 2 (.string n2) (by decide)).setR 3 (.string d2) (by decide)).setE 1 (.int .i64 c2) (by decide)
  go_wp2_with fail
  refine (cM _).mono ?_
  rintro e w3 ⟨rfl, hb3⟩
  have hF3 := hG2.keep hb3
  obtain ⟨a0, a1, a2, a3⟩ := hF3.ab
  have r0 := hF3.fr.cell 4 (by decide)
  have r1 := hF3.fr.cell 5 (by decide)
  have f0 := hF3.fr.free 4 (by decide)
  have f1 := hF3.fr.free 5 (by decide)
  have e0 := hF3.fe.cell 2 (by decide)
  have g0 := hF3.fe.free 2 (by decide)
  have hG3 := ((hF3.setR 4 (.string n3) (by decide)).setR 5 (.string d3) (by decide)).setE 2 (.int .i64 c3) (by decide)
  go_wp2_with fail
  refine (cD _).mono ?_
  rintro e w4 ⟨rfl, hb4⟩
  have hF4 := hG3.keep hb4
  obtain ⟨a0, a1, a2, a3⟩ := hF4.ab
  have r0 := hF4.fr.cell 6 (by decide)
  have r1 := hF4.fr.cell 7 (by decide)
  have f0 := hF4.fr.free 6 (by decide)
  have f1 := hF4.fr.free 7 (by decide)
  have e0 := hF4.fe.cell 3 (by decide)
  have g0 := hF4.fe.free 3 (by decide)
  have hG4 := ((hF4.setR 6 (.string n4) (by decide)).setR 7 (.string d4) (by decide)).setE 3 (.int .i64 c4) (by decide)
  go_wp2_with fail
  have hB : Below w.heap.size w (((w4.setCell ⟨w.heap.size + 1 + 1 + 1 + 1, 6, none⟩ (.string n4)).setCell ⟨w.heap.size + 1 + 1 + 1 + 1, 7, none⟩ (.string d4)).setCell ⟨w.heap.size + 1 + 1 + 1 + 1 + 1, 3, none⟩ (.int .i64 c4)) := by
    have z1 : w.heap.size + 6 ≤ w1.heap.size := by have := hb1.size; simp at this; omega
    have z2 := hb2.size
    have z3 := hb3.size
    have z4 := hb4.size
    simp only [World.size_setCell] at z2 z3 z4
    have hn : ∀ k, w.heap.size ≤ w.heap.size + k := fun k => by omega
    have q0 := ((((((Below.refl w.heap.size w).alloc (Nat.le_refl _) (.cells #[.string s, .string t] 23)).alloc (by simp) (.cells #[.string u, .string v] 23)).alloc (by simp; omega) (.cells #[.string ⟨#[]⟩, .string ⟨#[]⟩, .string ⟨#[]⟩, .string ⟨#[]⟩, .string ⟨#[]⟩, .string ⟨#[]⟩, .string ⟨#[]⟩, .string ⟨#[]⟩] 31)).alloc (by simp; omega) (.cells #[.int .i64 0, .int .i64 0, .int .i64 0, .int .i64 0] 33)).alloc (by simp; omega) (.cells #[.string ⟨#[]⟩, .string ⟨#[]⟩, .string ⟨#[]⟩, .string ⟨#[]⟩, .string ⟨#[]⟩, .string ⟨#[]⟩, .string ⟨#[]⟩, .string ⟨#[]⟩] 31)).alloc (by simp; omega) (.cells #[.int .i64 0, .int .i64 0, .int .i64 0, .int .i64 0] 33)
    have q1 := q0.trans (hb1.mono (by simp; omega))
    have q2 := (((q1.setCell (by simp; omega) _).setCell (by simp; omega) _).setCell (by simp; omega) _).trans (hb2.mono (by simp only [World.size_setCell]; omega))
    have q3 := (((q2.setCell (by simp; omega) _).setCell (by simp; omega) _).setCell (by simp; omega) _).trans (hb3.mono (by simp only [World.size_setCell]; omega))
    have q4 := (((q3.setCell (by simp; omega) _).setCell (by simp; omega) _).setCell (by simp; omega) _).trans (hb4.mono (by simp only [World.size_setCell]; omega))
    exact ((q4.setCell (by simp; omega) _).setCell (by simp; omega) _).setCell (by simp; omega) _
  clear a0 a1 a2 a3 r0 r1 f0 f1 e0 g0 hF1 hF2 hF3 hF4 hG1 hG2 hG3 hF0 cA cS cM cD hb1 hb2 hb3 hb4
  generalize (((w4.setCell ⟨w.heap.size + 1 + 1 + 1 + 1, 6, none⟩ (.string n4)).setCell ⟨w.heap.size + 1 + 1 + 1 + 1, 7, none⟩ (.string d4)).setCell ⟨w.heap.size + 1 + 1 + 1 + 1 + 1, 3, none⟩ (.int .i64 c4)) = W at *
  have r0 : W.cell? ⟨w.heap.size + 1 + 1 + 1 + 1, 0, none⟩ = some (.string n1) := hG4.fr.cell 0 (by decide)
  have p0 := hG4.fp.cell 0 (by decide)
  have f0 := hG4.fp.free 0 (by decide)
  have r1 : W.cell? ⟨w.heap.size + 1 + 1 + 1 + 1, 1, none⟩ = some (.string d1) := hG4.fr.cell 1 (by decide)
  have p1 := hG4.fp.cell 1 (by decide)
  have f1 := hG4.fp.free 1 (by decide)
  have r2 : W.cell? ⟨w.heap.size + 1 + 1 + 1 + 1, 2, none⟩ = some (.string n2) := hG4.fr.cell 2 (by decide)
  have p2 := hG4.fp.cell 2 (by decide)
  have f2 := hG4.fp.free 2 (by decide)
  have r3 : W.cell? ⟨w.heap.size + 1 + 1 + 1 + 1, 3, none⟩ = some (.string d2) := hG4.fr.cell 3 (by decide)
  have p3 := hG4.fp.cell 3 (by decide)
  have f3 := hG4.fp.free 3 (by decide)
  have r4 : W.cell? ⟨w.heap.size + 1 + 1 + 1 + 1, 4, none⟩ = some (.string n3) := hG4.fr.cell 4 (by decide)
  have p4 := hG4.fp.cell 4 (by decide)
  have f4 := hG4.fp.free 4 (by decide)
  have r5 : W.cell? ⟨w.heap.size + 1 + 1 + 1 + 1, 5, none⟩ = some (.string d3) := hG4.fr.cell 5 (by decide)
  have p5 := hG4.fp.cell 5 (by decide)
  have f5 := hG4.fp.free 5 (by decide)
  have r6 : W.cell? ⟨w.heap.size + 1 + 1 + 1 + 1, 6, none⟩ = some (.string n4) := hG4.fr.cell 6 (by decide)
  have p6 := hG4.fp.cell 6 (by decide)
  have f6 := hG4.fp.free 6 (by decide)
  have r7 : W.cell? ⟨w.heap.size + 1 + 1 + 1 + 1, 7, none⟩ = some (.string d4) := hG4.fr.cell 7 (by decide)
  have p7 := hG4.fp.cell 7 (by decide)
  have f7 := hG4.fp.free 7 (by decide)
  have e0 : W.cell? ⟨w.heap.size + 1 + 1 + 1 + 1 + 1, 0, none⟩ = some (.int .i64 c1) := hG4.fe.cell 0 (by decide)
  have q0 := hG4.fq.cell 0 (by decide)
  have g0 := hG4.fq.free 0 (by decide)
  have e1 : W.cell? ⟨w.heap.size + 1 + 1 + 1 + 1 + 1, 1, none⟩ = some (.int .i64 c2) := hG4.fe.cell 1 (by decide)
  have q1 := hG4.fq.cell 1 (by decide)
  have g1 := hG4.fq.free 1 (by decide)
  have e2 : W.cell? ⟨w.heap.size + 1 + 1 + 1 + 1 + 1, 2, none⟩ = some (.int .i64 c3) := hG4.fe.cell 2 (by decide)
  have q2 := hG4.fq.cell 2 (by decide)
  have g2 := hG4.fq.free 2 (by decide)
  have e3 : W.cell? ⟨w.heap.size + 1 + 1 + 1 + 1 + 1, 3, none⟩ = some (.int .i64 c4) := hG4.fe.cell 3 (by decide)
  have q3 := hG4.fq.cell 3 (by decide)
  have g3 := hG4.fq.free 3 (by decide)
  clear hG4
  go_region_held3 (fun X => X.cell? ⟨w.heap.size + 1 + 1 + 1 + 1, 0, none⟩ = some (.string n1) ∧ X.cell? ⟨w.heap.size + 1 + 1 + 1 + 1, 1, none⟩ = some (.string d1) ∧ X.cell? ⟨w.heap.size + 1 + 1 + 1 + 1, 2, none⟩ = some (.string n2) ∧ X.cell? ⟨w.heap.size + 1 + 1 + 1 + 1, 3, none⟩ = some (.string d2) ∧ X.cell? ⟨w.heap.size + 1 + 1 + 1 + 1, 4, none⟩ = some (.string n3) ∧ X.cell? ⟨w.heap.size + 1 + 1 + 1 + 1, 5, none⟩ = some (.string d3) ∧ X.cell? ⟨w.heap.size + 1 + 1 + 1 + 1, 6, none⟩ = some (.string n4) ∧ X.cell? ⟨w.heap.size + 1 + 1 + 1 + 1, 7, none⟩ = some (.string d4) ∧ X.cell? ⟨w.heap.size + 1 + 1 + 1 + 1 + 1, 0, none⟩ = some (.int .i64 c1) ∧ X.cell? ⟨w.heap.size + 1 + 1 + 1 + 1 + 1, 1, none⟩ = some (.int .i64 c2) ∧ X.cell? ⟨w.heap.size + 1 + 1 + 1 + 1 + 1, 2, none⟩ = some (.int .i64 c3) ∧ X.cell? ⟨w.heap.size + 1 + 1 + 1 + 1 + 1, 3, none⟩ = some (.int .i64 c4)) (go_keep) (fail)
  all_goals (go_wp2_with fail)
  all_goals (refine bodyPost_ret (v := .tuple #[.agg #[.string n1, .string d1, .string n2, .string d2, .string n3, .string d3, .string n4, .string d4], .agg #[.int .i64 c1, .int .i64 c2, .int .i64 c3, .int .i64 c4]]) (by simp [results, Tryz.results14, go_sem, p0, p1, p2, p3, p4, p5, p6, p7, q0, q1, q2, q3]) rfl ⟨rfl, ?_⟩)
  exact (((((((((((((hB.setCell (by simp; omega) _).setCell (by simp; omega) _).setCell (by simp; omega) _).setCell (by simp; omega) _).setCell (by simp; omega) _).setCell (by simp; omega) _).setCell (by simp; omega) _).setCell (by simp; omega) _).setCell (by simp; omega) _).setCell (by simp; omega) _).setCell (by simp; omega) _).setCell (by simp; omega) _)).drew
end Rt
end Go.Proofs.YtappobhpdpfojaaGreat
