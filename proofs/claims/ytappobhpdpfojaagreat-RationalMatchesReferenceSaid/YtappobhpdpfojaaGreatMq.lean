/-
  PROVED: RationalMatchesReference: Valid, Make, Of, the four operations, Compare, Down and Up agree with the reference implementation. Every argument reads afterwards as it read before. Conditions: those of the given row.
-/
import Derived.Test.YtappobhpdpfojaaGreatQm
import Derived.ChangeKeysEq
import Derived.Lib.SmallJoins
import Derived.ProofKit
namespace Go.Proofs.YtappobhpdpfojaaGreat
set_option maxRecDepth 1000000
namespace Rt
open Go.RowKit Go.Proofs.YtappobhpdpfojaaGreat.Nm
open N10 (Two)

theorem mr_form (o : Option (ByteArray × ByteArray)) : ∃ (n d : ByteArray) (c : Int), bR o = .tuple #[.agg #[.string n, .string d], .int .i64 c] := by
  cases o with
  | none => exact ⟨_, _, _, rfl⟩
  | some x => obtain ⟨n, d⟩ := x; exact ⟨_, _, _, rfl⟩
theorem mr_four (s t u v : ByteArray) (hs : s.size ≤ 1000000) (ht : t.size ≤ 1000000) (hu : u.size ≤ 1000000) (hv : v.size ≤ 1000000) : ∃ (n1 d1 n2 d2 n3 d3 n4 d4 : ByteArray) (c1 c2 c3 c4 k : Int),
    Two 14 #[.agg #[.string s, .string t], .agg #[.string u, .string v]] (.tuple #[.agg #[.string n1, .string d1, .string n2, .string d2, .string n3, .string d3, .string n4, .string d4], .agg #[.int .i64 c1, .int .i64 c2, .int .i64 c3, .int .i64 c4]]) ∧
    Two 15 #[.agg #[.string s, .string t], .agg #[.string u, .string v]] (.tuple #[.agg #[.string n1, .string d1], .int .i64 c1]) ∧
    Two 16 #[.agg #[.string s, .string t], .agg #[.string u, .string v]] (.tuple #[.agg #[.string n2, .string d2], .int .i64 c2]) ∧
    Two 17 #[.agg #[.string s, .string t], .agg #[.string u, .string v]] (.tuple #[.agg #[.string n3, .string d3], .int .i64 c3]) ∧
    Two 18 #[.agg #[.string s, .string t], .agg #[.string u, .string v]] (.tuple #[.agg #[.string n4, .string d4], .int .i64 c4]) ∧
    Two 19 #[.agg #[.string s, .string t], .agg #[.string u, .string v]] (.int .i64 k) ∧
    Two 20 #[.agg #[.string s, .string t], .agg #[.string u, .string v]] (.int .i64 k) := by
  obtain ⟨n1, d1, c1, h1⟩ := mr_form (sumR opAdd s t u v)
  obtain ⟨n2, d2, c2, h2⟩ := mr_form (sumR opSub s t u v)
  obtain ⟨n3, d3, c3, h3⟩ := mr_form (mulR s t u v)
  obtain ⟨n4, d4, c4, h4⟩ := mr_form (divR s t u v)
  obtain ⟨k, hk, hk2⟩ := pair_Cmp s t u v hs ht hu hv
  exact ⟨n1, d1, n2, d2, n3, d3, n4, d4, c1, c2, c3, c4, k, fun W => four_any s t u v hs ht hu hv n1 d1 n2 d2 n3 d3 n4 d4 c1 c2 c3 c4 h1 h2 h3 h4 W,
    fun W => h1 ▸ AddR_all s t u v hs ht hu hv W, fun W => h2 ▸ SubR_all s t u v hs ht hu hv W, fun W => h3 ▸ MulR_all s t u v hs ht hu hv W, fun W => h4 ▸ DivR_all s t u v hs ht hu hv W, hk, hk2⟩
theorem mr_grid (s t : ByteArray) (hs : s.size ≤ 1000000) (ht : t.size ≤ 1000000) (p : Int) : ∃ (n1 d1 n2 d2 : ByteArray) (c1 c2 : Int),
    Two 22 #[.agg #[.string s, .string t], .int .i64 p] (.tuple #[.agg #[.string n1, .string d1], .int .i64 c1]) ∧
    Two 23 #[.agg #[.string s, .string t], .int .i64 p] (.tuple #[.agg #[.string n1, .string d1], .int .i64 c1]) ∧
    Two 24 #[.agg #[.string s, .string t], .int .i64 p] (.tuple #[.agg #[.string n2, .string d2], .int .i64 c2]) ∧
    Two 25 #[.agg #[.string s, .string t], .int .i64 p] (.tuple #[.agg #[.string n2, .string d2], .int .i64 c2]) := by
  obtain ⟨n1, d1, c1, h1⟩ := mr_form (downR s t p)
  obtain ⟨n2, d2, c2, h2⟩ := mr_form (upR s t p)
  exact ⟨n1, d1, n2, d2, c1, c2, fun W => h1 ▸ Down_all s t hs ht p W, fun W => h1 ▸ DownR_all s t hs ht p W, fun W => h2 ▸ Up_all s t hs ht p W, fun W => h2 ▸ UpR_all s t hs ht p W⟩
theorem mr_make (s t v : ByteArray) (hs : s.size ≤ 1000000) (ht : t.size ≤ 1000000) (hv : v.size ≤ 1000000) : ∃ (n d : ByteArray) (c : Int) (b : Bool),
    Two 26 #[.string s, .string v] (.tuple #[.agg #[.string n, .string d], .int .i64 c]) ∧ Two 27 #[.string s, .string v] (.tuple #[.agg #[.string n, .string d], .int .i64 c]) ∧
    Two 28 #[.agg #[.string s, .string t]] (.bool b) ∧ Two 29 #[.agg #[.string s, .string t]] (.bool b) := by
  obtain ⟨n, d, c, h⟩ := mr_form (redR s v)
  exact ⟨n, d, c, _, fun W => h ▸ Make_all s v hs hv W, fun W => h ▸ MakeR_all s v hs hv W, fun W => Valid_all s t hs ht W, fun W => ValidR_all s t hs ht W⟩
theorem mr_of (n d : Int) (hn : -9223372036854775808 ≤ n ∧ n ≤ 9223372036854775807) (hd : -9223372036854775808 ≤ d ∧ d ≤ 9223372036854775807) : ∃ (s t : ByteArray) (c : Int),
    Two 30 #[.int .i64 n, .int .i64 d] (.tuple #[.agg #[.string s, .string t], .int .i64 c]) ∧ Two 31 #[.int .i64 n, .int .i64 d] (.tuple #[.agg #[.string s, .string t], .int .i64 c]) := by
  obtain ⟨s, t, c, h⟩ := mr_form (redR (txt n) (txt d))
  exact ⟨s, t, c, fun W => h ▸ Of_all n d hn.1 hn.2 hd.1 hd.2 W, fun W => h ▸ OfR_all n d hn.1 hn.2 hd.1 hd.2 W⟩

/-- the boxes of the arguments: two fractions, two of four numbers, one of two -/
structure Ar (b : Nat) (W : World) (x y l m s : Nat → Value) : Prop where
  fx : Cs b 2 W x
  fy : Cs (b + 1) 2 W y
  fl : Cs (b + 1 + 1) 4 W l
  fm : Cs (b + 1 + 1 + 1) 4 W m
  fs : Cs (b + 1 + 1 + 1 + 1) 2 W s
theorem Ar.keep {b : Nat} {W W' : World} {x y l m s : Nat → Value} (h : Ar b W x y l m s) (hB : Below W.heap.size W W') : Ar b W' x y l m s :=
  ⟨h.fx.keep hB (by decide), h.fy.keep hB (by decide), h.fl.keep hB (by decide), h.fm.keep hB (by decide), h.fs.keep hB (by decide)⟩
theorem Ar.setX {b : Nat} {W : World} {x y l m s : Nat → Value} (h : Ar b W x y l m s) (i : Nat) (z : Value) (hi : i < 2) : Ar b (W.setCell ⟨b, i, none⟩ z) (updV x i z) y l m s :=
  ⟨h.fx.set i z hi, h.fy.off _ _ (by show b ≠ _; omega), h.fl.off _ _ (by show b ≠ _; omega), h.fm.off _ _ (by show b ≠ _; omega), h.fs.off _ _ (by show b ≠ _; omega)⟩
theorem Ar.setY {b : Nat} {W : World} {x y l m s : Nat → Value} (h : Ar b W x y l m s) (i : Nat) (z : Value) (hi : i < 2) : Ar b (W.setCell ⟨b + 1, i, none⟩ z) x (updV y i z) l m s :=
  ⟨h.fx.off _ _ (by show b + 1 ≠ _; omega), h.fy.set i z hi, h.fl.off _ _ (by show b + 1 ≠ _; omega), h.fm.off _ _ (by show b + 1 ≠ _; omega), h.fs.off _ _ (by show b + 1 ≠ _; omega)⟩
def at4 (a b c d : Value) (i : Nat) : Value := if i = 0 then a else if i = 1 then b else if i = 2 then c else d
theorem at4_get (a b c d : Value) : ∀ i, i < 4 → (#[a, b, c, d] : Array Value)[i]? = some (at4 a b c d i) := fun i hi => match i, hi with | 0, _ => rfl | 1, _ => rfl | 2, _ => rfl | 3, _ => rfl
theorem at2_get (a b : Value) : ∀ i, i < 2 → (#[a, b] : Array Value)[i]? = some (if i = 0 then a else b) := fun i hi => match i, hi with | 0, _ => rfl | 1, _ => rfl
theorem Ar.new (w : World) (x0 x1 y0 y1 l0 l1 l2 l3 m0 m1 m2 m3 s0 s1 : Value) (T1 T2 T3 : TypeId) :
    Ar w.heap.size (((((w.alloc (.cells #[x0, x1] T1)).alloc (.cells #[y0, y1] T1)).alloc (.cells #[l0, l1, l2, l3] T2)).alloc (.cells #[m0, m1, m2, m3] T2)).alloc (.cells #[s0, s1] T3))
      (fun i => if i = 0 then x0 else x1) (fun i => if i = 0 then y0 else y1) (at4 l0 l1 l2 l3) (at4 m0 m1 m2 m3) (fun i => if i = 0 then s0 else s1) := by
  have e : ∀ (W : World) (o : Obj), (W.alloc o).heap.size = W.heap.size + 1 := fun W o => by simp
  refine ⟨?_, ?_, ?_, ?_, ?_⟩
  · exact ((((Cs.new w _ T1 2 _ (at2_get x0 x1)).alloc (by decide) _).alloc (by decide) _).alloc (by decide) _).alloc (by decide) _
  · have := Cs.new (w.alloc (.cells #[x0, x1] T1)) _ T1 2 _ (at2_get y0 y1)
    rw [e] at this
    exact ((this.alloc (by decide) _).alloc (by decide) _).alloc (by decide) _
  · have := Cs.new ((w.alloc (.cells #[x0, x1] T1)).alloc (.cells #[y0, y1] T1)) _ T2 4 _ (at4_get l0 l1 l2 l3)
    rw [e, e] at this
    exact (this.alloc (by decide) _).alloc (by decide) _
  · have := Cs.new (((w.alloc (.cells #[x0, x1] T1)).alloc (.cells #[y0, y1] T1)).alloc (.cells #[l0, l1, l2, l3] T2)) _ T2 4 _ (at4_get m0 m1 m2 m3)
    rw [e, e, e] at this
    exact this.alloc (by decide) _
  · have := Cs.new ((((w.alloc (.cells #[x0, x1] T1)).alloc (.cells #[y0, y1] T1)).alloc (.cells #[l0, l1, l2, l3] T2)).alloc (.cells #[m0, m1, m2, m3] T2)) _ T3 2 _ (at2_get s0 s1)
    rw [e, e, e, e] at this
    exact this
def at10 (a0 a1 a2 a3 a4 a5 a6 a7 a8 a9 : ByteArray) : Nat → ByteArray
  | 0 => a0 | 1 => a1 | 2 => a2 | 3 => a3 | 4 => a4 | 5 => a5 | 6 => a6 | 7 => a7 | 8 => a8 | _ => a9
theorem at10_get (a0 a1 a2 a3 a4 a5 a6 a7 a8 a9 : ByteArray) : ∀ i, i < 10 → (#[.string a0, .string a1, .string a2, .string a3, .string a4, .string a5, .string a6, .string a7, .string a8, .string a9] : Array Value)[i]? = some (.string (at10 a0 a1 a2 a3 a4 a5 a6 a7 a8 a9 i)) := fun i hi =>
  match i, hi with | 0, _ => rfl | 1, _ => rfl | 2, _ => rfl | 3, _ => rfl | 4, _ => rfl | 5, _ => rfl | 6, _ => rfl | 7, _ => rfl | 8, _ => rfl | 9, _ => rfl
theorem at10_size {a0 a1 a2 a3 a4 a5 a6 a7 a8 a9 : ByteArray} (h0 : a0.size ≤ 1000000) (h1 : a1.size ≤ 1000000) (h2 : a2.size ≤ 1000000) (h3 : a3.size ≤ 1000000) (h4 : a4.size ≤ 1000000) (h5 : a5.size ≤ 1000000) (h6 : a6.size ≤ 1000000) (h7 : a7.size ≤ 1000000) (h8 : a8.size ≤ 1000000) (h9 : a9.size ≤ 1000000) : ∀ i, (at10 a0 a1 a2 a3 a4 a5 a6 a7 a8 a9 i).size ≤ 1000000 := fun i =>
  match i with | 0 => h0 | 1 => h1 | 2 => h2 | 3 => h3 | 4 => h4 | 5 => h5 | 6 => h6 | 7 => h7 | 8 => h8 | _ + 9 => h9
def at8 (a b c d e f g h : Value) (i : Nat) : Value := if i = 0 then a else if i = 1 then b else if i = 2 then c else if i = 3 then d else if i = 4 then e else if i = 5 then f else if i = 6 then g else h
theorem at8_get (a b c d e f g h : Value) : ∀ i, i < 8 → (#[a, b, c, d, e, f, g, h] : Array Value)[i]? = some (at8 a b c d e f g h i) := fun i hi => match i, hi with | 0, _ => rfl | 1, _ => rfl | 2, _ => rfl | 3, _ => rfl | 4, _ => rfl | 5, _ => rfl | 6, _ => rfl | 7, _ => rfl
theorem arr_new (w : World) (a b c d e f g h c1 c2 c3 c4 z y : Value) (T1 T2 : TypeId) :
    Cs w.heap.size 8 ((((w.alloc (.cells #[a, b, c, d, e, f, g, h] T1)).alloc (.cells #[c1, c2, c3, c4] T2)).alloc (.cells #[z, z, z, z, z, z, z, z] T1)).alloc (.cells #[y, y, y, y] T2)) (at8 a b c d e f g h) ∧
    Cs (w.heap.size + 1) 4 ((((w.alloc (.cells #[a, b, c, d, e, f, g, h] T1)).alloc (.cells #[c1, c2, c3, c4] T2)).alloc (.cells #[z, z, z, z, z, z, z, z] T1)).alloc (.cells #[y, y, y, y] T2)) (at4 c1 c2 c3 c4) ∧
    Cs (w.heap.size + 1 + 1) 8 ((((w.alloc (.cells #[a, b, c, d, e, f, g, h] T1)).alloc (.cells #[c1, c2, c3, c4] T2)).alloc (.cells #[z, z, z, z, z, z, z, z] T1)).alloc (.cells #[y, y, y, y] T2)) (at8 z z z z z z z z) ∧
    Cs (w.heap.size + 1 + 1 + 1) 4 ((((w.alloc (.cells #[a, b, c, d, e, f, g, h] T1)).alloc (.cells #[c1, c2, c3, c4] T2)).alloc (.cells #[z, z, z, z, z, z, z, z] T1)).alloc (.cells #[y, y, y, y] T2)) (at4 y y y y) := by
  have s : ∀ (W : World) (o : Obj), (W.alloc o).heap.size = W.heap.size + 1 := fun W o => by simp
  refine ⟨?_, ?_, ?_, ?_⟩
  · exact (((Cs.new w _ T1 8 _ (at8_get a b c d e f g h)).alloc (by decide) _).alloc (by decide) _).alloc (by decide) _
  · have := Cs.new (w.alloc (.cells #[a, b, c, d, e, f, g, h] T1)) _ T2 4 _ (at4_get c1 c2 c3 c4)
    rw [s] at this
    exact (this.alloc (by decide) _).alloc (by decide) _
  · have := Cs.new ((w.alloc (.cells #[a, b, c, d, e, f, g, h] T1)).alloc (.cells #[c1, c2, c3, c4] T2)) _ T1 8 _ (at8_get z z z z z z z z)
    rw [s, s] at this
    exact this.alloc (by decide) _
  · have := Cs.new (((w.alloc (.cells #[a, b, c, d, e, f, g, h] T1)).alloc (.cells #[c1, c2, c3, c4] T2)).alloc (.cells #[z, z, z, z, z, z, z, z] T1)) _ T2 4 _ (at4_get y y y y)
    rw [s, s, s] at this
    exact this
theorem two_new (w : World) (a b c d : Value) (T : TypeId) :
    Cs w.heap.size 2 ((w.alloc (.cells #[a, b] T)).alloc (.cells #[c, d] T)) (fun i => if i = 0 then a else b) ∧ Cs (w.heap.size + 1) 2 ((w.alloc (.cells #[a, b] T)).alloc (.cells #[c, d] T)) (fun i => if i = 0 then c else d) := by
  refine ⟨(Cs.new w _ T 2 _ (at2_get a b)).alloc (by decide) _, ?_⟩
  have := Cs.new (w.alloc (.cells #[a, b] T)) _ T 2 _ (at2_get c d)
  rw [World.size_alloc] at this
  exact this
theorem eq_arrR (a b c d e f g h : ByteArray) (W : World) : (Op.equalIn 10000 31 (.agg #[.string a, .string b, .string c, .string d, .string e, .string f, .string g, .string h]) (.agg #[.string a, .string b, .string c, .string d, .string e, .string f, .string g, .string h])).run Tryz.prog W = .ok true W := by
  obtain ⟨i, hi⟩ := Option.isSome_iff_exists.1 (show (Tryz.prog.info? 23).isSome = true by kernel_rfl)
  have hc : Tryz.prog.cellsOf 23 = 2 := by kernel_rfl
  rw [run_equalIn_array W 9999 _ _ Tryz.underlying31 hi, hc, show List.range 4 = [0, 1, 2, 3] from rfl]
  simp [Op.eqItems, go_sem]
theorem eq_arrE (a b c d : Int) (W : World) : (Op.equalIn 10000 33 (.agg #[.int .i64 a, .int .i64 b, .int .i64 c, .int .i64 d]) (.agg #[.int .i64 a, .int .i64 b, .int .i64 c, .int .i64 d])).run Tryz.prog W = .ok true W := by
  obtain ⟨i, hi⟩ := Option.isSome_iff_exists.1 (show (Tryz.prog.info? 32).isSome = true by kernel_rfl)
  have hc : Tryz.prog.cellsOf 32 = 1 := by kernel_rfl
  rw [run_equalIn_array W 9999 _ _ Tryz.underlying33 hi, hc, show List.range 4 = [0, 1, 2, 3] from rfl]
  simp [Op.eqItems, go_sem]
theorem atI_get (p c : Int) : ∀ i, i < 2 → (#[.int .i64 p, .int .i64 c] : Array Value)[i]? = some (.int .i64 ((fun i : Nat => if i = 0 then p else c) i)) := fun i hi => match i, hi with | 0, _ => rfl | 1, _ => rfl
theorem Cs.ext {k n : Nat} {W : World} {x y : Nat → Value} (h : Cs k n W x) (e : ∀ i, i < n → x i = y i) : Cs k n W y := ⟨fun i hi => by rw [← e i hi]; exact h.cell i hi, h.free⟩
theorem two_set (a b c d : Value) : ∀ i, i < 2 → updV (updV (fun i => if i = 0 then a else b) 0 c) 1 d i = if i = 0 then c else d := fun i hi => match i, hi with | 0, _ => rfl | 1, _ => rfl
end Rt
end Go.Proofs.YtappobhpdpfojaaGreat
namespace Go.Proofs.YtappobhpdpfojaaGreat
set_option maxRecDepth 1000000
namespace Rt
open Go.RowKit Go.Proofs.YtappobhpdpfojaaGreat.Nm
open N10 (Two)

set_option maxHeartbeats 8000000 in
theorem mr_walk (xn xd yn yd : ByteArray) (l0 l1 l2 l3 m0 m1 m2 m3 s0 s1 n d p : Int) (hl0 : -9223372036854775808 ≤ l0 ∧ l0 ≤ 9223372036854775807) (hl1 : -9223372036854775808 ≤ l1 ∧ l1 ≤ 9223372036854775807) (hl2 : -9223372036854775808 ≤ l2 ∧ l2 ≤ 9223372036854775807) (hl3 : -9223372036854775808 ≤ l3 ∧ l3 ≤ 9223372036854775807) (hm0 : -9223372036854775808 ≤ m0 ∧ m0 ≤ 9223372036854775807) (hm1 : -9223372036854775808 ≤ m1 ∧ m1 ≤ 9223372036854775807) (hm2 : -9223372036854775808 ≤ m2 ∧ m2 ≤ 9223372036854775807) (hm3 : -9223372036854775808 ≤ m3 ∧ m3 ≤ 9223372036854775807) (hs0 : -9223372036854775808 ≤ s0 ∧ s0 ≤ 9223372036854775807) (hs1 : -9223372036854775808 ≤ s1 ∧ s1 ≤ 9223372036854775807) (hn : -9223372036854775808 ≤ n ∧ n ≤ 9223372036854775807) (hd : -9223372036854775808 ≤ d ∧ d ≤ 9223372036854775807) (hp : -9223372036854775808 ≤ p ∧ p ≤ 9223372036854775807) (w : World)
    (hS : ∀ W : World, Calls Tryz.prog 10 #[] W fun e w' => e = .returned (.bool true) ∧ Below W.heap.size W w') :
    Calls Tryz.prog 3 #[.agg #[.string xn, .string xd], .agg #[.string yn, .string yd], .agg #[.int .i64 l0, .int .i64 l1, .int .i64 l2, .int .i64 l3], .agg #[.int .i64 m0, .int .i64 m1, .int .i64 m2, .int .i64 m3], .agg #[.int .i64 s0, .int .i64 s1], .int .i64 n, .int .i64 d, .int .i64 p] w fun e w' => e = .returned (.bool true) ∧ Below w.heap.size w w' := by
  have CL : Shut _ := ⟨fun W => Long_any l0 l1 l2 l3 hl0 hl1 hl2 hl3 W⟩
  have CM : Shut _ := ⟨fun W => Long_any m0 m1 m2 m3 hm0 hm1 hm2 hm3 W⟩
  have CS : Shut _ := ⟨fun W => Small_any s0 s1 hs0 hs1 W⟩
  have CX : Shut _ := ⟨fun W => cut_any xn xd W⟩
  have CY : Shut _ := ⟨fun W => cut_any yn yd W⟩
  have CP : Shut _ := ⟨fun W => pickL_any p 32 hp.1 hp.2 (by decide) (by decide) W⟩
  have COf : Shut _ := ⟨mr_of n d hn hd⟩
  have x1 : (xn.extract 0 (min xn.size 210)).size ≤ 1000000 := by rw [ByteArray.size_extract]; omega
  have x2 : (xd.extract 0 (min xd.size 210)).size ≤ 1000000 := by rw [ByteArray.size_extract]; omega
  have y1 : (yn.extract 0 (min yn.size 210)).size ≤ 1000000 := by rw [ByteArray.size_extract]; omega
  have y2 : (yd.extract 0 (min yd.size 210)).size ≤ 1000000 := by rw [ByteArray.size_extract]; omega
  generalize xn.extract 0 (min xn.size 210) = zn at *
  generalize xd.extract 0 (min xd.size 210) = zd at *
  generalize yn.extract 0 (min yn.size 210) = un at *
  generalize yd.extract 0 (min yd.size 210) = ud at *
  have X1 : Shut _ := ⟨x1⟩
  have X2 : Shut _ := ⟨x2⟩
  have Y1 : Shut _ := ⟨y1⟩
  have Y2 : Shut _ := ⟨y2⟩
  clear x1 x2 y1 y2 hl0 hl1 hl2 hl3 hm0 hm1 hm2 hm3 hs0 hs1 hn hd hp
  go_enter Tryz.func3, Tryz.ntmps3
  have hA := Ar.new w (.string xn) (.string xd) (.string yn) (.string yd) (.int .i64 l0) (.int .i64 l1) (.int .i64 l2) (.int .i64 l3) (.int .i64 m0) (.int .i64 m1) (.int .i64 m2) (.int .i64 m3) (.int .i64 s0) (.int .i64 s1) 23 24 25
  have u := ((((((Below.refl w.heap.size w).alloc (by simp) (.cells #[.string xn, .string xd] 23)).alloc (by simp) (.cells #[.string yn, .string yd] 23)).alloc (by simp; omega) (.cells #[.int .i64 l0, .int .i64 l1, .int .i64 l2, .int .i64 l3] 24)).alloc (by simp; omega) (.cells #[.int .i64 m0, .int .i64 m1, .int .i64 m2, .int .i64 m3] 24)).alloc (by simp; omega) (.cells #[.int .i64 s0, .int .i64 s1] 25))
  go_wp2_with fail
  generalize ((((w.alloc (.cells #[.string xn, .string xd] 23)).alloc (.cells #[.string yn, .string yd] 23)).alloc (.cells #[.int .i64 l0, .int .i64 l1, .int .i64 l2, .int .i64 l3] 24)).alloc (.cells #[.int .i64 m0, .int .i64 m1, .int .i64 m2, .int .i64 m3] 24)).alloc (.cells #[.int .i64 s0, .int .i64 s1] 25) = W0 at *
  refine (hS _).mono ?_
  rintro e w1 ⟨rfl, g⟩
  replace hA := hA.keep g
  replace u := u.trans (g.mono u.size)
  clear g hS
  obtain ⟨b, hb⟩ : ∃ b, b = w.heap.size := ⟨_, rfl⟩
  rw [← hb] at hA u
  try rw [← hb]
  have HB : Shut (b = w.heap.size) := ⟨hb⟩
  clear hb
  have c0 : w1.cell? ⟨b, 0, none⟩ = some (.string xn) := hA.fx.cell 0 (by decide)
  have c1 : w1.cell? ⟨b, 1, none⟩ = some (.string xd) := hA.fx.cell 1 (by decide)
  go_wp2_with fail
  refine (CX.o _).mono ?_
  rintro e w2 ⟨rfl, g⟩
  replace hA := hA.keep g
  replace u := u.trans (g.mono (HB.o ▸ u.size))
  clear g CX c0 c1
  have c0 : w2.cell? ⟨b, 0, none⟩ = some (.string xn) := hA.fx.cell 0 (by decide)
  have c1 : w2.cell? ⟨b, 1, none⟩ = some (.string xd) := hA.fx.cell 1 (by decide)
  have f0 := hA.fx.free 0 (by decide)
  have f1 := hA.fx.free 1 (by decide)
  have c2 : w2.cell? ⟨b + 1, 0, none⟩ = some (.string yn) := hA.fy.cell 0 (by decide)
  have c3 : w2.cell? ⟨b + 1, 1, none⟩ = some (.string yd) := hA.fy.cell 1 (by decide)
  replace hA := (hA.setX 0 (.string zn) (by decide)).setX 1 (.string zd) (by decide)
  replace u := (u.setCell (show b ≤ (⟨b, 0, none⟩ : Addr).block from Nat.le_refl _) (.string zn)).setCell (show b ≤ (⟨b, 1, none⟩ : Addr).block from Nat.le_refl _) (.string zd)
  go_wp2_with fail
  generalize ((w2.setCell ⟨b, 0, none⟩ (.string zn)).setCell ⟨b, 1, none⟩ (.string zd)) = W2 at *
  refine (CY.o _).mono ?_
  rintro e w3 ⟨rfl, g⟩
  replace hA := hA.keep g
  replace u := u.trans (g.mono (HB.o ▸ u.size))
  clear g CY c0 c1 c2 c3 f0 f1
  have c0 : w3.cell? ⟨b + 1, 0, none⟩ = some (.string yn) := hA.fy.cell 0 (by decide)
  have c1 : w3.cell? ⟨b + 1, 1, none⟩ = some (.string yd) := hA.fy.cell 1 (by decide)
  have f0 := hA.fy.free 0 (by decide)
  have f1 := hA.fy.free 1 (by decide)
  replace hA := (hA.setY 0 (.string un) (by decide)).setY 1 (.string ud) (by decide)
  replace u := (u.setCell (show b ≤ (⟨b + 1, 0, none⟩ : Addr).block from Nat.le_succ b) (.string un)).setCell (show b ≤ (⟨b + 1, 1, none⟩ : Addr).block from Nat.le_succ b) (.string ud)
  go_wp2_with fail
  generalize ((w3.setCell ⟨b + 1, 0, none⟩ (.string un)).setCell ⟨b + 1, 1, none⟩ (.string ud)) = W4 at *
  clear c0 c1 f0 f1
  have k0 : W4.cell? ⟨b, 0, none⟩ = some (.string zn) := hA.fx.cell 0 (by decide)
  have k1 : W4.cell? ⟨b, 1, none⟩ = some (.string zd) := hA.fx.cell 1 (by decide)
  have k2 : W4.cell? ⟨b + 1, 0, none⟩ = some (.string un) := hA.fy.cell 0 (by decide)
  have k3 : W4.cell? ⟨b + 1, 1, none⟩ = some (.string ud) := hA.fy.cell 1 (by decide)
  have k4 : W4.cell? ⟨b + 1 + 1, 0, none⟩ = some (.int .i64 l0) := hA.fl.cell 0 (by decide)
  have k5 : W4.cell? ⟨b + 1 + 1, 1, none⟩ = some (.int .i64 l1) := hA.fl.cell 1 (by decide)
  have k6 : W4.cell? ⟨b + 1 + 1, 2, none⟩ = some (.int .i64 l2) := hA.fl.cell 2 (by decide)
  have k7 : W4.cell? ⟨b + 1 + 1, 3, none⟩ = some (.int .i64 l3) := hA.fl.cell 3 (by decide)
  have k8 : W4.cell? ⟨b + 1 + 1 + 1, 0, none⟩ = some (.int .i64 m0) := hA.fm.cell 0 (by decide)
  have k9 : W4.cell? ⟨b + 1 + 1 + 1, 1, none⟩ = some (.int .i64 m1) := hA.fm.cell 1 (by decide)
  have k10 : W4.cell? ⟨b + 1 + 1 + 1, 2, none⟩ = some (.int .i64 m2) := hA.fm.cell 2 (by decide)
  have k11 : W4.cell? ⟨b + 1 + 1 + 1, 3, none⟩ = some (.int .i64 m3) := hA.fm.cell 3 (by decide)
  have k12 : W4.cell? ⟨b + 1 + 1 + 1 + 1, 0, none⟩ = some (.int .i64 s0) := hA.fs.cell 0 (by decide)
  have k13 : W4.cell? ⟨b + 1 + 1 + 1 + 1, 1, none⟩ = some (.int .i64 s1) := hA.fs.cell 1 (by decide)
  go_region_held3 (fun X => X.cell? ⟨b, 0, none⟩ = some (.string zn) ∧ X.cell? ⟨b, 1, none⟩ = some (.string zd) ∧ X.cell? ⟨b + 1, 0, none⟩ = some (.string un) ∧ X.cell? ⟨b + 1, 1, none⟩ = some (.string ud) ∧ X.cell? ⟨b + 1 + 1, 0, none⟩ = some (.int .i64 l0) ∧ X.cell? ⟨b + 1 + 1, 1, none⟩ = some (.int .i64 l1) ∧ X.cell? ⟨b + 1 + 1, 2, none⟩ = some (.int .i64 l2) ∧ X.cell? ⟨b + 1 + 1, 3, none⟩ = some (.int .i64 l3) ∧ X.cell? ⟨b + 1 + 1 + 1, 0, none⟩ = some (.int .i64 m0) ∧ X.cell? ⟨b + 1 + 1 + 1, 1, none⟩ = some (.int .i64 m1) ∧ X.cell? ⟨b + 1 + 1 + 1, 2, none⟩ = some (.int .i64 m2) ∧ X.cell? ⟨b + 1 + 1 + 1, 3, none⟩ = some (.int .i64 m3) ∧ X.cell? ⟨b + 1 + 1 + 1 + 1, 0, none⟩ = some (.int .i64 s0) ∧ X.cell? ⟨b + 1 + 1 + 1 + 1, 1, none⟩ = some (.int .i64 s1)) (go_keep) (first | (go_at_call 13; (with_reducible refine (CS.o _).mono ?_); rintro e v3 ⟨q3, Q3, rfl, g⟩; have g : Below v2.heap.size v2 v3 := g; replace hA := Ar.keep hA g; replace u := u.trans (g.mono (HB.o ▸ u.size)); have k0 : v3.cell? ⟨b, 0, none⟩ = some (.string zn) := hA.fx.cell 0 (by decide); have k1 : v3.cell? ⟨b, 1, none⟩ = some (.string zd) := hA.fx.cell 1 (by decide); have k2 : v3.cell? ⟨b + 1, 0, none⟩ = some (.string un) := hA.fy.cell 0 (by decide); have k3 : v3.cell? ⟨b + 1, 1, none⟩ = some (.string ud) := hA.fy.cell 1 (by decide); have k4 : v3.cell? ⟨b + 1 + 1, 0, none⟩ = some (.int .i64 l0) := hA.fl.cell 0 (by decide); have k5 : v3.cell? ⟨b + 1 + 1, 1, none⟩ = some (.int .i64 l1) := hA.fl.cell 1 (by decide); have k6 : v3.cell? ⟨b + 1 + 1, 2, none⟩ = some (.int .i64 l2) := hA.fl.cell 2 (by decide); have k7 : v3.cell? ⟨b + 1 + 1, 3, none⟩ = some (.int .i64 l3) := hA.fl.cell 3 (by decide); have k8 : v3.cell? ⟨b + 1 + 1 + 1, 0, none⟩ = some (.int .i64 m0) := hA.fm.cell 0 (by decide); have k9 : v3.cell? ⟨b + 1 + 1 + 1, 1, none⟩ = some (.int .i64 m1) := hA.fm.cell 1 (by decide); have k10 : v3.cell? ⟨b + 1 + 1 + 1, 2, none⟩ = some (.int .i64 m2) := hA.fm.cell 2 (by decide); have k11 : v3.cell? ⟨b + 1 + 1 + 1, 3, none⟩ = some (.int .i64 m3) := hA.fm.cell 3 (by decide); have k12 : v3.cell? ⟨b + 1 + 1 + 1 + 1, 0, none⟩ = some (.int .i64 s0) := hA.fs.cell 0 (by decide); have k13 : v3.cell? ⟨b + 1 + 1 + 1 + 1, 1, none⟩ = some (.int .i64 s1) := hA.fs.cell 1 (by decide); clear g; obtain ⟨a3, ha⟩ : ∃ a, a = txt q3.num := ⟨_, rfl⟩; obtain ⟨e3, he⟩ : ∃ a, a = txt (q3.den : Int) := ⟨_, rfl⟩; have A3 : Shut (a3.size ≤ 1000000 ∧ e3.size ≤ 1000000) := ⟨by rw [ha, he]; exact Q3.fit.size⟩; rw [show rq q3 = .agg #[.string a3, .string e3] by rw [ha, he]; rfl]; clear ha he Q3) | (go_at_call 12; (with_reducible refine (CM.o _).mono ?_); rintro e v2 ⟨q2, Q2, rfl, g⟩; have g : Below v1.heap.size v1 v2 := g; replace hA := Ar.keep hA g; replace u := u.trans (g.mono (HB.o ▸ u.size)); have k0 : v2.cell? ⟨b, 0, none⟩ = some (.string zn) := hA.fx.cell 0 (by decide); have k1 : v2.cell? ⟨b, 1, none⟩ = some (.string zd) := hA.fx.cell 1 (by decide); have k2 : v2.cell? ⟨b + 1, 0, none⟩ = some (.string un) := hA.fy.cell 0 (by decide); have k3 : v2.cell? ⟨b + 1, 1, none⟩ = some (.string ud) := hA.fy.cell 1 (by decide); have k4 : v2.cell? ⟨b + 1 + 1, 0, none⟩ = some (.int .i64 l0) := hA.fl.cell 0 (by decide); have k5 : v2.cell? ⟨b + 1 + 1, 1, none⟩ = some (.int .i64 l1) := hA.fl.cell 1 (by decide); have k6 : v2.cell? ⟨b + 1 + 1, 2, none⟩ = some (.int .i64 l2) := hA.fl.cell 2 (by decide); have k7 : v2.cell? ⟨b + 1 + 1, 3, none⟩ = some (.int .i64 l3) := hA.fl.cell 3 (by decide); have k8 : v2.cell? ⟨b + 1 + 1 + 1, 0, none⟩ = some (.int .i64 m0) := hA.fm.cell 0 (by decide); have k9 : v2.cell? ⟨b + 1 + 1 + 1, 1, none⟩ = some (.int .i64 m1) := hA.fm.cell 1 (by decide); have k10 : v2.cell? ⟨b + 1 + 1 + 1, 2, none⟩ = some (.int .i64 m2) := hA.fm.cell 2 (by decide); have k11 : v2.cell? ⟨b + 1 + 1 + 1, 3, none⟩ = some (.int .i64 m3) := hA.fm.cell 3 (by decide); have k12 : v2.cell? ⟨b + 1 + 1 + 1 + 1, 0, none⟩ = some (.int .i64 s0) := hA.fs.cell 0 (by decide); have k13 : v2.cell? ⟨b + 1 + 1 + 1 + 1, 1, none⟩ = some (.int .i64 s1) := hA.fs.cell 1 (by decide); clear g; obtain ⟨a2, ha⟩ : ∃ a, a = txt q2.num := ⟨_, rfl⟩; obtain ⟨e2, he⟩ : ∃ a, a = txt (q2.den : Int) := ⟨_, rfl⟩; have A2 : Shut (a2.size ≤ 1000000 ∧ e2.size ≤ 1000000) := ⟨by rw [ha, he]; exact Q2.fit.size⟩; rw [show rq q2 = .agg #[.string a2, .string e2] by rw [ha, he]; rfl]; clear ha he Q2) | (go_at_call 12; (with_reducible refine (CL.o _).mono ?_); rintro e v1 ⟨q1, Q1, rfl, g⟩; have g : Below W4.heap.size W4 v1 := lundrew g; replace hA := Ar.keep hA g; replace u := u.trans (g.mono (HB.o ▸ u.size)); have k0 : v1.cell? ⟨b, 0, none⟩ = some (.string zn) := hA.fx.cell 0 (by decide); have k1 : v1.cell? ⟨b, 1, none⟩ = some (.string zd) := hA.fx.cell 1 (by decide); have k2 : v1.cell? ⟨b + 1, 0, none⟩ = some (.string un) := hA.fy.cell 0 (by decide); have k3 : v1.cell? ⟨b + 1, 1, none⟩ = some (.string ud) := hA.fy.cell 1 (by decide); have k4 : v1.cell? ⟨b + 1 + 1, 0, none⟩ = some (.int .i64 l0) := hA.fl.cell 0 (by decide); have k5 : v1.cell? ⟨b + 1 + 1, 1, none⟩ = some (.int .i64 l1) := hA.fl.cell 1 (by decide); have k6 : v1.cell? ⟨b + 1 + 1, 2, none⟩ = some (.int .i64 l2) := hA.fl.cell 2 (by decide); have k7 : v1.cell? ⟨b + 1 + 1, 3, none⟩ = some (.int .i64 l3) := hA.fl.cell 3 (by decide); have k8 : v1.cell? ⟨b + 1 + 1 + 1, 0, none⟩ = some (.int .i64 m0) := hA.fm.cell 0 (by decide); have k9 : v1.cell? ⟨b + 1 + 1 + 1, 1, none⟩ = some (.int .i64 m1) := hA.fm.cell 1 (by decide); have k10 : v1.cell? ⟨b + 1 + 1 + 1, 2, none⟩ = some (.int .i64 m2) := hA.fm.cell 2 (by decide); have k11 : v1.cell? ⟨b + 1 + 1 + 1, 3, none⟩ = some (.int .i64 m3) := hA.fm.cell 3 (by decide); have k12 : v1.cell? ⟨b + 1 + 1 + 1 + 1, 0, none⟩ = some (.int .i64 s0) := hA.fs.cell 0 (by decide); have k13 : v1.cell? ⟨b + 1 + 1 + 1 + 1, 1, none⟩ = some (.int .i64 s1) := hA.fs.cell 1 (by decide); clear g; obtain ⟨a1, ha⟩ : ∃ a, a = txt q1.num := ⟨_, rfl⟩; obtain ⟨e1, he⟩ : ∃ a, a = txt (q1.den : Int) := ⟨_, rfl⟩; have A1 : Shut (a1.size ≤ 1000000 ∧ e1.size ≤ 1000000) := ⟨by rw [ha, he]; exact Q1.fit.size⟩; rw [show rq q1 = .agg #[.string a1, .string e1] by rw [ha, he]; rfl]; clear ha he Q1))
  have hN := Cs.new v3 #[.string zn, .string zd, .string un, .string ud, .string a1, .string e1, .string a2, .string e2, .string a3, .string e3] 23 10 (fun i => .string (at10 zn zd un ud a1 e1 a2 e2 a3 e3 i)) (at10_get zn zd un ud a1 e1 a2 e2 a3 e3)
  replace u := u.alloc (HB.o ▸ u.size) (.cells #[.string zn, .string zd, .string un, .string ud, .string a1, .string e1, .string a2, .string e2, .string a3, .string e3] 23)
  have HF0 := at10_size X1.o X2.o Y1.o Y2.o A1.o.1 A1.o.2 A2.o.1 A2.o.2 A3.o.1 A3.o.2
  go_wp2_with fail
  generalize v3.alloc (.cells #[.string zn, .string zd, .string un, .string ud, .string a1, .string e1, .string a2, .string e2, .string a3, .string e3] 23) = W5 at *
  generalize v3.heap.size = bs at *
  generalize at10 zn zd un ud a1 e1 a2 e2 a3 e3 = G at *
  have HF : Shut _ := ⟨HF0⟩
  have NS : Shut _ := ⟨hN⟩
  have U5 : Shut _ := ⟨u⟩
  clear HF0 hN u hA k0 k1 k2 k3 k4 k5 k6 k7 k8 k9 k10 k11 k12 k13
  go_loopw [19] (fun iv wr => ∃ i : Nat, i ≤ 5 ∧ iv = .int .i64 (i : Int) ∧ Shut (Cs bs 10 wr (fun j => .string (G j)) ∧ Below b w wr)) (fun iv _ => 5 - (intOf iv).toNat)
  case atStart => exact ⟨0, by omega, rfl, ⟨NS.o, U5.o⟩⟩
  case round =>
    obtain ⟨i, hi, rfl, H⟩ := hrel
    clear NS U5
    by_cases hi5 : i = 5
    · subst hi5
      obtain ⟨hN, u⟩ := H.o
      clear H
      obtain ⟨s5, t5, c5, cO, cOR⟩ := COf.o
      go_wp2_with fail
      refine (cO.run _).mono ?_
      rintro e v1 ⟨rfl, g⟩
      replace u := u.trans (g.mono (HB.o ▸ u.size))
      clear g hN cO
      have hbb : b ≤ v1.heap.size := HB.o ▸ u.size
      have h_r := Cs.new v1 #[.string s5, .string t5] 23 2 _ (at2_get _ _)
      replace u := u.alloc hbb (.cells #[.string s5, .string t5] 23)
      go_wp2_with fail
      generalize v1.alloc (.cells #[.string s5, .string t5] 23) = V1 at *
      generalize v1.heap.size = q1 at *
      refine (cOR.run _).mono ?_
      rintro e v2 ⟨rfl, g⟩
      replace u := u.trans (g.mono (HB.o ▸ u.size))
      replace h_r := h_r.keep g (by decide)
      clear g hbb
      have hbb : b ≤ v2.heap.size := HB.o ▸ u.size
      have h_s := Cs.new v2 #[.string s5, .string t5] 23 2 _ (at2_get _ _)
      replace u := u.alloc hbb (.cells #[.string s5, .string t5] 23)
      replace h_r := h_r.alloc (by decide) (.cells #[.string s5, .string t5] 23)
      have c_r_0 : (v2.alloc (.cells #[.string s5, .string t5] 23)).cell? ⟨q1, 0, none⟩ = some (.string s5) := h_r.cell 0 (by decide)
      have c_r_1 : (v2.alloc (.cells #[.string s5, .string t5] 23)).cell? ⟨q1, 1, none⟩ = some (.string t5) := h_r.cell 1 (by decide)
      have c_s_0 : (v2.alloc (.cells #[.string s5, .string t5] 23)).cell? ⟨v2.heap.size, 0, none⟩ = some (.string s5) := h_s.cell 0 (by decide)
      have c_s_1 : (v2.alloc (.cells #[.string s5, .string t5] 23)).cell? ⟨v2.heap.size, 1, none⟩ = some (.string t5) := h_s.cell 1 (by decide)
      have e_s5 : (s5.toList == s5.toList) = true := beq_self_eq_true _
      have e_t5 : (t5.toList == t5.toList) = true := beq_self_eq_true _
      go_wp2_with fail
      rw [HB.o] at u
      refine bodyPost_ret (v := .bool true) (by simp [results, Tryz.results3, go_sem]) rfl ⟨rfl, u⟩
    · have hi6 : (i : Int) < 5 := by omega
      have hi7 : (0 : Int) ≤ (i : Int) := by omega
      go_wp2_with fail
      go_loopw [20] (fun kv wr2 => ∃ k : Nat, k ≤ 5 ∧ kv = .int .i64 (k : Int) ∧ Shut (Cs bs 10 wr2 (fun j => .string (G j)) ∧ Below b w wr2)) (fun kv _ => 5 - (intOf kv).toNat)
      case atStart => exact ⟨0, by omega, rfl, ⟨H.o.1, H.o.2⟩⟩
      case round =>
        obtain ⟨k, hk, rfl, H2⟩ := hrel
        clear H
        by_cases hk5 : k = 5
        · subst hk5
          obtain ⟨hN, u⟩ := H2.o
          clear H2
          go_wp2_with fail
          refine (CP.o _).mono ?_
          rintro e v1 ⟨c, -, rfl, rfl⟩
          have hbb : b ≤ v1.heap.size := HB.o ▸ u.size
          have h_N := hN.alloc (by decide) (.cells #[.int .i64 p, .int .i64 (c : Int)] 3)
          obtain ⟨P, hP⟩ : ∃ P : Nat → Int, P = fun i => if i = 0 then p else (c : Int) := ⟨_, rfl⟩
          have h_P : Cs v1.heap.size 2 (v1.alloc (.cells #[.int .i64 p, .int .i64 (c : Int)] 3)) (fun j => .int .i64 (P j)) := by rw [hP]; exact Cs.new v1 #[.int .i64 p, .int .i64 (c : Int)] 3 2 (fun i => .int .i64 ((fun i => if i = 0 then p else (c : Int)) i)) (atI_get p c)
          clear hP
          replace u := u.alloc hbb (.cells #[.int .i64 p, .int .i64 (c : Int)] 3)
          go_wp2_with fail
          generalize v1.alloc (.cells #[.int .i64 p, .int .i64 (c : Int)] 3) = W6 at *
          generalize v1.heap.size = bp at *
          have NS : Shut _ := ⟨h_N⟩
          have PS : Shut _ := ⟨h_P⟩
          have U6 : Shut _ := ⟨u⟩
          clear h_N h_P u hN hbb
          go_loopw [139] (fun jv wr => ∃ j : Nat, j ≤ 2 ∧ jv = .int .i64 (j : Int) ∧ Shut (Cs bs 10 wr (fun j => .string (G j)) ∧ Cs bp 2 wr (fun j => .int .i64 (P j)) ∧ Below b w wr)) (fun jv _ => 2 - (intOf jv).toNat)
          case atStart => exact ⟨0, by omega, rfl, ⟨NS.o, PS.o, U6.o⟩⟩
          case round =>
            obtain ⟨j, hj, rfl, H⟩ := hrel
            clear NS PS U6
            by_cases hj2 : j = 2
            · subst hj2
              obtain ⟨h_N, -, u⟩ := H.o
              clear H
              obtain ⟨mn, md, mc, mb, cM, cMR, cV, cVR⟩ := mr_make (G (i * 2)) (G (i * 2 + 1)) (G 1) (HF.o _) (HF.o _) (HF.o _)
              have y0 : wr.cell? ⟨bs, i * 2, none⟩ = some (.string (G (i * 2))) := h_N.cell (i * 2) (by omega)
              have y1 : wr.cell? ⟨bs, i * 2 + 1, none⟩ = some (.string (G (i * 2 + 1))) := h_N.cell (i * 2 + 1) (by omega)
              have y2 : wr.cell? ⟨bs, 1, none⟩ = some (.string (G 1)) := h_N.cell 1 (by decide)
              have hlt : bs < wr.heap.size := World.block_lt_of_cell? wr _ y0
              go_wp2_with fail
              have hbb : b ≤ wr.heap.size := HB.o ▸ u.size
              have k_N := h_N
              have k_u := u
              replace h_N := h_N.alloc (by decide) (.cells #[.string ⟨#[]⟩, .string ⟨#[]⟩] 23)
              have h_z1 := Cs.new wr #[.string ⟨#[]⟩, .string ⟨#[]⟩] 23 2 (fun i => if i = 0 then .string ⟨#[]⟩ else .string ⟨#[]⟩) (at2_get _ _)
              replace u := u.alloc hbb (.cells #[.string ⟨#[]⟩, .string ⟨#[]⟩] 23)
              have x0 : (wr.alloc (.cells #[.string ⟨#[]⟩, .string ⟨#[]⟩] 23)).cell? ⟨bs, i * 2, none⟩ = some (.string (G (i * 2))) := h_N.cell (i * 2) (by omega)
              have x1 : (wr.alloc (.cells #[.string ⟨#[]⟩, .string ⟨#[]⟩] 23)).cell? ⟨bs, i * 2 + 1, none⟩ = some (.string (G (i * 2 + 1))) := h_N.cell (i * 2 + 1) (by omega)
              have x2 : (wr.alloc (.cells #[.string ⟨#[]⟩, .string ⟨#[]⟩] 23)).cell? ⟨bs, 1, none⟩ = some (.string (G 1)) := h_N.cell 1 (by decide)
              have hneA : ¬ (bs = wr.heap.size) := by omega
              have hneA2 : ¬ (wr.heap.size = bs) := by omega
              go_cut [37, 38] from 198 to 210 (fun s1 s2 wx => ∃ zb : Nat, s1 = .pointer (some ⟨zb, 0, none⟩) ∧ s2 = .int .i64 mc ∧ Cs bs 10 wx (fun j => .string (G j)) ∧ Cs zb 2 wx (fun i => if i = 0 then .string mn else .string md) ∧ Below b w wx)
              case first =>
                go_region_held3 (fun X => X.cell? ⟨bs, i * 2, none⟩ = some (.string (G (i * 2))) ∧ X.cell? ⟨bs, i * 2 + 1, none⟩ = some (.string (G (i * 2 + 1))) ∧ X.cell? ⟨bs, 1, none⟩ = some (.string (G 1))) (go_keep) (first | (go_at_call 26; (with_reducible refine (cM.run _).mono ?_); rintro e v1 ⟨rfl, g⟩; have g : Below (wr.alloc (.cells #[.string ⟨#[]⟩, .string ⟨#[]⟩] 23)).heap.size (wr.alloc (.cells #[.string ⟨#[]⟩, .string ⟨#[]⟩] 23)) v1 := lundrew g; replace h_N := h_N.keep g (by decide); replace h_z1 := h_z1.keep g (by decide); replace u := u.trans (g.mono (HB.o ▸ u.size)); have hgs := g.size; clear g; have y0 : v1.cell? ⟨bs, i * 2, none⟩ = some (.string (G (i * 2))) := h_N.cell (i * 2) (by omega); have y1 : v1.cell? ⟨bs, i * 2 + 1, none⟩ = some (.string (G (i * 2 + 1))) := h_N.cell (i * 2 + 1) (by omega); have y2 : v1.cell? ⟨bs, 1, none⟩ = some (.string (G 1)) := h_N.cell 1 (by decide); have c_z1_0 : v1.cell? ⟨wr.heap.size, 0, none⟩ = some (.string ⟨#[]⟩) := h_z1.cell 0 (by decide); have c_z1_1 : v1.cell? ⟨wr.heap.size, 1, none⟩ = some (.string ⟨#[]⟩) := h_z1.cell 1 (by decide); have f_z1_0 := h_z1.free 0 (by decide); have f_z1_1 := h_z1.free 1 (by decide); have hbA := 0) | (go_at_call 26; (with_reducible refine (cM.run _).mono ?_); rintro e v1 ⟨rfl, g⟩; have g : Below wr.heap.size wr v1 := lundrew g; have h_N := k_N; have u := k_u; replace h_N := h_N.keep g (by decide); replace u := u.trans (g.mono (HB.o ▸ u.size)); have hgs := g.size; clear g; have y0 : v1.cell? ⟨bs, i * 2, none⟩ = some (.string (G (i * 2))) := h_N.cell (i * 2) (by omega); have y1 : v1.cell? ⟨bs, i * 2 + 1, none⟩ = some (.string (G (i * 2 + 1))) := h_N.cell (i * 2 + 1) (by omega); have y2 : v1.cell? ⟨bs, 1, none⟩ = some (.string (G 1)) := h_N.cell 1 (by decide); have hbb : b ≤ v1.heap.size := HB.o ▸ u.size; have j_N := h_N; have j_u := u; replace h_N := h_N.alloc (by decide) (.cells #[.string ⟨#[]⟩, .string ⟨#[]⟩] 23); have h_z1 := Cs.new v1 #[.string ⟨#[]⟩, .string ⟨#[]⟩] 23 2 (fun i => if i = 0 then .string ⟨#[]⟩ else .string ⟨#[]⟩) (at2_get _ _); have x0 : (v1.alloc (.cells #[.string ⟨#[]⟩, .string ⟨#[]⟩] 23)).cell? ⟨bs, i * 2, none⟩ = some (.string (G (i * 2))) := h_N.cell (i * 2) (by omega); have x1 : (v1.alloc (.cells #[.string ⟨#[]⟩, .string ⟨#[]⟩] 23)).cell? ⟨bs, i * 2 + 1, none⟩ = some (.string (G (i * 2 + 1))) := h_N.cell (i * 2 + 1) (by omega); have x2 : (v1.alloc (.cells #[.string ⟨#[]⟩, .string ⟨#[]⟩] 23)).cell? ⟨bs, 1, none⟩ = some (.string (G 1)) := h_N.cell 1 (by decide); have hneB : ¬ (bs = v1.heap.size) := (by omega); have hneB2 : ¬ (v1.heap.size = bs) := (by omega); have c_z1_0 : (v1.alloc (.cells #[.string ⟨#[]⟩, .string ⟨#[]⟩] 23)).cell? ⟨v1.heap.size, 0, none⟩ = some (.string ⟨#[]⟩) := h_z1.cell 0 (by decide); have c_z1_1 : (v1.alloc (.cells #[.string ⟨#[]⟩, .string ⟨#[]⟩] 23)).cell? ⟨v1.heap.size, 1, none⟩ = some (.string ⟨#[]⟩) := h_z1.cell 1 (by decide); have f_z1_0 := h_z1.free 0 (by decide); have f_z1_1 := h_z1.free 1 (by decide)))
                all_goals (go_wp2_with fail)
                all_goals go_meet
                all_goals first | exact ⟨wr.heap.size, rfl, rfl, (h_N.off ⟨wr.heap.size, 0, none⟩ _ (by show wr.heap.size ≠ bs; omega)).off ⟨wr.heap.size, 1, none⟩ _ (by show wr.heap.size ≠ bs; omega), ((h_z1.set 0 _ (by decide)).set 1 _ (by decide)).ext (two_set _ _ _ _), (u.setCell (show b ≤ (⟨wr.heap.size, 0, none⟩ : Addr).block from hbb) _).setCell (show b ≤ (⟨wr.heap.size, 1, none⟩ : Addr).block from hbb) _⟩ | exact ⟨v1.heap.size, rfl, rfl, j_N.alloc (by decide) _, Cs.new v1 _ _ 2 _ (at2_get _ _), j_u.alloc hbb _⟩
              obtain ⟨zb1, rfl, rfl, hN1, hz1_1, u1⟩ := hcut
              clear x0 x1 x2 y0 y1 y2 h_N u hbb hneA hneA2 k_N k_u h_z1 cM 
              obtain ⟨Z1, hv⟩ : ∃ v, v = wc := ⟨_, rfl⟩
              rw [← hv] at hN1 hz1_1 u1
              rw [← hv]
              clear hv
              have h_N := hN1
              have h_z1 := hz1_1
              have u := u1
              clear hN1 hz1_1 u1
              have y0 : Z1.cell? ⟨bs, i * 2, none⟩ = some (.string (G (i * 2))) := h_N.cell (i * 2) (by omega)
              have y1 : Z1.cell? ⟨bs, i * 2 + 1, none⟩ = some (.string (G (i * 2 + 1))) := h_N.cell (i * 2 + 1) (by omega)
              have y2 : Z1.cell? ⟨bs, 1, none⟩ = some (.string (G 1)) := h_N.cell 1 (by decide)
              have hlt : bs < Z1.heap.size := World.block_lt_of_cell? Z1 _ y0
              go_wp2_with fail
              have hltz : zb1 < Z1.heap.size := World.block_lt_of_cell? Z1 _ (h_z1.cell 0 (by decide))
              have hbb : b ≤ Z1.heap.size := HB.o ▸ u.size
              have k_N := h_N
              have k_z1 := h_z1
              have k_u := u
              replace h_N := h_N.alloc (by decide) (.cells #[.string ⟨#[]⟩, .string ⟨#[]⟩] 23)
              replace h_z1 := h_z1.alloc (by decide) (.cells #[.string ⟨#[]⟩, .string ⟨#[]⟩] 23)
              have h_z2 := Cs.new Z1 #[.string ⟨#[]⟩, .string ⟨#[]⟩] 23 2 (fun i => if i = 0 then .string ⟨#[]⟩ else .string ⟨#[]⟩) (at2_get _ _)
              replace u := u.alloc hbb (.cells #[.string ⟨#[]⟩, .string ⟨#[]⟩] 23)
              have x0 : (Z1.alloc (.cells #[.string ⟨#[]⟩, .string ⟨#[]⟩] 23)).cell? ⟨bs, i * 2, none⟩ = some (.string (G (i * 2))) := h_N.cell (i * 2) (by omega)
              have x1 : (Z1.alloc (.cells #[.string ⟨#[]⟩, .string ⟨#[]⟩] 23)).cell? ⟨bs, i * 2 + 1, none⟩ = some (.string (G (i * 2 + 1))) := h_N.cell (i * 2 + 1) (by omega)
              have x2 : (Z1.alloc (.cells #[.string ⟨#[]⟩, .string ⟨#[]⟩] 23)).cell? ⟨bs, 1, none⟩ = some (.string (G 1)) := h_N.cell 1 (by decide)
              have hneA : ¬ (bs = Z1.heap.size) := by omega
              have hneA2 : ¬ (Z1.heap.size = bs) := by omega
              go_cut [39, 40] from 211 to 223 (fun s1 s2 wx => ∃ zb : Nat, s1 = .pointer (some ⟨zb, 0, none⟩) ∧ s2 = .int .i64 mc ∧ Cs bs 10 wx (fun j => .string (G j)) ∧ Cs zb1 2 wx (fun i => if i = 0 then .string mn else .string md) ∧ Cs zb 2 wx (fun i => if i = 0 then .string mn else .string md) ∧ Below b w wx)
              case first =>
                go_region_held3 (fun X => X.cell? ⟨bs, i * 2, none⟩ = some (.string (G (i * 2))) ∧ X.cell? ⟨bs, i * 2 + 1, none⟩ = some (.string (G (i * 2 + 1))) ∧ X.cell? ⟨bs, 1, none⟩ = some (.string (G 1))) (go_keep) (first | (go_at_call 27; (with_reducible refine (cMR.run _).mono ?_); rintro e v2 ⟨rfl, g⟩; have g : Below (Z1.alloc (.cells #[.string ⟨#[]⟩, .string ⟨#[]⟩] 23)).heap.size (Z1.alloc (.cells #[.string ⟨#[]⟩, .string ⟨#[]⟩] 23)) v2 := lundrew g; replace h_N := h_N.keep g (by decide); replace h_z1 := h_z1.keep g (by decide); replace h_z2 := h_z2.keep g (by decide); replace u := u.trans (g.mono (HB.o ▸ u.size)); have hgs := g.size; clear g; have y0 : v2.cell? ⟨bs, i * 2, none⟩ = some (.string (G (i * 2))) := h_N.cell (i * 2) (by omega); have y1 : v2.cell? ⟨bs, i * 2 + 1, none⟩ = some (.string (G (i * 2 + 1))) := h_N.cell (i * 2 + 1) (by omega); have y2 : v2.cell? ⟨bs, 1, none⟩ = some (.string (G 1)) := h_N.cell 1 (by decide); have c_z2_0 : v2.cell? ⟨Z1.heap.size, 0, none⟩ = some (.string ⟨#[]⟩) := h_z2.cell 0 (by decide); have c_z2_1 : v2.cell? ⟨Z1.heap.size, 1, none⟩ = some (.string ⟨#[]⟩) := h_z2.cell 1 (by decide); have f_z2_0 := h_z2.free 0 (by decide); have f_z2_1 := h_z2.free 1 (by decide); have hbA := 0) | (go_at_call 27; (with_reducible refine (cMR.run _).mono ?_); rintro e v2 ⟨rfl, g⟩; have g : Below Z1.heap.size Z1 v2 := lundrew g; have h_N := k_N; have h_z1 := k_z1; have u := k_u; replace h_N := h_N.keep g (by decide); replace h_z1 := h_z1.keep g (by decide); replace u := u.trans (g.mono (HB.o ▸ u.size)); have hgs := g.size; clear g; have y0 : v2.cell? ⟨bs, i * 2, none⟩ = some (.string (G (i * 2))) := h_N.cell (i * 2) (by omega); have y1 : v2.cell? ⟨bs, i * 2 + 1, none⟩ = some (.string (G (i * 2 + 1))) := h_N.cell (i * 2 + 1) (by omega); have y2 : v2.cell? ⟨bs, 1, none⟩ = some (.string (G 1)) := h_N.cell 1 (by decide); have hbb : b ≤ v2.heap.size := HB.o ▸ u.size; have j_N := h_N; have j_z1 := h_z1; have j_u := u; replace h_N := h_N.alloc (by decide) (.cells #[.string ⟨#[]⟩, .string ⟨#[]⟩] 23); replace h_z1 := h_z1.alloc (by decide) (.cells #[.string ⟨#[]⟩, .string ⟨#[]⟩] 23); have h_z2 := Cs.new v2 #[.string ⟨#[]⟩, .string ⟨#[]⟩] 23 2 (fun i => if i = 0 then .string ⟨#[]⟩ else .string ⟨#[]⟩) (at2_get _ _); have x0 : (v2.alloc (.cells #[.string ⟨#[]⟩, .string ⟨#[]⟩] 23)).cell? ⟨bs, i * 2, none⟩ = some (.string (G (i * 2))) := h_N.cell (i * 2) (by omega); have x1 : (v2.alloc (.cells #[.string ⟨#[]⟩, .string ⟨#[]⟩] 23)).cell? ⟨bs, i * 2 + 1, none⟩ = some (.string (G (i * 2 + 1))) := h_N.cell (i * 2 + 1) (by omega); have x2 : (v2.alloc (.cells #[.string ⟨#[]⟩, .string ⟨#[]⟩] 23)).cell? ⟨bs, 1, none⟩ = some (.string (G 1)) := h_N.cell 1 (by decide); have hneB : ¬ (bs = v2.heap.size) := (by omega); have hneB2 : ¬ (v2.heap.size = bs) := (by omega); have c_z2_0 : (v2.alloc (.cells #[.string ⟨#[]⟩, .string ⟨#[]⟩] 23)).cell? ⟨v2.heap.size, 0, none⟩ = some (.string ⟨#[]⟩) := h_z2.cell 0 (by decide); have c_z2_1 : (v2.alloc (.cells #[.string ⟨#[]⟩, .string ⟨#[]⟩] 23)).cell? ⟨v2.heap.size, 1, none⟩ = some (.string ⟨#[]⟩) := h_z2.cell 1 (by decide); have f_z2_0 := h_z2.free 0 (by decide); have f_z2_1 := h_z2.free 1 (by decide)))
                all_goals (go_wp2_with fail)
                all_goals go_meet
                all_goals first | exact ⟨Z1.heap.size, rfl, rfl, (h_N.off ⟨Z1.heap.size, 0, none⟩ _ (by show Z1.heap.size ≠ bs; omega)).off ⟨Z1.heap.size, 1, none⟩ _ (by show Z1.heap.size ≠ bs; omega), (h_z1.off ⟨Z1.heap.size, 0, none⟩ _ (by show Z1.heap.size ≠ zb1; omega)).off ⟨Z1.heap.size, 1, none⟩ _ (by show Z1.heap.size ≠ zb1; omega), ((h_z2.set 0 _ (by decide)).set 1 _ (by decide)).ext (two_set _ _ _ _), (u.setCell (show b ≤ (⟨Z1.heap.size, 0, none⟩ : Addr).block from hbb) _).setCell (show b ≤ (⟨Z1.heap.size, 1, none⟩ : Addr).block from hbb) _⟩ | exact ⟨v2.heap.size, rfl, rfl, j_N.alloc (by decide) _, j_z1.alloc (by decide) _, Cs.new v2 _ _ 2 _ (at2_get _ _), j_u.alloc hbb _⟩
              obtain ⟨zb2, rfl, rfl, hN2, hz2_1, hz2_2, u2⟩ := hcut
              clear x0 x1 x2 y0 y1 y2 h_N u hbb hneA hneA2 k_N k_u h_z2 cMR h_z1 k_z1
              obtain ⟨Z2, hv⟩ : ∃ v, v = wc := ⟨_, rfl⟩
              rw [← hv] at hN2 hz2_1 hz2_2 u2
              rw [← hv]
              clear hv
              have h_N := hN2
              have h_z1 := hz2_1
              have h_z2 := hz2_2
              have u := u2
              clear hN2 hz2_1 hz2_2 u2
              have y0 : Z2.cell? ⟨bs, i * 2, none⟩ = some (.string (G (i * 2))) := h_N.cell (i * 2) (by omega)
              have y1 : Z2.cell? ⟨bs, i * 2 + 1, none⟩ = some (.string (G (i * 2 + 1))) := h_N.cell (i * 2 + 1) (by omega)
              have y2 : Z2.cell? ⟨bs, 1, none⟩ = some (.string (G 1)) := h_N.cell 1 (by decide)
              have hlt : bs < Z2.heap.size := World.block_lt_of_cell? Z2 _ y0
              go_wp2_with fail
              have c_z1_0 : Z2.cell? ⟨zb1, 0, none⟩ = some (.string mn) := h_z1.cell 0 (by decide)
              have c_z1_1 : Z2.cell? ⟨zb1, 1, none⟩ = some (.string md) := h_z1.cell 1 (by decide)
              have c_z2_0 : Z2.cell? ⟨zb2, 0, none⟩ = some (.string mn) := h_z2.cell 0 (by decide)
              have c_z2_1 : Z2.cell? ⟨zb2, 1, none⟩ = some (.string md) := h_z2.cell 1 (by decide)
              have e_mn : (mn.toList == mn.toList) = true := beq_self_eq_true _
              have e_md : (md.toList == md.toList) = true := beq_self_eq_true _
              go_region_held3 (fun X => X.cell? ⟨bs, i * 2, none⟩ = some (.string (G (i * 2))) ∧ X.cell? ⟨bs, i * 2 + 1, none⟩ = some (.string (G (i * 2 + 1))) ∧ X.cell? ⟨bs, 1, none⟩ = some (.string (G 1)) ∧ X.cell? ⟨zb1, 0, none⟩ = some (.string mn) ∧ X.cell? ⟨zb1, 1, none⟩ = some (.string md) ∧ X.cell? ⟨zb2, 0, none⟩ = some (.string mn) ∧ X.cell? ⟨zb2, 1, none⟩ = some (.string md)) (go_keep) (first | (go_at_call 29; (with_reducible refine (cVR.run _).mono ?_); rintro e v4 ⟨rfl, g⟩; have g : Below v3.heap.size v3 v4 := g; replace h_N := h_N.keep g (by decide); replace h_z1 := h_z1.keep g (by decide); replace h_z2 := h_z2.keep g (by decide); replace u := u.trans (g.mono (HB.o ▸ u.size)); clear g; have y0 : v4.cell? ⟨bs, i * 2, none⟩ = some (.string (G (i * 2))) := h_N.cell (i * 2) (by omega); have y1 : v4.cell? ⟨bs, i * 2 + 1, none⟩ = some (.string (G (i * 2 + 1))) := h_N.cell (i * 2 + 1) (by omega); have y2 : v4.cell? ⟨bs, 1, none⟩ = some (.string (G 1)) := h_N.cell 1 (by decide); have c_z1_0 : v4.cell? ⟨zb1, 0, none⟩ = some (.string mn) := h_z1.cell 0 (by decide); have c_z1_1 : v4.cell? ⟨zb1, 1, none⟩ = some (.string md) := h_z1.cell 1 (by decide); have c_z2_0 : v4.cell? ⟨zb2, 0, none⟩ = some (.string mn) := h_z2.cell 0 (by decide); have c_z2_1 : v4.cell? ⟨zb2, 1, none⟩ = some (.string md) := h_z2.cell 1 (by decide)) | (go_at_call 28; (with_reducible refine (cV.run _).mono ?_); rintro e v3 ⟨rfl, g⟩; have g : Below Z2.heap.size Z2 v3 := lundrew g; replace h_N := h_N.keep g (by decide); replace h_z1 := h_z1.keep g (by decide); replace h_z2 := h_z2.keep g (by decide); replace u := u.trans (g.mono (HB.o ▸ u.size)); clear g; have y0 : v3.cell? ⟨bs, i * 2, none⟩ = some (.string (G (i * 2))) := h_N.cell (i * 2) (by omega); have y1 : v3.cell? ⟨bs, i * 2 + 1, none⟩ = some (.string (G (i * 2 + 1))) := h_N.cell (i * 2 + 1) (by omega); have y2 : v3.cell? ⟨bs, 1, none⟩ = some (.string (G 1)) := h_N.cell 1 (by decide); have c_z1_0 : v3.cell? ⟨zb1, 0, none⟩ = some (.string mn) := h_z1.cell 0 (by decide); have c_z1_1 : v3.cell? ⟨zb1, 1, none⟩ = some (.string md) := h_z1.cell 1 (by decide); have c_z2_0 : v3.cell? ⟨zb2, 0, none⟩ = some (.string mn) := h_z2.cell 0 (by decide); have c_z2_1 : v3.cell? ⟨zb2, 1, none⟩ = some (.string md) := h_z2.cell 1 (by decide)))
              clear y0 y1 y2
              go_wp2_with fail
              go_roundw
              case rel => exact ⟨i + 1, by omega, by first | rfl | go_num | simp, ⟨h_N, u⟩⟩
              case measure => simp [intOf]; omega
            · have hj3 : (j : Int) < 2 := by omega
              have hj4 : (0 : Int) ≤ (j : Int) := by omega
              obtain ⟨h_N, h_P, u⟩ := H.o
              clear H
              obtain ⟨n1, d1, n2, d2, c1, c2, cD, cDR, cU, cUR⟩ := mr_grid (G (i * 2)) (G (i * 2 + 1)) (HF.o _) (HF.o _) (P j)
              obtain ⟨sn, hsn⟩ : ∃ x, x = G (i * 2) := ⟨_, rfl⟩
              obtain ⟨sd, hsd⟩ : ∃ x, x = G (i * 2 + 1) := ⟨_, rfl⟩
              obtain ⟨pj, hpj⟩ : ∃ x, x = P j := ⟨_, rfl⟩
              rw [← hsn, ← hsd, ← hpj] at cD cDR cU cUR
              have HSN : Shut _ := ⟨hsn⟩
              have HSD : Shut _ := ⟨hsd⟩
              have HPJ : Shut _ := ⟨hpj⟩
              clear hsn hsd hpj
              have y2 : wr.cell? ⟨bp, j, none⟩ = some (.int .i64 pj) := by rw [HPJ.o]; exact h_P.cell j (by omega)
              have y0 : wr.cell? ⟨bs, i * 2, none⟩ = some (.string sn) := by rw [HSN.o]; exact h_N.cell (i * 2) (by omega)
              have y1 : wr.cell? ⟨bs, i * 2 + 1, none⟩ = some (.string sd) := by rw [HSD.o]; exact h_N.cell (i * 2 + 1) (by omega)
              go_wp2_with fail
              clear y2
              refine (cD.run _).mono ?_
              rintro e v1 ⟨rfl, g⟩
              replace h_N := h_N.keep g (by decide)
              replace h_P := h_P.keep g (by decide)
              replace u := u.trans (g.mono (HB.o ▸ u.size))
              clear g cD y0 y1
              have hbb : b ≤ v1.heap.size := HB.o ▸ u.size
              replace h_N := h_N.alloc (by decide) (.cells #[.string n1, .string d1] 23)
              replace h_P := h_P.alloc (by decide) (.cells #[.string n1, .string d1] 23)
              have h_q1 := Cs.new v1 #[.string n1, .string d1] 23 2 _ (at2_get _ _)
              replace u := u.alloc hbb (.cells #[.string n1, .string d1] 23)
              clear hbb
              have y0 : (v1.alloc (.cells #[.string n1, .string d1] 23)).cell? ⟨bs, i * 2, none⟩ = some (.string sn) := by rw [HSN.o]; exact h_N.cell (i * 2) (by omega)
              have y1 : (v1.alloc (.cells #[.string n1, .string d1] 23)).cell? ⟨bs, i * 2 + 1, none⟩ = some (.string sd) := by rw [HSD.o]; exact h_N.cell (i * 2 + 1) (by omega)
              go_wp2_with fail
              generalize v1.alloc (.cells #[.string n1, .string d1] 23) = V1 at *
              generalize v1.heap.size = q1 at *
              refine (cDR.run _).mono ?_
              rintro e v2 ⟨rfl, g⟩
              replace h_N := h_N.keep g (by decide)
              replace h_P := h_P.keep g (by decide)
              replace h_q1 := h_q1.keep g (by decide)
              replace u := u.trans (g.mono (HB.o ▸ u.size))
              clear g cDR y0 y1
              have hbb : b ≤ v2.heap.size := HB.o ▸ u.size
              replace h_N := h_N.alloc (by decide) (.cells #[.string n1, .string d1] 23)
              replace h_P := h_P.alloc (by decide) (.cells #[.string n1, .string d1] 23)
              replace h_q1 := h_q1.alloc (by decide) (.cells #[.string n1, .string d1] 23)
              have h_q2 := Cs.new v2 #[.string n1, .string d1] 23 2 _ (at2_get _ _)
              replace u := u.alloc hbb (.cells #[.string n1, .string d1] 23)
              clear hbb
              have y0 : (v2.alloc (.cells #[.string n1, .string d1] 23)).cell? ⟨bs, i * 2, none⟩ = some (.string sn) := by rw [HSN.o]; exact h_N.cell (i * 2) (by omega)
              have y1 : (v2.alloc (.cells #[.string n1, .string d1] 23)).cell? ⟨bs, i * 2 + 1, none⟩ = some (.string sd) := by rw [HSD.o]; exact h_N.cell (i * 2 + 1) (by omega)
              go_wp2_with fail
              generalize v2.alloc (.cells #[.string n1, .string d1] 23) = V2 at *
              generalize v2.heap.size = q2 at *
              refine (cU.run _).mono ?_
              rintro e v3 ⟨rfl, g⟩
              replace h_N := h_N.keep g (by decide)
              replace h_P := h_P.keep g (by decide)
              replace h_q1 := h_q1.keep g (by decide)
              replace h_q2 := h_q2.keep g (by decide)
              replace u := u.trans (g.mono (HB.o ▸ u.size))
              clear g cU y0 y1
              have hbb : b ≤ v3.heap.size := HB.o ▸ u.size
              replace h_N := h_N.alloc (by decide) (.cells #[.string n2, .string d2] 23)
              replace h_P := h_P.alloc (by decide) (.cells #[.string n2, .string d2] 23)
              replace h_q1 := h_q1.alloc (by decide) (.cells #[.string n2, .string d2] 23)
              replace h_q2 := h_q2.alloc (by decide) (.cells #[.string n2, .string d2] 23)
              have h_q3 := Cs.new v3 #[.string n2, .string d2] 23 2 _ (at2_get _ _)
              replace u := u.alloc hbb (.cells #[.string n2, .string d2] 23)
              clear hbb
              have y0 : (v3.alloc (.cells #[.string n2, .string d2] 23)).cell? ⟨bs, i * 2, none⟩ = some (.string sn) := by rw [HSN.o]; exact h_N.cell (i * 2) (by omega)
              have y1 : (v3.alloc (.cells #[.string n2, .string d2] 23)).cell? ⟨bs, i * 2 + 1, none⟩ = some (.string sd) := by rw [HSD.o]; exact h_N.cell (i * 2 + 1) (by omega)
              go_wp2_with fail
              generalize v3.alloc (.cells #[.string n2, .string d2] 23) = V3 at *
              generalize v3.heap.size = q3 at *
              refine (cUR.run _).mono ?_
              rintro e v4 ⟨rfl, g⟩
              replace h_N := h_N.keep g (by decide)
              replace h_P := h_P.keep g (by decide)
              replace h_q1 := h_q1.keep g (by decide)
              replace h_q2 := h_q2.keep g (by decide)
              replace h_q3 := h_q3.keep g (by decide)
              replace u := u.trans (g.mono (HB.o ▸ u.size))
              clear g cUR y0 y1
              have hbb : b ≤ v4.heap.size := HB.o ▸ u.size
              replace h_N := h_N.alloc (by decide) (.cells #[.string n2, .string d2] 23)
              replace h_P := h_P.alloc (by decide) (.cells #[.string n2, .string d2] 23)
              replace h_q1 := h_q1.alloc (by decide) (.cells #[.string n2, .string d2] 23)
              replace h_q2 := h_q2.alloc (by decide) (.cells #[.string n2, .string d2] 23)
              replace h_q3 := h_q3.alloc (by decide) (.cells #[.string n2, .string d2] 23)
              have h_q4 := Cs.new v4 #[.string n2, .string d2] 23 2 _ (at2_get _ _)
              replace u := u.alloc hbb (.cells #[.string n2, .string d2] 23)
              clear hbb
              have y0 : (v4.alloc (.cells #[.string n2, .string d2] 23)).cell? ⟨bs, i * 2, none⟩ = some (.string sn) := by rw [HSN.o]; exact h_N.cell (i * 2) (by omega)
              have y1 : (v4.alloc (.cells #[.string n2, .string d2] 23)).cell? ⟨bs, i * 2 + 1, none⟩ = some (.string sd) := by rw [HSD.o]; exact h_N.cell (i * 2 + 1) (by omega)
              have c_q1_0 : (v4.alloc (.cells #[.string n2, .string d2] 23)).cell? ⟨q1, 0, none⟩ = some (.string n1) := h_q1.cell 0 (by decide)
              have c_q1_1 : (v4.alloc (.cells #[.string n2, .string d2] 23)).cell? ⟨q1, 1, none⟩ = some (.string d1) := h_q1.cell 1 (by decide)
              have c_q2_0 : (v4.alloc (.cells #[.string n2, .string d2] 23)).cell? ⟨q2, 0, none⟩ = some (.string n1) := h_q2.cell 0 (by decide)
              have c_q2_1 : (v4.alloc (.cells #[.string n2, .string d2] 23)).cell? ⟨q2, 1, none⟩ = some (.string d1) := h_q2.cell 1 (by decide)
              have c_q3_0 : (v4.alloc (.cells #[.string n2, .string d2] 23)).cell? ⟨q3, 0, none⟩ = some (.string n2) := h_q3.cell 0 (by decide)
              have c_q3_1 : (v4.alloc (.cells #[.string n2, .string d2] 23)).cell? ⟨q3, 1, none⟩ = some (.string d2) := h_q3.cell 1 (by decide)
              have c_q4_0 : (v4.alloc (.cells #[.string n2, .string d2] 23)).cell? ⟨v4.heap.size, 0, none⟩ = some (.string n2) := h_q4.cell 0 (by decide)
              have c_q4_1 : (v4.alloc (.cells #[.string n2, .string d2] 23)).cell? ⟨v4.heap.size, 1, none⟩ = some (.string d2) := h_q4.cell 1 (by decide)
              have e_n1 : (n1.toList == n1.toList) = true := beq_self_eq_true _
              have e_d1 : (d1.toList == d1.toList) = true := beq_self_eq_true _
              have e_n2 : (n2.toList == n2.toList) = true := beq_self_eq_true _
              have e_d2 : (d2.toList == d2.toList) = true := beq_self_eq_true _
              go_wp2_with fail
              go_roundw
              case rel => exact ⟨j + 1, by omega, by first | rfl | go_num | simp, ⟨h_N, h_P, u⟩⟩
              case measure => simp [intOf]; omega
        · have hk6 : (k : Int) < 5 := by omega
          have hk7 : (0 : Int) ≤ (k : Int) := by omega
          obtain ⟨hN, u⟩ := H2.o

          have y0 : wr.cell? ⟨bs, i * 2, none⟩ = some (.string (G (i * 2))) := hN.cell (i * 2) (by omega)
          have y1 : wr.cell? ⟨bs, i * 2 + 1, none⟩ = some (.string (G (i * 2 + 1))) := hN.cell (i * 2 + 1) (by omega)
          have y2 : wr.cell? ⟨bs, k * 2, none⟩ = some (.string (G (k * 2))) := hN.cell (k * 2) (by omega)
          have y3 : wr.cell? ⟨bs, k * 2 + 1, none⟩ = some (.string (G (k * 2 + 1))) := hN.cell (k * 2 + 1) (by omega)
          have hlt : bs < wr.heap.size := World.block_lt_of_cell? wr _ y0
          obtain ⟨n1, d1, n2, d2, n3, d3, n4, d4, c1, c2, c3, c4, cc, cF, cA, cS, cM, cD, cC, cR⟩ := mr_four (G (i * 2)) (G (i * 2 + 1)) (G (k * 2)) (G (k * 2 + 1)) (HF.o _) (HF.o _) (HF.o _) (HF.o _)
          obtain ⟨sn, hsn⟩ : ∃ x, x = G (i * 2) := ⟨_, rfl⟩
          obtain ⟨sd, hsd⟩ : ∃ x, x = G (i * 2 + 1) := ⟨_, rfl⟩
          obtain ⟨tn, htn⟩ : ∃ x, x = G (k * 2) := ⟨_, rfl⟩
          obtain ⟨td, htd⟩ : ∃ x, x = G (k * 2 + 1) := ⟨_, rfl⟩
          rw [← hsn] at y0 cF cA cS cM cD cC cR
          rw [← hsd] at y1 cF cA cS cM cD cC cR
          rw [← htn] at y2
          rw [← htd] at y3
          try rw [← htn] at cF cA cS cM cD cC cR
          try rw [← htd] at cF cA cS cM cD cC cR
          clear hsn hsd htn htd H2
          go_wp2_with fail
          have hbb : b ≤ wr.heap.size := HB.o ▸ u.size
          have h_N := (hN.alloc (by decide) (.cells #[.string sn, .string sd] 23)).alloc (by decide) (.cells #[.string tn, .string td] 23)
          obtain ⟨h_a, h_t⟩ := two_new wr (.string sn) (.string sd) (.string tn) (.string td) 23
          replace u := (u.alloc hbb (.cells #[.string sn, .string sd] 23)).alloc (by rw [World.size_alloc]; omega) (.cells #[.string tn, .string td] 23)
          clear y0 y1 y2 y3 hN
          generalize ((wr.alloc (.cells #[.string sn, .string sd] 23)).alloc (.cells #[.string tn, .string td] 23)) = V0 at *
          generalize wr.heap.size = ba at *
          refine (cF.run _).mono ?_
          rintro e v1 ⟨rfl, g⟩
          replace h_N := h_N.keep g (by decide)
          replace h_a := h_a.keep g (by decide)
          replace h_t := h_t.keep g (by decide)
          replace u := u.trans (g.mono (HB.o ▸ u.size))
          clear g cF
          have hq : ba + 1 < v1.heap.size := World.block_lt_of_cell? v1 _ (h_t.cell 0 (by decide))
          replace h_N := (((h_N.alloc (by decide) (.cells #[.string n1, .string d1, .string n2, .string d2, .string n3, .string d3, .string n4, .string d4] 31)).alloc (by decide) (.cells #[.int .i64 c1, .int .i64 c2, .int .i64 c3, .int .i64 c4] 33)).alloc (by decide) (.cells #[.string ⟨#[]⟩, .string ⟨#[]⟩, .string ⟨#[]⟩, .string ⟨#[]⟩, .string ⟨#[]⟩, .string ⟨#[]⟩, .string ⟨#[]⟩, .string ⟨#[]⟩] 31)).alloc (by decide) (.cells #[.int .i64 0, .int .i64 0, .int .i64 0, .int .i64 0] 33)
          replace h_a := (((h_a.alloc (by decide) (.cells #[.string n1, .string d1, .string n2, .string d2, .string n3, .string d3, .string n4, .string d4] 31)).alloc (by decide) (.cells #[.int .i64 c1, .int .i64 c2, .int .i64 c3, .int .i64 c4] 33)).alloc (by decide) (.cells #[.string ⟨#[]⟩, .string ⟨#[]⟩, .string ⟨#[]⟩, .string ⟨#[]⟩, .string ⟨#[]⟩, .string ⟨#[]⟩, .string ⟨#[]⟩, .string ⟨#[]⟩] 31)).alloc (by decide) (.cells #[.int .i64 0, .int .i64 0, .int .i64 0, .int .i64 0] 33)
          replace h_t := (((h_t.alloc (by decide) (.cells #[.string n1, .string d1, .string n2, .string d2, .string n3, .string d3, .string n4, .string d4] 31)).alloc (by decide) (.cells #[.int .i64 c1, .int .i64 c2, .int .i64 c3, .int .i64 c4] 33)).alloc (by decide) (.cells #[.string ⟨#[]⟩, .string ⟨#[]⟩, .string ⟨#[]⟩, .string ⟨#[]⟩, .string ⟨#[]⟩, .string ⟨#[]⟩, .string ⟨#[]⟩, .string ⟨#[]⟩] 31)).alloc (by decide) (.cells #[.int .i64 0, .int .i64 0, .int .i64 0, .int .i64 0] 33)
          obtain ⟨h_r, h_e, h_T, h_F⟩ := arr_new v1 (.string n1) (.string d1) (.string n2) (.string d2) (.string n3) (.string d3) (.string n4) (.string d4) (.int .i64 c1) (.int .i64 c2) (.int .i64 c3) (.int .i64 c4) (.string ⟨#[]⟩) (.int .i64 0) 31 33
          replace u := ((((u.alloc (by omega) (.cells #[.string n1, .string d1, .string n2, .string d2, .string n3, .string d3, .string n4, .string d4] 31)).alloc (by simp only [World.size_alloc]; omega) (.cells #[.int .i64 c1, .int .i64 c2, .int .i64 c3, .int .i64 c4] 33)).alloc (by simp only [World.size_alloc]; omega) (.cells #[.string ⟨#[]⟩, .string ⟨#[]⟩, .string ⟨#[]⟩, .string ⟨#[]⟩, .string ⟨#[]⟩, .string ⟨#[]⟩, .string ⟨#[]⟩, .string ⟨#[]⟩] 31)).alloc (by simp only [World.size_alloc]; omega) (.cells #[.int .i64 0, .int .i64 0, .int .i64 0, .int .i64 0] 33))
          have c_a_0 : ((((v1.alloc (.cells #[.string n1, .string d1, .string n2, .string d2, .string n3, .string d3, .string n4, .string d4] 31)).alloc (.cells #[.int .i64 c1, .int .i64 c2, .int .i64 c3, .int .i64 c4] 33)).alloc (.cells #[.string ⟨#[]⟩, .string ⟨#[]⟩, .string ⟨#[]⟩, .string ⟨#[]⟩, .string ⟨#[]⟩, .string ⟨#[]⟩, .string ⟨#[]⟩, .string ⟨#[]⟩] 31)).alloc (.cells #[.int .i64 0, .int .i64 0, .int .i64 0, .int .i64 0] 33)).cell? ⟨ba, 0, none⟩ = some (.string sn) := h_a.cell 0 (by decide)
          have c_a_1 : ((((v1.alloc (.cells #[.string n1, .string d1, .string n2, .string d2, .string n3, .string d3, .string n4, .string d4] 31)).alloc (.cells #[.int .i64 c1, .int .i64 c2, .int .i64 c3, .int .i64 c4] 33)).alloc (.cells #[.string ⟨#[]⟩, .string ⟨#[]⟩, .string ⟨#[]⟩, .string ⟨#[]⟩, .string ⟨#[]⟩, .string ⟨#[]⟩, .string ⟨#[]⟩, .string ⟨#[]⟩] 31)).alloc (.cells #[.int .i64 0, .int .i64 0, .int .i64 0, .int .i64 0] 33)).cell? ⟨ba, 1, none⟩ = some (.string sd) := h_a.cell 1 (by decide)
          have c_t_0 : ((((v1.alloc (.cells #[.string n1, .string d1, .string n2, .string d2, .string n3, .string d3, .string n4, .string d4] 31)).alloc (.cells #[.int .i64 c1, .int .i64 c2, .int .i64 c3, .int .i64 c4] 33)).alloc (.cells #[.string ⟨#[]⟩, .string ⟨#[]⟩, .string ⟨#[]⟩, .string ⟨#[]⟩, .string ⟨#[]⟩, .string ⟨#[]⟩, .string ⟨#[]⟩, .string ⟨#[]⟩] 31)).alloc (.cells #[.int .i64 0, .int .i64 0, .int .i64 0, .int .i64 0] 33)).cell? ⟨ba + 1, 0, none⟩ = some (.string tn) := h_t.cell 0 (by decide)
          have c_t_1 : ((((v1.alloc (.cells #[.string n1, .string d1, .string n2, .string d2, .string n3, .string d3, .string n4, .string d4] 31)).alloc (.cells #[.int .i64 c1, .int .i64 c2, .int .i64 c3, .int .i64 c4] 33)).alloc (.cells #[.string ⟨#[]⟩, .string ⟨#[]⟩, .string ⟨#[]⟩, .string ⟨#[]⟩, .string ⟨#[]⟩, .string ⟨#[]⟩, .string ⟨#[]⟩, .string ⟨#[]⟩] 31)).alloc (.cells #[.int .i64 0, .int .i64 0, .int .i64 0, .int .i64 0] 33)).cell? ⟨ba + 1, 1, none⟩ = some (.string td) := h_t.cell 1 (by decide)
          go_wp2_with fail
          clear c_a_0 c_a_1 c_t_0 c_t_1
          generalize ((((v1.alloc (.cells #[.string n1, .string d1, .string n2, .string d2, .string n3, .string d3, .string n4, .string d4] 31)).alloc (.cells #[.int .i64 c1, .int .i64 c2, .int .i64 c3, .int .i64 c4] 33)).alloc (.cells #[.string ⟨#[]⟩, .string ⟨#[]⟩, .string ⟨#[]⟩, .string ⟨#[]⟩, .string ⟨#[]⟩, .string ⟨#[]⟩, .string ⟨#[]⟩, .string ⟨#[]⟩] 31)).alloc (.cells #[.int .i64 0, .int .i64 0, .int .i64 0, .int .i64 0] 33)) = V1 at *
          generalize v1.heap.size = q at *
          refine (cA.run _).mono ?_
          rintro e v2 ⟨rfl, g⟩
          replace h_N := h_N.keep g (by decide)
          replace h_a := h_a.keep g (by decide)
          replace h_t := h_t.keep g (by decide)
          replace h_r := h_r.keep g (by decide)
          replace h_e := h_e.keep g (by decide)
          replace h_T := h_T.keep g (by decide)
          replace h_F := h_F.keep g (by decide)
          replace u := u.trans (g.mono (HB.o ▸ u.size))
          clear g cA
          have c_a_0 : v2.cell? ⟨ba, 0, none⟩ = some (.string sn) := h_a.cell 0 (by decide)
          have c_a_1 : v2.cell? ⟨ba, 1, none⟩ = some (.string sd) := h_a.cell 1 (by decide)
          have c_t_0 : v2.cell? ⟨ba + 1, 0, none⟩ = some (.string tn) := h_t.cell 0 (by decide)
          have c_t_1 : v2.cell? ⟨ba + 1, 1, none⟩ = some (.string td) := h_t.cell 1 (by decide)
          have c_T_0 : v2.cell? ⟨q + 1 + 1, 0, none⟩ = some (.string ⟨#[]⟩) := h_T.cell 0 (by decide)
          have c_T_1 : v2.cell? ⟨q + 1 + 1, 1, none⟩ = some (.string ⟨#[]⟩) := h_T.cell 1 (by decide)
          have c_F_0 : v2.cell? ⟨q + 1 + 1 + 1, 0, none⟩ = some (.int .i64 0) := h_F.cell 0 (by decide)
          have f_T_0 := h_T.free 0 (by decide)
          have f_T_1 := h_T.free 1 (by decide)
          have f_F_0 := h_F.free 0 (by decide)
          replace h_N := h_N.off ⟨q + 1 + 1, 0, none⟩ (.string n1) (by show q + 1 + 1 ≠ bs; omega)
          replace h_a := h_a.off ⟨q + 1 + 1, 0, none⟩ (.string n1) (by show q + 1 + 1 ≠ ba; omega)
          replace h_t := h_t.off ⟨q + 1 + 1, 0, none⟩ (.string n1) (by show q + 1 + 1 ≠ ba + 1; omega)
          replace h_r := h_r.off ⟨q + 1 + 1, 0, none⟩ (.string n1) (by show q + 1 + 1 ≠ q; omega)
          replace h_e := h_e.off ⟨q + 1 + 1, 0, none⟩ (.string n1) (by show q + 1 + 1 ≠ q + 1; omega)
          replace h_T := h_T.set 0 (.string n1) (by decide)
          replace h_F := h_F.off ⟨q + 1 + 1, 0, none⟩ (.string n1) (by show q + 1 + 1 ≠ q + 1 + 1 + 1; omega)
          replace u := u.setCell (show b ≤ (⟨q + 1 + 1, 0, none⟩ : Addr).block from by show b ≤ q + 1 + 1; omega) (.string n1)
          replace h_N := h_N.off ⟨q + 1 + 1, 1, none⟩ (.string d1) (by show q + 1 + 1 ≠ bs; omega)
          replace h_a := h_a.off ⟨q + 1 + 1, 1, none⟩ (.string d1) (by show q + 1 + 1 ≠ ba; omega)
          replace h_t := h_t.off ⟨q + 1 + 1, 1, none⟩ (.string d1) (by show q + 1 + 1 ≠ ba + 1; omega)
          replace h_r := h_r.off ⟨q + 1 + 1, 1, none⟩ (.string d1) (by show q + 1 + 1 ≠ q; omega)
          replace h_e := h_e.off ⟨q + 1 + 1, 1, none⟩ (.string d1) (by show q + 1 + 1 ≠ q + 1; omega)
          replace h_T := h_T.set 1 (.string d1) (by decide)
          replace h_F := h_F.off ⟨q + 1 + 1, 1, none⟩ (.string d1) (by show q + 1 + 1 ≠ q + 1 + 1 + 1; omega)
          replace u := u.setCell (show b ≤ (⟨q + 1 + 1, 1, none⟩ : Addr).block from by show b ≤ q + 1 + 1; omega) (.string d1)
          replace h_N := h_N.off ⟨q + 1 + 1 + 1, 0, none⟩ (.int .i64 c1) (by show q + 1 + 1 + 1 ≠ bs; omega)
          replace h_a := h_a.off ⟨q + 1 + 1 + 1, 0, none⟩ (.int .i64 c1) (by show q + 1 + 1 + 1 ≠ ba; omega)
          replace h_t := h_t.off ⟨q + 1 + 1 + 1, 0, none⟩ (.int .i64 c1) (by show q + 1 + 1 + 1 ≠ ba + 1; omega)
          replace h_r := h_r.off ⟨q + 1 + 1 + 1, 0, none⟩ (.int .i64 c1) (by show q + 1 + 1 + 1 ≠ q; omega)
          replace h_e := h_e.off ⟨q + 1 + 1 + 1, 0, none⟩ (.int .i64 c1) (by show q + 1 + 1 + 1 ≠ q + 1; omega)
          replace h_T := h_T.off ⟨q + 1 + 1 + 1, 0, none⟩ (.int .i64 c1) (by show q + 1 + 1 + 1 ≠ q + 1 + 1; omega)
          replace h_F := h_F.set 0 (.int .i64 c1) (by decide)
          replace u := u.setCell (show b ≤ (⟨q + 1 + 1 + 1, 0, none⟩ : Addr).block from by show b ≤ q + 1 + 1 + 1; omega) (.int .i64 c1)
          go_wp2_with fail
          refine (cS.run _).mono ?_
          rintro e v3 ⟨rfl, g⟩
          replace h_N := h_N.keep g (by decide)
          replace h_a := h_a.keep g (by decide)
          replace h_t := h_t.keep g (by decide)
          replace h_r := h_r.keep g (by decide)
          replace h_e := h_e.keep g (by decide)
          replace h_T := h_T.keep g (by decide)
          replace h_F := h_F.keep g (by decide)
          replace u := u.trans (g.mono (HB.o ▸ u.size))
          clear g cS
          clear c_a_0 c_a_1 c_t_0 c_t_1 c_T_0 c_T_1 f_T_0 f_T_1 c_F_0 f_F_0
          have c_a_0 : v3.cell? ⟨ba, 0, none⟩ = some (.string sn) := h_a.cell 0 (by decide)
          have c_a_1 : v3.cell? ⟨ba, 1, none⟩ = some (.string sd) := h_a.cell 1 (by decide)
          have c_t_0 : v3.cell? ⟨ba + 1, 0, none⟩ = some (.string tn) := h_t.cell 0 (by decide)
          have c_t_1 : v3.cell? ⟨ba + 1, 1, none⟩ = some (.string td) := h_t.cell 1 (by decide)
          have c_T_2 : v3.cell? ⟨q + 1 + 1, 2, none⟩ = some (.string ⟨#[]⟩) := h_T.cell 2 (by decide)
          have c_T_3 : v3.cell? ⟨q + 1 + 1, 3, none⟩ = some (.string ⟨#[]⟩) := h_T.cell 3 (by decide)
          have c_F_1 : v3.cell? ⟨q + 1 + 1 + 1, 1, none⟩ = some (.int .i64 0) := h_F.cell 1 (by decide)
          have f_T_2 := h_T.free 2 (by decide)
          have f_T_3 := h_T.free 3 (by decide)
          have f_F_1 := h_F.free 1 (by decide)
          replace h_N := h_N.off ⟨q + 1 + 1, 2, none⟩ (.string n2) (by show q + 1 + 1 ≠ bs; omega)
          replace h_a := h_a.off ⟨q + 1 + 1, 2, none⟩ (.string n2) (by show q + 1 + 1 ≠ ba; omega)
          replace h_t := h_t.off ⟨q + 1 + 1, 2, none⟩ (.string n2) (by show q + 1 + 1 ≠ ba + 1; omega)
          replace h_r := h_r.off ⟨q + 1 + 1, 2, none⟩ (.string n2) (by show q + 1 + 1 ≠ q; omega)
          replace h_e := h_e.off ⟨q + 1 + 1, 2, none⟩ (.string n2) (by show q + 1 + 1 ≠ q + 1; omega)
          replace h_T := h_T.set 2 (.string n2) (by decide)
          replace h_F := h_F.off ⟨q + 1 + 1, 2, none⟩ (.string n2) (by show q + 1 + 1 ≠ q + 1 + 1 + 1; omega)
          replace u := u.setCell (show b ≤ (⟨q + 1 + 1, 2, none⟩ : Addr).block from by show b ≤ q + 1 + 1; omega) (.string n2)
          replace h_N := h_N.off ⟨q + 1 + 1, 3, none⟩ (.string d2) (by show q + 1 + 1 ≠ bs; omega)
          replace h_a := h_a.off ⟨q + 1 + 1, 3, none⟩ (.string d2) (by show q + 1 + 1 ≠ ba; omega)
          replace h_t := h_t.off ⟨q + 1 + 1, 3, none⟩ (.string d2) (by show q + 1 + 1 ≠ ba + 1; omega)
          replace h_r := h_r.off ⟨q + 1 + 1, 3, none⟩ (.string d2) (by show q + 1 + 1 ≠ q; omega)
          replace h_e := h_e.off ⟨q + 1 + 1, 3, none⟩ (.string d2) (by show q + 1 + 1 ≠ q + 1; omega)
          replace h_T := h_T.set 3 (.string d2) (by decide)
          replace h_F := h_F.off ⟨q + 1 + 1, 3, none⟩ (.string d2) (by show q + 1 + 1 ≠ q + 1 + 1 + 1; omega)
          replace u := u.setCell (show b ≤ (⟨q + 1 + 1, 3, none⟩ : Addr).block from by show b ≤ q + 1 + 1; omega) (.string d2)
          replace h_N := h_N.off ⟨q + 1 + 1 + 1, 1, none⟩ (.int .i64 c2) (by show q + 1 + 1 + 1 ≠ bs; omega)
          replace h_a := h_a.off ⟨q + 1 + 1 + 1, 1, none⟩ (.int .i64 c2) (by show q + 1 + 1 + 1 ≠ ba; omega)
          replace h_t := h_t.off ⟨q + 1 + 1 + 1, 1, none⟩ (.int .i64 c2) (by show q + 1 + 1 + 1 ≠ ba + 1; omega)
          replace h_r := h_r.off ⟨q + 1 + 1 + 1, 1, none⟩ (.int .i64 c2) (by show q + 1 + 1 + 1 ≠ q; omega)
          replace h_e := h_e.off ⟨q + 1 + 1 + 1, 1, none⟩ (.int .i64 c2) (by show q + 1 + 1 + 1 ≠ q + 1; omega)
          replace h_T := h_T.off ⟨q + 1 + 1 + 1, 1, none⟩ (.int .i64 c2) (by show q + 1 + 1 + 1 ≠ q + 1 + 1; omega)
          replace h_F := h_F.set 1 (.int .i64 c2) (by decide)
          replace u := u.setCell (show b ≤ (⟨q + 1 + 1 + 1, 1, none⟩ : Addr).block from by show b ≤ q + 1 + 1 + 1; omega) (.int .i64 c2)
          go_wp2_with fail
          refine (cM.run _).mono ?_
          rintro e v4 ⟨rfl, g⟩
          replace h_N := h_N.keep g (by decide)
          replace h_a := h_a.keep g (by decide)
          replace h_t := h_t.keep g (by decide)
          replace h_r := h_r.keep g (by decide)
          replace h_e := h_e.keep g (by decide)
          replace h_T := h_T.keep g (by decide)
          replace h_F := h_F.keep g (by decide)
          replace u := u.trans (g.mono (HB.o ▸ u.size))
          clear g cM
          clear c_a_0 c_a_1 c_t_0 c_t_1 c_T_2 c_T_3 f_T_2 f_T_3 c_F_1 f_F_1
          have c_a_0 : v4.cell? ⟨ba, 0, none⟩ = some (.string sn) := h_a.cell 0 (by decide)
          have c_a_1 : v4.cell? ⟨ba, 1, none⟩ = some (.string sd) := h_a.cell 1 (by decide)
          have c_t_0 : v4.cell? ⟨ba + 1, 0, none⟩ = some (.string tn) := h_t.cell 0 (by decide)
          have c_t_1 : v4.cell? ⟨ba + 1, 1, none⟩ = some (.string td) := h_t.cell 1 (by decide)
          have c_T_4 : v4.cell? ⟨q + 1 + 1, 4, none⟩ = some (.string ⟨#[]⟩) := h_T.cell 4 (by decide)
          have c_T_5 : v4.cell? ⟨q + 1 + 1, 5, none⟩ = some (.string ⟨#[]⟩) := h_T.cell 5 (by decide)
          have c_F_2 : v4.cell? ⟨q + 1 + 1 + 1, 2, none⟩ = some (.int .i64 0) := h_F.cell 2 (by decide)
          have f_T_4 := h_T.free 4 (by decide)
          have f_T_5 := h_T.free 5 (by decide)
          have f_F_2 := h_F.free 2 (by decide)
          replace h_N := h_N.off ⟨q + 1 + 1, 4, none⟩ (.string n3) (by show q + 1 + 1 ≠ bs; omega)
          replace h_a := h_a.off ⟨q + 1 + 1, 4, none⟩ (.string n3) (by show q + 1 + 1 ≠ ba; omega)
          replace h_t := h_t.off ⟨q + 1 + 1, 4, none⟩ (.string n3) (by show q + 1 + 1 ≠ ba + 1; omega)
          replace h_r := h_r.off ⟨q + 1 + 1, 4, none⟩ (.string n3) (by show q + 1 + 1 ≠ q; omega)
          replace h_e := h_e.off ⟨q + 1 + 1, 4, none⟩ (.string n3) (by show q + 1 + 1 ≠ q + 1; omega)
          replace h_T := h_T.set 4 (.string n3) (by decide)
          replace h_F := h_F.off ⟨q + 1 + 1, 4, none⟩ (.string n3) (by show q + 1 + 1 ≠ q + 1 + 1 + 1; omega)
          replace u := u.setCell (show b ≤ (⟨q + 1 + 1, 4, none⟩ : Addr).block from by show b ≤ q + 1 + 1; omega) (.string n3)
          replace h_N := h_N.off ⟨q + 1 + 1, 5, none⟩ (.string d3) (by show q + 1 + 1 ≠ bs; omega)
          replace h_a := h_a.off ⟨q + 1 + 1, 5, none⟩ (.string d3) (by show q + 1 + 1 ≠ ba; omega)
          replace h_t := h_t.off ⟨q + 1 + 1, 5, none⟩ (.string d3) (by show q + 1 + 1 ≠ ba + 1; omega)
          replace h_r := h_r.off ⟨q + 1 + 1, 5, none⟩ (.string d3) (by show q + 1 + 1 ≠ q; omega)
          replace h_e := h_e.off ⟨q + 1 + 1, 5, none⟩ (.string d3) (by show q + 1 + 1 ≠ q + 1; omega)
          replace h_T := h_T.set 5 (.string d3) (by decide)
          replace h_F := h_F.off ⟨q + 1 + 1, 5, none⟩ (.string d3) (by show q + 1 + 1 ≠ q + 1 + 1 + 1; omega)
          replace u := u.setCell (show b ≤ (⟨q + 1 + 1, 5, none⟩ : Addr).block from by show b ≤ q + 1 + 1; omega) (.string d3)
          replace h_N := h_N.off ⟨q + 1 + 1 + 1, 2, none⟩ (.int .i64 c3) (by show q + 1 + 1 + 1 ≠ bs; omega)
          replace h_a := h_a.off ⟨q + 1 + 1 + 1, 2, none⟩ (.int .i64 c3) (by show q + 1 + 1 + 1 ≠ ba; omega)
          replace h_t := h_t.off ⟨q + 1 + 1 + 1, 2, none⟩ (.int .i64 c3) (by show q + 1 + 1 + 1 ≠ ba + 1; omega)
          replace h_r := h_r.off ⟨q + 1 + 1 + 1, 2, none⟩ (.int .i64 c3) (by show q + 1 + 1 + 1 ≠ q; omega)
          replace h_e := h_e.off ⟨q + 1 + 1 + 1, 2, none⟩ (.int .i64 c3) (by show q + 1 + 1 + 1 ≠ q + 1; omega)
          replace h_T := h_T.off ⟨q + 1 + 1 + 1, 2, none⟩ (.int .i64 c3) (by show q + 1 + 1 + 1 ≠ q + 1 + 1; omega)
          replace h_F := h_F.set 2 (.int .i64 c3) (by decide)
          replace u := u.setCell (show b ≤ (⟨q + 1 + 1 + 1, 2, none⟩ : Addr).block from by show b ≤ q + 1 + 1 + 1; omega) (.int .i64 c3)
          go_wp2_with fail
          refine (cD.run _).mono ?_
          rintro e v5 ⟨rfl, g⟩
          replace h_N := h_N.keep g (by decide)
          replace h_a := h_a.keep g (by decide)
          replace h_t := h_t.keep g (by decide)
          replace h_r := h_r.keep g (by decide)
          replace h_e := h_e.keep g (by decide)
          replace h_T := h_T.keep g (by decide)
          replace h_F := h_F.keep g (by decide)
          replace u := u.trans (g.mono (HB.o ▸ u.size))
          clear g cD
          clear c_a_0 c_a_1 c_t_0 c_t_1 c_T_4 c_T_5 f_T_4 f_T_5 c_F_2 f_F_2
          have c_a_0 : v5.cell? ⟨ba, 0, none⟩ = some (.string sn) := h_a.cell 0 (by decide)
          have c_a_1 : v5.cell? ⟨ba, 1, none⟩ = some (.string sd) := h_a.cell 1 (by decide)
          have c_t_0 : v5.cell? ⟨ba + 1, 0, none⟩ = some (.string tn) := h_t.cell 0 (by decide)
          have c_t_1 : v5.cell? ⟨ba + 1, 1, none⟩ = some (.string td) := h_t.cell 1 (by decide)
          have c_T_6 : v5.cell? ⟨q + 1 + 1, 6, none⟩ = some (.string ⟨#[]⟩) := h_T.cell 6 (by decide)
          have c_T_7 : v5.cell? ⟨q + 1 + 1, 7, none⟩ = some (.string ⟨#[]⟩) := h_T.cell 7 (by decide)
          have c_F_3 : v5.cell? ⟨q + 1 + 1 + 1, 3, none⟩ = some (.int .i64 0) := h_F.cell 3 (by decide)
          have f_T_6 := h_T.free 6 (by decide)
          have f_T_7 := h_T.free 7 (by decide)
          have f_F_3 := h_F.free 3 (by decide)
          replace h_N := h_N.off ⟨q + 1 + 1, 6, none⟩ (.string n4) (by show q + 1 + 1 ≠ bs; omega)
          replace h_a := h_a.off ⟨q + 1 + 1, 6, none⟩ (.string n4) (by show q + 1 + 1 ≠ ba; omega)
          replace h_t := h_t.off ⟨q + 1 + 1, 6, none⟩ (.string n4) (by show q + 1 + 1 ≠ ba + 1; omega)
          replace h_r := h_r.off ⟨q + 1 + 1, 6, none⟩ (.string n4) (by show q + 1 + 1 ≠ q; omega)
          replace h_e := h_e.off ⟨q + 1 + 1, 6, none⟩ (.string n4) (by show q + 1 + 1 ≠ q + 1; omega)
          replace h_T := h_T.set 6 (.string n4) (by decide)
          replace h_F := h_F.off ⟨q + 1 + 1, 6, none⟩ (.string n4) (by show q + 1 + 1 ≠ q + 1 + 1 + 1; omega)
          replace u := u.setCell (show b ≤ (⟨q + 1 + 1, 6, none⟩ : Addr).block from by show b ≤ q + 1 + 1; omega) (.string n4)
          replace h_N := h_N.off ⟨q + 1 + 1, 7, none⟩ (.string d4) (by show q + 1 + 1 ≠ bs; omega)
          replace h_a := h_a.off ⟨q + 1 + 1, 7, none⟩ (.string d4) (by show q + 1 + 1 ≠ ba; omega)
          replace h_t := h_t.off ⟨q + 1 + 1, 7, none⟩ (.string d4) (by show q + 1 + 1 ≠ ba + 1; omega)
          replace h_r := h_r.off ⟨q + 1 + 1, 7, none⟩ (.string d4) (by show q + 1 + 1 ≠ q; omega)
          replace h_e := h_e.off ⟨q + 1 + 1, 7, none⟩ (.string d4) (by show q + 1 + 1 ≠ q + 1; omega)
          replace h_T := h_T.set 7 (.string d4) (by decide)
          replace h_F := h_F.off ⟨q + 1 + 1, 7, none⟩ (.string d4) (by show q + 1 + 1 ≠ q + 1 + 1 + 1; omega)
          replace u := u.setCell (show b ≤ (⟨q + 1 + 1, 7, none⟩ : Addr).block from by show b ≤ q + 1 + 1; omega) (.string d4)
          replace h_N := h_N.off ⟨q + 1 + 1 + 1, 3, none⟩ (.int .i64 c4) (by show q + 1 + 1 + 1 ≠ bs; omega)
          replace h_a := h_a.off ⟨q + 1 + 1 + 1, 3, none⟩ (.int .i64 c4) (by show q + 1 + 1 + 1 ≠ ba; omega)
          replace h_t := h_t.off ⟨q + 1 + 1 + 1, 3, none⟩ (.int .i64 c4) (by show q + 1 + 1 + 1 ≠ ba + 1; omega)
          replace h_r := h_r.off ⟨q + 1 + 1 + 1, 3, none⟩ (.int .i64 c4) (by show q + 1 + 1 + 1 ≠ q; omega)
          replace h_e := h_e.off ⟨q + 1 + 1 + 1, 3, none⟩ (.int .i64 c4) (by show q + 1 + 1 + 1 ≠ q + 1; omega)
          replace h_T := h_T.off ⟨q + 1 + 1 + 1, 3, none⟩ (.int .i64 c4) (by show q + 1 + 1 + 1 ≠ q + 1 + 1; omega)
          replace h_F := h_F.set 3 (.int .i64 c4) (by decide)
          replace u := u.setCell (show b ≤ (⟨q + 1 + 1 + 1, 3, none⟩ : Addr).block from by show b ≤ q + 1 + 1 + 1; omega) (.int .i64 c4)
          go_wp2_with fail
          clear c_a_0 c_a_1 c_t_0 c_t_1 c_T_6 c_T_7 f_T_6 f_T_7 c_F_3 f_F_3
          generalize (((v5.setCell ⟨q + 1 + 1, 6, none⟩ (.string n4)).setCell ⟨q + 1 + 1, 7, none⟩ (.string d4)).setCell ⟨q + 1 + 1 + 1, 3, none⟩ (.int .i64 c4)) = V5 at *
          have c_a_0 : V5.cell? ⟨ba, 0, none⟩ = some (.string sn) := h_a.cell 0 (by decide)
          have c_a_1 : V5.cell? ⟨ba, 1, none⟩ = some (.string sd) := h_a.cell 1 (by decide)
          have c_t_0 : V5.cell? ⟨ba + 1, 0, none⟩ = some (.string tn) := h_t.cell 0 (by decide)
          have c_t_1 : V5.cell? ⟨ba + 1, 1, none⟩ = some (.string td) := h_t.cell 1 (by decide)
          have c_r_0 : V5.cell? ⟨q, 0, none⟩ = some (.string n1) := h_r.cell 0 (by decide)
          have c_r_1 : V5.cell? ⟨q, 1, none⟩ = some (.string d1) := h_r.cell 1 (by decide)
          have c_r_2 : V5.cell? ⟨q, 2, none⟩ = some (.string n2) := h_r.cell 2 (by decide)
          have c_r_3 : V5.cell? ⟨q, 3, none⟩ = some (.string d2) := h_r.cell 3 (by decide)
          have c_r_4 : V5.cell? ⟨q, 4, none⟩ = some (.string n3) := h_r.cell 4 (by decide)
          have c_r_5 : V5.cell? ⟨q, 5, none⟩ = some (.string d3) := h_r.cell 5 (by decide)
          have c_r_6 : V5.cell? ⟨q, 6, none⟩ = some (.string n4) := h_r.cell 6 (by decide)
          have c_r_7 : V5.cell? ⟨q, 7, none⟩ = some (.string d4) := h_r.cell 7 (by decide)
          have c_T_0 : V5.cell? ⟨q + 1 + 1, 0, none⟩ = some (.string n1) := h_T.cell 0 (by decide)
          have c_T_1 : V5.cell? ⟨q + 1 + 1, 1, none⟩ = some (.string d1) := h_T.cell 1 (by decide)
          have c_T_2 : V5.cell? ⟨q + 1 + 1, 2, none⟩ = some (.string n2) := h_T.cell 2 (by decide)
          have c_T_3 : V5.cell? ⟨q + 1 + 1, 3, none⟩ = some (.string d2) := h_T.cell 3 (by decide)
          have c_T_4 : V5.cell? ⟨q + 1 + 1, 4, none⟩ = some (.string n3) := h_T.cell 4 (by decide)
          have c_T_5 : V5.cell? ⟨q + 1 + 1, 5, none⟩ = some (.string d3) := h_T.cell 5 (by decide)
          have c_T_6 : V5.cell? ⟨q + 1 + 1, 6, none⟩ = some (.string n4) := h_T.cell 6 (by decide)
          have c_T_7 : V5.cell? ⟨q + 1 + 1, 7, none⟩ = some (.string d4) := h_T.cell 7 (by decide)
          have c_e_0 : V5.cell? ⟨q + 1, 0, none⟩ = some (.int .i64 c1) := h_e.cell 0 (by decide)
          have c_e_1 : V5.cell? ⟨q + 1, 1, none⟩ = some (.int .i64 c2) := h_e.cell 1 (by decide)
          have c_e_2 : V5.cell? ⟨q + 1, 2, none⟩ = some (.int .i64 c3) := h_e.cell 2 (by decide)
          have c_e_3 : V5.cell? ⟨q + 1, 3, none⟩ = some (.int .i64 c4) := h_e.cell 3 (by decide)
          have c_F_0 : V5.cell? ⟨q + 1 + 1 + 1, 0, none⟩ = some (.int .i64 c1) := h_F.cell 0 (by decide)
          have c_F_1 : V5.cell? ⟨q + 1 + 1 + 1, 1, none⟩ = some (.int .i64 c2) := h_F.cell 1 (by decide)
          have c_F_2 : V5.cell? ⟨q + 1 + 1 + 1, 2, none⟩ = some (.int .i64 c3) := h_F.cell 2 (by decide)
          have c_F_3 : V5.cell? ⟨q + 1 + 1 + 1, 3, none⟩ = some (.int .i64 c4) := h_F.cell 3 (by decide)
          have eqR := eq_arrR n1 d1 n2 d2 n3 d3 n4 d4
          have eqE := eq_arrE c1 c2 c3 c4
          go_region_held3 (fun X => X.cell? ⟨ba, 0, none⟩ = some (.string sn) ∧ X.cell? ⟨ba, 1, none⟩ = some (.string sd) ∧ X.cell? ⟨ba + 1, 0, none⟩ = some (.string tn) ∧ X.cell? ⟨ba + 1, 1, none⟩ = some (.string td) ∧ X.cell? ⟨q, 0, none⟩ = some (.string n1) ∧ X.cell? ⟨q, 1, none⟩ = some (.string d1) ∧ X.cell? ⟨q, 2, none⟩ = some (.string n2) ∧ X.cell? ⟨q, 3, none⟩ = some (.string d2) ∧ X.cell? ⟨q, 4, none⟩ = some (.string n3) ∧ X.cell? ⟨q, 5, none⟩ = some (.string d3) ∧ X.cell? ⟨q, 6, none⟩ = some (.string n4) ∧ X.cell? ⟨q, 7, none⟩ = some (.string d4) ∧ X.cell? ⟨q + 1 + 1, 0, none⟩ = some (.string n1) ∧ X.cell? ⟨q + 1 + 1, 1, none⟩ = some (.string d1) ∧ X.cell? ⟨q + 1 + 1, 2, none⟩ = some (.string n2) ∧ X.cell? ⟨q + 1 + 1, 3, none⟩ = some (.string d2) ∧ X.cell? ⟨q + 1 + 1, 4, none⟩ = some (.string n3) ∧ X.cell? ⟨q + 1 + 1, 5, none⟩ = some (.string d3) ∧ X.cell? ⟨q + 1 + 1, 6, none⟩ = some (.string n4) ∧ X.cell? ⟨q + 1 + 1, 7, none⟩ = some (.string d4) ∧ X.cell? ⟨q + 1, 0, none⟩ = some (.int .i64 c1) ∧ X.cell? ⟨q + 1, 1, none⟩ = some (.int .i64 c2) ∧ X.cell? ⟨q + 1, 2, none⟩ = some (.int .i64 c3) ∧ X.cell? ⟨q + 1, 3, none⟩ = some (.int .i64 c4) ∧ X.cell? ⟨q + 1 + 1 + 1, 0, none⟩ = some (.int .i64 c1) ∧ X.cell? ⟨q + 1 + 1 + 1, 1, none⟩ = some (.int .i64 c2) ∧ X.cell? ⟨q + 1 + 1 + 1, 2, none⟩ = some (.int .i64 c3) ∧ X.cell? ⟨q + 1 + 1 + 1, 3, none⟩ = some (.int .i64 c4)) (go_keep) (first | (go_at_call 20; (with_reducible refine (cR.run _).mono ?_); rintro e v7 ⟨rfl, g⟩; have g : Below v6.heap.size v6 v7 := g; replace h_N := h_N.keep g (by decide); replace h_a := h_a.keep g (by decide); replace h_t := h_t.keep g (by decide); replace h_r := h_r.keep g (by decide); replace h_e := h_e.keep g (by decide); replace h_T := h_T.keep g (by decide); replace h_F := h_F.keep g (by decide); replace u := u.trans (g.mono (HB.o ▸ u.size)); clear g; have c_a_0 : v7.cell? ⟨ba, 0, none⟩ = some (.string sn) := h_a.cell 0 (by decide); have c_a_1 : v7.cell? ⟨ba, 1, none⟩ = some (.string sd) := h_a.cell 1 (by decide); have c_t_0 : v7.cell? ⟨ba + 1, 0, none⟩ = some (.string tn) := h_t.cell 0 (by decide); have c_t_1 : v7.cell? ⟨ba + 1, 1, none⟩ = some (.string td) := h_t.cell 1 (by decide); have c_r_0 : v7.cell? ⟨q, 0, none⟩ = some (.string n1) := h_r.cell 0 (by decide); have c_r_1 : v7.cell? ⟨q, 1, none⟩ = some (.string d1) := h_r.cell 1 (by decide); have c_r_2 : v7.cell? ⟨q, 2, none⟩ = some (.string n2) := h_r.cell 2 (by decide); have c_r_3 : v7.cell? ⟨q, 3, none⟩ = some (.string d2) := h_r.cell 3 (by decide); have c_r_4 : v7.cell? ⟨q, 4, none⟩ = some (.string n3) := h_r.cell 4 (by decide); have c_r_5 : v7.cell? ⟨q, 5, none⟩ = some (.string d3) := h_r.cell 5 (by decide); have c_r_6 : v7.cell? ⟨q, 6, none⟩ = some (.string n4) := h_r.cell 6 (by decide); have c_r_7 : v7.cell? ⟨q, 7, none⟩ = some (.string d4) := h_r.cell 7 (by decide); have c_T_0 : v7.cell? ⟨q + 1 + 1, 0, none⟩ = some (.string n1) := h_T.cell 0 (by decide); have c_T_1 : v7.cell? ⟨q + 1 + 1, 1, none⟩ = some (.string d1) := h_T.cell 1 (by decide); have c_T_2 : v7.cell? ⟨q + 1 + 1, 2, none⟩ = some (.string n2) := h_T.cell 2 (by decide); have c_T_3 : v7.cell? ⟨q + 1 + 1, 3, none⟩ = some (.string d2) := h_T.cell 3 (by decide); have c_T_4 : v7.cell? ⟨q + 1 + 1, 4, none⟩ = some (.string n3) := h_T.cell 4 (by decide); have c_T_5 : v7.cell? ⟨q + 1 + 1, 5, none⟩ = some (.string d3) := h_T.cell 5 (by decide); have c_T_6 : v7.cell? ⟨q + 1 + 1, 6, none⟩ = some (.string n4) := h_T.cell 6 (by decide); have c_T_7 : v7.cell? ⟨q + 1 + 1, 7, none⟩ = some (.string d4) := h_T.cell 7 (by decide); have c_e_0 : v7.cell? ⟨q + 1, 0, none⟩ = some (.int .i64 c1) := h_e.cell 0 (by decide); have c_e_1 : v7.cell? ⟨q + 1, 1, none⟩ = some (.int .i64 c2) := h_e.cell 1 (by decide); have c_e_2 : v7.cell? ⟨q + 1, 2, none⟩ = some (.int .i64 c3) := h_e.cell 2 (by decide); have c_e_3 : v7.cell? ⟨q + 1, 3, none⟩ = some (.int .i64 c4) := h_e.cell 3 (by decide); have c_F_0 : v7.cell? ⟨q + 1 + 1 + 1, 0, none⟩ = some (.int .i64 c1) := h_F.cell 0 (by decide); have c_F_1 : v7.cell? ⟨q + 1 + 1 + 1, 1, none⟩ = some (.int .i64 c2) := h_F.cell 1 (by decide); have c_F_2 : v7.cell? ⟨q + 1 + 1 + 1, 2, none⟩ = some (.int .i64 c3) := h_F.cell 2 (by decide); have c_F_3 : v7.cell? ⟨q + 1 + 1 + 1, 3, none⟩ = some (.int .i64 c4) := h_F.cell 3 (by decide)) | (go_at_call 19; (with_reducible refine (cC.run _).mono ?_); rintro e v6 ⟨rfl, g⟩; have g : Below V5.heap.size V5 v6 := lundrew g; replace h_N := h_N.keep g (by decide); replace h_a := h_a.keep g (by decide); replace h_t := h_t.keep g (by decide); replace h_r := h_r.keep g (by decide); replace h_e := h_e.keep g (by decide); replace h_T := h_T.keep g (by decide); replace h_F := h_F.keep g (by decide); replace u := u.trans (g.mono (HB.o ▸ u.size)); clear g; have c_a_0 : v6.cell? ⟨ba, 0, none⟩ = some (.string sn) := h_a.cell 0 (by decide); have c_a_1 : v6.cell? ⟨ba, 1, none⟩ = some (.string sd) := h_a.cell 1 (by decide); have c_t_0 : v6.cell? ⟨ba + 1, 0, none⟩ = some (.string tn) := h_t.cell 0 (by decide); have c_t_1 : v6.cell? ⟨ba + 1, 1, none⟩ = some (.string td) := h_t.cell 1 (by decide); have c_r_0 : v6.cell? ⟨q, 0, none⟩ = some (.string n1) := h_r.cell 0 (by decide); have c_r_1 : v6.cell? ⟨q, 1, none⟩ = some (.string d1) := h_r.cell 1 (by decide); have c_r_2 : v6.cell? ⟨q, 2, none⟩ = some (.string n2) := h_r.cell 2 (by decide); have c_r_3 : v6.cell? ⟨q, 3, none⟩ = some (.string d2) := h_r.cell 3 (by decide); have c_r_4 : v6.cell? ⟨q, 4, none⟩ = some (.string n3) := h_r.cell 4 (by decide); have c_r_5 : v6.cell? ⟨q, 5, none⟩ = some (.string d3) := h_r.cell 5 (by decide); have c_r_6 : v6.cell? ⟨q, 6, none⟩ = some (.string n4) := h_r.cell 6 (by decide); have c_r_7 : v6.cell? ⟨q, 7, none⟩ = some (.string d4) := h_r.cell 7 (by decide); have c_T_0 : v6.cell? ⟨q + 1 + 1, 0, none⟩ = some (.string n1) := h_T.cell 0 (by decide); have c_T_1 : v6.cell? ⟨q + 1 + 1, 1, none⟩ = some (.string d1) := h_T.cell 1 (by decide); have c_T_2 : v6.cell? ⟨q + 1 + 1, 2, none⟩ = some (.string n2) := h_T.cell 2 (by decide); have c_T_3 : v6.cell? ⟨q + 1 + 1, 3, none⟩ = some (.string d2) := h_T.cell 3 (by decide); have c_T_4 : v6.cell? ⟨q + 1 + 1, 4, none⟩ = some (.string n3) := h_T.cell 4 (by decide); have c_T_5 : v6.cell? ⟨q + 1 + 1, 5, none⟩ = some (.string d3) := h_T.cell 5 (by decide); have c_T_6 : v6.cell? ⟨q + 1 + 1, 6, none⟩ = some (.string n4) := h_T.cell 6 (by decide); have c_T_7 : v6.cell? ⟨q + 1 + 1, 7, none⟩ = some (.string d4) := h_T.cell 7 (by decide); have c_e_0 : v6.cell? ⟨q + 1, 0, none⟩ = some (.int .i64 c1) := h_e.cell 0 (by decide); have c_e_1 : v6.cell? ⟨q + 1, 1, none⟩ = some (.int .i64 c2) := h_e.cell 1 (by decide); have c_e_2 : v6.cell? ⟨q + 1, 2, none⟩ = some (.int .i64 c3) := h_e.cell 2 (by decide); have c_e_3 : v6.cell? ⟨q + 1, 3, none⟩ = some (.int .i64 c4) := h_e.cell 3 (by decide); have c_F_0 : v6.cell? ⟨q + 1 + 1 + 1, 0, none⟩ = some (.int .i64 c1) := h_F.cell 0 (by decide); have c_F_1 : v6.cell? ⟨q + 1 + 1 + 1, 1, none⟩ = some (.int .i64 c2) := h_F.cell 1 (by decide); have c_F_2 : v6.cell? ⟨q + 1 + 1 + 1, 2, none⟩ = some (.int .i64 c3) := h_F.cell 2 (by decide); have c_F_3 : v6.cell? ⟨q + 1 + 1 + 1, 3, none⟩ = some (.int .i64 c4) := h_F.cell 3 (by decide)))
          clear c_a_0 c_a_1 c_t_0 c_t_1 c_r_0 c_r_1 c_r_2 c_r_3 c_r_4 c_r_5 c_r_6 c_r_7 c_T_0 c_T_1 c_T_2 c_T_3 c_T_4 c_T_5 c_T_6 c_T_7 c_e_0 c_e_1 c_e_2 c_e_3 c_F_0 c_F_1 c_F_2 c_F_3
          go_wp2_with fail
          go_roundw
          case rel => exact ⟨k + 1, by omega, by first | rfl | go_num | simp, ⟨h_N, u⟩⟩
          case measure => simp [intOf]; omega
end Rt
end Go.Proofs.YtappobhpdpfojaaGreat
namespace Go.Proofs.YtappobhpdpfojaaGreat
set_option maxRecDepth 1000000
namespace Rt
open Go.RowKit Go.Proofs.YtappobhpdpfojaaGreat.Nm
theorem matches_any (xn xd yn yd : ByteArray) (l0 l1 l2 l3 m0 m1 m2 m3 s0 s1 n d p : Int)
    (hl : (Lit.int .i64 l0).wf = true ∧ (Lit.int .i64 l1).wf = true ∧ (Lit.int .i64 l2).wf = true ∧ (Lit.int .i64 l3).wf = true) (hm : (Lit.int .i64 m0).wf = true ∧ (Lit.int .i64 m1).wf = true ∧ (Lit.int .i64 m2).wf = true ∧ (Lit.int .i64 m3).wf = true) (hs : (Lit.int .i64 s0).wf = true ∧ (Lit.int .i64 s1).wf = true)
    (hn : (Lit.int .i64 n).wf = true) (hd : (Lit.int .i64 d).wf = true) (hp : (Lit.int .i64 p).wf = true) (w : World) :
    Calls Tryz.prog 3 #[.agg #[.string xn, .string xd], .agg #[.string yn, .string yd], .agg #[.int .i64 l0, .int .i64 l1, .int .i64 l2, .int .i64 l3], .agg #[.int .i64 m0, .int .i64 m1, .int .i64 m2, .int .i64 m3], .agg #[.int .i64 s0, .int .i64 s1], .int .i64 n, .int .i64 d, .int .i64 p] w fun e w' => e = .returned (.bool true) ∧ Below w.heap.size w w' :=
  mr_walk xn xd yn yd l0 l1 l2 l3 m0 m1 m2 m3 s0 s1 n d p (Joins.in64_of_wf hl.1) (Joins.in64_of_wf hl.2.1) (Joins.in64_of_wf hl.2.2.1) (Joins.in64_of_wf hl.2.2.2) (Joins.in64_of_wf hm.1) (Joins.in64_of_wf hm.2.1) (Joins.in64_of_wf hm.2.2.1) (Joins.in64_of_wf hm.2.2.2) (Joins.in64_of_wf hs.1) (Joins.in64_of_wf hs.2) (Joins.in64_of_wf hn) (Joins.in64_of_wf hd) (Joins.in64_of_wf hp) w (fun W => sane_any W)
end Rt
end Go.Proofs.YtappobhpdpfojaaGreat
namespace Go.Proofs.YtappobhpdpfojaaGreat.rationalMatchesReference
open Go.ChangeShapes Go.WideShapes Go.ChangeAt Go.RowKit
open Go.ChangeMaps (open_string shut_string)

theorem own : ownKnob Tryz.prog.godebug = none := by kernel_rfl
theorem laidOut : laidOutB Tryz.prog = true := by kernel_rfl

set_option maxRecDepth 100000 in
theorem lifted (os : Os) (started : os.Started) (H : Type) (enc : TypeId × Value → H) :
    ReturnsInHanded {} Tryz.checked os 3 .any (Rows.rationalMatchesReferenceSpec.pre6 enc Tryz.prog Tryz.f3 Rows.rationalMatchesReferenceRow.domain false) (Rows.rationalMatchesReferenceSpec.post enc Tryz.prog Tryz.f3 false true false false) := by
  refine returnsInHanded_of_change (C := Tryz.checked) own started (by kernel_rfl) Tryz.func3
    (ChangeSpec.witness6 (enc := enc) (C := Tryz.checked) false ⟨#[], #[.agg #[.string ⟨#[]⟩, .string ⟨#[]⟩], .agg #[.string ⟨#[]⟩, .string ⟨#[]⟩], .agg #[.int .i64 0, .int .i64 0, .int .i64 0, .int .i64 0], .agg #[.int .i64 0, .int .i64 0, .int .i64 0, .int .i64 0], .agg #[.int .i64 0, .int .i64 0], .int .i64 0, .int .i64 0, .int .i64 0], []⟩ 8 (by kernel_rfl) (by kernel_rfl) (by kernel_rfl) (by kernel_rfl)) ?_
  intro W base args ds gs before hval0 hW hcnd _
  have hval : ∀ (j : Nat) t v, Tryz.f3.params[j]? = some t → args[j]? = some v → Value.okWide Tryz.prog W .any base t v := hval0
  have hW' := hW
  obtain ⟨p, q, hA0, hV, rfl, hfz, hnd⟩ := hW
  have hA : DataW.TrodAll enc Tryz.prog W 0 (fun _ => true) true Tryz.f3.params.toList args.toList ds p := hA0
  rw [Tryz.params3] at hA hval
  obtain ⟨v0, vs0, d0, ds0, p0, q0, hargs, rfl, rfl, h0, r0⟩ := trodAll_cons hA
  obtain ⟨v1, vs1, d1, ds1, p1, q1, rfl, rfl, rfl, h1, r1⟩ := trodAll_cons r0
  obtain ⟨v2, vs2, d2, ds2, p2, q2, rfl, rfl, rfl, h2, r2⟩ := trodAll_cons r1
  obtain ⟨v3, vs3, d3, ds3, p3, q3, rfl, rfl, rfl, h3, r3⟩ := trodAll_cons r2
  obtain ⟨v4, vs4, d4, ds4, p4, q4, rfl, rfl, rfl, h4, r4⟩ := trodAll_cons r3
  obtain ⟨v5, vs5, d5, ds5, p5, q5, rfl, rfl, rfl, h5, r5⟩ := trodAll_cons r4
  obtain ⟨v6, vs6, d6, ds6, p6, q6, rfl, rfl, rfl, h6, r6⟩ := trodAll_cons r5
  obtain ⟨v7, vs7, d7, ds7, p7, q7, rfl, rfl, rfl, h7, r7⟩ := trodAll_cons r6
  obtain ⟨rfl, rfl, rfl⟩ := trodAll_nil r7
  obtain rfl : args = #[v0, v1, v2, v3, v4, v5, v6, v7] := by cases args; simp_all
  obtain ⟨rfl, rfl⟩ := trodVars_none hV
  obtain ⟨a0, a1, rfl, rfl, rfl, wa⟩ := Rt.open_two Tryz.underlying23 Tryz.underlying9 Tryz.underlying9 rfl rfl (by kernel_rfl) (by kernel_rfl) (by kernel_rfl) (hval 0 23 v0 rfl rfl) h0
  obtain ⟨b0, b1, rfl, rfl, rfl, wb⟩ := Rt.open_two Tryz.underlying23 Tryz.underlying9 Tryz.underlying9 rfl rfl (by kernel_rfl) (by kernel_rfl) (by kernel_rfl) (hval 1 23 v1 rfl rfl) h1
  obtain ⟨c0, c1, c2, c3, rfl, rfl, rfl, wc⟩ := Rt.open_arr4 Tryz.underlying24 Tryz.underlying3 (by kernel_rfl) (by kernel_rfl) (hval 2 24 v2 rfl rfl) h2
  obtain ⟨d0, d1, d2, d3, rfl, rfl, rfl, wd⟩ := Rt.open_arr4 Tryz.underlying24 Tryz.underlying3 (by kernel_rfl) (by kernel_rfl) (hval 3 24 v3 rfl rfl) h3
  obtain ⟨e0, e1, rfl, rfl, rfl, we⟩ := Rt.open_arr2 Tryz.underlying25 Tryz.underlying3 (by kernel_rfl) (by kernel_rfl) (hval 4 25 v4 rfl rfl) h4
  obtain ⟨f, rfl, rfl, rfl, wf⟩ := open_int Tryz.underlying3 (hval 5 3 v5 rfl rfl) h5
  obtain ⟨g, rfl, rfl, rfl, wg⟩ := open_int Tryz.underlying3 (hval 6 3 v6 rfl rfl) h6
  obtain ⟨h, rfl, rfl, rfl, wh⟩ := open_int Tryz.underlying3 (hval 7 3 v7 rfl rfl) h7
  clear hA0 hval0
  simp only [List.append_nil] at hW'
  refine (Rt.matches_any a0 a1 b0 b1 c0 c1 c2 c3 d0 d1 d2 d3 e0 e1 f g h wc wd we wf wg wh W).mono fun e W' ⟨he, hb⟩ => ?_
  subst he
  refine ⟨_, rfl, [_, _, _, _, _, _, _, _], [], [], [], [], [], hW', trodAll_cons_mk (shut_bool Tryz.underlying4 _) trodAll_mk0, ?_, rfl, World.keptBut_mono (fun x hx => by cases hx) (hb.frame (· ∈ [])), fun h => by cases h⟩
  exact trodAll_cons_mk (Rt.shut_two Tryz.underlying23 Tryz.underlying9 Tryz.underlying9 rfl rfl (by kernel_rfl) (by kernel_rfl) (by kernel_rfl) wa) (trodAll_cons_mk (Rt.shut_two Tryz.underlying23 Tryz.underlying9 Tryz.underlying9 rfl rfl (by kernel_rfl) (by kernel_rfl) (by kernel_rfl) wb) (trodAll_cons_mk (Rt.shut_arr4 Tryz.underlying24 Tryz.underlying3 (by kernel_rfl) (by kernel_rfl) wc) (trodAll_cons_mk (Rt.shut_arr4 Tryz.underlying24 Tryz.underlying3 (by kernel_rfl) (by kernel_rfl) wd) (trodAll_cons_mk (Rt.shut_arr2 Tryz.underlying25 Tryz.underlying3 (by kernel_rfl) (by kernel_rfl) we) (trodAll_cons_mk (shut_int Tryz.underlying3 wf) (trodAll_cons_mk (shut_int Tryz.underlying3 wg) (trodAll_cons_mk (shut_int Tryz.underlying3 wh) trodAll_mk0)))))))

theorem said : Rows.RationalMatchesReferenceSaid :=
  OpenClaim.holds_of_wide 3 Tryz.f3 rfl rfl rfl rfl rfl rfl rfl ⟨rfl, rfl, rfl, rfl, rfl⟩ rfl rfl rfl rfl rfl (by kernel_rfl) Tryz.func3 (by kernel_rfl)
    (of_decide_eq_true (by kernel_rfl)) (by unfold Func.isWrapper; first | (rw [if_pos (by decide +kernel)]; kernel_rfl) | (rw [if_neg (by decide +kernel)]; exact ⟨rfl, rfl⟩))
    (fun os started H enc _ => lifted os started H enc)
end Go.Proofs.YtappobhpdpfojaaGreat.rationalMatchesReference
