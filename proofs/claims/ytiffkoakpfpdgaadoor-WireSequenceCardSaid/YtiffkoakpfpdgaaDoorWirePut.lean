/-
  The contract of PutInt.
-/
import Derived.Test.YtiffkoakpfpdgaaDoorWireGrp
namespace Go.Proofs.YtiffkoakpfpdgaaDoor
open Go.RowKit Go.Shelf

attribute [local go_sem] Oper.semAt_some

theorem cell_of_box_l {W : World} {B : Nat} {v : Value} {t : TypeId} (h : W.heap[B]? = some (.cells #[v] t (0, 0))) : W.cell? ⟨B, 0, none⟩ = some v ∧ W.frozen? ⟨B, 0, none⟩ = false := by
  constructor <;> simp [World.cell?, World.frozen?, h]
theorem cell_new_l (W : World) (v : Value) (t : TypeId) : (W.alloc (.cells #[v] t)).cell? ⟨W.heap.size, 0, none⟩ = some v ∧ (W.alloc (.cells #[v] t)).frozen? ⟨W.heap.size, 0, none⟩ = false :=
  cell_of_box_l (World.alloc_heap_new W _)
theorem cell_alloc_l {W : World} {a : Addr} {v : Value} (o : Obj) (h : W.cell? a = some v) : (W.alloc o).cell? a = some v := cell_kept h (World.grownBy_alloc W o none) (fun r e => by cases e)
theorem frozen_alloc_l {W : World} {a : Addr} {v : Value} (o : Obj) (h : W.cell? a = some v) (hf : W.frozen? a = false) : (W.alloc o).frozen? a = false := (frozen_kept h (World.grownBy_alloc W o none) (fun r e => by cases e)).trans hf

set_option maxHeartbeats 1000000 in
theorem groups_in (F : Fence) (n : Nat) (hf : F.fn 23) (hro : F.round = none) (z : Nat) (w : World) :
    CallsIn F n Tryd.prog 23 #[.int .u64 z] w fun e w' => e = .returned (.func (.func 28) #[] #[.pointer (some ⟨w.heap.size, 0, none⟩)]) ∧ w' = w.alloc (.cells #[.int .u64 z] 49) := by
  refine callsIn_of_wp Tryd.func23 rfl hf ?_ hro
  simp only [Tryd.ntmps23, List.size_toArray, List.length_cons, List.length_nil, Nat.reduceAdd, Nat.reduceSub, Array.replicate_succ, Array.replicate_zero, List.push_toArray, List.append_toArray, List.nil_append, List.cons_append]
  gi_wp2
  go_ret
  exact ⟨rfl, rfl⟩

theorem groups_stops (F : Fence) (n : Nat) (hf : F.fn 28) (hro : F.round = none) (hn : 1 ≤ n) (Bn n₀ : Nat) (z : Nat) (hz : z < 9223372036854775808) (w : World) (hBn : Bn < w.heap.size)
    (hc : w.cell? ⟨Bn, 0, none⟩ = some (.int .u64 z)) :
    SeqStopsK F n Tryd.prog 28 #[.pointer (some ⟨Bn, 0, none⟩)] (fun x : UInt8 => #[Value.int .u8 x.toNat]) (Below n₀) (fun ys => ys = Wm.enc z) (fun pre => pre <+: Wm.enc z) (Wm.enc z).length w := fun l J Jx W hW _ _ hY h0 =>
  groups1_in F n hf hro hn l Bn n₀ z hz J Jx hY W ((hW.cell (p := ⟨Bn, 0, none⟩) hBn).trans hc) h0

/-- the array's nine cells hold what has come, and zeros behind it -/
def Out (b : Nat) (pre : List UInt8) (W : World) : Prop := ∀ i, i < 9 → W.cell? ⟨b, i, none⟩ = some (.int .u8 (((pre.getD i 0).toNat : Nat) : Int)) ∧ W.frozen? ⟨b, i, none⟩ = false
theorem Out.kept {b : Nat} {pre : List UInt8} {A B : World} {row : Option Nat} (h : Out b pre A) (hg : A.grownBy B row) (hr : ∀ r, row = some r → ∃ o : Obj, A.heap[r]? = some o ∧ o.isCells = false) : Out b pre B :=
  fun i hi => ⟨cell_kept (h i hi).1 hg hr, (frozen_kept (h i hi).1 hg hr).trans (h i hi).2⟩
theorem Out.alloc {b : Nat} {pre : List UInt8} {A : World} (h : Out b pre A) (o : Obj) : Out b pre (A.alloc o) :=
  fun i hi => ⟨cell_alloc_l o (h i hi).1, frozen_alloc_l o (h i hi).1 (h i hi).2⟩
theorem out_new (w : World) (t : TypeId) : Out w.heap.size [] (w.alloc (.cells #[.int .u8 0, .int .u8 0, .int .u8 0, .int .u8 0, .int .u8 0, .int .u8 0, .int .u8 0, .int .u8 0, .int .u8 0] t)) := fun i hi => by
  refine ⟨?_, ?_⟩
  · rw [World.cell?_alloc_mark]
    match i, hi with
    | 0, _ | 1, _ | 2, _ | 3, _ | 4, _ | 5, _ | 6, _ | 7, _ | 8, _ => rfl
  · rw [World.frozen?_alloc_mark]; simp
theorem Out.store {b : Nat} {pre : List UInt8} {A : World} (h : Out b pre A) (x : UInt8) : Out b (pre ++ [x]) (A.setCell ⟨b, pre.length, none⟩ (.int .u8 ((x.toNat : Nat) : Int))) := fun i hi => by
  obtain ⟨h1, h2⟩ := h i hi
  refine ⟨?_, by rw [World.frozen?_setCell]; exact h2⟩
  by_cases e : i = pre.length
  · subst e
    rw [World.cell?_setCell_same' _ _ _ (by rw [h1]; rfl)]
    simp
  · rw [World.cell?_setCell_other _ _ _ _ (by simp; try omega), h1]
    congr 4
    by_cases hi2 : i < pre.length
    · simp [List.getD, List.getElem?_append_left hi2]
    · simp [List.getD]
      rw [List.getElem?_eq_none (by omega), List.getElem?_eq_none (by simp; omega)]
theorem Out.other {b : Nat} {pre : List UInt8} {A : World} (h : Out b pre A) (p : Addr) (hp : p.block ≠ b) (v : Value) : Out b pre (A.setCell p v) := fun i hi => by
  obtain ⟨h1, h2⟩ := h i hi
  exact ⟨by rw [World.cell?_setCell_other _ _ _ _ (by intro e; exact hp (by rw [e]))]; exact h1, by rw [World.frozen?_setCell]; exact h2⟩

theorem len9 : Tryd.prog.arrayLen 46 = 9 := by kernel_rfl
theorem under9 : Tryd.prog.underlying 46 = some (.array (Tryd.prog.arrayLen 46) (Tryd.prog.elem 46)) := by kernel_rfl
theorem size9 (w : World) : (Go.sizeOf (Tryd.prog.elem 46)).run Tryd.prog w = .ok 1 w := by kernel_rfl
theorem slice9 (b n : Nat) (hn : n ≤ 9) (w : World) :
    Sem.run Tryd.prog (Instr.sliceAt 46 (.pointer (some ⟨b, 0, none⟩)) none (some (.int .i64 (n : Int))) none) w = .ok (.slice (some ⟨b, 0, none⟩) n 9) w := by
  have h := run_sliceAt_array_h (P := Tryd.prog) w 46 ⟨b, 0, none⟩ under9 .i64 (n : Int) (by omega) (by rw [len9]; omega)
  rw [h, size9, len9]
  simp [Result.andThen, slicedAt, Addr.add_lit]

set_option maxRecDepth 100000 in
set_option maxHeartbeats 2000000 in
theorem putInt_in (n : Int) (h1 : -4611686018427387903 ≤ n) (h2 : n ≤ 4611686018427387903) (w : World) :
    CallsIn Fence.wide 4 Tryd.prog 12 #[.int .i64 n] w fun e w' => e = .returned (.tuple #[.string ⟨(Wm.enc (Wm.zz n)).toArray⟩, .int .i64 0]) ∧ Below w.heap.size w w' := by
  have hf : Fence.wide.fn 23 := trivial
  have hf' : Fence.wide.fn 24 := trivial
  have hro : Fence.wide.round = none := rfl
  refine callsIn_of_wp_marks Tryd.func12 rfl trivial ?_ rfl
  simp only [Tryd.ntmps12, List.size_toArray, List.length_cons, List.length_nil, Nat.reduceAdd, Nat.reduceSub, Array.replicate_succ, Array.replicate_zero, List.push_toArray, List.append_toArray, List.nil_append, List.cons_append]
  gi_wp2_with (first | (gi_at_call 24; refine (callsIn_wide.2 (fold_any n h1 h2 _)).mono ?_; rintro e w' ⟨rfl, rfl⟩) | (gi_at_call 23; refine (groups_in _ _ trivial rfl _ _).mono ?_; rintro e w' ⟨rfl, rfl⟩))
  have hzl := Wm.zz_lt n h1 h2
  have hen := Wm.enc_len 9 (Wm.zz n) (by omega) (by omega)
  generalize hzz : Wm.zz n = z at *
  have HZ := Lib.hid hzz
  clear hzz
  have ho0 := out_new w 46
  have hs0 := cell_new_l (w.alloc (.cells #[.int .u8 0, .int .u8 0, .int .u8 0, .int .u8 0, .int .u8 0, .int .u8 0, .int .u8 0, .int .u8 0, .int .u8 0] 46)) (.int .i64 0) 3
  have hB0 : Below w.heap.size w (w.alloc (.cells #[.int .u8 0, .int .u8 0, .int .u8 0, .int .u8 0, .int .u8 0, .int .u8 0, .int .u8 0, .int .u8 0, .int .u8 0] 46)) := (Below.refl _ w).alloc (Nat.le_refl _) _
  have hz0 : (w.alloc (.cells #[.int .u8 0, .int .u8 0, .int .u8 0, .int .u8 0, .int .u8 0, .int .u8 0, .int .u8 0, .int .u8 0, .int .u8 0] 46)).heap.size = w.heap.size + 1 := World.size_alloc _ _
  generalize w.alloc (.cells #[.int .u8 0, .int .u8 0, .int .u8 0, .int .u8 0, .int .u8 0, .int .u8 0, .int .u8 0, .int .u8 0, .int .u8 0] 46) = w0 at *
  have hB1 : Below w.heap.size w (w0.alloc (.cells #[.int .i64 0] 3)) := hB0.alloc (by omega) _
  have ho1 := ho0.alloc (.cells #[.int .i64 0] 3)
  have hz1 : (w0.alloc (.cells #[.int .i64 0] 3)).heap.size = w.heap.size + 1 + 1 := by rw [World.size_alloc, hz0]
  rw [hz0] at hs0
  generalize w0.alloc (.cells #[.int .i64 0] 3) = w1 at *
  have hc2 := cell_new_l w1 (.int .u64 z) 49
  have hB2 : Below w.heap.size w (w1.alloc (.cells #[.int .u64 z] 49)) := hB1.alloc (by omega) _
  have ho2 := ho1.alloc (.cells #[.int .u64 z] 49)
  have hs2 := cell_alloc_l (.cells #[.int .u64 z] 49) hs0.1
  have hf2 := frozen_alloc_l (.cells #[.int .u64 z] 49) hs0.1 hs0.2
  have hz2 : (w1.alloc (.cells #[.int .u64 z] 49)).heap.size = w.heap.size + 1 + 1 + 1 := by rw [World.size_alloc, hz1]
  rw [hz1] at hc2
  generalize w1.alloc (.cells #[.int .u64 z] 49) = w2 at *
  clear hB0 ho0 hs0 hz0 hB1 ho1 hz1
  refine wpIn_rangeFunc_ownF hro (by omega) (gf := 28) (lb := #[.pointer (some ⟨w.heap.size + 1 + 1, 0, none⟩)]) rfl trivial (enters_of Tryd.func28 (by kernel_rfl) rfl)
    (groups_stops Fence.wide (4 - 1) trivial hro (by omega) (w.heap.size + 1 + 1) w.heap.size z (by omega) w2 (by omega) hc2.1) belowK_t (belowK_b (by omega)) (Below.refl _ _) (fun _ => rfl)
    (fun pre W => (Out w.heap.size pre W ∧ W.cell? ⟨w.heap.size + 1, 0, none⟩ = some (.int .i64 pre.length) ∧ W.frozen? ⟨w.heap.size + 1, 0, none⟩ = false) ∧ Below w.heap.size w W)
    (fun _ _ _ => False)
    (OwnFrom.and (Own.from (fun s A B row hs hg hr => ⟨hs.1.kept hg hr, cell_kept hs.2.1 hg hr, (frozen_kept hs.2.1 hg hr).trans hs.2.2⟩) _) (ownFrom_below (Nat.le_refl _) (by omega)))
    (fun _ _ _ _ _ hs _ _ => hs)
    ⟨⟨ho2, hs2, hf2⟩, hB2⟩
    (fun x => { tmps := #[.int .i64 n, undef, .string { data := #[] }, .int .i64 0, .pointer (some ⟨w.heap.size, 0, none⟩), .pointer (some ⟨w.heap.size + 1, 0, none⟩), .int .u8 x.toNat, .int .i64 n,
          Value.bool (decide (n < -4611686018427387903)), Value.bool (decide (n < -4611686018427387903)),
          Value.int IntKind.i64 n, Value.bool (decide (4611686018427387903 < n)),
          Value.bool (decide (n < -4611686018427387903) || decide (4611686018427387903 < n)), Value.int IntKind.i64 n,
          Value.int IntKind.u64 z, Value.func (Fn.func 28) #[] #[Value.pointer (some { block := w.heap.size + 1 + 1, off := 0 })], .int .u8 x.toNat, undef, undef, undef, undef, undef, undef, undef, undef], defers := [] }) ?assign ?body ?done ?stop
  case assign =>
    intro l x W K hK
    gi_wp2
    exact hK
  case body =>
    rintro l pre x W ⟨⟨ho, hc, hf⟩, hB⟩ hlen
    have hlen9 : pre.length < 9 := by omega
    obtain ⟨hx1, hx2⟩ := ho pre.length hlen9
    have HO := Lib.hid ho
    clear ho
    gi_wp2
    have hc' : (W.setCell ⟨w.heap.size, pre.length, none⟩ (.int .u8 ((x.toNat : Nat) : Int))).cell? ⟨w.heap.size + 1, 0, none⟩ = some (.int .i64 pre.length) := by
      rw [World.cell?_setCell_other _ _ _ _ (by simp)]; exact hc
    refine ⟨(KeepsOthers.setCell _ _ _).trans (KeepsOthers.setCell _ _ _), ((Below.refl w.heap.size W).setCell (p := ⟨w.heap.size, pre.length, none⟩) (Nat.le_refl _) _).setCell (p := ⟨w.heap.size + 1, 0, none⟩) (by simp) _,
      ⟨(HO.out.store x).other ⟨w.heap.size + 1, 0, none⟩ (by simp) _, ?_, ?_⟩, (hB.setCell (p := ⟨w.heap.size, pre.length, none⟩) (Nat.le_refl _) _).setCell (p := ⟨w.heap.size + 1, 0, none⟩) (by simp) _⟩
    · rw [World.cell?_setCell_same' _ _ _ (by rw [hc']; rfl)]
      simp
    · rw [World.frozen?_setCell, World.frozen?_setCell]; exact hf
  case done =>
    rintro D ys W hD rfl ⟨⟨ho, hc, hf⟩, hB⟩ hK
    have hback := Go.run_convert_bytes_back (P := Tryd.prog) W 38 9 5 ⟨w.heap.size, 0, none⟩ 9 (Wm.enc z) Tryd.underlying38 Tryd.underlying5 Tryd.underlying9 (fun j hj => by
      have := (ho j (by omega)).1
      rw [Addr.add_lit, Nat.zero_add, this]
      simp [List.getD, hj])
    have hpos := Wm.enc_pos z
    have hsl := slice9 w.heap.size (Wm.enc z).length hen
    generalize htt : Wm.enc z = t at *
    have HT := Lib.hid htt
    clear htt
    clear ho hc2 ho2 hs2 hf2 hB2
    gi_wp2
    refine ⟨by simp, .inl ⟨_, _, rfl, run_takeDeferred hK, ?_⟩⟩
    exact ⟨_, results_tmp2 rfl _ _ _, by rw [HZ.out, HT.out]; rfl, hB.trans (belowK_b (w := w) (Nat.le_refl _) W D _ _ (by omega) hK rfl rfl)⟩
  case stop =>
    rintro D c pre W _ _ h _
    exact h.elim

theorem putInt_any (n : Int) (h1 : -4611686018427387903 ≤ n) (h2 : n ≤ 4611686018427387903) (w : World) :
    Calls Tryd.prog 12 #[.int .i64 n] w fun e w' => e = .returned (.tuple #[.string ⟨(Wm.enc (Wm.zz n)).toArray⟩, .int .i64 0]) ∧ Below w.heap.size w w' :=
  callsIn_wide.1 (putInt_in n h1 h2 w)

set_option maxHeartbeats 400000 in
theorem putInt_out (n : Int) (h : n < -4611686018427387903 ∨ 4611686018427387903 < n) (w : World) :
    Calls Tryd.prog 12 #[.int .i64 n] w fun e w' => e = .returned (.tuple #[.string ⟨#[]⟩, .int .i64 10]) ∧ Below w.heap.size w w' := by
  by_cases h1 : n < -4611686018427387903
  · clear h
    go_enter Tryd.func12, Tryd.ntmps12
    go_wp2
    go_ret2
    exact ⟨rfl, Below.refl _ _⟩
  · have h2 : 4611686018427387903 < n := by omega
    clear h
    go_enter Tryd.func12, Tryd.ntmps12
    go_wp2
    go_ret2
    exact ⟨rfl, Below.refl _ _⟩

end Go.Proofs.YtiffkoakpfpdgaaDoor
