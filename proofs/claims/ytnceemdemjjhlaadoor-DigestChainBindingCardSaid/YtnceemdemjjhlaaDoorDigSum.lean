/-
  The contract of sumOf.
-/
import Derived.Test.YtnceemdemjjhlaaDoorDigBlocks
namespace Go.Proofs.YtnceemdemjjhlaaDoor
open Go.RowKit Go.Shelf

attribute [local go_sem] Oper.semAt_some

theorem wpListIn_load_cells {F : Fence} {n : Nat} {P : Program} {ops : Array Oper} {rest : List Oper} {o : Oper} {a : Act} {w : World} {Q : Exit → Act → World → Prop} (hgd : o.guard = none) (ty : TypeId) (x : Operand) (ho : o.op = .load ty x)
    (g : Nat) (hx : a.eval x = .pointer (some ⟨g, 0, none⟩)) (cs : Array Value) (d : TypeDesc) (hc : ∀ j v, cs.toList[j]? = some v → w.cell? ⟨g, j, none⟩ = some v)
    (hu : P.underlying ty = some d) (hd : (match d with | .struct _ | .array _ _ => true | _ => false) = true) (hi : (P.info? ty).map (·.size) = some cs.size)
    (h : wpListIn F n P ops Q rest (a.put o.dst (.agg cs)) w) : wpListIn F n P ops Q (o :: rest) a w := by
  have hrun : (loadVar ty ⟨g, 0, none⟩).run P w = .ok (.agg cs) w := by
    have hl : (loadCells ⟨g, 0, none⟩ cs.toList.length).run P w = .ok cs.toList.toArray w :=
      run_loadCells_list (P := P) w ⟨g, 0, none⟩ cs.toList (fun j v hv => by
        have hadd : (⟨g, 0, none⟩ : Addr).add j = ⟨g, j, none⟩ := by unfold Addr.add; split <;> simp_all
        rw [hadd]; exact hc j v hv)
    cases hq : P.info? ty with
    | none => simp [hq] at hi
    | some i =>
      have hs : i.size = cs.size := by simpa [hq] using hi
      have hagg : (isAgg ty).run P w = .ok true w := by
        unfold isAgg
        rw [Sem.run_bind, run_underlying hu w]
        cases d <;> simp_all
      simp only [Array.length_toList, Array.toArray_toList] at hl
      simp [loadVar, Sem.run_bind, hagg, sizeOf, typeInfo, hq, hs, hl]
  refine wpListIn_plain hgd fun K hK => ?_
  unfold Oper.wpIn
  refine ⟨?_, ?_⟩
  · intro f hf; simp [Oper.about, ho] at hf
  · rw [Oper.semAt_plain F _ _ (by rw [ho]; intro c hc; cases hc)]
    simp only [execOp, ho, hx, Instr.loadAt, Instr.sureAddr, Sem.run_bind, Sem.run_pure, Result.andThen_ok, hrun]
    exact hK _ _ h

set_option maxHeartbeats 1000000 in
theorem blocks_in (F : Fence) (n : Nat) (hf : F.fn 48) (hro : F.round = none) (v : Value) (hv : ∃ p l c, v = .slice p l c) (w : World) :
    CallsIn F n Tryd.prog 48 #[v] w fun e w' => e = .returned (.func (.func 53) #[] #[.pointer (some ⟨w.heap.size, 0, none⟩)]) ∧ w' = w.alloc (.cells #[v] 26) := by
  obtain ⟨p, l, c, rfl⟩ := hv
  refine callsIn_of_wp Tryd.func48 rfl hf ?_ hro
  simp only [Tryd.ntmps48, List.size_toArray, List.length_cons, List.length_nil, Nat.reduceAdd, Nat.reduceSub, Array.replicate_succ, Array.replicate_zero, List.push_toArray, List.append_toArray, List.nil_append, List.cons_append]
  gi_wp2
  go_ret
  exact ⟨rfl, rfl⟩

def zero32 : List Nat := List.replicate 32 0
theorem zb32 : #[Value.int IntKind.u8 0, Value.int IntKind.u8 0, Value.int IntKind.u8 0, Value.int IntKind.u8 0, Value.int IntKind.u8 0, Value.int IntKind.u8 0, Value.int IntKind.u8 0, Value.int IntKind.u8 0, Value.int IntKind.u8 0, Value.int IntKind.u8 0, Value.int IntKind.u8 0, Value.int IntKind.u8 0, Value.int IntKind.u8 0, Value.int IntKind.u8 0, Value.int IntKind.u8 0, Value.int IntKind.u8 0, Value.int IntKind.u8 0, Value.int IntKind.u8 0, Value.int IntKind.u8 0, Value.int IntKind.u8 0, Value.int IntKind.u8 0, Value.int IntKind.u8 0, Value.int IntKind.u8 0, Value.int IntKind.u8 0, Value.int IntKind.u8 0, Value.int IntKind.u8 0, Value.int IntKind.u8 0, Value.int IntKind.u8 0, Value.int IntKind.u8 0, Value.int IntKind.u8 0, Value.int IntKind.u8 0, Value.int IntKind.u8 0] = u8s zero32 := rfl
theorem outs_get : ∀ (h : List Nat) (j i : Nat), j < h.length → i < 4 → (Sh.outs h).getD (4 * j + i) 0 = (Sh.bytes4 (h.getD j 0)).getD i 0
  | [], j, i, hj, _ => by simp at hj
  | x :: t, 0, i, _, hi => by
    have e : Sh.outs (x :: t) = Sh.bytes4 x ++ Sh.outs t := by simp [Sh.outs]
    rw [e, Nat.mul_zero, Nat.zero_add, getD_app _ _ _ (by simp only [Sh.bytes4, List.length_cons, List.length_nil]; omega)]; rfl
  | x :: t, j + 1, i, hj, hi => by
    have e : Sh.outs (x :: t) = Sh.bytes4 x ++ Sh.outs t := by simp [Sh.outs]
    have h4 : (Sh.bytes4 x).length = 4 := by simp [Sh.bytes4]
    have ih := outs_get t j i (by simpa using hj) hi
    rw [e, show 4 * (j + 1) + i = (4 * j + i) + 4 by omega]
    have : (Sh.bytes4 x ++ Sh.outs t).getD (4 * j + i + 4) 0 = (Sh.outs t).getD (4 * j + i) 0 := by
      rw [List.getD_eq_getElem?_getD, List.getElem?_append_right (by omega), h4, Nat.add_sub_cancel, List.getD_eq_getElem?_getD]
    rw [this, ih]; rfl
theorem out_step (h : List Nat) (j y : Nat) (hj : j < 8) (hl : h.length = 8) (hy : y = h.getD j 0) :
    (((((Sh.outs h).take (4 * j) ++ List.replicate (32 - 4 * j) 0).set (4 * j) (y / 16777216 % 256)).set (4 * j + 1) (y / 65536 % 256)).set (4 * j + 2) (y / 256 % 256)).set (4 * j + 3) (y % 256) = (Sh.outs h).take (4 * (j + 1)) ++ List.replicate (32 - 4 * (j + 1)) 0 := by
  have ho : (Sh.outs h).length = 32 := by rw [Sh.outs_len, hl]
  have g := fun i hi => (outs_get h j i (by omega) hi)
  rw [← hy] at g
  have g0 := g 0 (by omega)
  have g1 := g 1 (by omega)
  have g2 := g 2 (by omega)
  have g3 := g 3 (by omega)
  simp only [Sh.bytes4, List.getD_cons_zero, List.getD_cons_succ, Nat.add_zero] at g0 g1 g2 g3
  rw [fill_step (Sh.outs h) (4 * j) 32 _ (by omega) (by omega) g0.symm, fill_step (Sh.outs h) (4 * j + 1) 32 _ (by omega) (by omega) g1.symm,
    show 4 * j + 1 + 1 = 4 * j + 2 by omega, fill_step (Sh.outs h) (4 * j + 2) 32 _ (by omega) (by omega) g2.symm, show 4 * j + 2 + 1 = 4 * j + 3 by omega, fill_step (Sh.outs h) (4 * j + 3) 32 _ (by omega) (by omega) g3.symm,
    show 4 * j + 3 + 1 = 4 * (j + 1) by omega]
theorem all32 (b : Nat) (w : World) : Sem.run Tryd.prog (Instr.sliceAt 67 (.pointer (some ⟨b, 0, none⟩)) none none none) w = .ok (.slice (some ⟨b, 0, none⟩) 32 32) w := by
  have len : Tryd.prog.arrayLen 67 = 32 := by kernel_rfl
  have und : Tryd.prog.underlying 67 = some (.array (Tryd.prog.arrayLen 67) (Tryd.prog.elem 67)) := by kernel_rfl
  have sz : (Go.sizeOf (Tryd.prog.elem 67)).run Tryd.prog w = .ok 1 w := by kernel_rfl
  have h := run_sliceAt_array_all (P := Tryd.prog) w 67 ⟨b, 0, none⟩ und
  rw [h, sz, len]
  simp [Result.andThen, slicedAt, Addr.add]
def zero8 : List Nat := List.replicate 8 0
theorem zero8_eq : zero8 = List.replicate 8 0 := rfl
theorem H0_cells {w : World} (ht : Tab w) : ∀ j v, (u32s Sh.H0).toList[j]? = some v → w.cell? ⟨0, j, none⟩ = some v := by
  intro j v h
  have hj : j < 8 := by
    have := (List.getElem?_eq_some_iff.1 h).1
    simp [u32s, Sh.H0] at this; exact this
  have h2 := u32s_get Sh.H0 j hj
  rw [ht.2.1 j hj]
  rw [Array.getElem?_toList] at h
  rw [← h2, h]

set_option maxRecDepth 100000 in
set_option maxHeartbeats 2000000 in
theorem sumOf_in (pb : Nat) (ss : List ByteArray) (cap : Nat) (hlen : (allB ss).length ≤ 1048576) (hss : ss.length ≤ 1048576) (w : World) (ht : Tab w) (hpl : pb < w.heap.size) (hP : PartsAt w pb ss) :
    CallsIn Fence.wide 4 Tryd.prog 37 #[.slice (some ⟨pb, 0, none⟩) ss.length cap] w fun e w' => e = .returned (.string (Sh.ba (Sh.shaN (allB ss)))) ∧ Below w.heap.size w w' := by
  refine callsIn_of_wp_marks Tryd.func37 rfl trivial ?_ rfl
  simp only [Tryd.ntmps37, List.size_toArray, List.length_cons, List.length_nil, Nat.reduceAdd, Nat.reduceSub, Array.replicate_succ, Array.replicate_zero, List.push_toArray, List.append_toArray, List.nil_append, List.cons_append]
  have HC : Shut _ := ⟨H0_cells ht⟩
  have HI : Shut ((Tryd.prog.info? 61).map (·.size) = some (u32s Sh.H0).size) := ⟨by rw [u32s_size]; exact info8⟩
  have HO : Shut ((u32s zero8).size = (u32s Sh.H0).size) := ⟨rfl⟩
  have H1 : Shut ((u32s Sh.H0).all (·.oneCell') = true) := ⟨u32s_one _⟩
  have HT : Shut _ := ⟨ht⟩
  have hf : Fence.wide.fn 48 := trivial
  have HP : Shut _ := ⟨hP⟩
  clear ht hP
  gi_wp2_with (first | refine wpListIn_load_cells rfl 61 _ rfl 0 rfl (u32s Sh.H0) _ HC.o Tryd.underlying61 rfl HI.o ?_ | (rw [z8, ← zero8_eq]; refine wpListIn_store_row rfl 61 _ _ rfl _ (u32s Sh.H0) rfl rfl 61 _ (RowAt.new _ _ _) HI.o HO.o H1.o ?_) | (gi_at_call 48; refine (blocks_in _ _ trivial rfl _ ⟨_, _, _, rfl⟩ _).mono ?_; rintro e w' ⟨rfl, rfl⟩))
  have hB1 : Below w.heap.size w ((w.alloc (.cells (u32s zero8) 61)).setRow w.heap.size (u32s Sh.H0)) := below_setRow ((Below.refl _ w).alloc (Nat.le_refl _) _) (Nat.le_refl _) _
  have hr1 : RowAt ((w.alloc (.cells (u32s zero8) 61)).setRow w.heap.size (u32s Sh.H0)) w.heap.size (u32s Sh.H0) 61 := (RowAt.new w _ _).row_same _
  have hz1 : ((w.alloc (.cells (u32s zero8) 61)).setRow w.heap.size (u32s Sh.H0)).heap.size = w.heap.size + 1 := by simp [World.setRow]
  generalize (w.alloc (.cells (u32s zero8) 61)).setRow w.heap.size (u32s Sh.H0) = w1 at *
  have hB2 := hB1.alloc (by omega) (.cells #[.slice (some ⟨pb, 0, none⟩) ss.length cap] 26)
  have hr2 := hr1.alloc (.cells #[.slice (some ⟨pb, 0, none⟩) ss.length cap] 26)
  have hc2 : (w1.alloc (.cells #[.slice (some ⟨pb, 0, none⟩) ss.length cap] 26)).cell? ⟨w.heap.size + 1, 0, none⟩ = some (.slice (some ⟨pb, 0, none⟩) ss.length cap) := by
    rw [← hz1]; exact (RowAt.new w1 _ _).cell 0
  have hz2 : (w1.alloc (.cells #[.slice (some ⟨pb, 0, none⟩) ss.length cap] 26)).heap.size = w.heap.size + 1 + 1 := by rw [World.size_alloc, hz1]
  generalize w1.alloc (.cells #[.slice (some ⟨pb, 0, none⟩) ss.length cap] 26) = w2 at *
  have hP2 : PartsAt w2 pb ss := fun i h => (hB2.cell (p := ⟨pb, i, none⟩) hpl).trans (HP.o i h)
  have hge := HT.o.2.2
  have hFL : ∀ xs : List Blk, (xs.foldl (fun h x => Sh.comp h x.val) Sh.H0).length = 8 := fun xs => by
    have : ∀ (xs : List Blk) (h : List Nat), h.length = 8 → (xs.foldl (fun h x => Sh.comp h x.val) h).length = 8 := by
      intro xs; induction xs with
      | nil => exact fun h hh => hh
      | cons x xs ih => exact fun h hh => ih _ (Sh.comp_len _ _ hh)
    exact this xs _ rfl
  refine wpIn_rangeC rfl (by omega) (gf := 53) (lb := #[.pointer (some ⟨w.heap.size + 1, 0, none⟩)]) rfl trivial (enters_of Tryd.func53 (by kernel_rfl) rfl)
    (encs := fun x : Blk => #[.agg (u8s x.val)]) (S := fun xs => flat xs = Sh.pad (allB ss)) w.heap.size (by omega)
    (fun l J W hb hJ hY h0 => blocks1_in 3 (by omega) l (w.heap.size + 1) pb w.heap.size ss cap hlen hss J W hJ (by have := hb.size; omega) (by have := hb.size; omega) (by omega) (by omega) hY
      ((hb.cell (p := ⟨w.heap.size + 1, 0, none⟩) (by show w.heap.size + 1 < _; omega)).trans hc2) (fun i h => (hb.cell (p := ⟨pb, i, none⟩) (by show pb < _; omega)).trans (hP2 i h)) h0)
    (fun _ => rfl) (fun pre W => RowAt W w.heap.size (u32s (pre.foldl (fun h x => Sh.comp h x.val) Sh.H0)) 61 ∧ Below w.heap.size w W) ?hI ⟨hr2, hB2⟩
    (fun x a' W => ∃ t4, RowAt W t4 (u8s x.val) 65 ∧ t4 ≠ w.heap.size ∧ a' = { tmps := #[.slice (some ⟨pb, 0, none⟩) ss.length cap, undef, .string { data := #[] }, .pointer (some ⟨w.heap.size, 0, none⟩), .pointer (some ⟨t4, 0, none⟩), undef, undef, undef, .agg (u32s Sh.H0), .slice (some ⟨pb, 0, none⟩) ss.length cap, .func (.func 53) #[] #[.pointer (some ⟨w.heap.size + 1, 0, none⟩)], .agg (u8s x.val), undef, undef, undef, undef, undef, undef, undef, undef, undef, undef, undef, undef, undef, undef, undef, undef, undef, undef, undef, undef, undef, undef, undef, undef, undef, undef, undef, undef, undef, undef, undef, undef, undef, undef, undef, undef, undef], defers := [] }) ?hAx ?assign ?body ?done
  case hI =>
    rintro xs A C row ⟨h1, h2⟩ hg hrow
    refine ⟨(hg.block _ h1.lt (fun e => by have := hrow _ e.symm; omega)).trans h1, h2.trans ⟨hg.os, hg.tape, hg.output, hg.size, fun k hk => ?_⟩⟩
    exact hg.block k (by have := h2.size; omega) (fun e => by have := hrow _ e.symm; omega)
  case hAx =>
    rintro x a' u A C row ⟨t4, h1, h2, h3⟩ hg hrow
    refine ⟨t4, (hg.block _ h1.lt (fun e => ?_)).trans h1, h2, h3⟩
    obtain ⟨_, o, ho, hc⟩ := hrow _ e.symm
    have h1' : A.heap[t4]? = some (.cells (u8s x.val) 65 (0, 0)) := h1
    rw [h1'] at ho; cases ho; cases hc
  case assign =>
    intro l pre x W K hi hK
    have HZS : Shut ((Tryd.prog.info? 65).map (·.size) = some (u8s x.val).size) := ⟨by rw [u8s_size, x.len]; exact infoB⟩
    have HZO : Shut ((u8s zero64).size = (u8s x.val).size) := ⟨by rw [u8s_size, u8s_size, x.len]; rfl⟩
    have HZ1 : Shut ((u8s x.val).all (·.oneCell') = true) := ⟨u8s_one _⟩
    gi_wp2_with (rw [zb64, ← zero64_eq]; refine wpListIn_store_row rfl 65 _ _ rfl _ (u8s x.val) rfl rfl 65 _ (RowAt.new _ _ _) HZS.o HZO.o HZ1.o ?_)
    have hb : Below W.heap.size W ((W.alloc (.cells (u8s zero64) 65)).setRow W.heap.size (u8s x.val)) := below_setRow ((Below.refl _ W).alloc (Nat.le_refl _) _) (Nat.le_refl _) _
    exact hK _ _ (Kept.of_below hb) ⟨hi.1.below hb hi.1.lt, hi.2.trans (hb.mono hi.2.size)⟩ ⟨W.heap.size, (RowAt.new W _ _).row_same _, by have := hi.1.lt; omega, rfl⟩
  case body =>
    rintro l pre x a' W ⟨hr, hB⟩ ⟨t4, hr4, hne, rfl⟩
    have ht := HT.o.below hB hge
    have hl := hFL pre
    have hsn : (pre ++ [x]).foldl (fun h x => Sh.comp h x.val) Sh.H0 = Sh.comp (pre.foldl (fun h x => Sh.comp h x.val) Sh.H0) x.val := by rw [List.foldl_append]; rfl
    clear hFL
    generalize pre.foldl (fun h x => Sh.comp h x.val) Sh.H0 = h at *
    have hc := comp_any h x.val hl x.len x.lt W ht
    have hl' := Sh.comp_len h x.val hl
    generalize Sh.comp h x.val = h' at *
    have hs1 : (Tryd.prog.info? 61).map (·.size) = some (u32s h).size := by rw [u32s_size, hl]; exact info8
    have hs2 : (Tryd.prog.info? 61).map (·.size) = some (u32s h').size := by rw [u32s_size, hl']; exact info8
    have ho2 : (u32s h).size = (u32s h').size := by rw [u32s_size, u32s_size, hl, hl']
    have h12 := u32s_one h'
    have hs4 : (Tryd.prog.info? 65).map (·.size) = some (u8s x.val).size := by rw [u8s_size, x.len]; exact infoB
    have HSN : Shut _ := ⟨hsn⟩
    have HS1 : Shut _ := ⟨hs1⟩
    have HS2 : Shut _ := ⟨hs2⟩
    have HO2 : Shut _ := ⟨ho2⟩
    have H12 : Shut _ := ⟨h12⟩
    have HS4 : Shut _ := ⟨hs4⟩
    have HR : Shut _ := ⟨hr⟩
    have HR4 : Shut _ := ⟨hr4⟩
    have HCC : Shut _ := ⟨hc⟩
    have hbw := hr.lt
    have hfc : Fence.wide.fn 49 := trivial
    clear hsn hs1 hs2 ho2 h12 hs4 hr hr4 ht hc hl hl'
    gi_wp2_with (first | refine wpListIn_load_row rfl 61 _ rfl w.heap.size rfl 61 (u32s h) _ HR.o Tryd.underlying61 rfl HS1.o ?_ | refine wpListIn_load_row rfl 65 _ rfl t4 rfl 65 (u8s x.val) _ HR4.o Tryd.underlying65 rfl HS4.o ?_ | (gi_at_call 49; refine (CallsIn.inRound l (callsIn_wide.2 HCC.o)).mono ?_; rintro e W3 ⟨rfl, hB3⟩) | refine wpListIn_store_row rfl 61 _ _ rfl w.heap.size (u32s h') rfl rfl 61 (u32s h) (HR.o.below hB3 hbw) HS2.o HO2.o H12.o ?_)
    refine ⟨(Kept.of_below hB3).trans (Kept.setRow _ _ _), ?_, below_setRow (hB.trans (hB3.mono hB.size)) (Nat.le_refl _) _⟩
    rw [HSN.o]
    exact (HR.o.below hB3 hbw).row_same _
  case done =>
    rintro D xs W hD hflat ⟨hr, hB⟩ hK
    have hsha : Sh.shaN (allB ss) = Sh.outs (xs.foldl (fun h x => Sh.comp h x.val) Sh.H0) := by
      have := Sh.shaN_of (allB ss) (xs.map Blk.val) (fun y hy => by simp only [List.mem_map] at hy; obtain ⟨x, _, rfl⟩ := hy; exact x.len) hflat
      rw [this, List.foldl_map]
    have hs1 : (Tryd.prog.info? 61).map (·.size) = some (u32s (xs.foldl (fun h x => Sh.comp h x.val) Sh.H0)).size := by rw [u32s_size, hFL]; exact info8
    have hl8 := hFL xs
    have HSHA : Shut _ := ⟨hsha⟩
    have HR : Shut _ := ⟨hr⟩
    have HS1 : Shut _ := ⟨hs1⟩
    have HL8 : Shut _ := ⟨hl8⟩
    clear hr hs1 hFL hsha hflat hl8
    generalize xs.foldl (fun h x => Sh.comp h x.val) Sh.H0 = h at *
    have hlt := HR.o.lt
    gi_wp2_with (refine wpListIn_load_row rfl 61 _ rfl w.heap.size rfl 61 (u32s h) _ (HR.o.alloc _) Tryd.underlying61 rfl HS1.o ?_)
    rw [zb32]
    have ro := RowAt.new W (u8s zero32) 67
    have hB3 := hB.alloc hB.size (.cells (u8s zero32) 67)
    have hD1 : D < W.heap.size := (Array.getElem?_eq_some_iff.1 hK).1
    have hK3 : (W.alloc (.cells (u8s zero32) 67)).heap[D]? = some (.deferred (some [])) := (World.heap_alloc_keep W _ hD1).trans hK
    have hoB := hB.size
    generalize W.alloc (.cells (u8s zero32) 67) = W3 at *
    have hRO : Shut (RowAt W3 W.heap.size (u8s ((Sh.outs h).take (4 * 0) ++ List.replicate (32 - 4 * 0) 0)) 67) := ⟨ro⟩
    clear ro hB hK HR HS1
    generalize W.heap.size = o at *
    gi_loopw [16] (fun i wr => ∃ j : Nat, j ≤ 8 ∧ i = .int .i64 j ∧ Shut (RowAt wr o (u8s ((Sh.outs h).take (4 * j) ++ List.replicate (32 - 4 * j) 0)) 67) ∧ Below w.heap.size w wr ∧ wr.heap[D]? = some (.deferred (some []))) (fun i _ => 8 - (intOf i).toNat)
    case atStart => exact ⟨0, by omega, rfl, hRO, hB3, hK3⟩
    case round =>
      clear hRO hB3 hK3
      obtain ⟨j, hj, rfl, hR, hB, hK⟩ := hrel
      by_cases hj8 : j < 8
      · have hx := fun W => index_u32s 61 Tryd.underlying61 h j hj8 HL8.o W
        have hlen : ((Sh.outs h).take (4 * j) ++ List.replicate (32 - 4 * j) 0).length = 32 := by simp [Sh.outs_len, HL8.o]; omega
        have c0 := hR.o.u8 (4 * j) (by omega)
        have c1 := hR.o.u8 (4 * j + 1) (by omega)
        have c2 := hR.o.u8 (4 * j + 2) (by omega)
        have c3 := hR.o.u8 (4 * j + 3) (by omega)
        have f0 := hR.o.frozen (4 * j)
        have f1 := hR.o.frozen (4 * j + 1)
        have f2 := hR.o.frozen (4 * j + 2)
        have f3 := hR.o.frozen (4 * j + 3)
        have HST : Shut _ := ⟨out_step h j _ hj8 HL8.o rfl⟩
        clear hlen
        generalize ((Sh.outs h).take (4 * j) ++ List.replicate (32 - 4 * j) 0).getD (4 * j) 0 = v0 at *
        generalize ((Sh.outs h).take (4 * j) ++ List.replicate (32 - 4 * j) 0).getD (4 * j + 1) 0 = v1 at *
        generalize ((Sh.outs h).take (4 * j) ++ List.replicate (32 - 4 * j) 0).getD (4 * j + 2) 0 = v2 at *
        generalize ((Sh.outs h).take (4 * j) ++ List.replicate (32 - 4 * j) 0).getD (4 * j + 3) 0 = v3 at *
        generalize h.getD j 0 = y at *
        have hBK : Shut (Below w.heap.size w wr ∧ wr.heap[D]? = some (.deferred (some []))) := ⟨hB, hK⟩
        clear hB hK
        gi_wp2
        have e0 : ((y : Int) / 16777216 % 256) = ((y / 16777216 % 256 : Nat) : Int) := by omega
        have e1 : ((y : Int) / 65536 % 256) = ((y / 65536 % 256 : Nat) : Int) := by omega
        have e2 : ((y : Int) / 256 % 256) = ((y / 256 % 256 : Nat) : Int) := by omega
        have e3 : ((y : Int) % 256) = ((y % 256 : Nat) : Int) := by omega
        rw [e0, e1, e2, e3]
        have hr := (((hR.o.set8 (4 * j) (y / 16777216 % 256)).set8 (4 * j + 1) (y / 65536 % 256)).set8 (4 * j + 2) (y / 256 % 256)).set8 (4 * j + 3) (y % 256)
        rw [HST.o] at hr
        have hne : D ≠ o := by omega
        have keepD : ∀ (W : World) (i : Nat) (v : Value), W.heap[D]? = some (.deferred (some [])) → (W.setCell ⟨o, i, none⟩ v).heap[D]? = some (.deferred (some [])) := fun W i v h => (heap_setCell_other W ⟨o, i, none⟩ D v hne).trans h
        exact ⟨⟨j + 1, by omega, by go_num, ⟨hr⟩, (((hBK.o.1.setCell (p := ⟨o, _, none⟩) hoB _).setCell (p := ⟨o, _, none⟩) hoB _).setCell (p := ⟨o, _, none⟩) hoB _).setCell (p := ⟨o, _, none⟩) hoB _, keepD _ _ _ (keepD _ _ _ (keepD _ _ _ (keepD _ _ _ hBK.o.2)))⟩, by simp [intOf]; omega⟩
      · obtain rfl : j = 8 := by omega
        have ho : (Sh.outs h).length = 32 := by rw [Sh.outs_len, HL8.o]
        have hr : RowAt wr o (u8s (Sh.outs h)) 67 := by
          have := hR.o
          rw [List.take_of_length_le (by omega)] at this; simpa using this
        have hback := Go.run_convert_bytes_back (P := Tryd.prog) wr 42 9 5 ⟨o, 0, none⟩ 32 ((Sh.outs h).map UInt8.ofNat) Tryd.underlying42 Tryd.underlying5 Tryd.underlying9 (fun i hi => by
          rw [List.length_map] at hi
          rw [Addr.add_lit, Nat.zero_add, hr.u8 i hi]
          have hx : (Sh.outs h).getD i 0 < 256 := getD_lt (Sh.outs_lt h) i
          have e : (Sh.outs h)[i] = (Sh.outs h).getD i 0 := by simp [List.getD, hi]
          simp only [List.getElem_map]
          rw [e]
          congr 3
          rw [UInt8.toNat_ofNat_of_lt' hx])
        rw [List.length_map, ho] at hback
        have hsl := all32 o wr
        have HF : Shut (Sh.ba (Sh.shaN (allB ss)) = ⟨((Sh.outs h).map UInt8.ofNat).toArray⟩) := ⟨by rw [HSHA.o, Sh.ba]⟩
        clear ho hr hR
        generalize ((Sh.outs h).map UInt8.ofNat).toArray = ra at *
        gi_wp2
        refine ⟨by simp, .inl ⟨_, _, rfl, run_takeDeferred hK, ?_⟩⟩
        exact ⟨_, results_tmp rfl _ _ _, by rw [HF.o]; rfl, hB.trans (belowK_b (w := w) (Nat.le_refl _) wr D _ _ (by omega) hK rfl rfl)⟩

theorem sumOf_any (pb : Nat) (ss : List ByteArray) (cap : Nat) (hlen : (allB ss).length ≤ 1048576) (hss : ss.length ≤ 1048576) (w : World) (ht : Tab w) (hpl : pb < w.heap.size) (hP : PartsAt w pb ss) :
    Calls Tryd.prog 37 #[.slice (some ⟨pb, 0, none⟩) ss.length cap] w fun e w' => e = .returned (.string (Sh.ba (Sh.shaN (allB ss)))) ∧ Below w.heap.size w w' :=
  callsIn_wide.1 (sumOf_in pb ss cap hlen hss w ht hpl hP)

/-- Sum, Leaf, Node, Chain -/
def leafB (s : ByteArray) : ByteArray := Sh.sha (⟨#[0]⟩ ++ s)
def nodeB (a b : ByteArray) : ByteArray := Sh.sha (⟨#[1]⟩ ++ a ++ b)
def chainB (a b : ByteArray) : ByteArray := Sh.sha (⟨#[2]⟩ ++ a ++ b)
theorem parts1 (w : World) (s : ByteArray) (t : TypeId) : PartsAt (w.alloc (.cells #[.string s] t)) w.heap.size [s] := fun i h => by
  obtain rfl : i = 0 := by simpa using h
  exact (RowAt.new w _ _).cell 0
theorem parts2 (w : World) (s r : ByteArray) (t : TypeId) : PartsAt (w.alloc (.cells #[.string s, .string r] t)) w.heap.size [s, r] := fun i h => by
  have h' : i < 2 := by simpa using h
  match i, h' with
  | 0, _ => exact (RowAt.new w _ _).cell 0
  | 1, _ => exact (RowAt.new w _ _).cell 1
theorem parts3 (w : World) (s r q : ByteArray) (t : TypeId) : PartsAt (w.alloc (.cells #[.string s, .string r, .string q] t)) w.heap.size [s, r, q] := fun i h => by
  have h' : i < 3 := by simpa using h
  match i, h' with
  | 0, _ => exact (RowAt.new w _ _).cell 0
  | 1, _ => exact (RowAt.new w _ _).cell 1
  | 2, _ => exact (RowAt.new w _ _).cell 2

set_option maxHeartbeats 400000 in
theorem sum_any (s : ByteArray) (hs : s.size ≤ 100000) (w : World) (ht : Tab w) :
    Calls Tryd.prog 12 #[.string s] w fun e w' => e = .returned (.string (Sh.sha s)) ∧ Below w.heap.size w w' := by
  have hb : Below w.heap.size w (w.alloc (.cells #[.string s] 9)) := (Below.refl _ w).alloc (Nat.le_refl _) _
  have hl : (allB [s]).length = s.size := by simp [allB, Sh.bl_len]
  have c := sumOf_any w.heap.size [s] 1 (by omega) (by simp) (w.alloc (.cells #[.string s] 9)) (ht.below hb ht.2.2) (by rw [World.size_alloc]; omega) (parts1 w s _)
  have he : Shut (Sh.ba (Sh.shaN (allB [s])) = Sh.sha s) := ⟨by rw [Sh.sha, allB]; simp⟩
  have HT : Shut _ := ⟨ht⟩
  clear ht hl
  go_enter Tryd.func12, Tryd.ntmps12
  go_wp2_with (go_at_call 37; refine c.mono ?_; rintro e w1 ⟨rfl, hB⟩)
  go_ret
  exact ⟨by rw [he.o]; rfl, hb.trans (hB.mono (by rw [World.size_alloc]; omega))⟩
end Go.Proofs.YtnceemdemjjhlaaDoor
