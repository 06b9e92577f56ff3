/-
  The contract of compress.
-/
import Derived.Test.YtnceemdemjjhlaaDoorDigSched
import Derived.Deep.Cut
import Derived.Deep.CutRange
import Derived.Deep.CutBlock
import Derived.Deep.DeepCutAuto
import Derived.Deep.QuietTactic
namespace Go.Proofs.YtnceemdemjjhlaaDoor
open Go.RowKit

/-- the table of the 64 words (block 1) and the initial state (block 0) -/
def Tab (w : World) : Prop := (∀ i, i < 64 → w.cell? ⟨1, i, none⟩ = some (.int .u32 ((Sh.K.getD i 0 : Nat) : Int))) ∧ (∀ i, i < 8 → w.cell? ⟨0, i, none⟩ = some (.int .u32 ((Sh.H0.getD i 0 : Nat) : Int))) ∧ 2 ≤ w.heap.size
theorem Tab.below {w w' : World} {B : Nat} (h : Tab w) (hB : Below B w w') (hb : 2 ≤ B) : Tab w' :=
  ⟨fun i hi => (World.cell?_of_block (hB.block 1 (by omega))).trans (h.1 i hi), fun i hi => (World.cell?_of_block (hB.block 0 (by omega))).trans (h.2.1 i hi), Nat.le_trans h.2.2 hB.size⟩

theorem bs1_int (e : Nat) : bits .xor .u32 (bits .xor .u32 ((Sh.rot e 6 : Nat) : Int) ((Sh.rot e 11 : Nat) : Int)) ((Sh.rot e 25 : Nat) : Int) = ((Sh.bs1 e : Nat) : Int) := by rw [i_xr, i_xr, Sh.bs1]
theorem bs0_int (e : Nat) : bits .xor .u32 (bits .xor .u32 ((Sh.rot e 2 : Nat) : Int) ((Sh.rot e 13 : Nat) : Int)) ((Sh.rot e 22 : Nat) : Int) = ((Sh.bs0 e : Nat) : Int) := by rw [i_xr, i_xr, Sh.bs0]
theorem ch_int (e f g : Nat) : bits .xor .u32 (bits .and .u32 (e : Int) (f : Int)) (bits .and .u32 (bits .xor .u32 (if IntKind.u32.signed = true then -1 else IntKind.u32.max) (e : Int)) (g : Int)) = ((Sh.ch e f g : Nat) : Int) := by
  rw [show (if IntKind.u32.signed = true then -1 else IntKind.u32.max) = IntKind.u32.max from rfl, i_nt, i_an, i_an, i_xr, Sh.ch]
theorem mj_int (a b c : Nat) : bits .xor .u32 (bits .xor .u32 (bits .and .u32 (a : Int) (b : Int)) (bits .and .u32 (a : Int) (c : Int))) (bits .and .u32 (b : Int) (c : Int)) = ((Sh.mj a b c : Nat) : Int) := by rw [i_an, i_an, i_an, i_xr, i_xr, Sh.mj]

theorem fill_step2 (L h : List Nat) (k : Nat) (hk : k < L.length) (hh : k < h.length) : (L.take k ++ h.drop k).set k (L.getD k 0) = L.take (k + 1) ++ h.drop (k + 1) := by
  have hl : (L.take k).length = k := by simp; omega
  have hg : L.getD k 0 = L[k] := by simp [List.getD, hk]
  rw [List.drop_eq_getElem_cons hh, List.set_append_right _ _ (by omega), hl, Nat.sub_self, List.set_cons_zero, hg, List.take_succ_eq_append_getElem hk]
  simp only [List.append_assoc, List.singleton_append]
theorem z8 : #[Value.int IntKind.u32 0, Value.int IntKind.u32 0, Value.int IntKind.u32 0, Value.int IntKind.u32 0, Value.int IntKind.u32 0, Value.int IntKind.u32 0, Value.int IntKind.u32 0, Value.int IntKind.u32 0] = u32s (List.replicate 8 0) := rfl

set_option maxHeartbeats 800000 in
set_option maxRecDepth 100000 in
theorem comp_any (h blk : List Nat) (hh : h.length = 8) (hb : blk.length = 64) (hlt : ∀ i, blk.getD i 0 < 256) (w : World) (ht : Tab w) :
    Calls Tryd.prog 49 #[.agg (u32s h), .agg (u8s blk)] w fun e w' => e = .returned (.agg (u32s (Sh.comp h blk))) ∧ Below w.heap.size w w' := by
  have c := fun w => sched_any blk hb hlt w
  go_enter Tryd.func49, Tryd.ntmps49
  go_upto_region 1 with fail
  rw [z8]
  have h0 := RowAt.new w (u32s h) 61
  have hB0 : Below w.heap.size w (w.alloc (.cells (u32s h) 61)) := (Below.refl _ w).alloc (Nat.le_refl _) _
  have n0 : (w.alloc (.cells (u32s h) 61)).heap.size = w.heap.size + 1 := World.size_alloc _ _
  generalize w.alloc (.cells (u32s h) 61) = w0 at *
  have h01 := h0.alloc (.cells (u8s blk) 65)
  have h1 := RowAt.new w0 (u8s blk) 65
  have hB1 : Below w.heap.size w (w0.alloc (.cells (u8s blk) 65)) := hB0.alloc (by omega) _
  have n1 : (w0.alloc (.cells (u8s blk) 65)).heap.size = w.heap.size + 1 + 1 := by rw [World.size_alloc, n0]
  rw [n0] at h1
  generalize w0.alloc (.cells (u8s blk) 65) = w1 at *
  have h02 := h01.alloc (.cells (u32s (List.replicate 8 0)) 61)
  have h12 := h1.alloc (.cells (u32s (List.replicate 8 0)) 61)
  have h2 := RowAt.new w1 (u32s (List.replicate 8 0)) 61
  have hB2 : Below w.heap.size w (w1.alloc (.cells (u32s (List.replicate 8 0)) 61)) := hB1.alloc (by omega) _
  have n2 : (w1.alloc (.cells (u32s (List.replicate 8 0)) 61)).heap.size = w.heap.size + 1 + 1 + 1 := by rw [World.size_alloc, n1]
  rw [n1] at h2
  generalize w1.alloc (.cells (u32s (List.replicate 8 0)) 61) = w2 at *
  clear h0 hB0 n0 h01 h1 hB1 n1 w0 w1
  have hi : (Tryd.prog.info? 65).map (·.size) = some (u8s blk).size := by rw [u8s_size, hb]; exact infoB
  have hsl := Sh.sched_len blk
  have hi2 : (Tryd.prog.info? 72).map (·.size) = some (u32s (Sh.sched blk)).size := by rw [u32s_size, hsl]; exact info64
  have ho2 : (u32s (List.replicate 64 0)).size = (u32s (Sh.sched blk)).size := by rw [u32s_size, u32s_size, hsl]; rfl
  have hone := u32s_one (Sh.sched blk)
  have hge := ht.2.2
  have ht2 := ht.below hB2 (by omega)
  have HI := Lib.hid hi; have HI2 := Lib.hid hi2; have HO2 := Lib.hid ho2; have HONE := Lib.hid hone; have HT := Lib.hid ht2
  clear hi hi2 ho2 hone ht ht2
  generalize hb0 : w.heap.size = b0 at *
  go_upto_region 2 with (first | refine wpList_load_row rfl 65 _ rfl (b0 + 1) rfl 65 (u8s blk) (0, 0) _ h12 Tryd.underlying65 rfl HI.out ?_ | (go_at_call 54; refine (c _).mono ?_; rintro e w3 ⟨rfl, hB3⟩) | (rw [z64]; refine wpList_store_row rfl 72 _ _ rfl _ (u32s (Sh.sched blk)) rfl rfl 72 _ (RowAt.new _ _ _) HI2.out HO2.out HONE.out ?_))
  have hB4 : Below b0 w ((w3.alloc (.cells (u32s (List.replicate 64 0)) 72)).setRow w3.heap.size (u32s (Sh.sched blk))) :=
    below_setRow ((hB2.trans (hB3.mono (by omega))).alloc (by have := hB3.size; omega) _) (by have := hB3.size; omega) _
  have hr0 : RowAt ((w3.alloc (.cells (u32s (List.replicate 64 0)) 72)).setRow w3.heap.size (u32s (Sh.sched blk))) b0 (u32s h) 61 :=
    ((h02.below hB3 (by omega)).alloc _).row_other _ (by have := hB3.size; omega) _
  have hr2 : RowAt ((w3.alloc (.cells (u32s (List.replicate 64 0)) 72)).setRow w3.heap.size (u32s (Sh.sched blk))) (b0 + 1 + 1) (u32s (List.replicate 8 0)) 61 :=
    ((h2.below hB3 (by omega)).alloc _).row_other _ (by have := hB3.size; omega) _
  have hr3 : RowAt ((w3.alloc (.cells (u32s (List.replicate 64 0)) 72)).setRow w3.heap.size (u32s (Sh.sched blk))) w3.heap.size (u32s (Sh.sched blk)) 72 :=
    (RowAt.new w3 _ _).row_same _
  have hb3 : b0 + 1 + 1 < w3.heap.size := by have := hB3.size; omega
  have ht4 : Tab ((w3.alloc (.cells (u32s (List.replicate 64 0)) 72)).setRow w3.heap.size (u32s (Sh.sched blk))) :=
    HT.out.below ((((hB3.mono (by omega)).alloc (by omega) _) : Below 2 w2 _).trans (below_setRow (Below.refl 2 _) (by omega) _)) (by omega)
  generalize (w3.alloc (.cells (u32s (List.replicate 64 0)) 72)).setRow w3.heap.size (u32s (Sh.sched blk)) = w4 at *
  generalize w3.heap.size = b3 at *
  clear h02 h12 h2 hB2 hB3 HI HI2 HO2 HONE HT n2 c
  have c0 := hr0.u32 0 (by omega)
  have c1 := hr0.u32 1 (by omega)
  have c2 := hr0.u32 2 (by omega)
  have c3 := hr0.u32 3 (by omega)
  have c4 := hr0.u32 4 (by omega)
  have c5 := hr0.u32 5 (by omega)
  have c6 := hr0.u32 6 (by omega)
  have c7 := hr0.u32 7 (by omega)
  have HST : Shut (Sh.rnds (Sh.sched blk) (Sh.St.of h) 0 = ⟨h.getD 0 0, h.getD 1 0, h.getD 2 0, h.getD 3 0, h.getD 4 0, h.getD 5 0, h.getD 6 0, h.getD 7 0⟩) := ⟨by rw [Sh.rnds, Sh.St.of]⟩
  have HC : Shut (Sh.comp h blk = List.zipWith Sh.add h (Sh.rnds (Sh.sched blk) (Sh.St.of h) 64).ls) := ⟨by rw [Sh.comp]⟩
  have HR0 := Lib.hid hr0; have HR2 := Lib.hid hr2; have HR3 := Lib.hid hr3; have HT4 := Lib.hid ht4
  clear hr0 hr2 hr3 ht4
  generalize Sh.St.of h = s0 at *
  generalize h.getD 0 0 = g0 at *
  generalize h.getD 1 0 = g1 at *
  generalize h.getD 2 0 = g2 at *
  generalize h.getD 3 0 = g3 at *
  generalize h.getD 4 0 = g4 at *
  generalize h.getD 5 0 = g5 at *
  generalize h.getD 6 0 = g6 at *
  generalize h.getD 7 0 = g7 at *
  simp only [Act.put]
  go_quiet (fail)
  go_wp2
  clear c0 c1 c2 c3 c4 c5 c6 c7
  have HSL : Shut _ := ⟨hsl⟩
  have HHH : Shut _ := ⟨hh⟩
  have HB4 : Shut _ := ⟨hB4⟩
  clear hsl hh hb hlt hB4
  go_loopw [6, 7, 8, 9, 10, 11, 12, 13, 37] (fun a b c d e f g x i wr => ∃ (k : Nat) (s : Sh.St), k ≤ 64 ∧ s = Sh.rnds (Sh.sched blk) s0 k ∧ i = .int .i64 k ∧
      a = .int .u32 s.a ∧ b = .int .u32 s.b ∧ c = .int .u32 s.c ∧ d = .int .u32 s.d ∧ e = .int .u32 s.e ∧ f = .int .u32 s.f ∧ g = .int .u32 s.g ∧ x = .int .u32 s.h ∧ ∃ m, wr = w4.drewN m)
    (fun _ _ _ _ _ _ _ _ i _ => 64 - (intOf i).toNat)
  case atStart => exact ⟨0, _, by omega, HST.o.symm, rfl, rfl, rfl, rfl, rfl, rfl, rfl, rfl, rfl, _, rfl⟩
  case round =>
    obtain ⟨k, s, hk, hs, rfl, rfl, rfl, rfl, rfl, rfl, rfl, rfl, rfl, m, hw⟩ := hrel
    obtain ⟨a, b, c, d, e, f, g, x⟩ := s
    simp only []
    by_cases hk64 : k < 64
    · have ck : wr.cell? ⟨1, k, none⟩ = some (.int .u32 ((Sh.K.getD k 0 : Nat) : Int)) := by rw [hw]; exact HT4.out.1 k hk64
      have cw : wr.cell? ⟨b3, k, none⟩ = some (.int .u32 (((Sh.sched blk).getD k 0 : Nat) : Int)) := by rw [hw]; exact HR3.out.u32 k (by rw [HSL.o]; exact hk64)
      have e1 := bs1_int e
      have e2 := ch_int e f g
      have e3 := bs0_int a
      have e4 := mj_int a b c
      have HS : Shut _ := ⟨hs⟩
      have HW : Shut _ := ⟨hw⟩
      clear hs hw
      have HKK : Shut (Sh.K.getD k 0 = Sh.K.getD k 0) := ⟨rfl⟩
      obtain ⟨kk, hkk⟩ : ∃ kk, kk = Sh.K.getD k 0 := ⟨_, rfl⟩
      obtain ⟨ww, hww⟩ : ∃ ww, ww = (Sh.sched blk).getD k 0 := ⟨_, rfl⟩
      obtain ⟨B1, hB1⟩ : ∃ z, z = Sh.bs1 e := ⟨_, rfl⟩
      obtain ⟨CH, hCH⟩ : ∃ z, z = Sh.ch e f g := ⟨_, rfl⟩
      obtain ⟨B0, hB0⟩ : ∃ z, z = Sh.bs0 a := ⟨_, rfl⟩
      obtain ⟨MJ, hMJ⟩ : ∃ z, z = Sh.mj a b c := ⟨_, rfl⟩
      rw [← hkk] at ck; rw [← hww] at cw; rw [← hB1] at e1; rw [← hCH] at e2; rw [← hB0] at e3; rw [← hMJ] at e4
      have HKV : Shut (kk = Sh.K.getD k 0 ∧ ww = (Sh.sched blk).getD k 0 ∧ B1 = Sh.bs1 e ∧ CH = Sh.ch e f g ∧ B0 = Sh.bs0 a ∧ MJ = Sh.mj a b c) := ⟨hkk, hww, hB1, hCH, hB0, hMJ⟩
      clear hkk hww hB1 hCH hB0 hMJ HKK
      go_wp2
      go_quiet ((go_at_call 55; refine Calls.quiet_of (rotated_z _ _ (by decide) (by decide) _)))
      go_wp2_with (go_at_call 55; refine (rotated_z _ _ (by decide) (by decide) _).mono ?_; rintro e w' ⟨rfl, m, rfl⟩)
      obtain ⟨k1, k2, k3, k4, k5, k6⟩ := HKV.o
      refine ⟨⟨k + 1, ⟨Sh.add (Sh.add (Sh.add (Sh.add (Sh.add x B1) CH) kk) ww) (Sh.add B0 MJ), a, b, c, Sh.add d (Sh.add (Sh.add (Sh.add (Sh.add x B1) CH) kk) ww), e, f, g⟩, by omega, ?_, by go_num, ?_, rfl, rfl, rfl, ?_, rfl, rfl, rfl, ?_⟩, by simp [intOf]; omega⟩
      · rw [Sh.rnds, ← HS.o, Sh.rnd, Sh.t1, Sh.t2, k1, k2, k3, k4, k5, k6]
      · show Value.int .u32 _ = Value.int .u32 _
        congr 1
        simp only [Sh.add]; omega
      · show Value.int .u32 _ = Value.int .u32 _
        congr 1
        simp only [Sh.add]; omega
      · exact ⟨_, by rw [HW.o, World.drewN_drewN]⟩
    · have hk' : k = 64 := by omega
      have hcl := Sh.comp_len h blk HHH.o
      have HLS : Shut (Sh.comp h blk = List.zipWith Sh.add h [a, b, c, d, e, f, g, x]) := ⟨by rw [HC.o, ← hk', ← hs]; rfl⟩
      have hr0 : RowAt wr b0 (u32s ((Sh.comp h blk).take 0 ++ h.drop 0)) 61 := by rw [hw]; exact HR0.out
      have hr2 : RowAt wr (b0 + 1 + 1) (u32s (List.replicate 8 0)) 61 := by rw [hw]; exact HR2.out
      have hB : Below b0 w wr := by rw [hw]; exact below_drewN HB4.o m
      clear hs hw HR0 HR2 HR3 HT4 HB4 HC HST HSL hk'
      go_wp2
      rw [show #[Value.int IntKind.u32 (a : Int), Value.int IntKind.u32 (b : Int), Value.int IntKind.u32 (c : Int), Value.int IntKind.u32 (d : Int), Value.int IntKind.u32 (e : Int), Value.int IntKind.u32 (f : Int), Value.int IntKind.u32 (g : Int), Value.int IntKind.u32 (x : Int)] = u32s [a, b, c, d, e, f, g, x] from rfl]
      have HR2 : Shut _ := ⟨hr2⟩
      have HB : Shut _ := ⟨hB⟩
      clear hr2 hB
      have HCL : Shut _ := ⟨hcl⟩
      clear hcl
      have hL8 : [a, b, c, d, e, f, g, x].length = 8 := rfl
      generalize [a, b, c, d, e, f, g, x] = L at *
      have HL8 : Shut _ := ⟨hL8⟩
      clear hL8
      go_loopw [109] (fun i W => ∃ j : Nat, j ≤ 8 ∧ i = .int .i64 j ∧ RowAt W b0 (u32s ((Sh.comp h blk).take j ++ h.drop j)) 61 ∧ RowAt W (b0 + 1 + 1) (u32s (List.replicate 8 0)) 61 ∧ Below b0 w W) (fun i _ => 8 - (intOf i).toNat)
      case atStart => exact ⟨0, by omega, rfl, hr0, HR2.o, HB.o⟩
      case round =>
        clear hr0 HR2 HB
        obtain ⟨j, hj, rfl, r0, r2, hB⟩ := hrel
        by_cases hj8 : j < 8
        · have hx := fun W => index_u32s 60 Tryd.underlying60 L j hj8 HL8.o W
          have hlen : ((Sh.comp h blk).take j ++ h.drop j).length = 8 := by simp [HCL.o, HHH.o]; omega
          have cj := r0.u32 j (by rw [hlen]; exact hj8)
          have fj := r0.frozen j
          have HV : Shut (((Sh.comp h blk).take j ++ h.drop j).getD j 0 = h.getD j 0 ∧ (Sh.comp h blk).getD j 0 = Sh.add (h.getD j 0) (L.getD j 0)) := by
            refine ⟨?_, ?_⟩
            · have : ((Sh.comp h blk).take j).length = j := by simp [HCL.o]; omega
              rw [List.getD_eq_getElem?_getD, List.getElem?_append_right (by omega), this]; simp [List.getD]
            · rw [HLS.o]; simp [List.getD, HHH.o, HL8.o, hj8]
          have R0 : Shut _ := ⟨r0⟩
          have R2 : Shut _ := ⟨r2⟩
          have HBB : Shut _ := ⟨hB⟩
          clear r0 r2 hB hlen
          generalize L.getD j 0 = y at *
          generalize ((Sh.comp h blk).take j ++ h.drop j).getD j 0 = v at *
          go_wp2
          refine ⟨⟨j + 1, by omega, by go_num, ?_, R2.o.set_other _ (by simp; omega) _, HBB.o.setCell (by simp) _⟩, by simp [intOf]; omega⟩
          have hv : (((v : Int) + (y : Int)) % 4294967296) = (((Sh.comp h blk).getD j 0 : Nat) : Int) := by rw [HV.o.2, ← HV.o.1, Sh.add]; omega
          rw [hv, ← fill_step2 (Sh.comp h blk) h j (by rw [HCL.o]; exact hj8) (by rw [HHH.o]; exact hj8)]
          exact R0.o.set32 j _
        · have hj' : j = 8 := by omega
          have r3 : RowAt wr b0 (u32s (Sh.comp h blk)) 61 := by
            rw [hj', List.take_of_length_le (by rw [HCL.o]; omega), List.drop_of_length_le (by rw [HHH.o]; omega), List.append_nil] at r0; exact r0
          obtain ⟨ra, hra⟩ : ∃ ra, ra = u32s (Sh.comp h blk) := ⟨_, rfl⟩
          rw [← hra] at r3
          have hsz : ra.size = 8 := by rw [hra, u32s_size, HCL.o]
          have HI : Shut ((Tryd.prog.info? 61).map (·.size) = some ra.size) := ⟨by rw [hsz]; exact info8⟩
          have HO : Shut ((u32s (List.replicate 8 0)).size = ra.size) := ⟨by rw [hsz]; rfl⟩
          have H1 : Shut (ra.all (·.oneCell') = true) := ⟨by rw [hra]; exact u32s_one _⟩
          have HRA : Shut _ := ⟨hra⟩
          have R3 : Shut _ := ⟨r3⟩
          have R2 : Shut _ := ⟨r2⟩
          have HR : Shut _ := ⟨r2.row_same ra⟩
          have HF : Shut _ := ⟨below_setRow hB (by omega : b0 ≤ b0 + 1 + 1) ra⟩
          clear r0 r2 hB r3 hra hsz hj'
          go_wp2_with (first | refine wpList_load_row rfl 61 _ rfl b0 rfl 61 ra (0, 0) _ R3.o Tryd.underlying61 rfl HI.o ?_ | refine wpList_store_row rfl 61 _ _ rfl (b0 + 1 + 1) ra rfl rfl 61 _ R2.o HI.o HO.o H1.o ?_)
          refine bodyPost_ret (v := .agg ra) ?_ rfl ⟨by rw [HRA.o], by rw [hb0]; exact HF.o⟩
          exact results_cell_row rfl _ _ (b0 + 1 + 1) _ ra _ _ rfl HR.o Tryd.underlying61 rfl HI.o
end Go.Proofs.YtnceemdemjjhlaaDoor
