/-
  The contract of schedule.
-/
import Derived.Test.YtnceemdemjjhlaaDoorDigRow
import Derived.StillTailTactics
namespace Go.Proofs.YtnceemdemjjhlaaDoor
open Go.RowKit

set_option maxHeartbeats 2000000 in
set_option maxRecDepth 100000 in
theorem sched_any (blk : List Nat) (hb : blk.length = 64) (hlt : ∀ i, blk.getD i 0 < 256) (w : World) :
    Calls Tryd.prog 54 #[.agg (u8s blk)] w fun e w' => e = .returned (.agg (u32s (Sh.sched blk))) ∧ Below w.heap.size w w' := by
  go_enter Tryd.func54, Tryd.ntmps54
  go_wp2
  rw [z64]
  have h0 := RowAt.new w (u8s blk) 65
  have hB0 : Below w.heap.size w (w.alloc (.cells (u8s blk) 65)) := (Below.refl _ w).alloc (Nat.le_refl _) _
  have n0 : (w.alloc (.cells (u8s blk) 65)).heap.size = w.heap.size + 1 := World.size_alloc _ _
  generalize w.alloc (.cells (u8s blk) 65) = w0 at *
  have h01 := h0.alloc (.cells (u32s (List.replicate 64 0)) 72)
  have h1 := RowAt.new w0 (u32s (List.replicate 64 0)) 72
  have hB1 : Below w.heap.size w (w0.alloc (.cells (u32s (List.replicate 64 0)) 72)) := hB0.alloc (by omega) _
  have n1 : (w0.alloc (.cells (u32s (List.replicate 64 0)) 72)).heap.size = w.heap.size + 1 + 1 := by rw [World.size_alloc, n0]
  rw [n0] at h1
  generalize w0.alloc (.cells (u32s (List.replicate 64 0)) 72) = w1 at *
  have h02 := h01.alloc (.cells (u32s (List.replicate 64 0)) 72)
  have h12 := h1.alloc (.cells (u32s (List.replicate 64 0)) 72)
  have h2 := RowAt.new w1 (u32s (List.replicate 64 0)) 72
  have hB2 : Below w.heap.size w (w1.alloc (.cells (u32s (List.replicate 64 0)) 72)) := hB1.alloc (by omega) _
  rw [n1] at h2
  generalize w1.alloc (.cells (u32s (List.replicate 64 0)) 72) = w2 at *
  clear h0 hB0 n0 h01 h1 hB1 n1
  generalize hb0 : w.heap.size = b0 at *
  have HL := Lib.hid hlt; clear hlt
  go_loopw [8] (fun r wr => ∃ k : Nat, k ≤ 16 ∧ r = .int .i64 k ∧ RowAt wr b0 (u8s blk) 65 ∧ RowAt wr (b0 + 1) (u32s (List.replicate 64 0)) 72 ∧
      RowAt wr (b0 + 1 + 1) (u32s ((Sh.w16 blk).take k ++ List.replicate (64 - k) 0)) 72 ∧ Below b0 w wr) (fun r _ => 16 - (intOf r).toNat)
  case atStart => exact ⟨0, by omega, rfl, h02, h12, h2, hB2⟩
  case round =>
    obtain ⟨k, hk, rfl, r0, r1, r2, hB⟩ := hrel
    by_cases hk16 : k < 16
    · have c0 := r0.u8 (4 * k) (by omega)
      have c1 := r0.u8 (4 * k + 1) (by omega)
      have c2 := r0.u8 (4 * k + 2) (by omega)
      have c3 := r0.u8 (4 * k + 3) (by omega)
      have x0 := HL.out (4 * k)
      have x1 := HL.out (4 * k + 1)
      have x2 := HL.out (4 * k + 2)
      have x3 := HL.out (4 * k + 3)
      have HW : Hid ((Sh.w16 blk).getD k 0 = Sh.be (blk.getD (4 * k) 0) (blk.getD (4 * k + 1) 0) (blk.getD (4 * k + 2) 0) (blk.getD (4 * k + 3) 0)) := Lib.hid (w16_get blk k hk16)
      generalize blk.getD (4 * k) 0 = y0 at *
      generalize blk.getD (4 * k + 1) 0 = y1 at *
      generalize blk.getD (4 * k + 2) 0 = y2 at *
      generalize blk.getD (4 * k + 3) 0 = y3 at *
      have hbe := be_int y0 y1 y2 y3 x0 x1 x2
      have c4 : wr.cell? ⟨b0 + 1 + 1, k, none⟩ = some (.int .u32 ((((Sh.w16 blk).take k ++ List.replicate (64 - k) 0).getD k 0 : Nat) : Int)) := r2.u32 k (by simp [Sh.w16_len]; omega)
      have f4 := r2.frozen k
      have R0 := Lib.hid r0; have R1 := Lib.hid r1; have R2 := Lib.hid r2
      clear r0 r1 r2
      generalize ((Sh.w16 blk).take k ++ List.replicate (64 - k) 0).getD k 0 = old at *
      generalize Sh.be y0 y1 y2 y3 = res at *
      go_wp2
      go_region
      go_wp2
      refine ⟨⟨k + 1, by omega, by go_num, (R0.out.set_other _ (by simp; omega) _).drew, (R1.out.set_other _ (by simp) _).drew, ?_, (hB.setCell (by simp; omega) _).drew⟩, by simp [intOf]; omega⟩
      rw [← fill_step (Sh.w16 blk) k 64 res (by rw [Sh.w16_len]; omega) (by omega) HW.out.symm]
      exact (R2.out.set32 k res).drew
    · have hk' : k = 16 := by omega
      have R2 : RowAt wr (b0 + 1 + 1) (u32s (Sh.exts 0 (Sh.w16 blk) ++ List.replicate (48 - 0) 0)) 72 := by
        have : (Sh.w16 blk).take k = Sh.w16 blk := List.take_of_length_le (by rw [Sh.w16_len]; omega)
        rw [this, hk'] at r2; rw [Sh.exts]; exact r2
      clear r2 h02 h12 h2 hB2 hk'
      go_wp2
      go_loopw [5] (fun r W => ∃ k : Nat, k ≤ 48 ∧ r = .int .i64 ((k + 16 : Nat) : Int) ∧ RowAt W (b0 + 1) (u32s (List.replicate 64 0)) 72 ∧
        RowAt W (b0 + 1 + 1) (u32s (Sh.exts k (Sh.w16 blk) ++ List.replicate (48 - k) 0)) 72 ∧ Below b0 w W) (fun r _ => 64 - (intOf r).toNat)
      case atStart => exact ⟨0, by omega, rfl, r1, R2, hB⟩
      case round =>
        clear R2 r0 r1 hB
        obtain ⟨j, hj, rfl, r1, r2, hB⟩ := hrel
        by_cases hj48 : j < 48
        · have hL : (Sh.exts j (Sh.w16 blk)).length = j + 16 := by rw [Sh.exts_len, Sh.w16_len]; omega
          have hLL : (Sh.exts j (Sh.w16 blk) ++ List.replicate (48 - j) 0).length = 64 := by simp [hL]; omega
          have c15 := r2.u32 (j + 1) (by omega)
          have c2 := r2.u32 (j + 14) (by omega)
          have c16 := r2.u32 j (by omega)
          have c7 := r2.u32 (j + 9) (by omega)
          have c0 := r2.u32 (j + 16) (by omega)
          rw [getD_app _ _ _ (by omega)] at c15 c2 c16 c7
          have f0 := r2.frozen (j + 16)
          have HX : Hid (Sh.nxt (Sh.exts j (Sh.w16 blk)) (Sh.exts j (Sh.w16 blk)).length = Sh.add (Sh.add (Sh.add ((Sh.exts j (Sh.w16 blk)).getD j 0) (Sh.sg0 ((Sh.exts j (Sh.w16 blk)).getD (j + 1) 0))) ((Sh.exts j (Sh.w16 blk)).getD (j + 9) 0)) (Sh.sg1 ((Sh.exts j (Sh.w16 blk)).getD (j + 14) 0))) := Lib.hid (by rw [hL, nxt_get])
          have HE : Hid (Sh.exts (j + 1) (Sh.w16 blk) = Sh.exts j (Sh.w16 blk) ++ [Sh.nxt (Sh.exts j (Sh.w16 blk)) (Sh.exts j (Sh.w16 blk)).length]) := Lib.hid (by rw [Sh.exts])
          have R1 := Lib.hid r1; have R2 := Lib.hid r2; have HL' := Lib.hid hL
          clear r1 r2 hL hLL
          generalize (Sh.exts j (Sh.w16 blk)).getD (j + 1) 0 = x15 at *
          generalize (Sh.exts j (Sh.w16 blk)).getD (j + 14) 0 = x2 at *
          generalize (Sh.exts j (Sh.w16 blk)).getD j 0 = x16 at *
          generalize (Sh.exts j (Sh.w16 blk)).getD (j + 9) 0 = x7 at *
          generalize ((Sh.exts j (Sh.w16 blk)) ++ List.replicate (48 - j) 0).getD (j + 16) 0 = old at *
          have s0 := sg0_int x15
          have s1 := sg1_int x2
          generalize hs0 : Sh.sg0 x15 = g0 at *
          generalize hs1 : Sh.sg1 x2 = g1 at *
          have HS0 := Lib.hid hs0; have HS1 := Lib.hid hs1
          clear hs0 hs1
          go_wp2
          go_region
          go_wp2_with (go_at_call 55; refine (rotated_z _ _ (by decide) (by decide) _).mono ?_; rintro e w' ⟨rfl, m, rfl⟩)
          go_region
          go_wp2
          go_roundw
          case rel =>
            have hv : ((x16 : Int) + (g0 : Int) + (x7 : Int) + (g1 : Int)) % 4294967296 = ((Sh.add (Sh.add (Sh.add x16 g0) x7) g1 : Nat) : Int) := by simp only [Sh.add]; omega
            rw [hv, ← HX.out]
            have r2 := (R2.out).set32 (j + 16) (Sh.nxt (Sh.exts j (Sh.w16 blk)) (Sh.exts j (Sh.w16 blk)).length)
            generalize Sh.nxt (Sh.exts j (Sh.w16 blk)) (Sh.exts j (Sh.w16 blk)).length = nx at *
            refine ⟨j + 1, by omega, by go_num, (R1.out.drewN _).set_other _ (by simp) _, ?_, (below_drewN hB _).setCell (by simp; omega) _⟩
            rw [HE.out]
            clear HE
            have hg := grow_step (Sh.exts j (Sh.w16 blk)) 64 nx (by rw [HL'.out]; omega)
            rw [HL'.out, show 64 - (j + 16) = 48 - j by omega, show 64 - (j + 16 + 1) = 48 - (j + 1) by omega] at hg
            rw [← hg]
            exact r2
          case measure => simp [intOf]; omega
        · have hj' : j = 48 := by omega
          subst hj'
          have r3 : RowAt wr (b0 + 1 + 1) (u32s (Sh.sched blk)) 72 := by
            rw [Sh.sched]; simpa using r2
          have hsz := Sh.sched_len blk
          clear r2
          generalize hres : Sh.sched blk = res at *
          have HRES := Lib.hid hres; clear hres
          have hi : (Tryd.prog.info? 72).map (·.size) = some (u32s res).size := by rw [u32s_size, hsz]; exact info64
          have ho : (u32s (List.replicate 64 0)).size = (u32s res).size := by rw [u32s_size, u32s_size, hsz]; rfl
          have h1 := u32s_one res
          have hR := r1.row_same (u32s res)
          have hB' := below_setRow hB (by omega : b0 ≤ b0 + 1) (u32s res)
          have R1 := Lib.hid r1; have R2 := Lib.hid r3; have HI := Lib.hid hi; have HO := Lib.hid ho; have H1 := Lib.hid h1; have HR := Lib.hid hR
          clear r1 r3 hi ho h1 hB hR hsz
          generalize hra : u32s res = ra at *
          have HRA := Lib.hid hra; clear hra
          go_wp2_with (first | refine wpList_load_row rfl 72 _ rfl (b0 + 1 + 1) rfl 72 ra (0, 0) _ R2.out Tryd.underlying72 rfl HI.out ?_ | refine wpList_store_row rfl 72 _ _ rfl (b0 + 1) ra rfl rfl 72 _ R1.out HI.out HO.out H1.out ?_)
          refine bodyPost_ret (v := .agg ra) ?_ rfl ⟨by rw [HRES.out, HRA.out], by rw [hb0]; exact hB'⟩
          exact results_cell_row rfl _ _ (b0 + 1) _ ra _ _ rfl HR.out Tryd.underlying72 rfl HI.out

end Go.Proofs.YtnceemdemjjhlaaDoor
