/-
  The reference: block.
-/
import Derived.Test.YtegkckpanajgjaaDoorDigRefS
import Derived.Deep.RegionHeld3
import Derived.Deep.RegionLaw
namespace Go.Proofs.YtegkckpanajgjaaDoor
open Go.RowKit

theorem st_ls (h : List Nat) (hh : h.length = 8) : (Sh.St.of h).ls = h := by
  match h, hh with
  | [_, _, _, _, _, _, _, _], _ => rfl
theorem na8 (W : World) (l : List Nat) (hl : l.length = 8) : D4.NA (W.alloc (.cells (u32s l) 47)).drew (.slice (some ⟨W.heap.size, 0, none⟩) 8 8) l :=
  ⟨_, 8, by rw [hl], by omega, by unfold maxLen; omega, .inr ⟨_, 0, rfl, by show _ < (W.alloc _).heap.size; rw [World.size_alloc]; omega, D4.RowAt.ua (RowAt.new W (u32s l) _)⟩⟩
theorem be_raw (a b c d : Nat) (ha : a < 256) (hb : b < 256) (hc : c < 256) (hd : d < 256) :
    bits .or .u32 (bits .or .u32 (bits .or .u32 (IntKind.u32.wrap (IntKind.u32.wrap (a : Int) * 16777216)) (IntKind.u32.wrap (IntKind.u32.wrap (b : Int) * 65536))) (IntKind.u32.wrap (IntKind.u32.wrap (c : Int) * 256))) (IntKind.u32.wrap (d : Int)) = ((Sh.be a b c d : Nat) : Int) := by
  have e1 : IntKind.u32.wrap (IntKind.u32.wrap (a : Int) * 16777216) = ((a : Int) * 16777216) := by rw [IntKind.wrap_u32', IntKind.wrap_u32']; omega
  have e2 : IntKind.u32.wrap (IntKind.u32.wrap (b : Int) * 65536) = ((b : Int) * 65536) := by rw [IntKind.wrap_u32', IntKind.wrap_u32']; omega
  have e3 : IntKind.u32.wrap (IntKind.u32.wrap (c : Int) * 256) = ((c : Int) * 256) := by rw [IntKind.wrap_u32', IntKind.wrap_u32']; omega
  have e4 : IntKind.u32.wrap (d : Int) = (d : Int) := by rw [IntKind.wrap_u32']; omega
  rw [e1, e2, e3, e4]
  exact be_int a b c d ha hb hc

set_option maxRecDepth 100000 in
set_option maxHeartbeats 2000000 in
theorem block_ref (h blk : List Nat) (hh : h.length = 8) (hb : blk.length = 64) (hlt : ∀ i, blk.getD i 0 < 256) (vh vb : Value) (w : World) (hH : D4.NA w vh h) (hB : D1.NA w vb blk) :
    Calls Tryd.prog 39 #[vh, vb] w fun e w' => ∃ v, e = .returned v ∧ D4.NA w' v (Sh.comp h blk) ∧ Below w.heap.size w w' := by
  have HH : Shut _ := ⟨hH⟩
  obtain ⟨ph, ch, gh, oh, rfl, hch, hmh, hph, huh⟩ := hH.open
  obtain ⟨pb, cb, gb, ob, rfl, hcb, hmb, hpb, hub⟩ := hB.open
  obtain ⟨rfl, hgb⟩ := hpb (by omega)
  obtain ⟨rfl, hgh⟩ := hph (by omega)
  have HHL : Shut _ := ⟨hh⟩
  rw [hh, hb]
  rw [hh] at hch
  rw [hb] at hcb
  have HUB : Shut (∀ i, i < 64 → w.cell? ⟨gb, ob + i, none⟩ = some (.int .u8 ((blk.getD i 0 : Nat) : Int))) := ⟨fun i hi => hub i (by omega)⟩
  have HUH : Shut (∀ i, i < 8 → w.cell? ⟨gh, oh + i, none⟩ = some (.int .u32 ((h.getD i 0 : Nat) : Int))) := ⟨fun i hi => huh i (by omega)⟩
  have HG : Shut _ := ⟨And.intro hgb hgh⟩
  have HL := Lib.hid hlt
  clear hub huh hpb hph hgb hgh hlt hH hB hb hh
  go_enter Tryd.func39, Tryd.ntmps39
  go_wp2
  go_loopw [5, 6] (fun v iv wr => ∃ k : Nat, k ≤ 16 ∧ iv = .int .i64 k ∧ Shut (D4.OwnU wr w.heap.size v ((Sh.w16 blk).take k)) ∧ Shut (Below w.heap.size w wr)) (fun _ iv _ => 16 - (intOf iv).toNat)
  case atStart => exact ⟨0, by omega, rfl, ⟨D4.OwnU.nil _ _⟩, ⟨Below.refl _ _⟩⟩
  case round =>
    obtain ⟨k, hk, rfl, hO, hB⟩ := hrel
    have hbs := hB.o.size
    have hO2 := hO.o
    by_cases hk16 : k < 16
    · have c0 := (hB.o.cell (p := ⟨gb, ob + 4 * k, none⟩) HG.o.1).trans (HUB.o (4 * k) (by omega))
      have c1 := (hB.o.cell (p := ⟨gb, ob + (4 * k + 1), none⟩) HG.o.1).trans (HUB.o (4 * k + 1) (by omega))
      have c2 := (hB.o.cell (p := ⟨gb, ob + (4 * k + 2), none⟩) HG.o.1).trans (HUB.o (4 * k + 2) (by omega))
      have c3 := (hB.o.cell (p := ⟨gb, ob + (4 * k + 3), none⟩) HG.o.1).trans (HUB.o (4 * k + 3) (by omega))
      have x0 := HL.out (4 * k)
      have x1 := HL.out (4 * k + 1)
      have x2 := HL.out (4 * k + 2)
      have x3 := HL.out (4 * k + 3)
      have HW : Shut ((Sh.w16 blk).take (k + 1) = (Sh.w16 blk).take k ++ [Sh.be (blk.getD (4 * k) 0) (blk.getD (4 * k + 1) 0) (blk.getD (4 * k + 2) 0) (blk.getD (4 * k + 3) 0)]) := ⟨by rw [take_next _ _ (by rw [Sh.w16_len]; exact hk16), w16_get blk k hk16]⟩
      have HCE0 : Shut (∀ W, Below w.heap.size w W → W.cell? ⟨gb, ob + 4 * k, none⟩ = some (.int .u8 ((blk.getD (4 * k) 0 : Nat) : Int)) ∧ W.cell? ⟨gb, ob + (4 * k + 1), none⟩ = some (.int .u8 ((blk.getD (4 * k + 1) 0 : Nat) : Int)) ∧ W.cell? ⟨gb, ob + (4 * k + 2), none⟩ = some (.int .u8 ((blk.getD (4 * k + 2) 0 : Nat) : Int)) ∧ W.cell? ⟨gb, ob + (4 * k + 3), none⟩ = some (.int .u8 ((blk.getD (4 * k + 3) 0 : Nat) : Int))) := ⟨fun W hW => ⟨(hW.cell (p := ⟨gb, ob + 4 * k, none⟩) HG.o.1).trans (HUB.o (4 * k) (by omega)), (hW.cell (p := ⟨gb, ob + (4 * k + 1), none⟩) HG.o.1).trans (HUB.o (4 * k + 1) (by omega)), (hW.cell (p := ⟨gb, ob + (4 * k + 2), none⟩) HG.o.1).trans (HUB.o (4 * k + 2) (by omega)), (hW.cell (p := ⟨gb, ob + (4 * k + 3), none⟩) HG.o.1).trans (HUB.o (4 * k + 3) (by omega))⟩⟩
      have hLL : ((Sh.w16 blk).take k).length ≤ 100 := by rw [List.length_take]; omega
      generalize blk.getD (4 * k) 0 = y0 at *
      generalize blk.getD (4 * k + 1) 0 = y1 at *
      generalize blk.getD (4 * k + 2) 0 = y2 at *
      generalize blk.getD (4 * k + 3) 0 = y3 at *
      have hraw := be_raw y0 y1 y2 y3 x0 x1 x2 x3
      generalize Sh.be y0 y1 y2 y3 = res at *
      generalize (Sh.w16 blk).take k = L at *
      have i1 : (0 : Int) ≤ 4 * (k : Int) := by omega
      have i2 : 4 * (k : Int) < 64 := by omega
      have i3 : (0 : Int) ≤ 4 * (k : Int) + 1 := by omega
      have i4 : 4 * (k : Int) + 1 < 64 := by omega
      have i5 : (0 : Int) ≤ 4 * (k : Int) + 2 := by omega
      have i6 : 4 * (k : Int) + 2 < 64 := by omega
      have i7 : (0 : Int) ≤ 4 * (k : Int) + 3 := by omega
      have i8 : 4 * (k : Int) + 3 < 64 := by omega
      have z1 : IntKind.i64.wrap (4 * (k : Int)) = 4 * (k : Int) := by simp [IntKind.wrap, IntKind.signed, IntKind.bits]; omega
      have z2 : IntKind.i64.wrap (4 * (k : Int) + 1) = 4 * (k : Int) + 1 := by simp [IntKind.wrap, IntKind.signed, IntKind.bits]; omega
      have z3 : IntKind.i64.wrap (4 * (k : Int) + 2) = 4 * (k : Int) + 2 := by simp [IntKind.wrap, IntKind.signed, IntKind.bits]; omega
      have z4 : IntKind.i64.wrap (4 * (k : Int) + 3) = 4 * (k : Int) + 3 := by simp [IntKind.wrap, IntKind.signed, IntKind.bits]; omega
      have t1 : (4 * (k : Int)).toNat = 4 * k := by omega
      have t2 : (4 * (k : Int) + 1).toNat = 4 * k + 1 := by omega
      have t3 : (4 * (k : Int) + 2).toNat = 4 * k + 2 := by omega
      have t4 : (4 * (k : Int) + 3).toNat = 4 * k + 3 := by omega
      clear hO
      go_wp2_with fail
      have hN3 : D4.NA (wr.alloc (.cells #[.int .u32 (res : Int)] 47)).drew (.slice (some ⟨wr.heap.size, 0, none⟩) 1 1) [res] := D4.NA.one wr res
      have hd : Below wr.heap.size wr (wr.alloc (.cells #[.int .u32 (res : Int)] 47)).drew := ((Below.refl wr.heap.size wr).alloc (Nat.le_refl _) _).drew
      have hO3 := D4.OwnU.below hO2 hd
      have hal := hB.o.trans (hd.mono hbs)
      have HCE : Shut (∀ W, Below w.heap.size w W → W.cell? ⟨gb, ob + 4 * k, none⟩ = some (.int .u8 (y0 : Int)) ∧ W.cell? ⟨gb, ob + (4 * k + 1), none⟩ = some (.int .u8 (y1 : Int)) ∧ W.cell? ⟨gb, ob + (4 * k + 2), none⟩ = some (.int .u8 (y2 : Int)) ∧ W.cell? ⟨gb, ob + (4 * k + 3), none⟩ = some (.int .u8 (y3 : Int))) := HCE0
      go_region_held3 (fun W => W.cell? ⟨gb, ob + 4 * k, none⟩ = some (.int .u8 (y0 : Int)) ∧ W.cell? ⟨gb, ob + (4 * k + 1), none⟩ = some (.int .u8 (y1 : Int)) ∧ W.cell? ⟨gb, ob + (4 * k + 2), none⟩ = some (.int .u8 (y2 : Int)) ∧ W.cell? ⟨gb, ob + (4 * k + 3), none⟩ = some (.int .u8 (y3 : Int))) (go_keep) (first | (refine D4.step_at 58 23 57 w.heap.size _ L rfl hO3 _ [res] rfl hN3 (by simp; omega) (Nat.le_trans hbs hd.size) ?_; intro v9 w9 hO9 hB9; have hB10 := hal.trans hB9; obtain ⟨q0, q1, q2, q3⟩ := HCE.o w9 hB10))
      go_wp2
      exact ⟨⟨k + 1, by omega, by go_num, ⟨by rw [HW.o]; exact hO9⟩, ⟨hB10⟩⟩, by simp [intOf]; omega⟩
    · have hO3 : D4.OwnU wr w.heap.size u5 (Sh.exts 0 (Sh.w16 blk)) := by
        rw [List.take_of_length_le (by rw [Sh.w16_len]; omega)] at hO2
        rw [Sh.exts]; exact hO2
      have HO3 : Shut _ := ⟨hO3⟩
      have HB3 : Shut _ := ⟨hB.o⟩
      clear hO hO2 hO3 hB hbs
      obtain rfl : k = 16 := by omega
      go_upto_region 99 with fail
      rename World => w1
      go_loopw [5, 7] (fun v iv wr => ∃ j : Nat, j ≤ 48 ∧ iv = .int .i64 ((j : Int) + 16) ∧ Shut (D4.OwnU wr w.heap.size v (Sh.exts j (Sh.w16 blk))) ∧ Shut (Below w.heap.size w wr)) (fun _ iv _ => 64 - (intOf iv).toNat)
      case atStart => exact ⟨0, by omega, rfl, HO3, HB3⟩
      case round =>
        clear HO3 HB3
        obtain ⟨j, hj, rfl, hO, hB⟩ := hrel
        have hbs := hB.o.size
        have hO2 := hO.o
        have hL : (Sh.exts j (Sh.w16 blk)).length = j + 16 := by rw [Sh.exts_len, Sh.w16_len]; omega
        obtain ⟨p2, c2, g2, o2, rfl, hc2, hm2, hp2, hu2⟩ := (D4.OwnU.na hO2).open
        obtain ⟨rfl, hg2⟩ := hp2 (by omega)
        have hD : D4.UR wr g2 (Sh.exts j (Sh.w16 blk)) ∧ o2 = 0 := by
          rcases D4.OwnU.open hO2 with ⟨h1, _⟩ | ⟨c', g', h1, _, h3, _⟩
          · cases h1
          · injection h1 with h1 _ _
            injection h1 with h1
            injection h1 with h1 h2 _
            subst h1; exact ⟨h3, h2⟩
        obtain ⟨hur, rfl⟩ := hD
        rw [hL] at hO2 ⊢
        by_cases hj48 : j < 48
        · have k15 := hur.u32 (j + 1) (by omega)
          have k2 := hur.u32 (j + 14) (by omega)
          have k16 := hur.u32 j (by omega)
          have k7 := hur.u32 (j + 9) (by omega)
          have HX : Shut (Sh.exts (j + 1) (Sh.w16 blk) = Sh.exts j (Sh.w16 blk) ++ [Sh.add (Sh.add (Sh.add ((Sh.exts j (Sh.w16 blk)).getD j 0) (Sh.sg0 ((Sh.exts j (Sh.w16 blk)).getD (j + 1) 0))) ((Sh.exts j (Sh.w16 blk)).getD (j + 9) 0)) (Sh.sg1 ((Sh.exts j (Sh.w16 blk)).getD (j + 14) 0))]) := ⟨by rw [Sh.exts, hL, nxt_get]⟩
          have HLL : Shut _ := ⟨hL⟩
          clear hO hL hur hu2 hp2
          generalize Sh.exts j (Sh.w16 blk) = L at *
          generalize L.getD (j + 1) 0 = x15 at *
          generalize L.getD (j + 14) 0 = x2 at *
          generalize L.getD j 0 = x16 at *
          generalize L.getD (j + 9) 0 = x7 at *
          have s0 := sg0_int x15
          have s1 := sg1_int x2
          generalize hs0 : Sh.sg0 x15 = g0 at *
          generalize hs1 : Sh.sg1 x2 = g1 at *
          clear hs0 hs1
          have z1 : IntKind.i64.wrap ((j : Int) + 16 - 15) = (j : Int) + 1 := by simp [IntKind.wrap, IntKind.signed, IntKind.bits]; omega
          have z2 : IntKind.i64.wrap ((j : Int) + 16 - 2) = (j : Int) + 14 := by simp [IntKind.wrap, IntKind.signed, IntKind.bits]; omega
          have z3 : IntKind.i64.wrap ((j : Int) + 16 - 16) = (j : Int) := by simp [IntKind.wrap, IntKind.signed, IntKind.bits]; omega
          have z0 : IntKind.i64.wrap (j : Int) = (j : Int) := by simp [IntKind.wrap, IntKind.signed, IntKind.bits]; omega
          have i0 : (0 : Int) ≤ (j : Int) := by omega
          have t0 : ((j : Int)).toNat = j := by omega
          have z4 : IntKind.i64.wrap ((j : Int) + 16 - 7) = (j : Int) + 9 := by simp [IntKind.wrap, IntKind.signed, IntKind.bits]; omega
          have t1 : ((j : Int) + 1).toNat = j + 1 := by omega
          have t2 : ((j : Int) + 14).toNat = j + 14 := by omega
          have t4 : ((j : Int) + 9).toNat = j + 9 := by omega
          have i1 : (0 : Int) ≤ (j : Int) + 1 := by omega
          have i2 : (j : Int) + 1 < ((j + 16 : Nat) : Int) := by omega
          have i3 : (0 : Int) ≤ (j : Int) + 14 := by omega
          have i4 : (j : Int) + 14 < ((j + 16 : Nat) : Int) := by omega
          have i5 : (0 : Int) ≤ (j : Int) + 9 := by omega
          have i6 : (j : Int) + 9 < ((j + 16 : Nat) : Int) := by omega
          have i7 : (j : Int) < ((j + 16 : Nat) : Int) := by omega
          obtain ⟨n, hn⟩ : ∃ n, n = j + 16 := ⟨_, rfl⟩
          rw [← hn] at hO2 i2 i4 i6 i7 HLL ⊢
          have hj16 : (j : Int) + 16 < 64 := by omega
          have hjn : j < n := by omega
          have hn64 : n ≤ 64 := by omega
          have HNN : Shut _ := ⟨hn⟩
          have HJ : Shut _ := ⟨hj48⟩
          clear hn hj hj48
          go_wp2_with fail
          go_quiet ((go_at_call 50; refine Calls.quiet_of (rrotated_z _ _ (by decide) (by decide) _)))
          have hq1 : Below wr.heap.size wr (wr.drewN nq) := below_drewN (Below.refl _ wr) nq
          have hO4 := D4.OwnU.below hO2 hq1
          have hB4 := hB.o.trans (hq1.mono hbs)
          replace k2 : (wr.drewN nq).cell? ⟨g2, j + 14, none⟩ = some (.int .u32 (x2 : Int)) := k2
          replace k16 : (wr.drewN nq).cell? ⟨g2, j, none⟩ = some (.int .u32 (x16 : Int)) := k16
          replace k7 : (wr.drewN nq).cell? ⟨g2, j + 9, none⟩ = some (.int .u32 (x7 : Int)) := k7
          clear k15 s0 hO2 hB hbs hq1 z1 t1 i1 i2 hg2
          generalize wr.drewN nq = wq at *
          clear nq
          go_wp2_with fail
          go_quiet ((go_at_call 50; refine Calls.quiet_of (rrotated_z _ _ (by decide) (by decide) _)))
          have hq1 : Below wq.heap.size wq (wq.drewN nq) := below_drewN (Below.refl _ wq) nq
          have hO5 := D4.OwnU.below hO4 hq1
          have hB5 := hB4.trans (hq1.mono hB4.size)
          replace k16 : (wq.drewN nq).cell? ⟨g2, j, none⟩ = some (.int .u32 (x16 : Int)) := k16
          replace k7 : (wq.drewN nq).cell? ⟨g2, j + 9, none⟩ = some (.int .u32 (x7 : Int)) := k7
          clear k2 s1 hO4 hq1 z2 t2 i3 i4 hB4
          generalize wq.drewN nq = wp at *
          clear nq
          go_wp2_with fail
          obtain ⟨res, hres⟩ : ∃ res, res = Sh.add (Sh.add (Sh.add x16 g0) x7) g1 := ⟨_, rfl⟩
          have hraw : IntKind.u32.wrap (IntKind.u32.wrap (IntKind.u32.wrap ((x16 : Int) + (g0 : Int)) + (x7 : Int)) + (g1 : Int)) = (res : Int) := by rw [IntKind.wrap_u32', IntKind.wrap_u32', IntKind.wrap_u32', hres]; simp only [Sh.add]; omega
          rw [← hres] at HX
          clear hres
          have hbs := hB5.size
          have hN3 : D4.NA (wp.drew.alloc (.cells #[.int .u32 (res : Int)] 47)) (.slice (some ⟨wp.heap.size, 0, none⟩) 1 1) [res] := D4.NA.one wp.drew res
          have hd : Below wp.heap.size wp (wp.drew.alloc (.cells #[.int .u32 (res : Int)] 47)) := ((Below.refl wp.heap.size wp).drew).alloc (Nat.le_refl _) _
          have hO3 := D4.OwnU.below hO5 hd
          have hal := hB5.trans (hd.mono hbs)
          have hLe : L.length = n := HLL.o
          go_region_law (refine D4.step_at 120 103 119 w.heap.size _ L rfl hO3 _ [res] rfl hN3 (by rw [hLe]; simp; omega) (Nat.le_trans hbs hd.size) ?_; intro v9 w9 hO9 hB9; have hB10 := hal.trans hB9)
          all_goals
            go_wp2
            go_roundw
            case rel =>
              repeat apply Exists.intro
              refine ⟨?_, rfl⟩
              exact ⟨j + 1, by have := HJ.o; omega, by go_num, ⟨by rw [HX.o]; exact hO9⟩, ⟨hB10⟩⟩
            case measure => simp [intOf]; have := HJ.o; omega
        · obtain rfl : j = 48 := by omega
          have HW : Shut (D4.NA wr (.slice (some ⟨g2, 0, none⟩) 64 c2) (Sh.sched blk)) := ⟨by
            have h9 := D4.OwnU.na hO2
            rw [Sh.sched]; exact h9⟩
          have HB4 : Shut _ := ⟨hB.o⟩
          clear hO hO2 hu2 hp2 hur hL hB hc2 hm2
          have HG2 : Shut (g2 < wr.heap.size) := ⟨hg2⟩
          have hws := HB4.o.size
          go_upto_region 99 with (first | (go_at_call 51; refine (constants_ref _).mono ?_; rintro e w5 ⟨vk, rfl, hK, hB5⟩; have hB6 := HB4.o.trans (hB5.mono hws); have hN5 : D4.NA w5 (.slice (some ⟨gh, oh, none⟩) 8 ch) h := (by have h9 := HH.o.below hB6 (Nat.le_refl _); rw [HHL.o] at h9; exact h9)) | (at_builtin; go_must (refine D4.append_u32 rfl _ _ rfl w5.heap.size _ [] rfl (D4.OwnU.nil _ _) _ h rfl hN5 (by simp; rw [HHL.o]; omega) (Nat.le_refl _) ?_); intro v7 w7 hO7 _ hB7))
          rw [List.nil_append] at hO7
          have hB8 := hB6.trans (hB7.mono hB6.size)
          have hNW := (HW.o.below hB5 (Nat.le_refl _)).below hB7 (Nat.le_refl _)
          have hNK := hK.below hB7 (Nat.le_refl _)
          have hNV := D4.OwnU.na hO7
          obtain ⟨pk, ck, gk, ok, rfl, hck, hmk, hpk, huk⟩ := hNK.open
          obtain ⟨rfl, hgk⟩ := hpk (by decide)
          obtain ⟨pw, cw, gw, ow, hwe, hcw, hmw, hpw, huw⟩ := hNW.open
          have HLS : Shut (Sh.rnds (Sh.sched blk) (Sh.St.of h) 0 = Sh.St.of h ∧ (Sh.St.of h).ls = h) := ⟨rfl, st_ls h HHL.o⟩
          have HCMP : Shut (Sh.comp h blk = List.zipWith Sh.add h (Sh.rnds (Sh.sched blk) (Sh.St.of h) 64).ls) := ⟨by rw [Sh.comp]⟩
          have HKC : Shut (∀ i, i < 64 → w7.cell? ⟨gk, ok + i, none⟩ = some (.int .u32 ((Sh.K.getD i 0 : Nat) : Int))) := ⟨fun i hi => huk i (by rw [Sh.K_len]; exact hi)⟩
          have hwl := Sh.sched_len blk
          rw [hwl] at hwe
          obtain ⟨rfl, hgw⟩ := hpw (by omega)
          injection hwe with hwe1 _ hwe3
          injection hwe1 with hwe1
          injection hwe1 with hwg hwo _
          subst hwg; subst hwo
          have HWC : Shut (∀ i, i < 64 → w7.cell? ⟨g2, i, none⟩ = some (.int .u32 (((Sh.sched blk).getD i 0 : Nat) : Int))) := ⟨fun i hi => by have := huw i (by rw [hwl]; exact hi); rwa [Nat.zero_add] at this⟩
          have HGG : Shut (gk < w7.heap.size ∧ g2 < w7.heap.size) := ⟨hgk, hgw⟩
          have HB8 : Shut _ := ⟨hB8⟩
          have HNV : Shut (D4.NA w7 v7 (Sh.St.of h).ls) := ⟨by rw [HLS.o.2]; exact hNV⟩
          have HNH : Shut (D4.NA w7 (.slice (some ⟨gh, oh, none⟩) 8 ch) h) := ⟨hN5.below hB7 (Nat.le_refl _)⟩
          rw [Sh.K_len]
          clear hO7 hB5 hB6 hB7 hB8 hNW hNK hNV hK hN5 huk huw hpk hpw hck hmk hcw hmw hwl hgk hgw hws HW HB4 HG2 HH hwe3
          generalize Sh.St.of h = s0 at *
          go_loopw [11, 12] (fun v iv W => ∃ (k : Nat) (s : Sh.St), k ≤ 64 ∧ s = Sh.rnds (Sh.sched blk) s0 k ∧ iv = .int .i64 k ∧ Shut (D4.NA W v s.ls) ∧ Shut (Below w7.heap.size w7 W)) (fun _ iv _ => 64 - (intOf iv).toNat)
          case atStart => exact ⟨0, s0, by omega, HLS.o.1.symm, rfl, HNV, ⟨Below.refl _ _⟩⟩
          case round =>
            clear HNV
            rename World => wo
            obtain ⟨k, s, hk, hs, rfl, hN, hB⟩ := hrel
            obtain ⟨pv, cv, gv, ov, rfl, hcv, hmv, hpv, huv⟩ := hN.o.open
            obtain ⟨a, b, c, d, e, f, g, x⟩ := s
            obtain ⟨rfl, hgv⟩ := hpv (by simp [Sh.St.ls])
            rw [show (Sh.St.ls ⟨a, b, c, d, e, f, g, x⟩).length = 8 from rfl]
            have HS : Shut _ := ⟨hs⟩
            clear hs
            by_cases hk64 : k < 64
            · have c0 : wo.cell? ⟨gv, ov, none⟩ = some (.int .u32 (a : Int)) := huv 0 (by simp [Sh.St.ls])
              have c1 : wo.cell? ⟨gv, ov + 1, none⟩ = some (.int .u32 (b : Int)) := huv 1 (by simp [Sh.St.ls])
              have c2 : wo.cell? ⟨gv, ov + 2, none⟩ = some (.int .u32 (c : Int)) := huv 2 (by simp [Sh.St.ls])
              have c3 : wo.cell? ⟨gv, ov + 3, none⟩ = some (.int .u32 (d : Int)) := huv 3 (by simp [Sh.St.ls])
              have c4 : wo.cell? ⟨gv, ov + 4, none⟩ = some (.int .u32 (e : Int)) := huv 4 (by simp [Sh.St.ls])
              have c5 : wo.cell? ⟨gv, ov + 5, none⟩ = some (.int .u32 (f : Int)) := huv 5 (by simp [Sh.St.ls])
              have c6 : wo.cell? ⟨gv, ov + 6, none⟩ = some (.int .u32 (g : Int)) := huv 6 (by simp [Sh.St.ls])
              have c7 : wo.cell? ⟨gv, ov + 7, none⟩ = some (.int .u32 (x : Int)) := huv 7 (by simp [Sh.St.ls])
              have ckk := (hB.o.cell (p := ⟨gk, ok + k, none⟩) HGG.o.1).trans (HKC.o k hk64)
              have cww := (hB.o.cell (p := ⟨g2, k, none⟩) HGG.o.2).trans (HWC.o k hk64)
              have hki : (k : Int) < 64 := by omega
              have e1 := bs1_int e
              have e2 := ch_int e f g
              have e3 := bs0_int a
              have e4 := mj_int a b c
              obtain ⟨kk, hkk⟩ : ∃ kk, kk = Sh.K.getD k 0 := ⟨_, rfl⟩
              obtain ⟨ww, hww⟩ : ∃ ww, ww = (Sh.sched blk).getD k 0 := ⟨_, rfl⟩
              obtain ⟨B1, hB1⟩ : ∃ z, z = Sh.bs1 e := ⟨_, rfl⟩
              obtain ⟨CH, hCH⟩ : ∃ z, z = Sh.ch e f g := ⟨_, rfl⟩
              obtain ⟨B0, hB0⟩ : ∃ z, z = Sh.bs0 a := ⟨_, rfl⟩
              obtain ⟨MJ, hMJ⟩ : ∃ z, z = Sh.mj a b c := ⟨_, rfl⟩
              rw [← hkk] at ckk; rw [← hww] at cww; rw [← hB1] at e1; rw [← hCH] at e2; rw [← hB0] at e3; rw [← hMJ] at e4
              have HKV : Shut (kk = Sh.K.getD k 0 ∧ ww = (Sh.sched blk).getD k 0 ∧ B1 = Sh.bs1 e ∧ CH = Sh.ch e f g ∧ B0 = Sh.bs0 a ∧ MJ = Sh.mj a b c) := ⟨hkk, hww, hB1, hCH, hB0, hMJ⟩
              have hgsz := hB.o.size
              clear hkk hww hB1 hCH hB0 hMJ huv hpv hN hcv hmv
              go_wp2_with fail
              go_quiet ((go_at_call 50; refine Calls.quiet_of (rrotated_z _ _ (by decide) (by decide) _)))
              obtain ⟨T, hT0⟩ : ∃ T, T = Sh.add (Sh.add (Sh.add (Sh.add x B1) CH) kk) ww := ⟨_, rfl⟩
              have hT : (((x : Int) + (B1 : Int) + (CH : Int) + (kk : Int)) % 4294967296 + (ww : Int)) % 4294967296 = (T : Int) := by rw [hT0]; simp only [Sh.add]; omega
              have HT : Shut _ := ⟨hT0⟩
              rw [hT]
              have hq1 : Below wo.heap.size wo (wo.drewN nq) := below_drewN (Below.refl _ wo) nq
              have HBq : Shut _ := ⟨hB.o.trans (hq1.mono hgsz)⟩
              replace c1 : (wo.drewN nq).cell? ⟨gv, ov + 1, none⟩ = some (.int .u32 (b : Int)) := c1
              replace c2 : (wo.drewN nq).cell? ⟨gv, ov + 2, none⟩ = some (.int .u32 (c : Int)) := c2
              replace c3 : (wo.drewN nq).cell? ⟨gv, ov + 3, none⟩ = some (.int .u32 (d : Int)) := c3
              replace c5 : (wo.drewN nq).cell? ⟨gv, ov + 5, none⟩ = some (.int .u32 (f : Int)) := c5
              replace c6 : (wo.drewN nq).cell? ⟨gv, ov + 6, none⟩ = some (.int .u32 (g : Int)) := c6
              clear c0 c4 c7 ckk cww e1 e2 hT hT0 hB hq1 hgsz hgv
              generalize wo.drewN nq = wq at *
              clear nq
              go_wp2_with fail
              go_quiet ((go_at_call 50; refine Calls.quiet_of (rrotated_z _ _ (by decide) (by decide) _)))
              obtain ⟨U, hU0⟩ : ∃ U, U = Sh.add B0 MJ := ⟨_, rfl⟩
              have hU : ((B0 : Int) + (MJ : Int)) % 4294967296 = (U : Int) := by rw [hU0]; simp only [Sh.add]; omega
              have HU : Shut _ := ⟨hU0⟩
              rw [hU]
              have hq1 : Below wq.heap.size wq (wq.drewN nq) := below_drewN (Below.refl _ wq) nq
              have HBp : Shut _ := ⟨HBq.o.trans (hq1.mono HBq.o.size)⟩
              replace c1 : (wq.drewN nq).cell? ⟨gv, ov + 1, none⟩ = some (.int .u32 (b : Int)) := c1
              replace c2 : (wq.drewN nq).cell? ⟨gv, ov + 2, none⟩ = some (.int .u32 (c : Int)) := c2
              replace c3 : (wq.drewN nq).cell? ⟨gv, ov + 3, none⟩ = some (.int .u32 (d : Int)) := c3
              replace c5 : (wq.drewN nq).cell? ⟨gv, ov + 5, none⟩ = some (.int .u32 (f : Int)) := c5
              replace c6 : (wq.drewN nq).cell? ⟨gv, ov + 6, none⟩ = some (.int .u32 (g : Int)) := c6
              clear e3 e4 hU hU0 HBq hq1
              generalize wq.drewN nq = wp at *
              clear nq
              go_wp2_with fail
              go_region_held3 (fun W => W.cell? ⟨gv, ov + 1, none⟩ = some (.int .u32 (b : Int)) ∧ W.cell? ⟨gv, ov + 2, none⟩ = some (.int .u32 (c : Int)) ∧ W.cell? ⟨gv, ov + 3, none⟩ = some (.int .u32 (d : Int)) ∧ W.cell? ⟨gv, ov + 5, none⟩ = some (.int .u32 (f : Int)) ∧ W.cell? ⟨gv, ov + 6, none⟩ = some (.int .u32 (g : Int))) (go_keep) (first | fail)
              go_wp2
              obtain ⟨k1, k2, k3, k4, k5, k6⟩ := HKV.o
              have E1 : ((T : Int) + (U : Int)) % 4294967296 = ((Sh.add T U : Nat) : Int) := by simp only [Sh.add]; omega
              have E2 : ((d : Int) + (T : Int)) % 4294967296 = ((Sh.add d T : Nat) : Int) := by simp only [Sh.add]; omega
              rw [E1, E2]
              refine ⟨⟨k + 1, ⟨Sh.add T U, a, b, c, Sh.add d T, e, f, g⟩, by omega, ?_, by go_num, ⟨na8 wp [Sh.add T U, a, b, c, Sh.add d T, e, f, g] rfl⟩, ⟨(HBp.o.alloc HBp.o.size _).drew⟩⟩, by simp [intOf]; omega⟩
              rw [Sh.rnds, ← HS.o, Sh.rnd, Sh.t1, Sh.t2, HT.o, HU.o, k1, k2, k3, k4, k5, k6]
            · obtain rfl : k = 64 := by omega
              have hcl := Sh.comp_len h blk HHL.o
              have HLS2 : Shut (Sh.comp h blk = List.zipWith Sh.add h (Sh.St.ls ⟨a, b, c, d, e, f, g, x⟩)) := ⟨by rw [HCMP.o, ← HS.o]⟩
              have hLl : (Sh.St.ls ⟨a, b, c, d, e, f, g, x⟩).length = 8 := rfl
              have HNVV : Shut (∀ i, i < 8 → wo.cell? ⟨gv, ov + i, none⟩ = some (.int .u32 (((Sh.St.ls ⟨a, b, c, d, e, f, g, x⟩).getD i 0 : Nat) : Int))) := ⟨fun i hi => huv i (by rw [hLl]; exact hi)⟩
              have HNHH : Shut (∀ i, i < 8 → wo.cell? ⟨gh, oh + i, none⟩ = some (.int .u32 ((h.getD i 0 : Nat) : Int)) ∧ gh < wo.heap.size) := ⟨fun i hi => ⟨((HB8.o.trans (hB.o.mono HB8.o.size)).cell (p := ⟨gh, oh + i, none⟩) HG.o.2).trans (HUH.o i hi), Nat.lt_of_lt_of_le HG.o.2 (HB8.o.trans (hB.o.mono HB8.o.size)).size⟩⟩
              have HGV : Shut (gv < wo.heap.size) := ⟨hgv⟩
              have HBO : Shut _ := ⟨HB8.o.trans (hB.o.mono HB8.o.size)⟩
              have HCL : Shut _ := ⟨hcl⟩
              clear hN hcv hmv huv hpv hcl hB hgv hk
              generalize Sh.St.ls ⟨a, b, c, d, e, f, g, x⟩ = ls at *
              go_upto_region 99 with fail
              go_loopw [17, 18] (fun v iv W => ∃ j : Nat, j ≤ 8 ∧ iv = .int .i64 j ∧ Shut (D4.OwnU W wo.heap.size v ((Sh.comp h blk).take j)) ∧ Shut (Below wo.heap.size wo W)) (fun _ iv _ => 8 - (intOf iv).toNat)
              case atStart => exact ⟨0, by omega, rfl, ⟨D4.OwnU.nil _ _⟩, ⟨Below.refl _ _⟩⟩
              case round =>
                obtain ⟨j, hj, rfl, hO, hB⟩ := hrel
                have hbs := hB.o.size
                have hO2 := hO.o
                by_cases hj8 : j < 8
                · have ch := (hB.o.cell (p := ⟨gh, oh + j, none⟩) (HNHH.o j hj8).2).trans (HNHH.o j hj8).1
                  have cv := (hB.o.cell (p := ⟨gv, ov + j, none⟩) HGV.o).trans (HNVV.o j hj8)
                  have HV : Shut ((Sh.comp h blk).take (j + 1) = (Sh.comp h blk).take j ++ [Sh.add (h.getD j 0) (ls.getD j 0)]) := ⟨by
                    rw [take_next _ _ (by rw [HCL.o]; exact hj8), HLS2.o]
                    simp [List.getD, HHL.o, hLl, hj8]⟩
                  have HCE : Shut (∀ W, Below wo.heap.size wo W → W.cell? ⟨gh, oh + j, none⟩ = some (.int .u32 ((h.getD j 0 : Nat) : Int)) ∧ W.cell? ⟨gv, ov + j, none⟩ = some (.int .u32 ((ls.getD j 0 : Nat) : Int))) := ⟨fun W hW => ⟨(hW.cell (p := ⟨gh, oh + j, none⟩) (HNHH.o j hj8).2).trans (HNHH.o j hj8).1, (hW.cell (p := ⟨gv, ov + j, none⟩) HGV.o).trans (HNVV.o j hj8)⟩⟩
                  have hLL : ((Sh.comp h blk).take j).length ≤ 100 := by rw [List.length_take]; omega
                  clear hO
                  generalize h.getD j 0 = hj1 at *
                  generalize ls.getD j 0 = vj1 at *
                  generalize (Sh.comp h blk).take j = L at *
                  obtain ⟨res, hres⟩ : ∃ res, res = Sh.add hj1 vj1 := ⟨_, rfl⟩
                  have hraw : IntKind.u32.wrap ((hj1 : Int) + (vj1 : Int)) = (res : Int) := by rw [IntKind.wrap_u32', hres]; simp only [Sh.add]; omega
                  rw [← hres] at HV
                  clear hres
                  have hji : (j : Int) < 8 := by omega
                  have hN3 : D4.NA (wr.alloc (.cells #[.int .u32 (res : Int)] 47)).drew (.slice (some ⟨wr.heap.size, 0, none⟩) 1 1) [res] := D4.NA.one wr res
                  have hd : Below wr.heap.size wr (wr.alloc (.cells #[.int .u32 (res : Int)] 47)).drew := ((Below.refl wr.heap.size wr).alloc (Nat.le_refl _) _).drew
                  have hO3 := D4.OwnU.below hO2 hd
                  have hal := hB.o.trans (hd.mono hbs)
                  go_wp2_with fail
                  go_region_held3 (fun W => W.cell? ⟨gh, oh + j, none⟩ = some (.int .u32 (hj1 : Int)) ∧ W.cell? ⟨gv, ov + j, none⟩ = some (.int .u32 (vj1 : Int))) (go_keep) (first | (refine D4.step_at 236 225 235 wo.heap.size _ L rfl hO3 _ [res] rfl hN3 (by simp; omega) (Nat.le_trans hbs hd.size) ?_; intro v9 w9 hO9 hB9; have hB10 := hal.trans hB9; obtain ⟨q0, q1⟩ := HCE.o w9 hB10))
                  go_wp2
                  exact ⟨⟨j + 1, by omega, by go_num, ⟨by rw [HV.o]; exact hO9⟩, ⟨hB10⟩⟩, by simp [intOf]; omega⟩
                · obtain rfl : j = 8 := by omega
                  rw [List.take_of_length_le (by rw [HCL.o]; omega)] at hO2
                  have HF : Shut _ := ⟨D4.OwnU.na hO2⟩
                  go_wp2
                  go_ret
                  exact ⟨_, rfl, HF.o, HBO.o.trans (hB.o.mono HBO.o.size)⟩
end Go.Proofs.YtegkckpanajgjaaDoor
