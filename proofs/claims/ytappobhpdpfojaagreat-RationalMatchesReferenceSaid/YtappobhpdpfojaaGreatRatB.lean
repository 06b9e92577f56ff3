/-
  Contracts: build.
-/
import Derived.Test.YtappobhpdpfojaaGreatRatS
namespace Go.Proofs.YtappobhpdpfojaaGreat
set_option maxRecDepth 1000000
namespace Rt
open Go.RowKit Nm
/-- what build answers -/
def bR (o : Option (ByteArray × ByteArray)) : Value := match o with | some (n, d) => .tuple #[rv n d, .int .i64 0] | none => .tuple #[rv ⟨#[]⟩ ⟨#[]⟩, .int .i64 40]
noncomputable def outR (ps : Ps) (st : St) : Option (ByteArray × ByteArray) := (run (ps.map Prod.snd) st).bind fun s => redR (s 0) (s 1)
theorem cell_two (w : World) (b : Nat) (u v x y : Value) (h0 : w.cell? ⟨b, 0, none⟩ = some x) (h1 : w.cell? ⟨b, 1, none⟩ = some y) :
    ((w.setCell ⟨b, 0, none⟩ u).setCell ⟨b, 1, none⟩ v).cell? ⟨b, 0, none⟩ = some u ∧ ((w.setCell ⟨b, 0, none⟩ u).setCell ⟨b, 1, none⟩ v).cell? ⟨b, 1, none⟩ = some v := by
  have hne : (⟨b, 1, none⟩ : Addr) ≠ ⟨b, 0, none⟩ := fun e => by injection e with _ e; cases e
  refine ⟨?_, ?_⟩
  · rw [World.cell?_setCell_other _ ⟨b, 1, none⟩ ⟨b, 0, none⟩ _ hne, World.cell?_setCell_same w ⟨b, 0, none⟩ _ h0]
  · exact World.cell?_setCell_same _ ⟨b, 1, none⟩ _ (by rw [World.cell?_setCell_other w ⟨b, 0, none⟩ ⟨b, 1, none⟩ _ hne.symm]; exact h1)
set_option maxHeartbeats 4000000 in
theorem build_any (base rb : Nat) (ps : Ps) (v : Value) (rest : List Addr) (st : St) (w : World) (hR : Ready base rb ps v rest st w) :
    Calls Tryz.prog 59 #[.pointer (some ⟨rb, 0, none⟩), v] w fun e w' => e = .returned (bR (outR ps st)) ∧ Below base w w' ∧ Rim (fun k => blk (⟨rb, 0, none⟩ :: ⟨rb, 1, none⟩ :: rest) k ∨ v.ownBlock = some k) w w' := by
  have HR : Shut _ := ⟨hR⟩
  have hn := hR.len
  have hown := hR.own
  have hbase := hR.low
  clear hR
  obtain ⟨i0, hinf, hz0, hz1, hz2⟩ := info_parts infoF
  have hOw : ∀ W, Below w.heap.size w W → W.ownsRow base 79 1 v ps.length (ps.map fun p => fval p.1) := fun W hW => (Rim.of_below (bs := fun _ => False) hW).row hown (fun _ _ h => h)
  clear hown
  go_enter Tryz.func59, Tryz.ntmps59
  go_wp2
  go_region_held3 (fun _ => True) (exact trivial) (first | (go_at_call 68; (have q := hI3; clear q); refine (into_any _ _ _ _ _).mono ?_; rintro e w4 ⟨rfl, hI4, hB4, hs4⟩; have hW4 := chain4 hB1 hs1 hB2 hs2 hB3 hs3 hB4 hs4) | (go_at_call 68; (have q := hI2; clear q); refine (into_any _ _ _ _ _).mono ?_; rintro e w3 ⟨rfl, hI3, hB3, hs3⟩) | (go_at_call 68; (have q := hI1; clear q); refine (into_any _ _ _ _ _).mono ?_; rintro e w2 ⟨rfl, hI2, hB2, hs2⟩) | (go_at_call 68; refine (into_any _ _ _ _ _).mono ?_; rintro e w1 ⟨rfl, hI1, hB1, hs1⟩) | (refine step_append_own rfl (.tmp 9) (.tmp 35) 108 rfl base 79 i0 .nilFunc 1 8 Tryz.underlying108 hinf hz0 hz1 hz2 rfl (by decide) _ ps.length (ps.map fun p => fval p.1) rfl (hOw _ (hW4.alloc hW4.size _)) ⟨w4.heap.size, 0, none⟩ 4 4 [_, _, _, _] rfl rfl (new4 _ _ _ _ _ _) ?_ (by unfold maxLen; omega) (by omega) (by rw [World.size_alloc]; have := hW4.size; omega) ?_; (intro u hu; simp at hu; rcases hu with rfl | rfl | rfl | rfl <;> rfl); intro v' w5 hown' hgrow) | fail)
  obtain ⟨g, cap, rfl⟩ := ownsRow_succ (k := ps.length + 3) hown'
  have hT := build_set (g := g) (cap := cap) HR.o rfl rfl hI1 hI2 hI3 hI4 hB1 hB2 hB3 hB4 hs1 hs2 hs3 hs4 hgrow (by rw [List.map_append]; exact hown')
  clear hI1 hI2 hI3 hI4 hB1 hB2 hB3 hB4 hs1 hs2 hs3 hs4 hown' hgrow hOw
  have hlen : (ps ++ four (rest.length + 2) (w.heap.size + 1 + 1) w1.heap.size w2.heap.size w3.heap.size).length = ps.length + 3 + 1 := by simp [four]
  have hout : Shut (outR ps st = (run ((ps ++ four (rest.length + 2) (w.heap.size + 1 + 1) w1.heap.size w2.heap.size w3.heap.size).map Prod.snd) st).map fun s => (s 0, s 1)) := ⟨by
    rw [outR, List.map_append, run_append]
    cases run (ps.map Prod.snd) st with
    | none => rfl
    | some s => rw [Option.bind_some, Option.bind_some, four_red _ _ _ _ _ (by omega)]⟩
  generalize ps ++ four (rest.length + 2) (w.heap.size + 1 + 1) w1.heap.size w2.heap.size w3.heap.size = qs at *
  obtain ⟨d, hd⟩ : ∃ d : Addr, d = ⟨w.heap.size + 1, 0, none⟩ := ⟨_, rfl⟩
  rw [← hd] at hT
  have HD : Shut _ := ⟨hd⟩
  have hsz5 := hT.new
  have HT : Shut _ := ⟨hT⟩
  have HRN : Shut (¬ blk (adr rb rest d) w.heap.size) := ⟨hT.resn⟩
  have hTB : Shut _ := ⟨hT.below⟩
  have hRimW : Shut _ := ⟨hT.rim⟩
  have hSub : Shut _ := ⟨hT.sub⟩
  have hlow : Shut (base ≤ w5.heap.size) := ⟨Nat.le_trans hbase (Nat.le_of_lt hT.new)⟩
  have hup : Shut (∀ k, blk (adr rb rest d) k → base ≤ k) := ⟨by rintro k ⟨a, ha, rfl⟩; exact hT.up a ha⟩
  clear hd hT HR
  generalize hal : adr rb rest d = al at *
  have HA : Shut _ := ⟨hal⟩
  clear hal
  have HQ : Shut _ := ⟨hlen⟩
  have hN14 : ps.length + 3 + 1 ≤ 14 := by omega
  generalize hN : ps.length + 3 + 1 = N at *
  clear hN
  go_wp2
  go_loopw [39] (fun iv wr => ∃ (k : Nat) (s : St), iv = .int .i64 k ∧ k ≤ N ∧ Shut (run ((qs.map Prod.snd).take k) st = some s) ∧ Shut (Holds al s wr) ∧ Shut (Rim (blk al) w5 wr)) (fun iv _ => N - (intOf iv).toNat)
  case atStart => exact ⟨0, st, rfl, by omega, ⟨rfl⟩, ⟨HA.o ▸ HT.o.holds⟩, ⟨Rim.refl _ _⟩⟩
  case round =>
    obtain ⟨k, s, rfl, hk, hrun, hH, hRm⟩ := hrel
    have f1 : w.heap.size < wr.heap.size := by have := hRm.o.size; omega
    have hres := hRm.o.heap HT.o.res (by rw [← HA.o]; exact HT.o.resn)
    by_cases hlt : k < N
    · have hlt' : k < qs.length := by have := HQ.o; omega
      have ck0 := HT.o.cells k hlt'
      have ck : wr.cell? ⟨g, k, none⟩ = some (fval qs[k].1) := (World.cell?_of_block (a := ⟨g, k, none⟩) (hRm.o.block g (World.block_lt_of_cell? _ _ ck0) (by rw [← HA.o]; exact HT.o.row))).trans ck0
      have hst := HT.o.steps qs[k] (List.getElem_mem hlt')
      rw [HA.o] at hst
      have hstep := hst.2 wr s hRm.o hH.o
      have hen := fun a w => hst.1 a w
      have hnext : Shut (run ((qs.map Prod.snd).take (k + 1)) st = qs[k].2 s) := ⟨by
        rw [run_take (by rw [List.length_map]; exact hlt'), hrun.o, Option.bind_some, List.getElem_map]⟩
      have hfail : Shut (qs[k].2 s = none → run (qs.map Prod.snd) st = none) := ⟨fun h => by
        have := run_append ((qs.map Prod.snd).take (k + 1)) ((qs.map Prod.snd).drop (k + 1)) st
        rw [List.take_append_drop, hnext.o, h] at this
        exact this⟩
      clear hst ck0
      obtain ⟨x, hx⟩ : ∃ x, x = qs[k] := ⟨_, rfl⟩
      rw [← hx] at ck hstep hen hnext hfail
      clear hx hlt'
      obtain ⟨⟨fk, fc⟩, gk⟩ := x
      simp only [fval] at ck hstep hen
      simp only at hnext hfail
      cases hgk : gk s with
      | some s' =>
        rw [hgk] at hnext hstep
        have hstep' : Calls Tryz.prog fk fc wr fun e W' => e = .returned (.int .i64 0) ∧ Rim (blk al) wr W' ∧ Holds al s' W' := hstep.mono (by
          rintro e W' ⟨h1, ⟨s'', h2, h3, h4⟩ | ⟨h2, _⟩⟩
          · injection h2 with h2; subst h2; exact ⟨h3, h1, h4⟩
          · cases h2)
        clear hstep hfail hgk
        go_wp2_with ((refine hstep'.mono ?_; rintro e w6 ⟨rfl, hr6, hh6⟩))
        go_roundw
        case rel => exact ⟨k + 1, s', by go_num, by omega, hnext, ⟨hh6⟩, ⟨hRm.o.trans hr6⟩⟩
        case measure => simp [intOf]; omega
      | none =>
        rw [hgk] at hstep
        have hno : Shut (run (qs.map Prod.snd) st = none) := ⟨hfail.o hgk⟩
        have hstep' : Calls Tryz.prog fk fc wr fun e W' => ∃ n : Int, e = .returned (.int .i64 n) ∧ (n != 0) = true ∧ Rim (blk al) wr W' ∧ W'.cell? ⟨w.heap.size, 0, none⟩ = some (.string ⟨#[]⟩) ∧ W'.cell? ⟨w.heap.size, 1, none⟩ = some (.string ⟨#[]⟩) ∧ W'.frozen? ⟨w.heap.size, 0, none⟩ = false ∧ W'.frozen? ⟨w.heap.size, 1, none⟩ = false := hstep.mono (by
          rintro e W' ⟨h1, ⟨s'', h2, _⟩ | ⟨_, n, hn, rfl⟩⟩
          · cases h2
          · have hR6 := h1.heap hres HRN.o
            exact ⟨n, rfl, by simp [hn], h1, cell_of_row W' w.heap.size 0 _ _ _ hR6, cell_of_row W' w.heap.size 1 _ _ _ hR6, by simp [World.frozen?, hR6], by simp [World.frozen?, hR6]⟩)
        clear hstep hfail hgk hnext hres
        go_wp2_with ((refine hstep'.mono ?_; rintro e w6 ⟨n, rfl, hn1, hr6, c0, c1, z0, z1⟩))
        have k0 := cell_two w6 w.heap.size (.string ⟨#[]⟩) (.string ⟨#[]⟩) _ _ c0 c1
        have hB5 := hTB.o.trans (((hRm.o.trans hr6).below hlow.o hup.o))
        clear hen ck
        refine bodyPost_ret (v := .tuple #[.agg #[.string ⟨#[]⟩, .string ⟨#[]⟩], .int .i64 40]) (by simp [results, Tryz.results59, go_sem, k0.1, k0.2]) rfl ⟨?_, (hB5.setCell hbase _).setCell hbase _, rim_new (rim_new (rim_step hRimW.o (hRm.o.trans hr6) hSub.o) _ _ rfl) _ _ rfl⟩
        rw [hout.o, hno.o]; rfl
    · have hkN : k = N := by omega
      have hb0 := hH.o.box 0 (by rw [← HA.o]; simp [adr])
      have hb1 := hH.o.box 1 (by rw [← HA.o]; simp [adr])
      have r0 : wr.cell? ⟨rb, 0, none⟩ = some (.string (s 0)) := by have := hb0.cell; simp only [← HA.o] at this; exact this
      have r1 : wr.cell? ⟨rb, 1, none⟩ = some (.string (s 1)) := by have := hb1.cell; simp only [← HA.o] at this; exact this
      have c0 : wr.cell? ⟨w.heap.size, 0, none⟩ = some (.string ⟨#[]⟩) := cell_of_row wr w.heap.size 0 _ _ _ hres
      have c1 : wr.cell? ⟨w.heap.size, 1, none⟩ = some (.string ⟨#[]⟩) := cell_of_row wr w.heap.size 1 _ _ _ hres
      have z0 : wr.frozen? ⟨w.heap.size, 0, none⟩ = false := by simp [World.frozen?, hres]
      have z1 : wr.frozen? ⟨w.heap.size, 1, none⟩ = false := by simp [World.frozen?, hres]
      have hyes : Shut (run (qs.map Prod.snd) st = some s) := ⟨by have := hrun.o; rwa [hkN, ← HQ.o, ← List.length_map (f := Prod.snd), List.take_length] at this⟩
      subst hkN
      clear hres hb0 hb1 hrun hH
      go_wp2
      have k0 := cell_two wr w.heap.size (.string (s 0)) (.string (s 1)) _ _ c0 c1
      have hB5 := hTB.o.trans ((hRm.o.below hlow.o hup.o))
      refine bodyPost_ret (v := .tuple #[.agg #[.string (s 0), .string (s 1)], .int .i64 0]) (by simp [results, Tryz.results59, go_sem, k0.1, k0.2]) rfl ⟨?_, (hB5.setCell hbase _).setCell hbase _, rim_new (rim_new (rim_step hRimW.o hRm.o hSub.o) _ _ rfl) _ _ rfl⟩
      rw [hout.o, hyes.o]; rfl
end Rt
end Go.Proofs.YtappobhpdpfojaaGreat
