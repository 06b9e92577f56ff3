/-
  The walk of DigestChainBinding.
-/
import Derived.Test.YtnceemdemjjhlaaDoorDigColl
namespace Go.Proofs.YtnceemdemjjhlaaDoor
open Go.RowKit

noncomputable def mkW (w : World) : World := Classical.choose (zeros_make w)
theorem mkW_run (w : World) : Sem.run Tryd.prog (Instr.makeSlice 42 (.int .i64 32) (.int .i64 32)) w = .ok (.slice (some ⟨w.heap.size, 0, none⟩) 32 32) (mkW w) := (Classical.choose_spec (zeros_make w)).1
theorem mkW_conv (w w2 : World) (h : Below (mkW w).heap.size (mkW w) w2) : Sem.run Tryd.prog (convert 42 9 (.slice (some ⟨w.heap.size, 0, none⟩) 32 32)) w2 = .ok (.string zeros32) w2 := (Classical.choose_spec (zeros_make w)).2.1 w2 h
theorem mkW_below (w : World) : Below w.heap.size w (mkW w) := (Classical.choose_spec (zeros_make w)).2.2

set_option maxRecDepth 100000 in
set_option maxHeartbeats 20000000 in
theorem chainBind_any (ls : List ByteArray) (b o cap : Nat) (p : Option Addr) (hp : 1 ≤ ls.length → p = some ⟨b, o, none⟩) (hl : ls.length ≤ 9223372036854775807) (hS : ∀ s ∈ ls, s.size ≤ 9223372036854775807)
    (ls' : List ByteArray) (b' o' cap' : Nat) (p' : Option Addr) (hp' : 1 ≤ ls'.length → p' = some ⟨b', o', none⟩) (hl' : ls'.length ≤ 9223372036854775807) (hS' : ∀ s ∈ ls', s.size ≤ 9223372036854775807) (w : World) (hA : SA w b o ls) (hA' : SA w b' o' ls') (ht : Tab w) :
    Calls Tryd.prog 8 #[.slice p ls.length cap, .slice p' ls'.length cap'] w fun e w' => e = .returned (.bool true) ∧ Below w.heap.size w w' := by
  have hge := ht.2.2
  have cs := sane_any w ht
  go_enter Tryd.func8, Tryd.ntmps8
  go_upto_region 2 with (go_at_call 11; refine cs.mono ?_; rintro e w1 ⟨rfl, hB1⟩)
  have cf := few_any ls b o cap 20 p hp hl (by omega) hS w1 (hA.below hB1)
  go_upto_region 3 with (go_at_call 20; refine cf.mono ?_; rintro e w2 ⟨v, rfl, hO, hB2⟩)
  have hB2' := hB1.trans (hB2.mono hB1.size)
  have cf' := few_any ls' b' o' cap' 20 p' hp' hl' (by omega) hS' w2 (hA'.below hB2')
  go_upto_region 4 with (go_at_call 20; refine cf'.mono ?_; rintro e w3 ⟨v', rfl, hO', hB3⟩)
  have hB3' := hB2'.trans (hB3.mono hB2'.size)
  have ht3 := ht.below hB3' hge
  have hO3 := hO.below hB3
  have hfl := few_len ls 20
  have hfs := few_in60 ls 20
  have hfl' := few_len ls' 20
  have hfs' := few_in60 ls' 20
  clear cf cf' cs hp hp' hA hA' hS hS' ht hO hB1 hB2 hB2' hB3
  generalize fewB ls 20 = f1 at *
  generalize fewB ls' 20 = f2 at *
  obtain ⟨q, cp, g, rfl, hq, hAf, hcp, hcm⟩ := hO3.open
  obtain ⟨q', cp', g', rfl, hq', hAf', hcp', hcm'⟩ := hO'.open
  unfold maxLen at hcm hcm'
  have c1 := heads_any f1 g 0 cp q (fun h => (hq h).1) (by omega) (fun s hs => by have := hfs s hs; omega) w3 hAf ht3
  have c2 : ∀ W, Below w3.heap.size w3 W → _ := fun W hW => heads_any f2 g' 0 cp' q' (fun h => (hq' h).1) (by omega) (fun s hs => by have := hfs' s hs; omega) W (hAf'.below hW) (ht3.below hW ht3.2.2)
  have c3 : ∀ W, Below w3.heap.size w3 W → _ := fun W hW => same_any f1 f2 g 0 cp g' 0 cp' q q' (fun h => (hq h).1) (fun h => (hq' h).1) (by omega) (by omega) W (hAf.below hW) (hAf'.below hW)
  have HC := chain_binding f1.reverse f2.reverse
  have hh1 := headR_size f1.reverse
  have hs1 := outR_small f1.reverse (fun s hs => by have := hfs s (List.mem_reverse.1 hs); omega)
  have hs2 := outR_small f2.reverse (fun s hs => by have := hfs' s (List.mem_reverse.1 hs); omega)
  have hl1 := outR_len f1.reverse
  have hl2 := outR_len f2.reverse
  rw [List.length_reverse] at hl1 hl2
  have hfe : f1 = f2 → headR f1.reverse = headR f2.reverse := fun h => by rw [h]
  have hre : f1.reverse = f2.reverse → f1 = f2 := List.reverse_inj.1
  have HT3 : Shut _ := ⟨ht3⟩
  have HFE : Shut _ := ⟨hfe⟩
  have HCC : Shut (headR f1.reverse = headR f2.reverse → f1 = f2 ∨ Coll (outR f1.reverse) (outR f2.reverse) ∨ Zero (outR f1.reverse) (outR f2.reverse)) := ⟨fun h => (HC h).imp_left hre⟩
  have HS1 : Shut _ := ⟨hs1⟩
  have HS2 : Shut _ := ⟨hs2⟩
  clear ht3 hq hq' hAf hAf' hfe hre HC hs1 hs2 hfs hfs' hO3 hO'
  generalize headR f1.reverse = h1 at *
  generalize headR f2.reverse = h2 at *
  generalize outR f1.reverse = x1 at *
  generalize outR f2.reverse = x2 at *
  go_upto_region 5 with (go_at_call 33; refine c1.mono ?_; rintro e w4 ⟨v4, rfl, hO4, hB4⟩)
  go_upto_region 6 with (go_at_call 33; refine (c2 _ hB4).mono ?_; rintro e w5 ⟨v5, rfl, hO5, hB5⟩)
  have hB5' := hB4.trans (hB5.mono hB4.size)
  have c4 := c3 w5 hB5'
  go_upto_region 7 with (go_at_call 25; refine c4.mono ?_; rintro e w6 ⟨rfl, m, hw6⟩)
  have hB6' : Below w3.heap.size w3 (w5.drewN m) := below_drewN hB5' m
  have hO4' : OwnS (w5.drewN m) w3.heap.size v4 x1 := hO4.below (below_drewN hB5 m)
  have hO5' : OwnS (w5.drewN m) w4.heap.size v5 x2 := hO5
  clear hw6 hO4 hO5 hB5 hB5' c1 c2 c3 c4
  generalize w5.drewN m = w6 at *
  obtain ⟨pa, ca, ga, rfl, hpa, hAa, hca, hma⟩ := hO4'.open
  obtain ⟨pb, cb, gb, rfl, hpb, hAb, hcb, hmb⟩ := hO5'.open
  unfold maxLen at hma hmb
  have ht6 := HT3.o.below hB6' HT3.o.2.2
  have hF6 : Below w.heap.size w w6 := hB3'.trans (hB6'.mono hB3'.size)
  have hz6 := hF6.size
  have HF6 : Shut _ := ⟨hF6⟩
  have cc : ∀ W, Below w6.heap.size w6 W → _ := fun W hW => collide_gen x1 x2 ga ca gb cb pa pb (fun h => (hpa h).1) (fun h => (hpb h).1) (by omega) (by omega) HS1.o HS2.o W (ht6.below hW ht6.2.2) (hAa.below hW) (hAb.below hW)
  have HPA : Shut _ := ⟨hpa⟩
  have HPB : Shut _ := ⟨hpb⟩
  have HAA : Shut _ := ⟨hAa⟩
  have HAB : Shut _ := ⟨hAb⟩
  have HT6 : Shut _ := ⟨ht6⟩
  clear hpa hpb hAa hAb ht6 hO4' hO5' hF6 hB6' hB4
  by_cases hsame : f1 = f2
  · have hd : decide (f1 = f2) = true := decide_eq_true hsame
    obtain rfl := HFE.o hsame
    have hbe : (h1.toList == h1.toList) = true := beq_self_eq_true _
    rw [hd]
    clear hd hsame cc HCC
    go_wp2
    go_ret
    exact ⟨rfl, HF6.o⟩
  · have hd : decide (f1 = f2) = false := decide_eq_false hsame
    rw [hd]
    by_cases hh : h1 = h2
    · subst hh
      have hbe : (h1.toList == h1.toList) = true := beq_self_eq_true _
      have HCZ : Shut (Coll x1 x2 ∨ Zero x1 x2) := ⟨(HCC.o rfl).resolve_left hsame⟩
      clear hd hsame HCC HFE
      obtain ⟨n1, hn1⟩ : ∃ n, n = x1.length := ⟨_, rfl⟩
      obtain ⟨n2, hn2⟩ : ∃ n, n = x2.length := ⟨_, rfl⟩
      rw [← hn1, ← hn2] at cc ⊢
      rw [← hn1] at hca hl1
      rw [← hn2] at hcb hl2
      have HN1 : Shut _ := ⟨hn1⟩
      have HN2 : Shut _ := ⟨hn2⟩
      have HP1 : Shut (1 ≤ n1 → pa = some ⟨ga, 0, none⟩) := ⟨fun h => (HPA.o (by omega)).1⟩
      have HP2 : Shut (1 ≤ n2 → pb = some ⟨gb, 0, none⟩) := ⟨fun h => (HPB.o (by omega)).1⟩
      have hn20 : n1 ≤ 20 := by omega
      have hn21 : n2 ≤ 20 := by omega
      clear hn1 hn2 hl1 hl2
      by_cases h12 : n1 = n2
      · have hC : Coll x1 x2 := HCZ.o.resolve_right (fun hz => by
          have e1 := HN1.o
          have e2 := HN2.o
          rcases hz with ⟨h, _⟩ | ⟨h, _⟩ <;> omega)
        have cc1 : ∀ W, Below w6.heap.size w6 W → Calls Tryd.prog 32 #[.slice pa n1 ca, .slice pb n2 cb] W fun e w' => e = .returned (.bool true) ∧ Below W.heap.size W w' := fun W hW => (cc W hW).mono (fun _ _ h => by obtain ⟨c, rfl, h1, h2⟩ := h; exact ⟨by rw [h1 hC], h2⟩)
        subst h12
        have hi : (((n1 : Int) == (n1 : Int))) = true := beq_self_eq_true _
        clear cc hC HCZ
        go_upto_region 14 with fail
        go_region
        have hd6 : Below w6.heap.size w6 w6.drew := (Below.refl _ _).drew
        have cc2 := cc1 w6.drew hd6
        clear cc1
        go_wp2_with (go_at_call 32; refine cc2.mono ?_; rintro e w8 ⟨rfl, hB8⟩)
        go_ret
        exact ⟨rfl, HF6.o.trans ((hd6.trans (hB8.mono hd6.size)).mono hz6)⟩
      · obtain ⟨sm, hsm⟩ : ∃ sm, sm = min n1 n2 := ⟨_, rfl⟩
        have hmin : min ((n1 : Int)) (n2 : Int) = (sm : Int) := by omega
        have hmin2 : (if (n2 : Int) < (n1 : Int) then (n2 : Int) else (n1 : Int)) = (sm : Int) := by split <;> omega
        have hi : (((n1 : Int) == (n2 : Int))) = false := by rw [beq_eq_false_iff_ne]; omega
        by_cases hlt : n1 < n2
        · have hlti : (n1 : Int) < (n2 : Int) := by omega
          go_upto_region 14 with fail
          have hd6 : Below w6.heap.size w6 w6.drew := (Below.refl _ _).drew
          obtain rfl := HP2.o (by omega)
          obtain rfl : sm = n1 := by omega
          clear hsm
          have hlen2 : sm < x2.length := by have := HN2.o; omega
          have hcy := HAB.o sm hlen2
          rw [Nat.zero_add] at hcy
          have HZ : Shut (Coll x1 x2 ∨ Sh.sha x2[sm] = zeros32) := ⟨HCZ.o.imp_right (fun hz => by
            have e1 := HN1.o
            have e2 := HN2.o
            rcases hz with ⟨h, e⟩ | ⟨h, e⟩
            · rw [← e]; congr 1; congr 1
            · omega)⟩
          have hsy : x2[sm].size ≤ 100000 := by have := HS2.o _ (List.getElem_mem hlen2); omega
          generalize x2[sm] = y at *
          have i1 : (0 : Int) ≤ (sm : Int) := by omega
          have hi2 : ((sm : Int) != (n2 : Int)) = true := by rw [bne, hi]; rfl
          have i2 : (sm : Int) < (n2 : Int) := by omega
          have hnl : ¬ (n2 < sm) := by omega
          have hmk := mkW_run
          have hcv : ∀ W, Sem.run Tryd.prog (convert 42 9 (.slice (some ⟨W.heap.size, 0, none⟩) 32 32)) (mkW W) = .ok (.string zeros32) (mkW W) := fun W => mkW_conv W _ (Below.refl _ _)
          have hcvd : Sem.run Tryd.prog (convert 42 9 (.slice (some ⟨w6.heap.size, 0, none⟩) 32 32)) (mkW w6.drew) = .ok (.string zeros32) (mkW w6.drew) := mkW_conv w6.drew _ (Below.refl _ _)
          have hmd := mkW_below w6.drew
          have hdm : Below w6.heap.size w6 (mkW w6.drew) := hd6.trans hmd
          have hgb : gb < w6.heap.size := World.block_lt_of_cell? w6 _ hcy
          have cS : ∀ W, Below w6.heap.size w6 W → _ := fun W hW => sum_any y hsy W (HT6.o.below hW HT6.o.2.2)
          have cS1 := cS w6.drew hd6
          have cS2 := cS (mkW w6.drew) hdm
          have mkc : ∀ W : World, W.cell? ⟨gb, sm, none⟩ = some (.string y) → (mkW W).cell? ⟨gb, sm, none⟩ = some (.string y) := fun W h => ((mkW_below W).cell (p := ⟨gb, sm, none⟩) (World.block_lt_of_cell? W _ h)).trans h
          have hcm := mkc w6.drew hcy
          clear cS hB3' hmd hge
          have CC : Shut _ := ⟨cc⟩
          clear cc
          go_cut [12] (fun z wx => z = .bool ((Sh.sha y).toList == zeros32.toList) ∧ Below w6.heap.size w6 wx)
          case first =>
            refine wp_region_held_drew (S := fun w' => w'.cell? ⟨gb, sm, none⟩ = some (.string y)) (by kernel_rfl) ?_ (fun hHeld => ?_)
            · go_keep
            refine wpAnyH_take (i := 0) (v := ?_) rfl (by kernel_rfl) (by kernel_rfl) (by kernel_rfl) (fun _ _ _ h => h) (Or.inl ⟨by rfl, ?_⟩) (by assumption) ?_
            rotate_left
            focus (intro w hSw; (try dsimp only at hSw); go_simp; first | done | with_reducible rfl)
            refine wpAnyH_take (i := 1) (v := ?_) rfl (by kernel_rfl) (by kernel_rfl) (by kernel_rfl) (fun _ _ _ h => h) (Or.inl ⟨by rfl, ?_⟩) (by assumption) ?_
            rotate_left
            focus (intro w hSw; (try dsimp only at hSw); go_simp; first | done | with_reducible rfl)
            refine wpAnyH_take (i := 2) (v := ?_) rfl (by kernel_rfl) (by kernel_rfl) (by kernel_rfl) (fun _ _ _ h => h) (Or.inl ⟨by rfl, ?_⟩) (by assumption) ?_
            rotate_left
            focus (intro w hSw; (try dsimp only at hSw); go_simp; first | done | with_reducible rfl)
            refine wpAnyH_take (i := 3) (v := ?_) rfl (by kernel_rfl) (by kernel_rfl) (by kernel_rfl) (fun _ _ _ h => h) (Or.inl ⟨by rfl, ?_⟩) (by assumption) ?_
            rotate_left
            focus (intro w hSw; (try dsimp only at hSw); go_simp; first | done | with_reducible rfl)
            refine wpAnyH_take (i := 4) (v := ?_) rfl (by kernel_rfl) (by kernel_rfl) (by kernel_rfl) (fun _ _ _ h => h) (Or.inl ⟨by rfl, ?_⟩) (by assumption) ?_
            rotate_left
            focus (intro w hSw; (try dsimp only at hSw); go_simp; first | done | with_reducible rfl)
            simp only [Act.put, List.getElem_toArray, List.getElem_cons_zero, List.getElem_cons_succ, List.setIfInBounds_toArray, List.set_cons_zero, List.set_cons_succ]
            refine wpAnyH_take (i := 5) (v := ?_) rfl (by kernel_rfl) (by kernel_rfl) (by kernel_rfl) (fun _ _ _ h => h) (Or.inl ⟨by rfl, ?_⟩) (by assumption) ?_
            rotate_left
            focus (intro w hSw; (try dsimp only at hSw); go_simp; first | done | with_reducible rfl)
            refine wpAnyH_take (i := 6) (v := ?_) rfl (by kernel_rfl) (by kernel_rfl) (by kernel_rfl) (fun _ _ _ h => h) (Or.inl ⟨by rfl, ?_⟩) (by assumption) ?_
            rotate_left
            focus (intro w hSw; (try dsimp only at hSw); go_simp; first | done | with_reducible rfl)
            refine wpAnyH_take (i := 7) (v := ?_) rfl (by kernel_rfl) (by kernel_rfl) (by kernel_rfl) (fun _ _ _ h => h) (Or.inl ⟨by rfl, ?_⟩) (by assumption) ?_
            rotate_left
            focus (intro w hSw; (try dsimp only at hSw); go_simp; first | done | with_reducible rfl)
            simp only [Act.put, List.getElem_toArray, List.getElem_cons_zero, List.getElem_cons_succ, List.setIfInBounds_toArray, List.set_cons_zero, List.set_cons_succ]
            refine wpAnyH_take (i := 8) (v := ?_) rfl (by kernel_rfl) (by kernel_rfl) (by kernel_rfl) (fun _ _ _ h => h) (Or.inl ⟨by rfl, ?_⟩) (by assumption) ?_
            rotate_left
            focus (intro w hSw; (try dsimp only at hSw); go_simp; first | done | with_reducible rfl)
            refine wpAnyH_take (i := 9) (v := ?_) rfl (by kernel_rfl) (by kernel_rfl) (by kernel_rfl) (fun _ _ _ h => h) (Or.inl ⟨by rfl, ?_⟩) (by assumption) ?_
            rotate_left
            focus (intro w hSw; (try dsimp only at hSw); go_simp; first | done | with_reducible rfl)
            refine wpAnyH_take (i := 10) (v := ?_) rfl (by kernel_rfl) (by kernel_rfl) (by kernel_rfl) (fun _ _ _ h => h) (Or.inl ⟨by rfl, ?_⟩) (by assumption) ?_
            rotate_left
            focus (intro w hSw; (try dsimp only at hSw); go_simp; first | done | with_reducible rfl)
            simp only [Act.put, List.getElem_toArray, List.getElem_cons_zero, List.getElem_cons_succ, List.setIfInBounds_toArray, List.set_cons_zero, List.set_cons_succ]
            refine wpAnyH_take (i := 11) (v := ?_) rfl (by kernel_rfl) (by kernel_rfl) (by kernel_rfl) (fun _ _ _ h => h) (Or.inl ⟨by rfl, ?_⟩) (by assumption) ?_
            rotate_left
            focus (intro w hSw; (try dsimp only at hSw); go_simp; first | done | with_reducible rfl)
            refine wpAnyH_take (i := 12) (v := ?_) rfl (by kernel_rfl) (by kernel_rfl) (by kernel_rfl) (fun _ _ _ h => h) (Or.inl ⟨by rfl, ?_⟩) (by assumption) ?_
            rotate_left
            focus (intro w hSw; (try dsimp only at hSw); go_simp; first | done | with_reducible rfl)
            refine wpAnyH_take (i := 13) (v := ?_) rfl (by kernel_rfl) (by kernel_rfl) (by kernel_rfl) (fun _ _ _ h => h) (Or.inl ⟨by rfl, ?_⟩) (by assumption) ?_
            rotate_left
            focus (intro w hSw; (try dsimp only at hSw); go_simp; first | done | with_reducible rfl)
            simp only [Act.put, List.getElem_toArray, List.getElem_cons_zero, List.getElem_cons_succ, List.setIfInBounds_toArray, List.set_cons_zero, List.set_cons_succ]
            refine wpAnyH_ready (rs := [14, 15]) (by kernel_rfl) (by simp) ?_
            refine AllReadyH.cons rfl (fun K hK => ?_) (AllReadyH.cons rfl (fun K hK => ?_) AllReadyH.nil)
            · go_simp
              (with_reducible refine cS1.mono ?_)
              rintro e w7 ⟨rfl, hB7⟩
              have hc7 : w7.cell? ⟨gb, sm, none⟩ = some (.string y) := (hB7.cell (p := ⟨gb, sm, none⟩) hgb).trans hcy
              have hF7 : Below w6.heap.size w6 w7 := hd6.trans hB7
              have hF8 : Below w6.heap.size w6 (mkW w7) := hF7.trans ((mkW_below w7).mono hF7.size)
              have hc8 := mkc w7 hc7
              go_wp2_with fail
              refine hK.out _ _ ?_ (fun hHeld => ?_)
              · go_keep
              clear hK K
              refine wpAnyH_ready (rs := [15]) (by kernel_rfl) (by simp) ?_
              refine AllReadyH.cons rfl (fun K hK => ?_) AllReadyH.nil
              go_simp
              refine hK.out _ _ ?_ (fun hHeld => ?_)
              · go_keep
              clear hK K
              refine wpAnyH_ready (rs := [16]) (by kernel_rfl) (by simp) ?_
              refine AllReadyH.cons rfl (fun K hK => ?_) AllReadyH.nil
              go_simp
              refine hK.out _ _ ?_ (fun hHeld => ?_)
              · go_keep
              clear hK K
              refine wpAnyH_take (i := 17) (v := ?_) rfl (by kernel_rfl) (by kernel_rfl) (by kernel_rfl) (fun _ _ _ h => h) (Or.inl ⟨by rfl, ?_⟩) (by assumption) ?_
              rotate_left
              focus (intro w hSw; (try dsimp only at hSw); go_simp; first | done | with_reducible rfl)
              refine wpAnyH_take (i := 18) (v := ?_) rfl (by kernel_rfl) (by kernel_rfl) (by kernel_rfl) (fun _ _ _ h => h) (Or.inl ⟨by rfl, ?_⟩) (by assumption) ?_
              rotate_left
              focus (intro w hSw; (try dsimp only at hSw); go_simp; first | done | with_reducible rfl)
              refine wpAnyH_take (i := 19) (v := ?_) rfl (by kernel_rfl) (by kernel_rfl) (by kernel_rfl) (fun _ _ _ h => h) (Or.inl ⟨by rfl, ?_⟩) (by assumption) ?_
              rotate_left
              focus (intro w hSw; (try dsimp only at hSw); go_simp; first | done | with_reducible rfl)
              refine wpAnyH_done (by kernel_rfl) ?_ _
              go_wp2_with fail
              go_meet
              exact ⟨rfl, hF8⟩
            · go_simp
              refine hK.out _ _ ?_ (fun hHeld => ?_)
              · go_keep
              clear hK K
              refine wpAnyH_ready (rs := [14, 16]) (by kernel_rfl) (by simp) ?_
              refine AllReadyH.cons rfl (fun K hK => ?_) (AllReadyH.cons rfl (fun K hK => ?_) AllReadyH.nil)
              · go_simp
                (with_reducible refine cS2.mono ?_)
                rintro e w7 ⟨rfl, hB7⟩
                have hc7 : w7.cell? ⟨gb, sm, none⟩ = some (.string y) := (hB7.cell (p := ⟨gb, sm, none⟩) (World.block_lt_of_cell? _ _ hcm)).trans hcm
                have hcv7 : Sem.run Tryd.prog (convert 42 9 (.slice (some ⟨w6.heap.size, 0, none⟩) 32 32)) w7 = .ok (.string zeros32) w7 := mkW_conv w6.drew w7 hB7
                have hF7 : Below w6.heap.size w6 w7 := hdm.trans (hB7.mono hdm.size)
                go_wp2_with fail
                refine hK.out _ _ ?_ (fun hHeld => ?_)
                · go_keep
                clear hK K
                refine wpAnyH_ready (rs := [16]) (by kernel_rfl) (by simp) ?_
                refine AllReadyH.cons rfl (fun K hK => ?_) AllReadyH.nil
                go_simp
                refine hK.out _ _ ?_ (fun hHeld => ?_)
                · go_keep
                clear hK K
                refine wpAnyH_take (i := 17) (v := ?_) rfl (by kernel_rfl) (by kernel_rfl) (by kernel_rfl) (fun _ _ _ h => h) (Or.inl ⟨by rfl, ?_⟩) (by assumption) ?_
                rotate_left
                focus (intro w hSw; (try dsimp only at hSw); go_simp; first | done | with_reducible rfl)
                refine wpAnyH_take (i := 18) (v := ?_) rfl (by kernel_rfl) (by kernel_rfl) (by kernel_rfl) (fun _ _ _ h => h) (Or.inl ⟨by rfl, ?_⟩) (by assumption) ?_
                rotate_left
                focus (intro w hSw; (try dsimp only at hSw); go_simp; first | done | with_reducible rfl)
                refine wpAnyH_take (i := 19) (v := ?_) rfl (by kernel_rfl) (by kernel_rfl) (by kernel_rfl) (fun _ _ _ h => h) (Or.inl ⟨by rfl, ?_⟩) (by assumption) ?_
                rotate_left
                focus (intro w hSw; (try dsimp only at hSw); go_simp; first | done | with_reducible rfl)
                refine wpAnyH_done (by kernel_rfl) ?_ _
                go_wp2_with fail
                go_meet
                exact ⟨rfl, hF7⟩
              · go_simp
                refine hK.out _ _ ?_ (fun hHeld => ?_)
                · go_keep
                clear hK K
                refine wpAnyH_ready (rs := [14]) (by kernel_rfl) (by simp) ?_
                refine AllReadyH.cons rfl (fun K hK => ?_) AllReadyH.nil
                go_simp
                (with_reducible refine cS2.mono ?_)
                rintro e w7 ⟨rfl, hB7⟩
                have hc7 : w7.cell? ⟨gb, sm, none⟩ = some (.string y) := (hB7.cell (p := ⟨gb, sm, none⟩) (World.block_lt_of_cell? _ _ hcm)).trans hcm
                have hcv7 : Sem.run Tryd.prog (convert 42 9 (.slice (some ⟨w6.heap.size, 0, none⟩) 32 32)) w7 = .ok (.string zeros32) w7 := mkW_conv w6.drew w7 hB7
                have hF7 : Below w6.heap.size w6 w7 := hdm.trans (hB7.mono hdm.size)
                go_wp2_with fail
                refine hK.out _ _ ?_ (fun hHeld => ?_)
                · go_keep
                clear hK K
                refine wpAnyH_take (i := 17) (v := ?_) rfl (by kernel_rfl) (by kernel_rfl) (by kernel_rfl) (fun _ _ _ h => h) (Or.inl ⟨by rfl, ?_⟩) (by assumption) ?_
                rotate_left
                focus (intro w hSw; (try dsimp only at hSw); go_simp; first | done | with_reducible rfl)
                refine wpAnyH_take (i := 18) (v := ?_) rfl (by kernel_rfl) (by kernel_rfl) (by kernel_rfl) (fun _ _ _ h => h) (Or.inl ⟨by rfl, ?_⟩) (by assumption) ?_
                rotate_left
                focus (intro w hSw; (try dsimp only at hSw); go_simp; first | done | with_reducible rfl)
                refine wpAnyH_take (i := 19) (v := ?_) rfl (by kernel_rfl) (by kernel_rfl) (by kernel_rfl) (fun _ _ _ h => h) (Or.inl ⟨by rfl, ?_⟩) (by assumption) ?_
                rotate_left
                focus (intro w hSw; (try dsimp only at hSw); go_simp; first | done | with_reducible rfl)
                refine wpAnyH_done (by kernel_rfl) ?_ _
                go_wp2_with fail
                go_meet
                exact ⟨rfl, hF7⟩
          case rest =>
            obtain ⟨rfl, hbw⟩ := hcut
            have c7 := CC.o wc hbw
            clear cS1 cS2 hcy hcm hcv hcvd hmk mkc hdm
            obtain ⟨zb, hzb⟩ : ∃ zb, zb = ((Sh.sha y).toList == zeros32.toList) := ⟨_, rfl⟩
            rw [← hzb]
            have HZB : Shut (Coll x1 x2 ∨ zb = true) := ⟨HZ.o.imp_right (fun h => by rw [hzb, h]; exact beq_self_eq_true _)⟩
            clear hzb HZ
            rcases HZB.o with hC | hz
            · have c8 : Calls Tryd.prog 32 #[.slice pa sm ca, .slice (some ⟨gb, 0, none⟩) n2 cb] wc fun e w' => e = .returned (.bool true) ∧ Below wc.heap.size wc w' := c7.mono (fun _ _ h => by obtain ⟨c, rfl, h1, h2⟩ := h; exact ⟨by rw [h1 hC], h2⟩)
              go_wp2_with (go_at_call 32; refine c8.mono ?_; rintro e w8 ⟨rfl, hB8⟩)
              go_ret
              exact ⟨rfl, HF6.o.trans ((hbw.trans (hB8.mono hbw.size)).mono hz6)⟩
            · subst hz
              go_wp2_with (go_at_call 32; refine c7.mono ?_; rintro e w8 ⟨c, rfl, hcc, hB8⟩)
              all_goals go_ret
              all_goals exact ⟨rfl, HF6.o.trans ((hbw.trans (hB8.mono hbw.size)).mono hz6)⟩
        · have hlti : ¬ ((n1 : Int) < (n2 : Int)) := by omega
          have hltd : decide ((n1 : Int) < (n2 : Int)) = false := decide_eq_false hlti
          go_upto_region 14 with fail
          have hd6 : Below w6.heap.size w6 w6.drew := (Below.refl _ _).drew
          obtain rfl := HP1.o (by omega)
          obtain rfl : sm = n2 := by omega
          clear hsm
          have hlen2 : sm < x1.length := by have := HN1.o; omega
          have hcy := HAA.o sm hlen2
          rw [Nat.zero_add] at hcy
          have HZ : Shut (Coll x1 x2 ∨ Sh.sha x1[sm] = zeros32) := ⟨HCZ.o.imp_right (fun hz => by
            have e1 := HN1.o
            have e2 := HN2.o
            rcases hz with ⟨h, e⟩ | ⟨h, e⟩
            · omega
            · rw [← e]; congr 1; congr 1)⟩
          have hsy : x1[sm].size ≤ 100000 := by have := HS1.o _ (List.getElem_mem hlen2); omega
          generalize x1[sm] = y at *
          have i1 : (0 : Int) ≤ (sm : Int) := by omega
          have hi2 : ((n1 : Int) != (sm : Int)) = true := by rw [bne, hi]; rfl
          have i2 : (sm : Int) < (n1 : Int) := by omega
          have hnl : sm < n1 := by omega
          have hmk := mkW_run
          have hcv : ∀ W, Sem.run Tryd.prog (convert 42 9 (.slice (some ⟨W.heap.size, 0, none⟩) 32 32)) (mkW W) = .ok (.string zeros32) (mkW W) := fun W => mkW_conv W _ (Below.refl _ _)
          have hcvd : Sem.run Tryd.prog (convert 42 9 (.slice (some ⟨w6.heap.size, 0, none⟩) 32 32)) (mkW w6.drew) = .ok (.string zeros32) (mkW w6.drew) := mkW_conv w6.drew _ (Below.refl _ _)
          have hmd := mkW_below w6.drew
          have hdm : Below w6.heap.size w6 (mkW w6.drew) := hd6.trans hmd
          have hgb : ga < w6.heap.size := World.block_lt_of_cell? w6 _ hcy
          have cS : ∀ W, Below w6.heap.size w6 W → _ := fun W hW => sum_any y hsy W (HT6.o.below hW HT6.o.2.2)
          have cS1 := cS w6.drew hd6
          have cS2 := cS (mkW w6.drew) hdm
          have mkc : ∀ W : World, W.cell? ⟨ga, sm, none⟩ = some (.string y) → (mkW W).cell? ⟨ga, sm, none⟩ = some (.string y) := fun W h => ((mkW_below W).cell (p := ⟨ga, sm, none⟩) (World.block_lt_of_cell? W _ h)).trans h
          have hcm := mkc w6.drew hcy
          clear cS hB3' hmd hge
          have CC : Shut _ := ⟨cc⟩
          clear cc
          go_cut [12] (fun z wx => z = .bool ((Sh.sha y).toList == zeros32.toList) ∧ Below w6.heap.size w6 wx)
          case first =>
            refine wp_region_held_drew (S := fun w' => w'.cell? ⟨ga, sm, none⟩ = some (.string y)) (by kernel_rfl) ?_ (fun hHeld => ?_)
            · go_keep
            refine wpAnyH_take (i := 0) (v := ?_) rfl (by kernel_rfl) (by kernel_rfl) (by kernel_rfl) (fun _ _ _ h => h) (Or.inl ⟨by rfl, ?_⟩) (by assumption) ?_
            rotate_left
            focus (intro w hSw; (try dsimp only at hSw); go_simp; first | done | with_reducible rfl)
            refine wpAnyH_take (i := 1) (v := ?_) rfl (by kernel_rfl) (by kernel_rfl) (by kernel_rfl) (fun _ _ _ h => h) (Or.inl ⟨by rfl, ?_⟩) (by assumption) ?_
            rotate_left
            focus (intro w hSw; (try dsimp only at hSw); go_simp; first | done | with_reducible rfl)
            refine wpAnyH_take (i := 2) (v := ?_) rfl (by kernel_rfl) (by kernel_rfl) (by kernel_rfl) (fun _ _ _ h => h) (Or.inl ⟨by rfl, ?_⟩) (by assumption) ?_
            rotate_left
            focus (intro w hSw; (try dsimp only at hSw); go_simp; first | done | with_reducible rfl)
            refine wpAnyH_take (i := 3) (v := ?_) rfl (by kernel_rfl) (by kernel_rfl) (by kernel_rfl) (fun _ _ _ h => h) (Or.inl ⟨by rfl, ?_⟩) (by assumption) ?_
            rotate_left
            focus (intro w hSw; (try dsimp only at hSw); go_simp; first | done | with_reducible rfl)
            refine wpAnyH_take (i := 4) (v := ?_) rfl (by kernel_rfl) (by kernel_rfl) (by kernel_rfl) (fun _ _ _ h => h) (Or.inl ⟨by rfl, ?_⟩) (by assumption) ?_
            rotate_left
            focus (intro w hSw; (try dsimp only at hSw); go_simp; first | done | with_reducible rfl)
            simp only [Act.put, List.getElem_toArray, List.getElem_cons_zero, List.getElem_cons_succ, List.setIfInBounds_toArray, List.set_cons_zero, List.set_cons_succ]
            refine wpAnyH_take (i := 5) (v := ?_) rfl (by kernel_rfl) (by kernel_rfl) (by kernel_rfl) (fun _ _ _ h => h) (Or.inl ⟨by rfl, ?_⟩) (by assumption) ?_
            rotate_left
            focus (intro w hSw; (try dsimp only at hSw); go_simp; first | done | with_reducible rfl)
            refine wpAnyH_take (i := 6) (v := ?_) rfl (by kernel_rfl) (by kernel_rfl) (by kernel_rfl) (fun _ _ _ h => h) (Or.inl ⟨by rfl, ?_⟩) (by assumption) ?_
            rotate_left
            focus (intro w hSw; (try dsimp only at hSw); go_simp; first | done | with_reducible rfl)
            refine wpAnyH_take (i := 7) (v := ?_) rfl (by kernel_rfl) (by kernel_rfl) (by kernel_rfl) (fun _ _ _ h => h) (Or.inl ⟨by rfl, ?_⟩) (by assumption) ?_
            rotate_left
            focus (intro w hSw; (try dsimp only at hSw); go_simp; first | done | with_reducible rfl)
            simp only [Act.put, List.getElem_toArray, List.getElem_cons_zero, List.getElem_cons_succ, List.setIfInBounds_toArray, List.set_cons_zero, List.set_cons_succ]
            refine wpAnyH_take (i := 8) (v := ?_) rfl (by kernel_rfl) (by kernel_rfl) (by kernel_rfl) (fun _ _ _ h => h) (Or.inl ⟨by rfl, ?_⟩) (by assumption) ?_
            rotate_left
            focus (intro w hSw; (try dsimp only at hSw); go_simp; first | done | with_reducible rfl)
            refine wpAnyH_take (i := 9) (v := ?_) rfl (by kernel_rfl) (by kernel_rfl) (by kernel_rfl) (fun _ _ _ h => h) (Or.inl ⟨by rfl, ?_⟩) (by assumption) ?_
            rotate_left
            focus (intro w hSw; (try dsimp only at hSw); go_simp; first | done | with_reducible rfl)
            refine wpAnyH_take (i := 10) (v := ?_) rfl (by kernel_rfl) (by kernel_rfl) (by kernel_rfl) (fun _ _ _ h => h) (Or.inl ⟨by rfl, ?_⟩) (by assumption) ?_
            rotate_left
            focus (intro w hSw; (try dsimp only at hSw); go_simp; first | done | with_reducible rfl)
            simp only [Act.put, List.getElem_toArray, List.getElem_cons_zero, List.getElem_cons_succ, List.setIfInBounds_toArray, List.set_cons_zero, List.set_cons_succ]
            refine wpAnyH_take (i := 11) (v := ?_) rfl (by kernel_rfl) (by kernel_rfl) (by kernel_rfl) (fun _ _ _ h => h) (Or.inl ⟨by rfl, ?_⟩) (by assumption) ?_
            rotate_left
            focus (intro w hSw; (try dsimp only at hSw); go_simp; first | done | with_reducible rfl)
            refine wpAnyH_take (i := 12) (v := ?_) rfl (by kernel_rfl) (by kernel_rfl) (by kernel_rfl) (fun _ _ _ h => h) (Or.inl ⟨by rfl, ?_⟩) (by assumption) ?_
            rotate_left
            focus (intro w hSw; (try dsimp only at hSw); go_simp; first | done | with_reducible rfl)
            refine wpAnyH_take (i := 13) (v := ?_) rfl (by kernel_rfl) (by kernel_rfl) (by kernel_rfl) (fun _ _ _ h => h) (Or.inl ⟨by rfl, ?_⟩) (by assumption) ?_
            rotate_left
            focus (intro w hSw; (try dsimp only at hSw); go_simp; first | done | with_reducible rfl)
            simp only [Act.put, List.getElem_toArray, List.getElem_cons_zero, List.getElem_cons_succ, List.setIfInBounds_toArray, List.set_cons_zero, List.set_cons_succ]
            refine wpAnyH_ready (rs := [14, 15]) (by kernel_rfl) (by simp) ?_
            refine AllReadyH.cons rfl (fun K hK => ?_) (AllReadyH.cons rfl (fun K hK => ?_) AllReadyH.nil)
            · go_simp
              (with_reducible refine cS1.mono ?_)
              rintro e w7 ⟨rfl, hB7⟩
              have hc7 : w7.cell? ⟨ga, sm, none⟩ = some (.string y) := (hB7.cell (p := ⟨ga, sm, none⟩) hgb).trans hcy
              have hF7 : Below w6.heap.size w6 w7 := hd6.trans hB7
              have hF8 : Below w6.heap.size w6 (mkW w7) := hF7.trans ((mkW_below w7).mono hF7.size)
              have hc8 := mkc w7 hc7
              go_wp2_with fail
              refine hK.out _ _ ?_ (fun hHeld => ?_)
              · go_keep
              clear hK K
              refine wpAnyH_ready (rs := [15]) (by kernel_rfl) (by simp) ?_
              refine AllReadyH.cons rfl (fun K hK => ?_) AllReadyH.nil
              go_simp
              refine hK.out _ _ ?_ (fun hHeld => ?_)
              · go_keep
              clear hK K
              refine wpAnyH_ready (rs := [16]) (by kernel_rfl) (by simp) ?_
              refine AllReadyH.cons rfl (fun K hK => ?_) AllReadyH.nil
              go_simp
              refine hK.out _ _ ?_ (fun hHeld => ?_)
              · go_keep
              clear hK K
              refine wpAnyH_take (i := 17) (v := ?_) rfl (by kernel_rfl) (by kernel_rfl) (by kernel_rfl) (fun _ _ _ h => h) (Or.inl ⟨by rfl, ?_⟩) (by assumption) ?_
              rotate_left
              focus (intro w hSw; (try dsimp only at hSw); go_simp; first | done | with_reducible rfl)
              refine wpAnyH_take (i := 18) (v := ?_) rfl (by kernel_rfl) (by kernel_rfl) (by kernel_rfl) (fun _ _ _ h => h) (Or.inl ⟨by rfl, ?_⟩) (by assumption) ?_
              rotate_left
              focus (intro w hSw; (try dsimp only at hSw); go_simp; first | done | with_reducible rfl)
              refine wpAnyH_take (i := 19) (v := ?_) rfl (by kernel_rfl) (by kernel_rfl) (by kernel_rfl) (fun _ _ _ h => h) (Or.inl ⟨by rfl, ?_⟩) (by assumption) ?_
              rotate_left
              focus (intro w hSw; (try dsimp only at hSw); go_simp; first | done | with_reducible rfl)
              refine wpAnyH_done (by kernel_rfl) ?_ _
              go_wp2_with fail
              go_meet
              exact ⟨rfl, hF8⟩
            · go_simp
              refine hK.out _ _ ?_ (fun hHeld => ?_)
              · go_keep
              clear hK K
              refine wpAnyH_ready (rs := [14, 16]) (by kernel_rfl) (by simp) ?_
              refine AllReadyH.cons rfl (fun K hK => ?_) (AllReadyH.cons rfl (fun K hK => ?_) AllReadyH.nil)
              · go_simp
                (with_reducible refine cS2.mono ?_)
                rintro e w7 ⟨rfl, hB7⟩
                have hc7 : w7.cell? ⟨ga, sm, none⟩ = some (.string y) := (hB7.cell (p := ⟨ga, sm, none⟩) (World.block_lt_of_cell? _ _ hcm)).trans hcm
                have hcv7 : Sem.run Tryd.prog (convert 42 9 (.slice (some ⟨w6.heap.size, 0, none⟩) 32 32)) w7 = .ok (.string zeros32) w7 := mkW_conv w6.drew w7 hB7
                have hF7 : Below w6.heap.size w6 w7 := hdm.trans (hB7.mono hdm.size)
                go_wp2_with fail
                refine hK.out _ _ ?_ (fun hHeld => ?_)
                · go_keep
                clear hK K
                refine wpAnyH_ready (rs := [16]) (by kernel_rfl) (by simp) ?_
                refine AllReadyH.cons rfl (fun K hK => ?_) AllReadyH.nil
                go_simp
                refine hK.out _ _ ?_ (fun hHeld => ?_)
                · go_keep
                clear hK K
                refine wpAnyH_take (i := 17) (v := ?_) rfl (by kernel_rfl) (by kernel_rfl) (by kernel_rfl) (fun _ _ _ h => h) (Or.inl ⟨by rfl, ?_⟩) (by assumption) ?_
                rotate_left
                focus (intro w hSw; (try dsimp only at hSw); go_simp; first | done | with_reducible rfl)
                refine wpAnyH_take (i := 18) (v := ?_) rfl (by kernel_rfl) (by kernel_rfl) (by kernel_rfl) (fun _ _ _ h => h) (Or.inl ⟨by rfl, ?_⟩) (by assumption) ?_
                rotate_left
                focus (intro w hSw; (try dsimp only at hSw); go_simp; first | done | with_reducible rfl)
                refine wpAnyH_take (i := 19) (v := ?_) rfl (by kernel_rfl) (by kernel_rfl) (by kernel_rfl) (fun _ _ _ h => h) (Or.inl ⟨by rfl, ?_⟩) (by assumption) ?_
                rotate_left
                focus (intro w hSw; (try dsimp only at hSw); go_simp; first | done | with_reducible rfl)
                refine wpAnyH_done (by kernel_rfl) ?_ _
                go_wp2_with fail
                go_meet
                exact ⟨rfl, hF7⟩
              · go_simp
                refine hK.out _ _ ?_ (fun hHeld => ?_)
                · go_keep
                clear hK K
                refine wpAnyH_ready (rs := [14]) (by kernel_rfl) (by simp) ?_
                refine AllReadyH.cons rfl (fun K hK => ?_) AllReadyH.nil
                go_simp
                (with_reducible refine cS2.mono ?_)
                rintro e w7 ⟨rfl, hB7⟩
                have hc7 : w7.cell? ⟨ga, sm, none⟩ = some (.string y) := (hB7.cell (p := ⟨ga, sm, none⟩) (World.block_lt_of_cell? _ _ hcm)).trans hcm
                have hcv7 : Sem.run Tryd.prog (convert 42 9 (.slice (some ⟨w6.heap.size, 0, none⟩) 32 32)) w7 = .ok (.string zeros32) w7 := mkW_conv w6.drew w7 hB7
                have hF7 : Below w6.heap.size w6 w7 := hdm.trans (hB7.mono hdm.size)
                go_wp2_with fail
                refine hK.out _ _ ?_ (fun hHeld => ?_)
                · go_keep
                clear hK K
                refine wpAnyH_take (i := 17) (v := ?_) rfl (by kernel_rfl) (by kernel_rfl) (by kernel_rfl) (fun _ _ _ h => h) (Or.inl ⟨by rfl, ?_⟩) (by assumption) ?_
                rotate_left
                focus (intro w hSw; (try dsimp only at hSw); go_simp; first | done | with_reducible rfl)
                refine wpAnyH_take (i := 18) (v := ?_) rfl (by kernel_rfl) (by kernel_rfl) (by kernel_rfl) (fun _ _ _ h => h) (Or.inl ⟨by rfl, ?_⟩) (by assumption) ?_
                rotate_left
                focus (intro w hSw; (try dsimp only at hSw); go_simp; first | done | with_reducible rfl)
                refine wpAnyH_take (i := 19) (v := ?_) rfl (by kernel_rfl) (by kernel_rfl) (by kernel_rfl) (fun _ _ _ h => h) (Or.inl ⟨by rfl, ?_⟩) (by assumption) ?_
                rotate_left
                focus (intro w hSw; (try dsimp only at hSw); go_simp; first | done | with_reducible rfl)
                refine wpAnyH_done (by kernel_rfl) ?_ _
                go_wp2_with fail
                go_meet
                exact ⟨rfl, hF7⟩
          case rest =>
            obtain ⟨rfl, hbw⟩ := hcut
            have c7 := CC.o wc hbw
            clear cS1 cS2 hcy hcm hcv hcvd hmk mkc hdm
            obtain ⟨zb, hzb⟩ : ∃ zb, zb = ((Sh.sha y).toList == zeros32.toList) := ⟨_, rfl⟩
            rw [← hzb]
            have HZB : Shut (Coll x1 x2 ∨ zb = true) := ⟨HZ.o.imp_right (fun h => by rw [hzb, h]; exact beq_self_eq_true _)⟩
            clear hzb HZ
            rcases HZB.o with hC | hz
            · have c8 : Calls Tryd.prog 32 #[.slice (some ⟨ga, 0, none⟩) n1 ca, .slice pb sm cb] wc fun e w' => e = .returned (.bool true) ∧ Below wc.heap.size wc w' := c7.mono (fun _ _ h => by obtain ⟨c, rfl, h1, h2⟩ := h; exact ⟨by rw [h1 hC], h2⟩)
              go_wp2_with (go_at_call 32; refine c8.mono ?_; rintro e w8 ⟨rfl, hB8⟩)
              go_ret
              exact ⟨rfl, HF6.o.trans ((hbw.trans (hB8.mono hbw.size)).mono hz6)⟩
            · subst hz
              go_wp2_with (go_at_call 32; refine c7.mono ?_; rintro e w8 ⟨c, rfl, hcc, hB8⟩)
              all_goals go_ret
              all_goals exact ⟨rfl, HF6.o.trans ((hbw.trans (hB8.mono hbw.size)).mono hz6)⟩
    · have hbe : (h1.toList == h2.toList) = false := by rw [str_eq]; exact decide_eq_false hh
      clear hd hsame cc HCC
      go_wp2
      go_ret
      exact ⟨rfl, HF6.o⟩
end Go.Proofs.YtnceemdemjjhlaaDoor
