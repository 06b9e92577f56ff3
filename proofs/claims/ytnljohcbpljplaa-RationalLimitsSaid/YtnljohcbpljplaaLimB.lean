/-
  The law RationalLimits: its walk.
-/
import Derived.Test.YtnljohcbpljplaaLimA
namespace Go.Proofs.Ytnljohcbpljplaa
set_option maxRecDepth 1000000
namespace Rt
open Go.RowKit Go.Proofs.Ytnljohcbpljplaa.Nm

set_option maxHeartbeats 1000000 in
theorem pick_any (c : Int) (h1 : -9223372036854775808 ≤ c) (h2 : c ≤ 9223372036854775807) (w : World) :
    Calls Try.prog 5 #[.int .i64 c, .int .i64 200] w fun e w' => ∃ k : Nat, k < 200 ∧ e = .returned (.int .i64 (k : Int)) ∧ w' = w := by
  have hw : ∀ x : Int, -9223372036854775808 ≤ x → x ≤ 9223372036854775807 → IntKind.i64.wrap x = x := fun x a b => by simp [IntKind.wrap, IntKind.signed, IntKind.bits]; omega
  by_cases hc : c < 0
  · have e1 := hw (c + 1) (by omega) (by omega)
    have e2 := hw (-(c + 1)) (by omega) (by omega)
    obtain ⟨k, hk⟩ : ∃ k : Nat, -(c + 1) = (k : Int) := ⟨(-(c + 1)).toNat, by omega⟩
    go_enter Try.func5, Try.ntmps5
    go_wp2
    go_ret
    exact ⟨k % 200, by omega, by congr 2, rfl⟩
  · obtain ⟨k, rfl⟩ := Int.eq_ofNat_of_zero_le (show 0 ≤ c by omega)
    go_enter Try.func5, Try.ntmps5
    go_wp2
    go_ret
    exact ⟨k % 200, by omega, by congr 2, rfl⟩
set_option maxHeartbeats 1000000 in
theorem lis_any (s t : ByteArray) (w : World) : Calls Try.prog 6 #[.string s, .string t] w fun e w' => e = .returned (.agg #[.string s, .string t]) ∧ Below w.heap.size w w' := by
  go_enter Try.func6, Try.ntmps6
  go_wp2
  refine bodyPost_ret (v := .agg #[.string s, .string t]) (by simp [results, Try.results6, go_sem]) rfl ⟨rfl, (Below.refl w.heap.size w).alloc (Nat.le_refl _) _⟩

set_option maxHeartbeats 4000000 in
theorem limits_walk (n m : Int) (hn : -9223372036854775808 ≤ n ∧ n ≤ 9223372036854775807) (hm : -9223372036854775808 ≤ m ∧ m ≤ 9223372036854775807) (w : World)
    (hS : ∀ W : World, Calls Try.prog 4 #[] W fun e w' => e = .returned (.bool true) ∧ Below W.heap.size W w') :
    Calls Try.prog 3 #[.int .i64 n, .int .i64 m] w fun e w' => e = .returned (.bool true) ∧ Below w.heap.size w w' := by
  have cn := fun W => pick_any n hn.1 hn.2 W
  have cm := fun W => pick_any m hm.1 hm.2 W
  clear hn hm
  go_enter Try.func3, Try.ntmps3
  go_wp2_with fail
  refine (hS _).mono ?_
  rintro e w1 ⟨rfl, hb1⟩
  go_wp2_with fail
  refine (cn _).mono ?_
  rintro e w2 ⟨i, hi, rfl, rfl⟩
  go_wp2_with fail
  refine (cm _).mono ?_
  rintro e w3 ⟨j, hj, rfl, rfl⟩
  clear cn cm hS
  go_wp2_with fail
  go_loopw [6, 7] (fun s iv wr => ∃ k : Nat, k ≤ i ∧ s = .string (T10 k) ∧ iv = .int .i64 (k : Int) ∧ wr = w3) (fun _ iv _ => i - (intOf iv).toNat)
  case atStart => exact ⟨0, Nat.zero_le _, by rw [T10_zero], rfl, rfl⟩
  case round =>
    obtain ⟨k, hk, rfl, rfl, rfl⟩ := hrel
    by_cases hgo : k < i
    · have hs := T10_size k
      have HS : Shut _ := ⟨T10_succ k⟩
      have h1s : (⟨#[48]⟩ : ByteArray).size = 1 := rfl
      generalize T10 k = s at *
      go_wp2
      exact ⟨⟨k + 1, by omega, by rw [HS.o], by go_num, trivial⟩, by simp [intOf]; omega⟩
    · obtain rfl : k = i := by omega
      clear hk hgo
      rename World => wa
      have HB1 : Shut (Below w.heap.size w wa) := ⟨hb1⟩
      clear hb1
      go_wp2_with fail
      go_loopw [8, 9] (fun s iv wr => ∃ l : Nat, l ≤ j ∧ s = .string (T10 l) ∧ iv = .int .i64 (l : Int) ∧ wr = wa) (fun _ iv _ => j - (intOf iv).toNat)
      case atStart => exact ⟨0, Nat.zero_le _, by rw [T10_zero], rfl, rfl⟩
      case round =>
        obtain ⟨l, hl, rfl, rfl, rfl⟩ := hrel
        by_cases hgo : l < j
        · have hs := T10_size l
          have HS : Shut _ := ⟨T10_succ l⟩
          have h1s : (⟨#[48]⟩ : ByteArray).size = 1 := rfl
          generalize T10 l = s at *
          go_wp2
          exact ⟨⟨l + 1, by omega, by rw [HS.o], by go_num, trivial⟩, by simp [intOf]; omega⟩
        · obtain rfl : l = j := by omega
          clear hl hgo
          obtain ⟨z1, z2, a1, a2, eM, eA, cM, cD, cA, cC, cS, hE⟩ := lim_facts k l hi hj
          have CM : Shut _ := ⟨cM⟩
          have CD : Shut _ := ⟨cD⟩
          have CA : Shut _ := ⟨cA⟩
          have CC : Shut _ := ⟨cC⟩
          have CS : Shut _ := ⟨cS⟩
          have HE : Shut _ := ⟨hE⟩
          clear cM cD cA cC cS hE
          generalize T10 k = ta at *
          generalize T10 l = tb at *
          go_wp2_with fail
          refine (lis_any _ _ _).mono ?_
          rintro e v1 ⟨rfl, hB1⟩
          go_wp2_with fail
          refine (lis_any _ _ _).mono ?_
          rintro e v2 ⟨rfl, hB2⟩
          obtain ⟨t2, nx⟩ := lstep hB2
          clear hB2
          have f1 : v1.heap.size < v2.heap.size := lt_of_block nx
          obtain ⟨x0, x1, x2, x3⟩ := cell_box nx
          go_wp2_with fail
          refine (CM.o _).mono ?_
          rintro e v3 ⟨rfl, hB3⟩
          obtain ⟨t3, ny⟩ := lstep hB3
          clear hB3 x0 x1 x2 x3
          replace nx := lkeep nx t3
          obtain ⟨x0, x1, x2, x3⟩ := cell_box nx
          have f2 : v1.heap.size < v3.heap.size := lt_of_block nx
          have f3 : v2.heap.size < v3.heap.size := lt_of_block ny
          obtain ⟨y0, y1, y2, y3⟩ := cell_box ny
          go_wp2_with fail
          refine' (fun (hEnd : ∀ (V : World) (Y : Nat), Shut (Below w.heap.size w V) ∧ V.heap[v1.heap.size]? = some (.cells #[.string ta, .string ⟨#[49]⟩] 25 (0, 0)) ∧ V.heap[v2.heap.size]? = some (.cells #[.string tb, .string ⟨#[49]⟩] 25 (0, 0)) ∧ V.heap[v3.heap.size]? = some (.cells #[.string z1, .string z2] 25 (0, 0)) ∧ V.cell? ⟨Y, 0, none⟩ = some (.string ⟨#[49]⟩) ∧ V.cell? ⟨Y, 1, none⟩ = some (.string tb) ∧ Y < V.heap.size → (_ : World → Nat → Prop) V Y) => _) _
          rotate_left
          · have nA := lkeep ny ((Below.refl v3.heap.size v3).alloc (Nat.le_refl _) (.cells #[.string z1, .string z2] 25))
            obtain ⟨g0, g1, g2, g3⟩ := cell_box nA
            have f4 : v3.heap.size + 1 ≠ v2.heap.size := by omega
            have f5 : v2.heap.size ≠ v3.heap.size + 1 := by omega
            go_region_held3 (fun w' => w'.cell? ⟨v2.heap.size, 0, none⟩ = some (.string tb) ∧ w'.cell? ⟨v2.heap.size, 1, none⟩ = some (.string ⟨#[49]⟩)) (go_keep) (first | (go_at_call 6; go_loud (refine (lis_any _ _ _).mono ?_); rintro e vI ⟨rfl, hI⟩; have tI : Below v3.heap.size v3 vI := (by first | exact (lstep (lstep (lundrew hI)).1).1 | exact (lstep (lundrew hI)).1); have nz : vI.heap[v3.heap.size]? = some (.cells #[.string z1, .string z2] 25) := (by first | exact (lstep (lstep (lundrew hI)).1).2 | exact (lstep (lundrew hI)).2); (first | (have hg := lstep (lstep (lundrew hI)).1; clear hg; have hh := lstep (lundrew hI); have ns := hh.2; clear hh; simp only [World.size_alloc] at ns; have hc := cell_box ns; obtain ⟨s0, s1, s2, s3⟩ := hc) | skip); have nyI := lkeep ny tI; have f6 := tI.size; have f7 : vI.heap.size ≠ v2.heap.size := (by omega); have f8 : v2.heap.size ≠ vI.heap.size := (by omega); obtain ⟨i0, i1, i2, i3⟩ := cell_box nyI) | (go_at_call 8; go_loud (refine (CD.o _).mono ?_); rintro e v4 ⟨rfl, hB4⟩; have tJ : Below vI.heap.size vI v4 := (by first | exact (lstep hB4).1 | exact hB4); (first | (have hh := lstep hB4; have ns := hh.2; clear hh; have hc := cell_box ns; obtain ⟨s0, s1, s2, s3⟩ := hc) | (have ns' := lkeep ns hB4; have hc := cell_box ns'; obtain ⟨s0, s1, s2, s3⟩ := hc) | skip); have nyJ := lkeep nyI tJ; have f9 := tJ.size; have fa : v4.heap.size ≠ v2.heap.size := (by omega); have fb : v2.heap.size ≠ v4.heap.size := (by omega); obtain ⟨j0, j1, j2, j3⟩ := cell_box nyJ) | fail)
            · have t4 := tI.trans (tJ.mono tI.size)
              have q0 := lt_of_block nz
              replace nx := lkeep nx t4
              replace ny := lkeep ny t4
              replace nz := lkeep nz tJ
              have hw4 : Shut (Below w.heap.size w v4) := ⟨(((HB1.o.trans (hB1.mono HB1.o.size)).trans (t2.mono (HB1.o.trans (hB1.mono HB1.o.size)).size)).trans (t3.mono ((HB1.o.trans (hB1.mono HB1.o.size)).trans (t2.mono (HB1.o.trans (hB1.mono HB1.o.size)).size)).size)).trans (t4.mono (((HB1.o.trans (hB1.mono HB1.o.size)).trans (t2.mono (HB1.o.trans (hB1.mono HB1.o.size)).size)).trans (t3.mono ((HB1.o.trans (hB1.mono HB1.o.size)).trans (t2.mono (HB1.o.trans (hB1.mono HB1.o.size)).size)).size)).size)⟩
              have hF := set_new v4 (.string ⟨#[49]⟩) (.string tb) 25
              have hY : v4.heap.size ≠ v1.heap.size ∧ v4.heap.size ≠ v2.heap.size ∧ v4.heap.size ≠ v3.heap.size ∧ w.heap.size ≤ v4.heap.size := by have := hw4.o.size; have := HB1.o.size; have := hB1.size; have := t2.size; have := t3.size; refine ⟨?_, ?_, ?_, ?_⟩ <;> omega
              generalize (v4.alloc (.cells #[.string ⟨#[49]⟩, .string tb] 25)) = V at *
              generalize v4.heap.size = Y at *
              obtain ⟨hR, s0, s1, hlt⟩ := hF
              replace nx := hR.heap nx (fun e => hY.1 e.symm)
              replace ny := hR.heap ny (fun e => hY.2.1 e.symm)
              replace nz := hR.heap nz (fun e => hY.2.2.1 e.symm)
              have hw5 : Shut (Below w.heap.size w V) := ⟨hw4.o.trans (hR.below hw4.o.size (fun k hk => hk ▸ hY.2.2.2))⟩
              exact hEnd V Y ⟨hw5, nx, ny, nz, s0, s1, hlt⟩
            · have t4 := tI.trans (tJ.mono tI.size)
              have q0 := lt_of_block nz
              replace nx := lkeep nx t4
              replace ny := lkeep ny t4
              replace nz := lkeep nz tJ
              have hw4 : Shut (Below w.heap.size w v4) := ⟨(((HB1.o.trans (hB1.mono HB1.o.size)).trans (t2.mono (HB1.o.trans (hB1.mono HB1.o.size)).size)).trans (t3.mono ((HB1.o.trans (hB1.mono HB1.o.size)).trans (t2.mono (HB1.o.trans (hB1.mono HB1.o.size)).size)).size)).trans (t4.mono (((HB1.o.trans (hB1.mono HB1.o.size)).trans (t2.mono (HB1.o.trans (hB1.mono HB1.o.size)).size)).trans (t3.mono ((HB1.o.trans (hB1.mono HB1.o.size)).trans (t2.mono (HB1.o.trans (hB1.mono HB1.o.size)).size)).size)).size)⟩
              have hF := set_old v4 vI.heap.size (.string ⟨#[49]⟩) (.string tb) _ _ s0 s1
              have hY : vI.heap.size ≠ v1.heap.size ∧ vI.heap.size ≠ v2.heap.size ∧ vI.heap.size ≠ v3.heap.size ∧ w.heap.size ≤ vI.heap.size := by have := hw4.o.size; have := HB1.o.size; have := hB1.size; have := t2.size; have := t3.size; refine ⟨?_, ?_, ?_, ?_⟩ <;> omega
              generalize ((v4.setCell ⟨vI.heap.size, 0, none⟩ (.string ⟨#[49]⟩)).setCell ⟨vI.heap.size, 1, none⟩ (.string tb)) = V at *
              generalize vI.heap.size = Y at *
              obtain ⟨hR, s0, s1, hlt⟩ := hF
              replace nx := hR.heap nx (fun e => hY.1 e.symm)
              replace ny := hR.heap ny (fun e => hY.2.1 e.symm)
              replace nz := hR.heap nz (fun e => hY.2.2.1 e.symm)
              have hw5 : Shut (Below w.heap.size w V) := ⟨hw4.o.trans (hR.below hw4.o.size (fun k hk => hk ▸ hY.2.2.2))⟩
              exact hEnd V Y ⟨hw5, nx, ny, nz, s0, s1, hlt⟩
            · have t4 := tI.trans (tJ.mono tI.size)
              have q0 := lt_of_block nz
              replace nx := lkeep nx t4
              replace ny := lkeep ny t4
              replace nz := lkeep nz tJ
              have hw4 : Shut (Below w.heap.size w v4) := ⟨(((HB1.o.trans (hB1.mono HB1.o.size)).trans (t2.mono (HB1.o.trans (hB1.mono HB1.o.size)).size)).trans (t3.mono ((HB1.o.trans (hB1.mono HB1.o.size)).trans (t2.mono (HB1.o.trans (hB1.mono HB1.o.size)).size)).size)).trans (t4.mono (((HB1.o.trans (hB1.mono HB1.o.size)).trans (t2.mono (HB1.o.trans (hB1.mono HB1.o.size)).size)).trans (t3.mono ((HB1.o.trans (hB1.mono HB1.o.size)).trans (t2.mono (HB1.o.trans (hB1.mono HB1.o.size)).size)).size)).size)⟩
              have hF := set_old v4 (v3.heap.size + 1) (.string ⟨#[49]⟩) (.string tb) _ _ s0 s1
              have hY : (v3.heap.size + 1) ≠ v1.heap.size ∧ (v3.heap.size + 1) ≠ v2.heap.size ∧ (v3.heap.size + 1) ≠ v3.heap.size ∧ w.heap.size ≤ (v3.heap.size + 1) := by have := hw4.o.size; have := HB1.o.size; have := hB1.size; have := t2.size; have := t3.size; refine ⟨?_, ?_, ?_, ?_⟩ <;> omega
              generalize ((v4.setCell ⟨(v3.heap.size + 1), 0, none⟩ (.string ⟨#[49]⟩)).setCell ⟨(v3.heap.size + 1), 1, none⟩ (.string tb)) = V at *
              generalize (v3.heap.size + 1) = Y at *
              obtain ⟨hR, s0, s1, hlt⟩ := hF
              replace nx := hR.heap nx (fun e => hY.1 e.symm)
              replace ny := hR.heap ny (fun e => hY.2.1 e.symm)
              replace nz := hR.heap nz (fun e => hY.2.2.1 e.symm)
              have hw5 : Shut (Below w.heap.size w V) := ⟨hw4.o.trans (hR.below hw4.o.size (fun k hk => hk ▸ hY.2.2.2))⟩
              exact hEnd V Y ⟨hw5, nx, ny, nz, s0, s1, hlt⟩
          · rintro V Y ⟨hw5, nx, ny, nz, s0, s1, hlt⟩
            rcases HE.o with ⟨hf, rfl, rfl⟩ | ⟨hf, rfl, rfl, rfl, rfl⟩
            · have e9 : (k : Int) + l + 1 ≤ 200 := by omega
              by_cases hA : k = 0 ∧ l = 0
              · obtain ⟨rfl, rfl⟩ := hA
                have hcc := CC.o
                rw [if_neg (by omega), if_pos rfl] at hcc
                have hcs := CS.o
                rw [if_pos ⟨rfl, rfl⟩] at hcs
                have g1 : v1.heap.size < V.heap.size := lt_of_block nx
                have g3 : v3.heap.size < V.heap.size := lt_of_block nz
                obtain ⟨x0, x1, x2, x3⟩ := cell_box nx
                go_wp2_with fail
                with_reducible refine (CA.o _).mono ?_
                rintro e v5 ⟨rfl, hB5⟩
                clear x0 x1 x2 x3
                have b5 := hw5.o.trans (hB5.mono hw5.o.size)
                replace nx := lkeep nx hB5
                replace ny := lkeep ny hB5
                replace nz := lkeep nz hB5
                replace s0 := (hB5.cell (p := ⟨Y, 0, none⟩) hlt).trans s0
                replace s1 := (hB5.cell (p := ⟨Y, 1, none⟩) hlt).trans s1
                obtain ⟨x0, x1, x2, x3⟩ := cell_box nx
                obtain ⟨y0, y1, y2, y3⟩ := cell_box ny
                obtain ⟨z0, z1', z2', z3⟩ := cell_box nz
                have g5 := hB5.size
                have g6 : v1.heap.size < v5.heap.size := lt_of_block nx
                have g7 : v2.heap.size < v5.heap.size := lt_of_block ny
                have g8 : v3.heap.size < v5.heap.size := lt_of_block nz
                have g9 : Y < v5.heap.size := Nat.lt_of_lt_of_le hlt g5
                clear hB5 g1 g3 hlt g5
                go_wp2_with fail
                with_reducible refine (hcc _).mono ?_
                rintro e v6 ⟨rfl, hB6⟩
                obtain ⟨t6, _⟩ := lstep hB6
                have b6 := b5.trans (t6.mono b5.size)
                clear x0 x1 x2 x3 y0 y1 y2 y3 z0 z1' z2' z3
                replace nx := lkeep nx t6
                replace s0 := (t6.cell (p := ⟨Y, 0, none⟩) g9).trans s0
                replace s1 := (t6.cell (p := ⟨Y, 1, none⟩) g9).trans s1
                obtain ⟨x0, x1, x2, x3⟩ := cell_box nx
                clear hB6 t6
                go_wp2_with fail
                with_reducible refine (hcs _).mono ?_
                rintro e v7 ⟨rfl, hB7⟩
                have b7 := b6.trans (hB7.mono b6.size)
                clear hB7
                go_wp2
                go_ret
                exact ⟨rfl, b7⟩
              · rcases Nat.lt_trichotomy k l with h | h | h
                · have e1 : (k : Int) < l := by omega
                  have e2 : ¬ (l : Int) < k := by omega
                  have e3 : ¬ (l : Int) = 0 := by omega
                  have hcc := CC.o
                  rw [if_pos h] at hcc
                  have hcs := CS.o
                  rw [if_neg (by omega)] at hcs
                  have g1 : v1.heap.size < V.heap.size := lt_of_block nx
                  have g3 : v3.heap.size < V.heap.size := lt_of_block nz
                  obtain ⟨x0, x1, x2, x3⟩ := cell_box nx
                  go_wp2_with fail
                  with_reducible refine (CA.o _).mono ?_
                  rintro e v5 ⟨rfl, hB5⟩
                  clear x0 x1 x2 x3
                  have b5 := hw5.o.trans (hB5.mono hw5.o.size)
                  replace nx := lkeep nx hB5
                  replace ny := lkeep ny hB5
                  replace nz := lkeep nz hB5
                  replace s0 := (hB5.cell (p := ⟨Y, 0, none⟩) hlt).trans s0
                  replace s1 := (hB5.cell (p := ⟨Y, 1, none⟩) hlt).trans s1
                  obtain ⟨x0, x1, x2, x3⟩ := cell_box nx
                  obtain ⟨y0, y1, y2, y3⟩ := cell_box ny
                  obtain ⟨z0, z1', z2', z3⟩ := cell_box nz
                  have g5 := hB5.size
                  have g6 : v1.heap.size < v5.heap.size := lt_of_block nx
                  have g7 : v2.heap.size < v5.heap.size := lt_of_block ny
                  have g8 : v3.heap.size < v5.heap.size := lt_of_block nz
                  have g9 : Y < v5.heap.size := Nat.lt_of_lt_of_le hlt g5
                  clear hB5 g1 g3 hlt g5
                  go_wp2_with fail
                  all_goals
                    with_reducible refine (hcc _).mono ?_
                    rintro e v6 ⟨rfl, hB6⟩
                    obtain ⟨t6, _⟩ := lstep hB6
                    have b6 := b5.trans (t6.mono b5.size)
                    clear x0 x1 x2 x3 y0 y1 y2 y3 z0 z1' z2' z3
                    replace nx := lkeep nx t6
                    replace s0 := (t6.cell (p := ⟨Y, 0, none⟩) g9).trans s0
                    replace s1 := (t6.cell (p := ⟨Y, 1, none⟩) g9).trans s1
                    obtain ⟨x0, x1, x2, x3⟩ := cell_box nx
                    clear hB6 t6
                    go_wp2_with fail
                    with_reducible refine (hcs _).mono ?_
                    rintro e v7 ⟨rfl, hB7⟩
                    have b7 := b6.trans (hB7.mono b6.size)
                    clear hB7
                    go_wp2
                    go_ret
                    exact ⟨rfl, b7⟩
                · subst h
                  have e3 : ¬ (k : Int) = 0 := by omega
                  have hcc := CC.o
                  rw [if_neg (by omega), if_pos rfl] at hcc
                  have hcs := CS.o
                  rw [if_neg (by omega)] at hcs
                  have g1 : v1.heap.size < V.heap.size := lt_of_block nx
                  have g3 : v3.heap.size < V.heap.size := lt_of_block nz
                  obtain ⟨x0, x1, x2, x3⟩ := cell_box nx
                  go_wp2_with fail
                  with_reducible refine (CA.o _).mono ?_
                  rintro e v5 ⟨rfl, hB5⟩
                  clear x0 x1 x2 x3
                  have b5 := hw5.o.trans (hB5.mono hw5.o.size)
                  replace nx := lkeep nx hB5
                  replace ny := lkeep ny hB5
                  replace nz := lkeep nz hB5
                  replace s0 := (hB5.cell (p := ⟨Y, 0, none⟩) hlt).trans s0
                  replace s1 := (hB5.cell (p := ⟨Y, 1, none⟩) hlt).trans s1
                  obtain ⟨x0, x1, x2, x3⟩ := cell_box nx
                  obtain ⟨y0, y1, y2, y3⟩ := cell_box ny
                  obtain ⟨z0, z1', z2', z3⟩ := cell_box nz
                  have g5 := hB5.size
                  have g6 : v1.heap.size < v5.heap.size := lt_of_block nx
                  have g7 : v2.heap.size < v5.heap.size := lt_of_block ny
                  have g8 : v3.heap.size < v5.heap.size := lt_of_block nz
                  have g9 : Y < v5.heap.size := Nat.lt_of_lt_of_le hlt g5
                  clear hB5 g1 g3 hlt g5
                  go_wp2_with fail
                  with_reducible refine (hcc _).mono ?_
                  rintro e v6 ⟨rfl, hB6⟩
                  obtain ⟨t6, _⟩ := lstep hB6
                  have b6 := b5.trans (t6.mono b5.size)
                  clear x0 x1 x2 x3 y0 y1 y2 y3 z0 z1' z2' z3
                  replace nx := lkeep nx t6
                  replace s0 := (t6.cell (p := ⟨Y, 0, none⟩) g9).trans s0
                  replace s1 := (t6.cell (p := ⟨Y, 1, none⟩) g9).trans s1
                  obtain ⟨x0, x1, x2, x3⟩ := cell_box nx
                  clear hB6 t6
                  go_wp2_with fail
                  with_reducible refine (hcs _).mono ?_
                  rintro e v7 ⟨rfl, hB7⟩
                  have b7 := b6.trans (hB7.mono b6.size)
                  clear hB7
                  go_wp2
                  go_ret
                  exact ⟨rfl, b7⟩
                · have e1 : (l : Int) < k := by omega
                  have e2 : ¬ (k : Int) < l := by omega
                  have e4 : ¬ (k : Int) = 0 := by omega
                  have hcc := CC.o
                  rw [if_neg (by omega), if_neg (by omega)] at hcc
                  have hcs := CS.o
                  rw [if_neg (by omega)] at hcs
                  have g1 : v1.heap.size < V.heap.size := lt_of_block nx
                  have g3 : v3.heap.size < V.heap.size := lt_of_block nz
                  obtain ⟨x0, x1, x2, x3⟩ := cell_box nx
                  go_wp2_with fail
                  with_reducible refine (CA.o _).mono ?_
                  rintro e v5 ⟨rfl, hB5⟩
                  clear x0 x1 x2 x3
                  have b5 := hw5.o.trans (hB5.mono hw5.o.size)
                  replace nx := lkeep nx hB5
                  replace ny := lkeep ny hB5
                  replace nz := lkeep nz hB5
                  replace s0 := (hB5.cell (p := ⟨Y, 0, none⟩) hlt).trans s0
                  replace s1 := (hB5.cell (p := ⟨Y, 1, none⟩) hlt).trans s1
                  obtain ⟨x0, x1, x2, x3⟩ := cell_box nx
                  obtain ⟨y0, y1, y2, y3⟩ := cell_box ny
                  obtain ⟨z0, z1', z2', z3⟩ := cell_box nz
                  have g5 := hB5.size
                  have g6 : v1.heap.size < v5.heap.size := lt_of_block nx
                  have g7 : v2.heap.size < v5.heap.size := lt_of_block ny
                  have g8 : v3.heap.size < v5.heap.size := lt_of_block nz
                  have g9 : Y < v5.heap.size := Nat.lt_of_lt_of_le hlt g5
                  clear hB5 g1 g3 hlt g5
                  go_wp2_with fail
                  with_reducible refine (hcc _).mono ?_
                  rintro e v6 ⟨rfl, hB6⟩
                  obtain ⟨t6, _⟩ := lstep hB6
                  have b6 := b5.trans (t6.mono b5.size)
                  clear x0 x1 x2 x3 y0 y1 y2 y3 z0 z1' z2' z3
                  replace nx := lkeep nx t6
                  replace s0 := (t6.cell (p := ⟨Y, 0, none⟩) g9).trans s0
                  replace s1 := (t6.cell (p := ⟨Y, 1, none⟩) g9).trans s1
                  obtain ⟨x0, x1, x2, x3⟩ := cell_box nx
                  clear hB6 t6
                  go_wp2_with fail
                  with_reducible refine (hcs _).mono ?_
                  rintro e v7 ⟨rfl, hB7⟩
                  have b7 := b6.trans (hB7.mono b6.size)
                  clear hB7
                  go_wp2
                  go_ret
                  exact ⟨rfl, b7⟩
            · have e9 : ¬ (k : Int) + l + 1 ≤ 200 := by omega
              rcases Nat.lt_trichotomy k l with h | h | h
              · have e1 : (k : Int) < l := by omega
                have e2 : ¬ (l : Int) < k := by omega
                have e3 : ¬ (l : Int) = 0 := by omega
                have e4 : ¬ (k : Int) = 0 := by omega
                have hcc := CC.o
                rw [if_pos h] at hcc
                have hcs := CS.o
                rw [if_neg (by omega)] at hcs
                have g1 : v1.heap.size < V.heap.size := lt_of_block nx
                have g3 : v3.heap.size < V.heap.size := lt_of_block nz
                obtain ⟨x0, x1, x2, x3⟩ := cell_box nx
                go_wp2_with fail
                with_reducible refine (CA.o _).mono ?_
                rintro e v5 ⟨rfl, hB5⟩
                clear x0 x1 x2 x3
                have b5 := hw5.o.trans (hB5.mono hw5.o.size)
                replace nx := lkeep nx hB5
                replace ny := lkeep ny hB5
                replace nz := lkeep nz hB5
                replace s0 := (hB5.cell (p := ⟨Y, 0, none⟩) hlt).trans s0
                replace s1 := (hB5.cell (p := ⟨Y, 1, none⟩) hlt).trans s1
                obtain ⟨x0, x1, x2, x3⟩ := cell_box nx
                obtain ⟨y0, y1, y2, y3⟩ := cell_box ny
                obtain ⟨z0, z1', z2', z3⟩ := cell_box nz
                have g5 := hB5.size
                have g6 : v1.heap.size < v5.heap.size := lt_of_block nx
                have g7 : v2.heap.size < v5.heap.size := lt_of_block ny
                have g8 : v3.heap.size < v5.heap.size := lt_of_block nz
                have g9 : Y < v5.heap.size := Nat.lt_of_lt_of_le hlt g5
                clear hB5 g1 g3 hlt g5
                go_wp2_with fail
                with_reducible refine (hcc _).mono ?_
                rintro e v6 ⟨rfl, hB6⟩
                obtain ⟨t6, _⟩ := lstep hB6
                have b6 := b5.trans (t6.mono b5.size)
                clear x0 x1 x2 x3 y0 y1 y2 y3 z0 z1' z2' z3
                replace nx := lkeep nx t6
                replace s0 := (t6.cell (p := ⟨Y, 0, none⟩) g9).trans s0
                replace s1 := (t6.cell (p := ⟨Y, 1, none⟩) g9).trans s1
                obtain ⟨x0, x1, x2, x3⟩ := cell_box nx
                clear hB6 t6
                go_wp2_with fail
                with_reducible refine (hcs _).mono ?_
                rintro e v7 ⟨rfl, hB7⟩
                have b7 := b6.trans (hB7.mono b6.size)
                clear hB7
                go_wp2
                go_ret
                exact ⟨rfl, b7⟩
              · subst h
                have e3 : ¬ (k : Int) = 0 := by omega
                have hcc := CC.o
                rw [if_neg (by omega), if_pos rfl] at hcc
                have hcs := CS.o
                rw [if_neg (by omega)] at hcs
                have g1 : v1.heap.size < V.heap.size := lt_of_block nx
                have g3 : v3.heap.size < V.heap.size := lt_of_block nz
                obtain ⟨x0, x1, x2, x3⟩ := cell_box nx
                go_wp2_with fail
                with_reducible refine (CA.o _).mono ?_
                rintro e v5 ⟨rfl, hB5⟩
                clear x0 x1 x2 x3
                have b5 := hw5.o.trans (hB5.mono hw5.o.size)
                replace nx := lkeep nx hB5
                replace ny := lkeep ny hB5
                replace nz := lkeep nz hB5
                replace s0 := (hB5.cell (p := ⟨Y, 0, none⟩) hlt).trans s0
                replace s1 := (hB5.cell (p := ⟨Y, 1, none⟩) hlt).trans s1
                obtain ⟨x0, x1, x2, x3⟩ := cell_box nx
                obtain ⟨y0, y1, y2, y3⟩ := cell_box ny
                obtain ⟨z0, z1', z2', z3⟩ := cell_box nz
                have g5 := hB5.size
                have g6 : v1.heap.size < v5.heap.size := lt_of_block nx
                have g7 : v2.heap.size < v5.heap.size := lt_of_block ny
                have g8 : v3.heap.size < v5.heap.size := lt_of_block nz
                have g9 : Y < v5.heap.size := Nat.lt_of_lt_of_le hlt g5
                clear hB5 g1 g3 hlt g5
                go_wp2_with fail
                with_reducible refine (hcc _).mono ?_
                rintro e v6 ⟨rfl, hB6⟩
                obtain ⟨t6, _⟩ := lstep hB6
                have b6 := b5.trans (t6.mono b5.size)
                clear x0 x1 x2 x3 y0 y1 y2 y3 z0 z1' z2' z3
                replace nx := lkeep nx t6
                replace s0 := (t6.cell (p := ⟨Y, 0, none⟩) g9).trans s0
                replace s1 := (t6.cell (p := ⟨Y, 1, none⟩) g9).trans s1
                obtain ⟨x0, x1, x2, x3⟩ := cell_box nx
                clear hB6 t6
                go_wp2_with fail
                with_reducible refine (hcs _).mono ?_
                rintro e v7 ⟨rfl, hB7⟩
                have b7 := b6.trans (hB7.mono b6.size)
                clear hB7
                go_wp2
                go_ret
                exact ⟨rfl, b7⟩
              · have e1 : (l : Int) < k := by omega
                have e2 : ¬ (k : Int) < l := by omega
                have e4 : ¬ (k : Int) = 0 := by omega
                have hcc := CC.o
                rw [if_neg (by omega), if_neg (by omega)] at hcc
                have hcs := CS.o
                rw [if_neg (by omega)] at hcs
                have g1 : v1.heap.size < V.heap.size := lt_of_block nx
                have g3 : v3.heap.size < V.heap.size := lt_of_block nz
                obtain ⟨x0, x1, x2, x3⟩ := cell_box nx
                go_wp2_with fail
                with_reducible refine (CA.o _).mono ?_
                rintro e v5 ⟨rfl, hB5⟩
                clear x0 x1 x2 x3
                have b5 := hw5.o.trans (hB5.mono hw5.o.size)
                replace nx := lkeep nx hB5
                replace ny := lkeep ny hB5
                replace nz := lkeep nz hB5
                replace s0 := (hB5.cell (p := ⟨Y, 0, none⟩) hlt).trans s0
                replace s1 := (hB5.cell (p := ⟨Y, 1, none⟩) hlt).trans s1
                obtain ⟨x0, x1, x2, x3⟩ := cell_box nx
                obtain ⟨y0, y1, y2, y3⟩ := cell_box ny
                obtain ⟨z0, z1', z2', z3⟩ := cell_box nz
                have g5 := hB5.size
                have g6 : v1.heap.size < v5.heap.size := lt_of_block nx
                have g7 : v2.heap.size < v5.heap.size := lt_of_block ny
                have g8 : v3.heap.size < v5.heap.size := lt_of_block nz
                have g9 : Y < v5.heap.size := Nat.lt_of_lt_of_le hlt g5
                clear hB5 g1 g3 hlt g5
                go_wp2_with fail
                with_reducible refine (hcc _).mono ?_
                rintro e v6 ⟨rfl, hB6⟩
                obtain ⟨t6, _⟩ := lstep hB6
                have b6 := b5.trans (t6.mono b5.size)
                clear x0 x1 x2 x3 y0 y1 y2 y3 z0 z1' z2' z3
                replace nx := lkeep nx t6
                replace s0 := (t6.cell (p := ⟨Y, 0, none⟩) g9).trans s0
                replace s1 := (t6.cell (p := ⟨Y, 1, none⟩) g9).trans s1
                obtain ⟨x0, x1, x2, x3⟩ := cell_box nx
                clear hB6 t6
                go_wp2_with fail
                with_reducible refine (hcs _).mono ?_
                rintro e v7 ⟨rfl, hB7⟩
                have b7 := b6.trans (hB7.mono b6.size)
                clear hB7
                go_wp2
                go_ret
                exact ⟨rfl, b7⟩
end Rt
end Go.Proofs.Ytnljohcbpljplaa
