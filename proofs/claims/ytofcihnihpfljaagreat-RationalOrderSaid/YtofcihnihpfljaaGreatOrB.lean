/-
  The law RationalOrder: its walk.
-/
import Derived.Test.YtofcihnihpfljaaGreatOrA
import Derived.Deep.DeepCutAuto
namespace Go.Proofs.YtofcihnihpfljaaGreat
set_option maxRecDepth 1000000
namespace Rt
open Go.RowKit Go.Proofs.YtofcihnihpfljaaGreat.Nm
open N10 (Two)

theorem lstep4 {w w' : World} {o p q r : Obj} (h : Below ((((w.alloc o).alloc p).alloc q).alloc r).heap.size ((((w.alloc o).alloc p).alloc q).alloc r) w') : Below w.heap.size w w' ∧ w'.heap[w.heap.size]? = some o ∧ w'.heap[w.heap.size + 1]? = some p ∧ w'.heap[w.heap.size + 1 + 1]? = some q ∧ w'.heap[w.heap.size + 1 + 1 + 1]? = some r := by
  have h2 := lstep h
  have h1 := lstep3 h2.1
  rw [World.size_alloc, World.size_alloc, World.size_alloc] at h2
  exact ⟨h1.1, h1.2.1, h1.2.2.1, h1.2.2.2, h2.2⟩
set_option maxHeartbeats 8000000 in
theorem order_walk (x0 x1 x2 x3 y0 y1 y2 y3 z0 z1 z2 z3 s0 s1 : Int) (hx0 : -9223372036854775808 ≤ x0 ∧ x0 ≤ 9223372036854775807) (hx1 : -9223372036854775808 ≤ x1 ∧ x1 ≤ 9223372036854775807) (hx2 : -9223372036854775808 ≤ x2 ∧ x2 ≤ 9223372036854775807) (hx3 : -9223372036854775808 ≤ x3 ∧ x3 ≤ 9223372036854775807) (hy0 : -9223372036854775808 ≤ y0 ∧ y0 ≤ 9223372036854775807) (hy1 : -9223372036854775808 ≤ y1 ∧ y1 ≤ 9223372036854775807) (hy2 : -9223372036854775808 ≤ y2 ∧ y2 ≤ 9223372036854775807) (hy3 : -9223372036854775808 ≤ y3 ∧ y3 ≤ 9223372036854775807) (hz0 : -9223372036854775808 ≤ z0 ∧ z0 ≤ 9223372036854775807) (hz1 : -9223372036854775808 ≤ z1 ∧ z1 ≤ 9223372036854775807) (hz2 : -9223372036854775808 ≤ z2 ∧ z2 ≤ 9223372036854775807) (hz3 : -9223372036854775808 ≤ z3 ∧ z3 ≤ 9223372036854775807) (hs0 : -9223372036854775808 ≤ s0 ∧ s0 ≤ 9223372036854775807) (hs1 : -9223372036854775808 ≤ s1 ∧ s1 ≤ 9223372036854775807) (w : World)
    (hS : ∀ W : World, Calls Tryz.prog 10 #[] W fun e w' => e = .returned (.bool true) ∧ Below W.heap.size W w') :
    Calls Tryz.prog 7 #[.agg #[.int .i64 x0, .int .i64 x1, .int .i64 x2, .int .i64 x3], .agg #[.int .i64 y0, .int .i64 y1, .int .i64 y2, .int .i64 y3], .agg #[.int .i64 z0, .int .i64 z1, .int .i64 z2, .int .i64 z3], .agg #[.int .i64 s0, .int .i64 s1]] w fun e w' => e = .returned (.bool true) ∧ Below w.heap.size w w' := by
  have CLX : Shut _ := ⟨fun W => Long_O x0 x1 x2 x3 hx0 hx1 hx2 hx3 W⟩
  have CLY : Shut _ := ⟨fun W => Long_O y0 y1 y2 y3 hy0 hy1 hy2 hy3 W⟩
  have CLZ : Shut _ := ⟨fun W => Long_O z0 z1 z2 z3 hz0 hz1 hz2 hz3 W⟩
  have CS : Shut _ := ⟨fun W => Small_O s0 s1 hs0 hs1 W⟩
  clear hx0 hx1 hx2 hx3 hy0 hy1 hy2 hy3 hz0 hz1 hz2 hz3 hs0 hs1
  go_enter Tryz.func7, Tryz.ntmps7
  go_wp2_with fail
  refine (hS _).mono ?_
  rintro e v0 ⟨rfl, hB⟩
  obtain ⟨u, n_x, n_y, n_z, n_s⟩ := lstep4 hB
  clear hB hS
  have c_x_0 := lcell n_x 0 (v := .int .i64 x0) rfl
  have c_x_1 := lcell n_x 1 (v := .int .i64 x1) rfl
  have c_x_2 := lcell n_x 2 (v := .int .i64 x2) rfl
  have c_x_3 := lcell n_x 3 (v := .int .i64 x3) rfl
  go_wp2_with fail
  with_reducible refine (CLX.o _).mono ?_
  rintro e v1 ⟨a, sa, rfl, hB⟩
  have t := hB
  have u_old := u
  replace u := u.trans (t.mono u.size)
  replace n_x := lkeep n_x t
  replace n_y := lkeep n_y t
  replace n_z := lkeep n_z t
  replace n_s := lkeep n_s t
  clear hB t c_x_0 c_x_1 c_x_2 c_x_3 u_old
  clear n_x
  have la_y := lt_of_block n_y
  have la_z := lt_of_block n_z
  have la_s := lt_of_block n_s
  have c_y_0 := lcell n_y 0 (v := .int .i64 y0) rfl
  have c_y_1 := lcell n_y 1 (v := .int .i64 y1) rfl
  have c_y_2 := lcell n_y 2 (v := .int .i64 y2) rfl
  have c_y_3 := lcell n_y 3 (v := .int .i64 y3) rfl
  have l_y := lt_of_block n_y
  go_wp2_with fail
  with_reducible refine (CLY.o _).mono ?_
  rintro e v2 ⟨b, sb, rfl, hB⟩
  obtain ⟨t, n_a⟩ := lstep hB
  have u_old := u
  replace u := u.trans (t.mono u.size)
  replace n_y := lkeep n_y t
  replace n_z := lkeep n_z t
  replace n_s := lkeep n_s t
  clear hB t c_y_0 c_y_1 c_y_2 c_y_3 l_y u_old
  clear n_y
  have lb_z := lt_of_block n_z
  have lb_s := lt_of_block n_s
  have lb_a := lt_of_block n_a
  have c_z_0 := lcell n_z 0 (v := .int .i64 z0) rfl
  have c_z_1 := lcell n_z 1 (v := .int .i64 z1) rfl
  have c_z_2 := lcell n_z 2 (v := .int .i64 z2) rfl
  have c_z_3 := lcell n_z 3 (v := .int .i64 z3) rfl
  have l_z := lt_of_block n_z
  go_wp2_with fail
  with_reducible refine (CLZ.o _).mono ?_
  rintro e v3 ⟨c, sc, rfl, hB⟩
  obtain ⟨t, n_b⟩ := lstep hB
  have u_old := u
  replace u := u.trans (t.mono u.size)
  replace n_z := lkeep n_z t
  replace n_s := lkeep n_s t
  replace n_a := lkeep n_a t
  clear hB t c_z_0 c_z_1 c_z_2 c_z_3 l_z u_old
  clear n_z
  have lc_s := lt_of_block n_s
  have lc_a := lt_of_block n_a
  have lc_b := lt_of_block n_b
  have c_s_0 := lcell n_s 0 (v := .int .i64 s0) rfl
  have c_s_1 := lcell n_s 1 (v := .int .i64 s1) rfl
  have l_s := lt_of_block n_s
  go_wp2_with fail
  with_reducible refine (CS.o _).mono ?_
  rintro e v4 ⟨t, st, rfl, hB⟩
  obtain ⟨t, n_c⟩ := lstep hB
  have u_old := u
  replace u := u.trans (t.mono u.size)
  replace n_s := lkeep n_s t
  replace n_a := lkeep n_a t
  replace n_b := lkeep n_b t
  clear hB t c_s_0 c_s_1 l_s u_old
  clear n_s
  have lt_a := lt_of_block n_a
  have lt_b := lt_of_block n_b
  have lt_c := lt_of_block n_c
  obtain ⟨ab, bc, ac, ct, d, p, q, p2, q2, K1, K2, K3, K4, K5, K6, K7, K8, K9, K10, K11, hab, hbc, hct, L1, L2, L3, L4, L5, L6, L7⟩ := order_facts a b c t sa.ino sb.ino sc.ino st.ino
  replace K1 : Shut _ := ⟨K1⟩
  replace K2 : Shut _ := ⟨K2⟩
  replace K3 : Shut _ := ⟨K3⟩
  replace K4 : Shut _ := ⟨K4⟩
  replace K5 : Shut _ := ⟨K5⟩
  replace K6 : Shut _ := ⟨K6⟩
  replace K7 : Shut _ := ⟨K7⟩
  replace K8 : Shut _ := ⟨K8⟩
  replace K9 : Shut _ := ⟨K9⟩
  replace K10 : Shut _ := ⟨K10⟩
  replace K11 : Shut _ := ⟨K11⟩
  replace L1 : Shut _ := ⟨L1⟩
  replace L2 : Shut _ := ⟨L2⟩
  replace L3 : Shut _ := ⟨L3⟩
  replace L4 : Shut _ := ⟨L4⟩
  replace L5 : Shut _ := ⟨L5⟩
  replace L6 : Shut _ := ⟨L6⟩
  replace L7 : Shut _ := ⟨L7⟩
  have HAB : Shut _ := ⟨hab⟩
  have HBC : Shut _ := ⟨hbc⟩
  have HCT : Shut _ := ⟨hct⟩
  clear hab hbc hct sa sb sc st CLX CLY CLZ CS
  have c_a_0 := lcell n_a 0 (v := .string (sn a)) rfl
  have c_a_1 := lcell n_a 1 (v := .string (sd a)) rfl
  have c_b_0 := lcell n_b 0 (v := .string (sn b)) rfl
  have c_b_1 := lcell n_b 1 (v := .string (sd b)) rfl
  have l_a := lt_of_block n_a
  have l_b := lt_of_block n_b
  go_wp2_with fail
  with_reducible refine (K1.o.run _).mono ?_
  rintro e v5 ⟨rfl, hB⟩
  obtain ⟨t, n_t⟩ := lstep hB
  have u_old := u
  replace u := u.trans (t.mono u.size)
  replace n_a := lkeep n_a t
  replace n_b := lkeep n_b t
  replace n_c := lkeep n_c t
  clear hB t c_a_0 c_a_1 c_b_0 c_b_1 l_a l_b u_old
  have c_b_0 := lcell n_b 0 (v := .string (sn b)) rfl
  have c_b_1 := lcell n_b 1 (v := .string (sd b)) rfl
  have c_c_0 := lcell n_c 0 (v := .string (sn c)) rfl
  have c_c_1 := lcell n_c 1 (v := .string (sd c)) rfl
  go_wp2_with fail
  with_reducible refine (K2.o.run _).mono ?_
  rintro e v6 ⟨rfl, hB⟩
  have t := hB
  have u_old := u
  replace u := u.trans (t.mono u.size)
  replace n_a := lkeep n_a t
  replace n_b := lkeep n_b t
  replace n_c := lkeep n_c t
  replace n_t := lkeep n_t t
  clear hB t c_b_0 c_b_1 c_c_0 c_c_1 u_old
  have c_a_0 := lcell n_a 0 (v := .string (sn a)) rfl
  have c_a_1 := lcell n_a 1 (v := .string (sd a)) rfl
  have c_c_0 := lcell n_c 0 (v := .string (sn c)) rfl
  have c_c_1 := lcell n_c 1 (v := .string (sd c)) rfl
  go_wp2_with fail
  with_reducible refine (K3.o.run _).mono ?_
  rintro e v7 ⟨rfl, hB⟩
  have t := hB
  have u_old := u
  replace u := u.trans (t.mono u.size)
  replace n_a := lkeep n_a t
  replace n_b := lkeep n_b t
  replace n_c := lkeep n_c t
  replace n_t := lkeep n_t t
  clear hB t c_a_0 c_a_1 c_c_0 c_c_1 u_old
  clear n_c
  go_upto_region 9 with fail
  have c_a_0 := lcell n_a 0 (v := .string (sn a)) rfl
  have c_a_1 := lcell n_a 1 (v := .string (sd a)) rfl
  have c_b_0 := lcell n_b 0 (v := .string (sn b)) rfl
  have c_b_1 := lcell n_b 1 (v := .string (sd b)) rfl
  go_cut [92] from 41 to 92 (fun s wx => s = .bool false ∧ wx.heap[v1.heap.size]? = some (.cells #[.string (sn a), .string (sd a)] 23 (0, 0)) ∧ wx.heap[v2.heap.size]? = some (.cells #[.string (sn b), .string (sd b)] 23 (0, 0)) ∧ wx.heap[v4.heap.size]? = some (.cells #[.string (sn t), .string (sd t)] 23 (0, 0)) ∧ Below w.heap.size w wx)
  case first =>
    rcases HAB.o with rfl | rfl | rfl
    · rcases HBC.o with rfl | rfl | rfl
      · have q1 : ac < 0 := L4.o (by decide) (by decide)
        have q2 : decide (0 < ac) = false := decide_eq_false (by omega)
        have q3 : decide (0 ≤ ac) = false := decide_eq_false (by omega)
        clear q1
        have hne := L2.o (by decide)
        by_cases e1 : (sn a).toList = (sn b).toList
        · have e2 : ¬ (sd a).toList = (sd b).toList := fun x => hne ⟨e1, x⟩
          clear hne
          go_wp2_with (first | (go_at_call 19; with_reducible refine (K4.o.run _).mono ?_; rintro e w1 ⟨rfl, g1⟩; (first | replace n_a := lkeep n_a g1 | replace n_a := lkeep n_a (lundrew g1)); (first | replace n_b := lkeep n_b g1 | replace n_b := lkeep n_b (lundrew g1)); (first | replace n_t := lkeep n_t g1 | replace n_t := lkeep n_t (lundrew g1)); (first | replace u := u.trans (g1.mono u.size) | replace u := u.trans ((lundrew g1).mono u.size)); have c_a_0 := lcell n_a 0 (v := .string (sn a)) rfl; have c_a_1 := lcell n_a 1 (v := .string (sd a)) rfl; have c_b_0 := lcell n_b 0 (v := .string (sn b)) rfl; have c_b_1 := lcell n_b 1 (v := .string (sd b)) rfl) | (go_at_call 19; with_reducible refine (K5.o.run _).mono ?_; rintro e w2 ⟨rfl, g2⟩; (first | replace n_a := lkeep n_a g2 | replace n_a := lkeep n_a (lundrew g2)); (first | replace n_b := lkeep n_b g2 | replace n_b := lkeep n_b (lundrew g2)); (first | replace n_t := lkeep n_t g2 | replace n_t := lkeep n_t (lundrew g2)); (first | replace u := u.trans (g2.mono u.size) | replace u := u.trans ((lundrew g2).mono u.size)); have c_a_0 := lcell n_a 0 (v := .string (sn a)) rfl; have c_a_1 := lcell n_a 1 (v := .string (sd a)) rfl; have c_b_0 := lcell n_b 0 (v := .string (sn b)) rfl; have c_b_1 := lcell n_b 1 (v := .string (sd b)) rfl) | fail)
          go_meet
          exact ⟨rfl, n_a, n_b, n_t, u⟩
        · clear hne
          go_wp2_with (first | (go_at_call 19; with_reducible refine (K4.o.run _).mono ?_; rintro e w1 ⟨rfl, g1⟩; (first | replace n_a := lkeep n_a g1 | replace n_a := lkeep n_a (lundrew g1)); (first | replace n_b := lkeep n_b g1 | replace n_b := lkeep n_b (lundrew g1)); (first | replace n_t := lkeep n_t g1 | replace n_t := lkeep n_t (lundrew g1)); (first | replace u := u.trans (g1.mono u.size) | replace u := u.trans ((lundrew g1).mono u.size)); have c_a_0 := lcell n_a 0 (v := .string (sn a)) rfl; have c_a_1 := lcell n_a 1 (v := .string (sd a)) rfl; have c_b_0 := lcell n_b 0 (v := .string (sn b)) rfl; have c_b_1 := lcell n_b 1 (v := .string (sd b)) rfl) | (go_at_call 19; with_reducible refine (K5.o.run _).mono ?_; rintro e w2 ⟨rfl, g2⟩; (first | replace n_a := lkeep n_a g2 | replace n_a := lkeep n_a (lundrew g2)); (first | replace n_b := lkeep n_b g2 | replace n_b := lkeep n_b (lundrew g2)); (first | replace n_t := lkeep n_t g2 | replace n_t := lkeep n_t (lundrew g2)); (first | replace u := u.trans (g2.mono u.size) | replace u := u.trans ((lundrew g2).mono u.size)); have c_a_0 := lcell n_a 0 (v := .string (sn a)) rfl; have c_a_1 := lcell n_a 1 (v := .string (sd a)) rfl; have c_b_0 := lcell n_b 0 (v := .string (sn b)) rfl; have c_b_1 := lcell n_b 1 (v := .string (sd b)) rfl) | fail)
          go_meet
          exact ⟨rfl, n_a, n_b, n_t, u⟩
      · have q1 : ac ≤ 0 := L3.o (by decide) (by decide)
        have q2 : decide (0 < ac) = false := decide_eq_false (by omega)
        clear q1
        have hne := L2.o (by decide)
        by_cases e1 : (sn a).toList = (sn b).toList
        · have e2 : ¬ (sd a).toList = (sd b).toList := fun x => hne ⟨e1, x⟩
          clear hne
          go_wp2_with (first | (go_at_call 19; with_reducible refine (K4.o.run _).mono ?_; rintro e w1 ⟨rfl, g1⟩; (first | replace n_a := lkeep n_a g1 | replace n_a := lkeep n_a (lundrew g1)); (first | replace n_b := lkeep n_b g1 | replace n_b := lkeep n_b (lundrew g1)); (first | replace n_t := lkeep n_t g1 | replace n_t := lkeep n_t (lundrew g1)); (first | replace u := u.trans (g1.mono u.size) | replace u := u.trans ((lundrew g1).mono u.size)); have c_a_0 := lcell n_a 0 (v := .string (sn a)) rfl; have c_a_1 := lcell n_a 1 (v := .string (sd a)) rfl; have c_b_0 := lcell n_b 0 (v := .string (sn b)) rfl; have c_b_1 := lcell n_b 1 (v := .string (sd b)) rfl) | (go_at_call 19; with_reducible refine (K5.o.run _).mono ?_; rintro e w2 ⟨rfl, g2⟩; (first | replace n_a := lkeep n_a g2 | replace n_a := lkeep n_a (lundrew g2)); (first | replace n_b := lkeep n_b g2 | replace n_b := lkeep n_b (lundrew g2)); (first | replace n_t := lkeep n_t g2 | replace n_t := lkeep n_t (lundrew g2)); (first | replace u := u.trans (g2.mono u.size) | replace u := u.trans ((lundrew g2).mono u.size)); have c_a_0 := lcell n_a 0 (v := .string (sn a)) rfl; have c_a_1 := lcell n_a 1 (v := .string (sd a)) rfl; have c_b_0 := lcell n_b 0 (v := .string (sn b)) rfl; have c_b_1 := lcell n_b 1 (v := .string (sd b)) rfl) | fail)
          go_meet
          exact ⟨rfl, n_a, n_b, n_t, u⟩
        · clear hne
          go_wp2_with (first | (go_at_call 19; with_reducible refine (K4.o.run _).mono ?_; rintro e w1 ⟨rfl, g1⟩; (first | replace n_a := lkeep n_a g1 | replace n_a := lkeep n_a (lundrew g1)); (first | replace n_b := lkeep n_b g1 | replace n_b := lkeep n_b (lundrew g1)); (first | replace n_t := lkeep n_t g1 | replace n_t := lkeep n_t (lundrew g1)); (first | replace u := u.trans (g1.mono u.size) | replace u := u.trans ((lundrew g1).mono u.size)); have c_a_0 := lcell n_a 0 (v := .string (sn a)) rfl; have c_a_1 := lcell n_a 1 (v := .string (sd a)) rfl; have c_b_0 := lcell n_b 0 (v := .string (sn b)) rfl; have c_b_1 := lcell n_b 1 (v := .string (sd b)) rfl) | (go_at_call 19; with_reducible refine (K5.o.run _).mono ?_; rintro e w2 ⟨rfl, g2⟩; (first | replace n_a := lkeep n_a g2 | replace n_a := lkeep n_a (lundrew g2)); (first | replace n_b := lkeep n_b g2 | replace n_b := lkeep n_b (lundrew g2)); (first | replace n_t := lkeep n_t g2 | replace n_t := lkeep n_t (lundrew g2)); (first | replace u := u.trans (g2.mono u.size) | replace u := u.trans ((lundrew g2).mono u.size)); have c_a_0 := lcell n_a 0 (v := .string (sn a)) rfl; have c_a_1 := lcell n_a 1 (v := .string (sd a)) rfl; have c_b_0 := lcell n_b 0 (v := .string (sn b)) rfl; have c_b_1 := lcell n_b 1 (v := .string (sd b)) rfl) | fail)
          go_meet
          exact ⟨rfl, n_a, n_b, n_t, u⟩
      · have hne := L2.o (by decide)
        by_cases e1 : (sn a).toList = (sn b).toList
        · have e2 : ¬ (sd a).toList = (sd b).toList := fun x => hne ⟨e1, x⟩
          clear hne
          go_wp2_with (first | (go_at_call 19; with_reducible refine (K4.o.run _).mono ?_; rintro e w1 ⟨rfl, g1⟩; (first | replace n_a := lkeep n_a g1 | replace n_a := lkeep n_a (lundrew g1)); (first | replace n_b := lkeep n_b g1 | replace n_b := lkeep n_b (lundrew g1)); (first | replace n_t := lkeep n_t g1 | replace n_t := lkeep n_t (lundrew g1)); (first | replace u := u.trans (g1.mono u.size) | replace u := u.trans ((lundrew g1).mono u.size)); have c_a_0 := lcell n_a 0 (v := .string (sn a)) rfl; have c_a_1 := lcell n_a 1 (v := .string (sd a)) rfl; have c_b_0 := lcell n_b 0 (v := .string (sn b)) rfl; have c_b_1 := lcell n_b 1 (v := .string (sd b)) rfl) | (go_at_call 19; with_reducible refine (K5.o.run _).mono ?_; rintro e w2 ⟨rfl, g2⟩; (first | replace n_a := lkeep n_a g2 | replace n_a := lkeep n_a (lundrew g2)); (first | replace n_b := lkeep n_b g2 | replace n_b := lkeep n_b (lundrew g2)); (first | replace n_t := lkeep n_t g2 | replace n_t := lkeep n_t (lundrew g2)); (first | replace u := u.trans (g2.mono u.size) | replace u := u.trans ((lundrew g2).mono u.size)); have c_a_0 := lcell n_a 0 (v := .string (sn a)) rfl; have c_a_1 := lcell n_a 1 (v := .string (sd a)) rfl; have c_b_0 := lcell n_b 0 (v := .string (sn b)) rfl; have c_b_1 := lcell n_b 1 (v := .string (sd b)) rfl) | fail)
          go_meet
          exact ⟨rfl, n_a, n_b, n_t, u⟩
        · clear hne
          go_wp2_with (first | (go_at_call 19; with_reducible refine (K4.o.run _).mono ?_; rintro e w1 ⟨rfl, g1⟩; (first | replace n_a := lkeep n_a g1 | replace n_a := lkeep n_a (lundrew g1)); (first | replace n_b := lkeep n_b g1 | replace n_b := lkeep n_b (lundrew g1)); (first | replace n_t := lkeep n_t g1 | replace n_t := lkeep n_t (lundrew g1)); (first | replace u := u.trans (g1.mono u.size) | replace u := u.trans ((lundrew g1).mono u.size)); have c_a_0 := lcell n_a 0 (v := .string (sn a)) rfl; have c_a_1 := lcell n_a 1 (v := .string (sd a)) rfl; have c_b_0 := lcell n_b 0 (v := .string (sn b)) rfl; have c_b_1 := lcell n_b 1 (v := .string (sd b)) rfl) | (go_at_call 19; with_reducible refine (K5.o.run _).mono ?_; rintro e w2 ⟨rfl, g2⟩; (first | replace n_a := lkeep n_a g2 | replace n_a := lkeep n_a (lundrew g2)); (first | replace n_b := lkeep n_b g2 | replace n_b := lkeep n_b (lundrew g2)); (first | replace n_t := lkeep n_t g2 | replace n_t := lkeep n_t (lundrew g2)); (first | replace u := u.trans (g2.mono u.size) | replace u := u.trans ((lundrew g2).mono u.size)); have c_a_0 := lcell n_a 0 (v := .string (sn a)) rfl; have c_a_1 := lcell n_a 1 (v := .string (sd a)) rfl; have c_b_0 := lcell n_b 0 (v := .string (sn b)) rfl; have c_b_1 := lcell n_b 1 (v := .string (sd b)) rfl) | fail)
          go_meet
          exact ⟨rfl, n_a, n_b, n_t, u⟩
    · have qq := L1.o rfl
      have e1 : (sn a).toList = (sn b).toList := by rw [qq]
      have e2 : (sd a).toList = (sd b).toList := by rw [qq]
      clear qq
      rcases HBC.o with rfl | rfl | rfl
      · have q1 : ac < 0 := L4.o (by decide) (by decide)
        have q2 : decide (0 < ac) = false := decide_eq_false (by omega)
        have q3 : decide (0 ≤ ac) = false := decide_eq_false (by omega)
        clear q1
        go_wp2_with (first | (go_at_call 19; with_reducible refine (K4.o.run _).mono ?_; rintro e w1 ⟨rfl, g1⟩; (first | replace n_a := lkeep n_a g1 | replace n_a := lkeep n_a (lundrew g1)); (first | replace n_b := lkeep n_b g1 | replace n_b := lkeep n_b (lundrew g1)); (first | replace n_t := lkeep n_t g1 | replace n_t := lkeep n_t (lundrew g1)); (first | replace u := u.trans (g1.mono u.size) | replace u := u.trans ((lundrew g1).mono u.size)); have c_a_0 := lcell n_a 0 (v := .string (sn a)) rfl; have c_a_1 := lcell n_a 1 (v := .string (sd a)) rfl; have c_b_0 := lcell n_b 0 (v := .string (sn b)) rfl; have c_b_1 := lcell n_b 1 (v := .string (sd b)) rfl) | (go_at_call 19; with_reducible refine (K5.o.run _).mono ?_; rintro e w2 ⟨rfl, g2⟩; (first | replace n_a := lkeep n_a g2 | replace n_a := lkeep n_a (lundrew g2)); (first | replace n_b := lkeep n_b g2 | replace n_b := lkeep n_b (lundrew g2)); (first | replace n_t := lkeep n_t g2 | replace n_t := lkeep n_t (lundrew g2)); (first | replace u := u.trans (g2.mono u.size) | replace u := u.trans ((lundrew g2).mono u.size)); have c_a_0 := lcell n_a 0 (v := .string (sn a)) rfl; have c_a_1 := lcell n_a 1 (v := .string (sd a)) rfl; have c_b_0 := lcell n_b 0 (v := .string (sn b)) rfl; have c_b_1 := lcell n_b 1 (v := .string (sd b)) rfl) | fail)
        go_meet
        exact ⟨rfl, n_a, n_b, n_t, u⟩
      · have q1 : ac ≤ 0 := L3.o (by decide) (by decide)
        have q2 : decide (0 < ac) = false := decide_eq_false (by omega)
        clear q1
        go_wp2_with (first | (go_at_call 19; with_reducible refine (K4.o.run _).mono ?_; rintro e w1 ⟨rfl, g1⟩; (first | replace n_a := lkeep n_a g1 | replace n_a := lkeep n_a (lundrew g1)); (first | replace n_b := lkeep n_b g1 | replace n_b := lkeep n_b (lundrew g1)); (first | replace n_t := lkeep n_t g1 | replace n_t := lkeep n_t (lundrew g1)); (first | replace u := u.trans (g1.mono u.size) | replace u := u.trans ((lundrew g1).mono u.size)); have c_a_0 := lcell n_a 0 (v := .string (sn a)) rfl; have c_a_1 := lcell n_a 1 (v := .string (sd a)) rfl; have c_b_0 := lcell n_b 0 (v := .string (sn b)) rfl; have c_b_1 := lcell n_b 1 (v := .string (sd b)) rfl) | (go_at_call 19; with_reducible refine (K5.o.run _).mono ?_; rintro e w2 ⟨rfl, g2⟩; (first | replace n_a := lkeep n_a g2 | replace n_a := lkeep n_a (lundrew g2)); (first | replace n_b := lkeep n_b g2 | replace n_b := lkeep n_b (lundrew g2)); (first | replace n_t := lkeep n_t g2 | replace n_t := lkeep n_t (lundrew g2)); (first | replace u := u.trans (g2.mono u.size) | replace u := u.trans ((lundrew g2).mono u.size)); have c_a_0 := lcell n_a 0 (v := .string (sn a)) rfl; have c_a_1 := lcell n_a 1 (v := .string (sd a)) rfl; have c_b_0 := lcell n_b 0 (v := .string (sn b)) rfl; have c_b_1 := lcell n_b 1 (v := .string (sd b)) rfl) | fail)
        go_meet
        exact ⟨rfl, n_a, n_b, n_t, u⟩
      · go_wp2_with (first | (go_at_call 19; with_reducible refine (K4.o.run _).mono ?_; rintro e w1 ⟨rfl, g1⟩; (first | replace n_a := lkeep n_a g1 | replace n_a := lkeep n_a (lundrew g1)); (first | replace n_b := lkeep n_b g1 | replace n_b := lkeep n_b (lundrew g1)); (first | replace n_t := lkeep n_t g1 | replace n_t := lkeep n_t (lundrew g1)); (first | replace u := u.trans (g1.mono u.size) | replace u := u.trans ((lundrew g1).mono u.size)); have c_a_0 := lcell n_a 0 (v := .string (sn a)) rfl; have c_a_1 := lcell n_a 1 (v := .string (sd a)) rfl; have c_b_0 := lcell n_b 0 (v := .string (sn b)) rfl; have c_b_1 := lcell n_b 1 (v := .string (sd b)) rfl) | (go_at_call 19; with_reducible refine (K5.o.run _).mono ?_; rintro e w2 ⟨rfl, g2⟩; (first | replace n_a := lkeep n_a g2 | replace n_a := lkeep n_a (lundrew g2)); (first | replace n_b := lkeep n_b g2 | replace n_b := lkeep n_b (lundrew g2)); (first | replace n_t := lkeep n_t g2 | replace n_t := lkeep n_t (lundrew g2)); (first | replace u := u.trans (g2.mono u.size) | replace u := u.trans ((lundrew g2).mono u.size)); have c_a_0 := lcell n_a 0 (v := .string (sn a)) rfl; have c_a_1 := lcell n_a 1 (v := .string (sd a)) rfl; have c_b_0 := lcell n_b 0 (v := .string (sn b)) rfl; have c_b_1 := lcell n_b 1 (v := .string (sd b)) rfl) | fail)
        go_meet
        exact ⟨rfl, n_a, n_b, n_t, u⟩
    · have hne := L2.o (by decide)
      by_cases e1 : (sn a).toList = (sn b).toList
      · have e2 : ¬ (sd a).toList = (sd b).toList := fun x => hne ⟨e1, x⟩
        clear hne
        go_wp2_with (first | (go_at_call 19; with_reducible refine (K4.o.run _).mono ?_; rintro e w1 ⟨rfl, g1⟩; (first | replace n_a := lkeep n_a g1 | replace n_a := lkeep n_a (lundrew g1)); (first | replace n_b := lkeep n_b g1 | replace n_b := lkeep n_b (lundrew g1)); (first | replace n_t := lkeep n_t g1 | replace n_t := lkeep n_t (lundrew g1)); (first | replace u := u.trans (g1.mono u.size) | replace u := u.trans ((lundrew g1).mono u.size)); have c_a_0 := lcell n_a 0 (v := .string (sn a)) rfl; have c_a_1 := lcell n_a 1 (v := .string (sd a)) rfl; have c_b_0 := lcell n_b 0 (v := .string (sn b)) rfl; have c_b_1 := lcell n_b 1 (v := .string (sd b)) rfl) | (go_at_call 19; with_reducible refine (K5.o.run _).mono ?_; rintro e w2 ⟨rfl, g2⟩; (first | replace n_a := lkeep n_a g2 | replace n_a := lkeep n_a (lundrew g2)); (first | replace n_b := lkeep n_b g2 | replace n_b := lkeep n_b (lundrew g2)); (first | replace n_t := lkeep n_t g2 | replace n_t := lkeep n_t (lundrew g2)); (first | replace u := u.trans (g2.mono u.size) | replace u := u.trans ((lundrew g2).mono u.size)); have c_a_0 := lcell n_a 0 (v := .string (sn a)) rfl; have c_a_1 := lcell n_a 1 (v := .string (sd a)) rfl; have c_b_0 := lcell n_b 0 (v := .string (sn b)) rfl; have c_b_1 := lcell n_b 1 (v := .string (sd b)) rfl) | fail)
        go_meet
        exact ⟨rfl, n_a, n_b, n_t, u⟩
      · clear hne
        go_wp2_with (first | (go_at_call 19; with_reducible refine (K4.o.run _).mono ?_; rintro e w1 ⟨rfl, g1⟩; (first | replace n_a := lkeep n_a g1 | replace n_a := lkeep n_a (lundrew g1)); (first | replace n_b := lkeep n_b g1 | replace n_b := lkeep n_b (lundrew g1)); (first | replace n_t := lkeep n_t g1 | replace n_t := lkeep n_t (lundrew g1)); (first | replace u := u.trans (g1.mono u.size) | replace u := u.trans ((lundrew g1).mono u.size)); have c_a_0 := lcell n_a 0 (v := .string (sn a)) rfl; have c_a_1 := lcell n_a 1 (v := .string (sd a)) rfl; have c_b_0 := lcell n_b 0 (v := .string (sn b)) rfl; have c_b_1 := lcell n_b 1 (v := .string (sd b)) rfl) | (go_at_call 19; with_reducible refine (K5.o.run _).mono ?_; rintro e w2 ⟨rfl, g2⟩; (first | replace n_a := lkeep n_a g2 | replace n_a := lkeep n_a (lundrew g2)); (first | replace n_b := lkeep n_b g2 | replace n_b := lkeep n_b (lundrew g2)); (first | replace n_t := lkeep n_t g2 | replace n_t := lkeep n_t (lundrew g2)); (first | replace u := u.trans (g2.mono u.size) | replace u := u.trans ((lundrew g2).mono u.size)); have c_a_0 := lcell n_a 0 (v := .string (sn a)) rfl; have c_a_1 := lcell n_a 1 (v := .string (sd a)) rfl; have c_b_0 := lcell n_b 0 (v := .string (sn b)) rfl; have c_b_1 := lcell n_b 1 (v := .string (sd b)) rfl) | fail)
        go_meet
        exact ⟨rfl, n_a, n_b, n_t, u⟩
  clear u n_a n_b n_t c_a_0 c_a_1 c_b_0 c_b_1
  obtain ⟨rfl, n_a, n_b, n_t, u⟩ := hcut
  obtain ⟨v8, hv⟩ : ∃ v, v = wc := ⟨_, rfl⟩
  rw [← hv] at u n_a n_b n_t
  rw [← hv]
  clear hv
  clear HBC K2 K3 K4 K5 L1 L2 L3 L4
  have c_a_0 := lcell n_a 0 (v := .string (sn a)) rfl
  have c_a_1 := lcell n_a 1 (v := .string (sd a)) rfl
  have c_b_0 := lcell n_b 0 (v := .string (sn b)) rfl
  have c_b_1 := lcell n_b 1 (v := .string (sd b)) rfl
  go_wp2_with fail
  with_reducible refine (K7.o.run _).mono ?_
  rintro e v9 ⟨rfl, hB⟩
  have t := hB
  have u_old := u
  replace u := u.trans (t.mono u.size)
  replace n_a := lkeep n_a t
  replace n_b := lkeep n_b t
  replace n_t := lkeep n_t t
  clear hB t c_a_0 c_a_1 c_b_0 c_b_1 u_old
  go_upto_region 12 with fail
  have t := (Below.refl v9.heap.size v9).alloc (Nat.le_refl _) (.cells #[.string (sn d), .string (sd d)] 23)
  have u_old := u
  replace u := u.trans (t.mono u.size)
  replace n_a := lkeep n_a t
  replace n_b := lkeep n_b t
  replace n_t := lkeep n_t t
  have n_d := World.alloc_heap_new v9 (.cells #[.string (sn d), .string (sd d)] 23)
  clear t u_old
  generalize (v9.alloc (.cells #[.string (sn d), .string (sd d)] 23)) = v10 at *
  have c_d_0 := lcell n_d 0 (v := .string (sn d)) rfl
  have c_d_1 := lcell n_d 1 (v := .string (sd d)) rfl
  go_cut [107] from 99 to 107 (fun s wx => s = .bool false ∧ wx.heap[v1.heap.size]? = some (.cells #[.string (sn a), .string (sd a)] 23 (0, 0)) ∧ wx.heap[v2.heap.size]? = some (.cells #[.string (sn b), .string (sd b)] 23 (0, 0)) ∧ wx.heap[v4.heap.size]? = some (.cells #[.string (sn t), .string (sd t)] 23 (0, 0)) ∧ wx.heap[v9.heap.size]? = some (.cells #[.string (sn d), .string (sd d)] 23 (0, 0)) ∧ Below w.heap.size w wx)
  case first =>
    by_cases h0 : cd d = 0
    · have Kd := L5.o h0
      have B0 : (cd d == 0) = true := by rw [h0]; rfl
      have D0 : (cd d != 0) = false := by rw [h0]; rfl
      clear h0
      go_region_held3 (fun X => X.cell? ⟨v9.heap.size, 0, none⟩ = some (.string (sn d)) ∧ X.cell? ⟨v9.heap.size, 1, none⟩ = some (.string (sd d))) (go_keep) (first | (go_at_call 40; go_loud (refine (lis_any _ _ _).mono ?_); rintro e w1 ⟨rfl, g1⟩; (first | replace n_a := lkeep n_a g1 | replace n_a := lkeep n_a (lundrew g1)); (first | replace n_b := lkeep n_b g1 | replace n_b := lkeep n_b (lundrew g1)); (first | replace n_t := lkeep n_t g1 | replace n_t := lkeep n_t (lundrew g1)); (first | replace n_d := lkeep n_d g1 | replace n_d := lkeep n_d (lundrew g1)); (first | replace u := u.trans (g1.mono u.size) | replace u := u.trans ((lundrew g1).mono u.size)); have c_d_0 := lcell n_d 0 (v := .string (sn d)) rfl; have c_d_1 := lcell n_d 1 (v := .string (sd d)) rfl) | (go_at_call 19; go_loud (refine (Kd.run _).mono ?_); rintro e w2 ⟨rfl, g2⟩; (first | replace n_a := lkeep n_a g2 | replace n_a := lkeep n_a (lundrew g2)); (first | replace n_b := lkeep n_b g2 | replace n_b := lkeep n_b (lundrew g2)); (first | replace n_t := lkeep n_t g2 | replace n_t := lkeep n_t (lundrew g2)); (first | replace n_d := lkeep n_d g2 | replace n_d := lkeep n_d (lundrew g2)); (first | replace u := u.trans (g2.mono u.size) | replace u := u.trans ((lundrew g2).mono u.size)); have c_d_0 := lcell n_d 0 (v := .string (sn d)) rfl; have c_d_1 := lcell n_d 1 (v := .string (sd d)) rfl) | fail)
      all_goals
        go_wp2_with fail
        go_meet
        exact ⟨rfl, n_a, n_b, n_t, n_d, u⟩
    · have B0 : (cd d == 0) = false := by rw [beq_eq_false_iff_ne]; exact h0
      have D0 : (cd d != 0) = true := by rw [bne_iff_ne]; exact h0
      clear h0
      go_quiet (fail)
      go_wp2_with fail
      go_meet
      exact ⟨rfl, n_a, n_b, n_t, n_d, below_drewN u _⟩
  clear u n_a n_b n_t n_d c_d_0 c_d_1
  obtain ⟨rfl, n_a, n_b, n_t, n_d, u⟩ := hcut
  obtain ⟨v11, hv⟩ : ∃ v, v = wc := ⟨_, rfl⟩
  rw [← hv] at u n_a n_b n_t n_d
  rw [← hv]
  clear hv
  clear n_d
  clear K7 L5
  have c_a_0 := lcell n_a 0 (v := .string (sn a)) rfl
  have c_a_1 := lcell n_a 1 (v := .string (sd a)) rfl
  have c_t_0 := lcell n_t 0 (v := .string (sn t)) rfl
  have c_t_1 := lcell n_t 1 (v := .string (sd t)) rfl
  go_wp2_with fail
  with_reducible refine (K8.o.run _).mono ?_
  rintro e v12 ⟨rfl, hB⟩
  have t := hB
  have u_old := u
  replace u := u.trans (t.mono u.size)
  replace n_a := lkeep n_a t
  replace n_b := lkeep n_b t
  replace n_t := lkeep n_t t
  clear hB t c_a_0 c_a_1 c_t_0 c_t_1 u_old
  have lp_a := lt_of_block n_a
  have lp_b := lt_of_block n_b
  have lp_t := lt_of_block n_t
  have c_b_0 := lcell n_b 0 (v := .string (sn b)) rfl
  have c_b_1 := lcell n_b 1 (v := .string (sd b)) rfl
  have c_t_0 := lcell n_t 0 (v := .string (sn t)) rfl
  have c_t_1 := lcell n_t 1 (v := .string (sd t)) rfl
  have l_b := lt_of_block n_b
  have l_t := lt_of_block n_t
  go_wp2_with fail
  with_reducible refine (K9.o.run _).mono ?_
  rintro e v13 ⟨rfl, hB⟩
  obtain ⟨t, n_p⟩ := lstep hB
  have u_old := u
  replace u := u.trans (t.mono u.size)
  replace n_a := lkeep n_a t
  replace n_b := lkeep n_b t
  replace n_t := lkeep n_t t
  clear hB t c_b_0 c_b_1 c_t_0 c_t_1 l_b l_t u_old
  have lq_a := lt_of_block n_a
  have lq_b := lt_of_block n_b
  have lq_t := lt_of_block n_t
  have lq_p := lt_of_block n_p
  go_upto_region 16 with fail
  have t := (Below.refl v13.heap.size v13).alloc (Nat.le_refl _) (.cells #[.string (sn q), .string (sd q)] 23)
  have u_old := u
  replace u := u.trans (t.mono u.size)
  replace n_a := lkeep n_a t
  replace n_b := lkeep n_b t
  replace n_t := lkeep n_t t
  replace n_p := lkeep n_p t
  have n_q := World.alloc_heap_new v13 (.cells #[.string (sn q), .string (sd q)] 23)
  clear t u_old
  generalize (v13.alloc (.cells #[.string (sn q), .string (sd q)] 23)) = v14 at *
  have c_p_0 := lcell n_p 0 (v := .string (sn p)) rfl
  have c_p_1 := lcell n_p 1 (v := .string (sd p)) rfl
  have c_q_0 := lcell n_q 0 (v := .string (sn q)) rfl
  have c_q_1 := lcell n_q 1 (v := .string (sd q)) rfl
  go_cut [132] from 120 to 132 (fun s wx => s = .bool false ∧ wx.heap[v1.heap.size]? = some (.cells #[.string (sn a), .string (sd a)] 23 (0, 0)) ∧ wx.heap[v2.heap.size]? = some (.cells #[.string (sn b), .string (sd b)] 23 (0, 0)) ∧ wx.heap[v4.heap.size]? = some (.cells #[.string (sn t), .string (sd t)] 23 (0, 0)) ∧ wx.heap[v12.heap.size]? = some (.cells #[.string (sn p), .string (sd p)] 23 (0, 0)) ∧ wx.heap[v13.heap.size]? = some (.cells #[.string (sn q), .string (sd q)] 23 (0, 0)) ∧ Below w.heap.size w wx)
  case first =>
    by_cases h0 : cd p = 0
    · have B0 : (cd p == 0) = true := by rw [h0]; rfl
      have D0 : (cd p != 0) = false := by rw [h0]; rfl
      by_cases h1 : cd q = 0
      · have Kd := L6.o h0 h1
        have B1 : (cd q == 0) = true := by rw [h1]; rfl
        have D1 : (cd q != 0) = false := by rw [h1]; rfl
        clear h0 h1
        go_wp2_with (first | (go_at_call 19; with_reducible refine (Kd.run _).mono ?_; rintro e w2 ⟨rfl, g2⟩; (first | replace n_a := lkeep n_a g2 | replace n_a := lkeep n_a (lundrew g2)); (first | replace n_b := lkeep n_b g2 | replace n_b := lkeep n_b (lundrew g2)); (first | replace n_t := lkeep n_t g2 | replace n_t := lkeep n_t (lundrew g2)); (first | replace n_p := lkeep n_p g2 | replace n_p := lkeep n_p (lundrew g2)); (first | replace n_q := lkeep n_q g2 | replace n_q := lkeep n_q (lundrew g2)); (first | replace u := u.trans (g2.mono u.size) | replace u := u.trans ((lundrew g2).mono u.size)); have c_p_0 := lcell n_p 0 (v := .string (sn p)) rfl; have c_p_1 := lcell n_p 1 (v := .string (sd p)) rfl; have c_q_0 := lcell n_q 0 (v := .string (sn q)) rfl; have c_q_1 := lcell n_q 1 (v := .string (sd q)) rfl) | fail)
        go_meet
        exact ⟨rfl, n_a, n_b, n_t, n_p, n_q, u⟩
      · have B1 : (cd q == 0) = false := by rw [beq_eq_false_iff_ne]; exact h1
        have D1 : (cd q != 0) = true := by rw [bne_iff_ne]; exact h1
        clear h1
        clear h0
        go_wp2_with fail
        go_meet
        exact ⟨rfl, n_a, n_b, n_t, n_p, n_q, u⟩
    · have B0 : (cd p == 0) = false := by rw [beq_eq_false_iff_ne]; exact h0
      have D0 : (cd p != 0) = true := by rw [bne_iff_ne]; exact h0
      clear h0
      go_wp2_with fail
      go_meet
      exact ⟨rfl, n_a, n_b, n_t, n_p, n_q, u⟩
  clear u n_a n_b n_t n_p n_q c_p_0 c_p_1 c_q_0 c_q_1
  obtain ⟨rfl, n_a, n_b, n_t, n_p, n_q, u⟩ := hcut
  obtain ⟨v15, hv⟩ : ∃ v, v = wc := ⟨_, rfl⟩
  rw [← hv] at u n_a n_b n_t n_p n_q
  rw [← hv]
  clear hv
  clear K8 K9 L6
  have c_a_0 := lcell n_a 0 (v := .string (sn a)) rfl
  have c_a_1 := lcell n_a 1 (v := .string (sd a)) rfl
  have c_t_0 := lcell n_t 0 (v := .string (sn t)) rfl
  have c_t_1 := lcell n_t 1 (v := .string (sd t)) rfl
  go_wp2_with fail
  with_reducible refine (K10.o.run _).mono ?_
  rintro e v16 ⟨rfl, hB⟩
  have t := hB
  have u_old := u
  replace u := u.trans (t.mono u.size)
  replace n_a := lkeep n_a t
  replace n_b := lkeep n_b t
  replace n_t := lkeep n_t t
  replace n_p := lkeep n_p t
  replace n_q := lkeep n_q t
  clear hB t c_a_0 c_a_1 c_t_0 c_t_1 u_old
  obtain ⟨k0, k1, k2, k3⟩ := cell_box n_p
  go_upto_region 19 with fail
  clear k0 k1 k2 k3
  replace n_a := box_other (b := v12.heap.size) (u := .string (sn p2)) (v := .string (sd p2)) n_a (by omega)
  replace n_b := box_other (b := v12.heap.size) (u := .string (sn p2)) (v := .string (sd p2)) n_b (by omega)
  replace n_t := box_other (b := v12.heap.size) (u := .string (sn p2)) (v := .string (sd p2)) n_t (by omega)
  replace n_q := box_other (b := v12.heap.size) (u := .string (sn p2)) (v := .string (sd p2)) n_q (by omega)
  replace n_p := box_set (u := .string (sn p2)) (v := .string (sd p2)) n_p
  replace u := (u.setCell (p := ⟨v12.heap.size, 0, none⟩) (by show _ ≤ v12.heap.size; omega) (.string (sn p2))).setCell (p := ⟨v12.heap.size, 1, none⟩) (by show _ ≤ v12.heap.size; omega) (.string (sd p2))
  generalize ((v16.setCell ⟨v12.heap.size, 0, none⟩ (.string (sn p2))).setCell ⟨v12.heap.size, 1, none⟩ (.string (sd p2))) = v17 at *
  have c_b_0 := lcell n_b 0 (v := .string (sn b)) rfl
  have c_b_1 := lcell n_b 1 (v := .string (sd b)) rfl
  have c_t_0 := lcell n_t 0 (v := .string (sn t)) rfl
  have c_t_1 := lcell n_t 1 (v := .string (sd t)) rfl
  go_wp2_with fail
  with_reducible refine (K11.o.run _).mono ?_
  rintro e v18 ⟨rfl, hB⟩
  have t := hB
  have u_old := u
  replace u := u.trans (t.mono u.size)
  replace n_a := lkeep n_a t
  replace n_b := lkeep n_b t
  replace n_t := lkeep n_t t
  replace n_p := lkeep n_p t
  replace n_q := lkeep n_q t
  clear hB t c_b_0 c_b_1 c_t_0 c_t_1 u_old
  obtain ⟨k0, k1, k2, k3⟩ := cell_box n_q
  go_upto_region 20 with fail
  clear k0 k1 k2 k3
  replace n_a := box_other (b := v13.heap.size) (u := .string (sn q2)) (v := .string (sd q2)) n_a (by omega)
  replace n_b := box_other (b := v13.heap.size) (u := .string (sn q2)) (v := .string (sd q2)) n_b (by omega)
  replace n_t := box_other (b := v13.heap.size) (u := .string (sn q2)) (v := .string (sd q2)) n_t (by omega)
  replace n_p := box_other (b := v13.heap.size) (u := .string (sn q2)) (v := .string (sd q2)) n_p (by omega)
  replace n_q := box_set (u := .string (sn q2)) (v := .string (sd q2)) n_q
  replace u := (u.setCell (p := ⟨v13.heap.size, 0, none⟩) (by show _ ≤ v13.heap.size; omega) (.string (sn q2))).setCell (p := ⟨v13.heap.size, 1, none⟩) (by show _ ≤ v13.heap.size; omega) (.string (sd q2))
  generalize ((v18.setCell ⟨v13.heap.size, 0, none⟩ (.string (sn q2))).setCell ⟨v13.heap.size, 1, none⟩ (.string (sd q2))) = v19 at *
  clear n_a
  clear n_b
  have c_p_0 := lcell n_p 0 (v := .string (sn p2)) rfl
  have c_p_1 := lcell n_p 1 (v := .string (sd p2)) rfl
  have c_q_0 := lcell n_q 0 (v := .string (sn q2)) rfl
  have c_q_1 := lcell n_q 1 (v := .string (sd q2)) rfl
  have c_t_0 := lcell n_t 0 (v := .string (sn t)) rfl
  have c_t_1 := lcell n_t 1 (v := .string (sd t)) rfl
  have w1 : IntKind.i64.wrap (ab * ct) = ab * ct := by rcases HAB.o with rfl | rfl | rfl <;> rcases HCT.o with rfl | rfl | rfl <;> rfl
  by_cases h0 : cd p2 = 0
  · have B0 : (cd p2 == 0) = true := by rw [h0]; rfl
    have D0 : (cd p2 != 0) = false := by rw [h0]; rfl
    by_cases h1 : cd q2 = 0
    · have Kd := L7.o h0 h1
      have B1 : (cd q2 == 0) = true := by rw [h1]; rfl
      have D1 : (cd q2 != 0) = false := by rw [h1]; rfl
      clear h0 h1
      go_region_held3 (fun X => X.cell? ⟨v12.heap.size, 0, none⟩ = some (.string (sn p2)) ∧ X.cell? ⟨v12.heap.size, 1, none⟩ = some (.string (sd p2)) ∧ X.cell? ⟨v13.heap.size, 0, none⟩ = some (.string (sn q2)) ∧ X.cell? ⟨v13.heap.size, 1, none⟩ = some (.string (sd q2)) ∧ X.cell? ⟨v4.heap.size, 0, none⟩ = some (.string (sn t)) ∧ X.cell? ⟨v4.heap.size, 1, none⟩ = some (.string (sd t))) (go_keep) (first | (go_at_call 40; go_loud (refine (lis_any _ _ _).mono ?_); rintro e w1 ⟨rfl, g1⟩; (first | replace n_t := lkeep n_t g1 | replace n_t := lkeep n_t (lundrew g1)); (first | replace n_p := lkeep n_p g1 | replace n_p := lkeep n_p (lundrew g1)); (first | replace n_q := lkeep n_q g1 | replace n_q := lkeep n_q (lundrew g1)); (first | replace u := u.trans (g1.mono u.size) | replace u := u.trans ((lundrew g1).mono u.size)); have c_p_0 := lcell n_p 0 (v := .string (sn p2)) rfl; have c_p_1 := lcell n_p 1 (v := .string (sd p2)) rfl; have c_q_0 := lcell n_q 0 (v := .string (sn q2)) rfl; have c_q_1 := lcell n_q 1 (v := .string (sd q2)) rfl; have c_t_0 := lcell n_t 0 (v := .string (sn t)) rfl; have c_t_1 := lcell n_t 1 (v := .string (sd t)) rfl) | (go_at_call 19; with_reducible refine (K6.o.run _).mono ?_; rintro e w2 ⟨rfl, g2⟩; (first | replace n_t := lkeep n_t g2 | replace n_t := lkeep n_t (lundrew g2)); (first | replace n_p := lkeep n_p g2 | replace n_p := lkeep n_p (lundrew g2)); (first | replace n_q := lkeep n_q g2 | replace n_q := lkeep n_q (lundrew g2)); (first | replace u := u.trans (g2.mono u.size) | replace u := u.trans ((lundrew g2).mono u.size)); have c_p_0 := lcell n_p 0 (v := .string (sn p2)) rfl; have c_p_1 := lcell n_p 1 (v := .string (sd p2)) rfl; have c_q_0 := lcell n_q 0 (v := .string (sn q2)) rfl; have c_q_1 := lcell n_q 1 (v := .string (sd q2)) rfl; have c_t_0 := lcell n_t 0 (v := .string (sn t)) rfl; have c_t_1 := lcell n_t 1 (v := .string (sd t)) rfl) | (go_at_call 19; go_loud (refine (Kd.run _).mono ?_); rintro e w3 ⟨rfl, g3⟩; (first | replace n_t := lkeep n_t g3 | replace n_t := lkeep n_t (lundrew g3)); (first | replace n_p := lkeep n_p g3 | replace n_p := lkeep n_p (lundrew g3)); (first | replace n_q := lkeep n_q g3 | replace n_q := lkeep n_q (lundrew g3)); (first | replace u := u.trans (g3.mono u.size) | replace u := u.trans ((lundrew g3).mono u.size)); have c_p_0 := lcell n_p 0 (v := .string (sn p2)) rfl; have c_p_1 := lcell n_p 1 (v := .string (sd p2)) rfl; have c_q_0 := lcell n_q 0 (v := .string (sn q2)) rfl; have c_q_1 := lcell n_q 1 (v := .string (sd q2)) rfl; have c_t_0 := lcell n_t 0 (v := .string (sn t)) rfl; have c_t_1 := lcell n_t 1 (v := .string (sd t)) rfl) | fail)
      all_goals
        go_wp2
        go_ret
        exact ⟨rfl, u⟩
    · have B1 : (cd q2 == 0) = false := by rw [beq_eq_false_iff_ne]; exact h1
      have D1 : (cd q2 != 0) = true := by rw [bne_iff_ne]; exact h1
      clear h1
      clear h0
      go_quiet (fail)
      go_wp2
      go_ret
      exact ⟨rfl, below_drewN u _⟩
  · have B0 : (cd p2 == 0) = false := by rw [beq_eq_false_iff_ne]; exact h0
    have D0 : (cd p2 != 0) = true := by rw [bne_iff_ne]; exact h0
    clear h0
    go_quiet (fail)
    go_wp2
    go_ret
    exact ⟨rfl, below_drewN u _⟩
end Rt
end Go.Proofs.YtofcihnihpfljaaGreat
