/-
  The law RationalField: its walk.
-/
import Derived.Test.YtofcihnihpfljaaGreatQb
import Derived.Deep.DeepCutAuto
namespace Go.Proofs.YtofcihnihpfljaaGreat
set_option maxRecDepth 1000000
namespace Rt
open Go.RowKit Go.Proofs.YtofcihnihpfljaaGreat.Nm
open N10 (Two)

set_option maxHeartbeats 8000000 in
theorem field_small (x0 x1 x2 x3 y0 y1 y2 y3 z0 z1 : Int) (hx0 : -9223372036854775808 ≤ x0 ∧ x0 ≤ 9223372036854775807) (hx1 : -9223372036854775808 ≤ x1 ∧ x1 ≤ 9223372036854775807) (hx2 : -9223372036854775808 ≤ x2 ∧ x2 ≤ 9223372036854775807) (hx3 : -9223372036854775808 ≤ x3 ∧ x3 ≤ 9223372036854775807) (hy0 : -9223372036854775808 ≤ y0 ∧ y0 ≤ 9223372036854775807) (hy1 : -9223372036854775808 ≤ y1 ∧ y1 ≤ 9223372036854775807) (hy2 : -9223372036854775808 ≤ y2 ∧ y2 ≤ 9223372036854775807) (hy3 : -9223372036854775808 ≤ y3 ∧ y3 ≤ 9223372036854775807) (hz0 : -9223372036854775808 ≤ z0 ∧ z0 ≤ 9223372036854775807) (hz1 : -9223372036854775808 ≤ z1 ∧ z1 ≤ 9223372036854775807) (w : World)
    (hS : ∀ W : World, Calls Tryz.prog 10 #[] W fun e w' => e = .returned (.bool true) ∧ Below W.heap.size W w') :
    Calls Tryz.prog 6 #[.agg #[.int .i64 x0, .int .i64 x1, .int .i64 x2, .int .i64 x3], .agg #[.int .i64 y0, .int .i64 y1, .int .i64 y2, .int .i64 y3], .agg #[.int .i64 z0, .int .i64 z1], .bool false] w fun e w' => e = .returned (.bool true) ∧ Below w.heap.size w w' := by
  have CX : Shut _ := ⟨fun W => Small_O x0 x1 hx0 hx1 W⟩
  have CY : Shut _ := ⟨fun W => Small_O y0 y1 hy0 hy1 W⟩
  have CZ : Shut _ := ⟨fun W => Small_O z0 z1 hz0 hz1 W⟩
  have CLX : Shut _ := ⟨fun W => Long_O x0 x1 x2 x3 hx0 hx1 hx2 hx3 W⟩
  have CLY : Shut _ := ⟨fun W => Long_O y0 y1 y2 y3 hy0 hy1 hy2 hy3 W⟩
  clear hx0 hx1 hx2 hx3 hy0 hy1 hy2 hy3 hz0 hz1
  go_enter Tryz.func6, Tryz.ntmps6
  go_wp2_with fail
  refine (hS _).mono ?_
  rintro e v0 ⟨rfl, hB⟩
  obtain ⟨u, n_x, n_y, n_z⟩ := lstep3 hB
  clear hB hS
  have c_x_0 := lcell n_x 0 (v := .int .i64 x0) rfl
  have c_x_1 := lcell n_x 1 (v := .int .i64 x1) rfl
  go_wp2_with fail
  with_reducible refine (CX.o _).mono ?_
  rintro e v1 ⟨a, sa, rfl, hB⟩
  have t := hB
  have u_old := u
  replace u := u.trans (t.mono u.size)
  replace n_x := lkeep n_x t
  replace n_y := lkeep n_y t
  replace n_z := lkeep n_z t
  clear hB t c_x_0 c_x_1 u_old
  have c_y_0 := lcell n_y 0 (v := .int .i64 y0) rfl
  have c_y_1 := lcell n_y 1 (v := .int .i64 y1) rfl
  have l_y := lt_of_block n_y
  go_wp2_with fail
  with_reducible refine (CY.o _).mono ?_
  rintro e v2 ⟨b, sb, rfl, hB⟩
  obtain ⟨t, n_a⟩ := lstep hB
  have u_old := u
  replace u := u.trans (t.mono u.size)
  replace n_x := lkeep n_x t
  replace n_y := lkeep n_y t
  replace n_z := lkeep n_z t
  clear hB t c_y_0 c_y_1 l_y u_old
  have c_z_0 := lcell n_z 0 (v := .int .i64 z0) rfl
  have c_z_1 := lcell n_z 1 (v := .int .i64 z1) rfl
  have l_z := lt_of_block n_z
  go_wp2_with fail
  with_reducible refine (CZ.o _).mono ?_
  rintro e v3 ⟨c, sc, rfl, hB⟩
  obtain ⟨t, n_b⟩ := lstep hB
  have u_old := u
  replace u := u.trans (t.mono u.size)
  replace n_x := lkeep n_x t
  replace n_y := lkeep n_y t
  replace n_z := lkeep n_z t
  replace n_a := lkeep n_a t
  clear hB t c_z_0 c_z_1 l_z u_old
  obtain ⟨r0, r1, r2, r3, s1, s3, g0, g1, g2, g3, h0, h1, h2, h3, one, two, left, ac, sum, whole, back, again, K1, K2, K3, K4, K5, K6, K7, K8, K9, K10, K11, K12, L1, L2, L3, L4, L5, L6⟩ := field_facts a b c sa.ino sb.ino sc.ino
  obtain ⟨hr0, hr2⟩ := L1 sa sb
  have HR0 : Shut _ := ⟨hr0⟩
  have HR2 : Shut _ := ⟨hr2⟩
  clear hr0 hr2
  replace K1 : Shut _ := ⟨K1⟩
  replace K2 : Shut _ := ⟨K2⟩
  replace K3 : Shut _ := ⟨K3⟩
  replace K4 : Shut _ := ⟨K4⟩
  replace K5 : Shut _ := ⟨K5⟩
  replace K6 : Shut _ := ⟨K6⟩
  replace K7 : Shut _ := ⟨K7⟩
  replace K8 : Shut _ := ⟨K8⟩
  replace K9 : Shut _ := ⟨K9⟩
  replace K10 : Shut _ := ⟨K10⟩
  replace K11 : Shut _ := ⟨K11⟩
  replace K12 : Shut _ := ⟨K12⟩
  replace L2 : Shut _ := ⟨L2⟩
  replace L3 : Shut _ := ⟨L3⟩
  replace L4 : Shut _ := ⟨L4⟩
  replace L5 : Shut _ := ⟨L5⟩
  replace L6 : Shut _ := ⟨L6⟩
  clear L1 sa sb sc CX CY CZ CLX CLY
  clear n_x
  clear n_y
  clear n_z
  have c_a_0 := lcell n_a 0 (v := .string (sn a)) rfl
  have c_a_1 := lcell n_a 1 (v := .string (sd a)) rfl
  have c_b_0 := lcell n_b 0 (v := .string (sn b)) rfl
  have c_b_1 := lcell n_b 1 (v := .string (sd b)) rfl
  have l_a := lt_of_block n_a
  have l_b := lt_of_block n_b
  go_wp2_with fail
  with_reducible refine (K1.o.run _).mono ?_
  rintro e v4 ⟨rfl, hB⟩
  obtain ⟨t, n_c⟩ := lstep hB
  have u_old := u
  replace u := u.trans (t.mono u.size)
  replace n_a := lkeep n_a t
  replace n_b := lkeep n_b t
  clear hB t c_a_0 c_a_1 c_b_0 c_b_1 l_a l_b u_old
  have c_a_0 := lcell n_a 0 (v := .string (sn a)) rfl
  have c_a_1 := lcell n_a 1 (v := .string (sd a)) rfl
  have c_b_0 := lcell n_b 0 (v := .string (sn b)) rfl
  have c_b_1 := lcell n_b 1 (v := .string (sd b)) rfl
  have l_a := lt_of_block n_a
  have l_b := lt_of_block n_b
  go_wp2_with fail
  with_reducible refine (K2.o.run _).mono ?_
  rintro e v5 ⟨rfl, hB⟩
  obtain ⟨t, n_r, n_e⟩ := lstep2 hB
  have u_old := u
  replace u := u.trans (t.mono u.size)
  replace n_a := lkeep n_a t
  replace n_b := lkeep n_b t
  replace n_c := lkeep n_c t
  clear hB t c_a_0 c_a_1 c_b_0 c_b_1 l_a l_b u_old
  go_upto_region 10 with fail
  have t := ((Below.refl v5.heap.size v5).alloc (Nat.le_refl _) (.cells #[.string (sn r0), .string (sd r0), .string (sn s1), .string (sd s1), .string (sn r2), .string (sd r2), .string (sn s3), .string (sd s3)] 31)).alloc (by simp) (.cells #[.int .i64 (cd r0), .int .i64 (cd s1), .int .i64 (cd r2), .int .i64 (cd s3)] 33)
  have u_old := u
  replace u := u.trans (t.mono u.size)
  replace n_a := lkeep n_a t
  replace n_b := lkeep n_b t
  replace n_c := lkeep n_c t
  replace n_r := lkeep n_r t
  replace n_e := lkeep n_e t
  have n_s := res_old v5 (.cells #[.string (sn r0), .string (sd r0), .string (sn s1), .string (sd s1), .string (sn r2), .string (sd r2), .string (sn s3), .string (sd s3)] 31) (.cells #[.int .i64 (cd r0), .int .i64 (cd s1), .int .i64 (cd r2), .int .i64 (cd s3)] 33)
  have n_f := res_two v5 (.cells #[.string (sn r0), .string (sd r0), .string (sn s1), .string (sd s1), .string (sn r2), .string (sd r2), .string (sn s3), .string (sd s3)] 31) (.cells #[.int .i64 (cd r0), .int .i64 (cd s1), .int .i64 (cd r2), .int .i64 (cd s3)] 33)
  clear t u_old
  generalize ((v5.alloc (.cells #[.string (sn r0), .string (sd r0), .string (sn s1), .string (sd s1), .string (sn r2), .string (sd r2), .string (sn s3), .string (sd s3)] 31)).alloc (.cells #[.int .i64 (cd r0), .int .i64 (cd s1), .int .i64 (cd r2), .int .i64 (cd s3)] 33)) = v6 at *
  have c_r_0 := lcell n_r 0 (v := .string (sn r0)) rfl
  have c_r_1 := lcell n_r 1 (v := .string (sd r0)) rfl
  have c_s_0 := lcell n_s 0 (v := .string (sn r0)) rfl
  have c_s_1 := lcell n_s 1 (v := .string (sd r0)) rfl
  have c_r_4 := lcell n_r 4 (v := .string (sn r2)) rfl
  have c_r_5 := lcell n_r 5 (v := .string (sd r2)) rfl
  have c_s_4 := lcell n_s 4 (v := .string (sn r2)) rfl
  have c_s_5 := lcell n_s 5 (v := .string (sd r2)) rfl
  have c_e_0 := lcell n_e 0 (v := .int .i64 (cd r0)) rfl
  have c_f_0 := lcell n_f 0 (v := .int .i64 (cd r0)) rfl
  have c_e_2 := lcell n_e 2 (v := .int .i64 (cd r2)) rfl
  have c_f_2 := lcell n_f 2 (v := .int .i64 (cd r2)) rfl
  go_cut [108] from 69 to 108 (fun s wx => s = .bool false ∧ wx = v6)
  case first =>
    have B8 : (cd r0 == 0) = true := by rw [HR0.o]; rfl
    have D8 : (cd r0 != 0) = false := by rw [HR0.o]; rfl
    have B9 : (cd r2 == 0) = true := by rw [HR2.o]; rfl
    have D9 : (cd r2 != 0) = false := by rw [HR2.o]; rfl
    go_wp2_with fail
    go_meet
    exact ⟨rfl, rfl⟩
  obtain ⟨rfl, hw⟩ := hcut
  rw [hw]
  clear hw c_r_0 c_r_1 c_s_0 c_s_1 c_r_4 c_r_5 c_s_4 c_s_5 c_e_0 c_f_0 c_e_2 c_f_2
  clear n_s
  clear n_f
  have c_b_0 := lcell n_b 0 (v := .string (sn b)) rfl
  have c_b_1 := lcell n_b 1 (v := .string (sd b)) rfl
  have c_c_0 := lcell n_c 0 (v := .string (sn c)) rfl
  have c_c_1 := lcell n_c 1 (v := .string (sd c)) rfl
  go_wp2_with fail
  with_reducible refine (K3.o.run _).mono ?_
  rintro e v7 ⟨rfl, hB⟩
  have t := hB
  have u_old := u
  replace u := u.trans (t.mono u.size)
  replace n_a := lkeep n_a t
  replace n_b := lkeep n_b t
  replace n_c := lkeep n_c t
  replace n_r := lkeep n_r t
  replace n_e := lkeep n_e t
  clear hB t c_b_0 c_b_1 c_c_0 c_c_1 u_old
  have c_r_0 := lcell n_r 0 (v := .string (sn r0)) rfl
  have c_r_1 := lcell n_r 1 (v := .string (sd r0)) rfl
  have c_c_0 := lcell n_c 0 (v := .string (sn c)) rfl
  have c_c_1 := lcell n_c 1 (v := .string (sd c)) rfl
  have l_r := lt_of_block n_r
  have l_c := lt_of_block n_c
  go_wp2_with fail
  with_reducible refine (K4.o.run _).mono ?_
  rintro e v8 ⟨rfl, hB⟩
  obtain ⟨t, n_bc, n_g⟩ := lstep2 hB
  have u_old := u
  replace u := u.trans (t.mono u.size)
  replace n_a := lkeep n_a t
  replace n_b := lkeep n_b t
  replace n_c := lkeep n_c t
  replace n_r := lkeep n_r t
  replace n_e := lkeep n_e t
  clear hB t c_r_0 c_r_1 c_c_0 c_c_1 l_r l_c u_old
  have c_a_0 := lcell n_a 0 (v := .string (sn a)) rfl
  have c_a_1 := lcell n_a 1 (v := .string (sd a)) rfl
  have c_bc_0 := lcell n_bc 0 (v := .string (sn g0)) rfl
  have c_bc_1 := lcell n_bc 1 (v := .string (sd g0)) rfl
  have l_a := lt_of_block n_a
  have l_bc := lt_of_block n_bc
  go_wp2_with fail
  with_reducible refine (K5.o.run _).mono ?_
  rintro e v9 ⟨rfl, hB⟩
  obtain ⟨t, n_ab, n_h⟩ := lstep2 hB
  have u_old := u
  replace u := u.trans (t.mono u.size)
  replace n_a := lkeep n_a t
  replace n_b := lkeep n_b t
  replace n_c := lkeep n_c t
  replace n_r := lkeep n_r t
  replace n_e := lkeep n_e t
  replace n_bc := lkeep n_bc t
  replace n_g := lkeep n_g t
  clear hB t c_a_0 c_a_1 c_bc_0 c_bc_1 l_a l_bc u_old
  go_upto_region 15 with fail
  have t := (Below.refl v9.heap.size v9).alloc (Nat.le_refl _) (.cells #[.string (sn one), .string (sd one)] 23)
  have u_old := u
  replace u := u.trans (t.mono u.size)
  replace n_a := lkeep n_a t
  replace n_b := lkeep n_b t
  replace n_c := lkeep n_c t
  replace n_r := lkeep n_r t
  replace n_e := lkeep n_e t
  replace n_bc := lkeep n_bc t
  replace n_g := lkeep n_g t
  replace n_ab := lkeep n_ab t
  replace n_h := lkeep n_h t
  have n_one := World.alloc_heap_new v9 (.cells #[.string (sn one), .string (sd one)] 23)
  clear t u_old
  generalize (v9.alloc (.cells #[.string (sn one), .string (sd one)] 23)) = v10 at *
  have c_e_0 := lcell n_e 0 (v := .int .i64 (cd r0)) rfl
  have c_g_0 := lcell n_g 0 (v := .int .i64 (cd g0)) rfl
  have c_h_0 := lcell n_h 0 (v := .int .i64 (cd h0)) rfl
  have c_ab_0 := lcell n_ab 0 (v := .string (sn h0)) rfl
  have c_ab_1 := lcell n_ab 1 (v := .string (sd h0)) rfl
  have c_one_0 := lcell n_one 0 (v := .string (sn one)) rfl
  have c_one_1 := lcell n_one 1 (v := .string (sd one)) rfl
  go_cut [151] from 129 to 151 (fun s wx => s = .bool false ∧ wx = v10)
  case first =>
    by_cases h : cd r0 = 0
    · have B0 : (cd r0 == 0) = true := by rw [h]; rfl
      have D0 : (cd r0 != 0) = false := by rw [h]; rfl
      have H0 : Shut _ := ⟨h⟩
      clear h
      by_cases h : cd g0 = 0
      · have B1 : (cd g0 == 0) = true := by rw [h]; rfl
        have D1 : (cd g0 != 0) = false := by rw [h]; rfl
        have H1 : Shut _ := ⟨h⟩
        clear h
        by_cases h : cd h0 = 0
        · have B2 : (cd h0 == 0) = true := by rw [h]; rfl
          have D2 : (cd h0 != 0) = false := by rw [h]; rfl
          have H2 : Shut _ := ⟨h⟩
          clear h
          by_cases h : cd one = 0
          · have B3 : (cd one == 0) = true := by rw [h]; rfl
            have D3 : (cd one != 0) = false := by rw [h]; rfl
            have H3 : Shut _ := ⟨h⟩
            clear h
            have qq := L2.o H0.o H1.o H2.o H3.o
            have EE : (sn h0).toList = (sn one).toList := by rw [qq]
            have FF : (sd h0).toList = (sd one).toList := by rw [qq]
            clear qq
            go_wp2_with fail
            go_meet
            exact ⟨rfl, rfl⟩
          · have B3 : (cd one == 0) = false := by rw [beq_eq_false_iff_ne]; exact h
            have D3 : (cd one != 0) = true := by rw [bne_iff_ne]; exact h
            clear h
            go_wp2_with fail
            go_meet
            exact ⟨rfl, rfl⟩
        · have B2 : (cd h0 == 0) = false := by rw [beq_eq_false_iff_ne]; exact h
          have D2 : (cd h0 != 0) = true := by rw [bne_iff_ne]; exact h
          clear h
          go_wp2_with fail
          go_meet
          exact ⟨rfl, rfl⟩
      · have B1 : (cd g0 == 0) = false := by rw [beq_eq_false_iff_ne]; exact h
        have D1 : (cd g0 != 0) = true := by rw [bne_iff_ne]; exact h
        clear h
        go_wp2_with fail
        go_meet
        exact ⟨rfl, rfl⟩
    · have B0 : (cd r0 == 0) = false := by rw [beq_eq_false_iff_ne]; exact h
      have D0 : (cd r0 != 0) = true := by rw [bne_iff_ne]; exact h
      clear h
      go_wp2_with fail
      go_meet
      exact ⟨rfl, rfl⟩
  obtain ⟨rfl, hw⟩ := hcut
  rw [hw]
  clear hw c_e_0 c_g_0 c_h_0 c_ab_0 c_ab_1 c_one_0 c_one_1
  clear n_one
  clear n_ab
  clear n_h
  have c_a_0 := lcell n_a 0 (v := .string (sn a)) rfl
  have c_a_1 := lcell n_a 1 (v := .string (sd a)) rfl
  have c_bc_4 := lcell n_bc 4 (v := .string (sn g2)) rfl
  have c_bc_5 := lcell n_bc 5 (v := .string (sd g2)) rfl
  go_wp2_with fail
  with_reducible refine (K6.o.run _).mono ?_
  rintro e v11 ⟨rfl, hB⟩
  have t := hB
  have u_old := u
  replace u := u.trans (t.mono u.size)
  replace n_a := lkeep n_a t
  replace n_b := lkeep n_b t
  replace n_c := lkeep n_c t
  replace n_r := lkeep n_r t
  replace n_e := lkeep n_e t
  replace n_bc := lkeep n_bc t
  replace n_g := lkeep n_g t
  clear hB t c_a_0 c_a_1 c_bc_4 c_bc_5 u_old
  have c_r_4 := lcell n_r 4 (v := .string (sn r2)) rfl
  have c_r_5 := lcell n_r 5 (v := .string (sd r2)) rfl
  have c_c_0 := lcell n_c 0 (v := .string (sn c)) rfl
  have c_c_1 := lcell n_c 1 (v := .string (sd c)) rfl
  have l_r := lt_of_block n_r
  have l_c := lt_of_block n_c
  go_wp2_with fail
  with_reducible refine (K7.o.run _).mono ?_
  rintro e v12 ⟨rfl, hB⟩
  obtain ⟨t, n_two⟩ := lstep hB
  have u_old := u
  replace u := u.trans (t.mono u.size)
  replace n_a := lkeep n_a t
  replace n_b := lkeep n_b t
  replace n_c := lkeep n_c t
  replace n_r := lkeep n_r t
  replace n_e := lkeep n_e t
  replace n_bc := lkeep n_bc t
  replace n_g := lkeep n_g t
  clear hB t c_r_4 c_r_5 c_c_0 c_c_1 l_r l_c u_old
  go_upto_region 19 with fail
  have t := (Below.refl v12.heap.size v12).alloc (Nat.le_refl _) (.cells #[.string (sn left), .string (sd left)] 23)
  have u_old := u
  replace u := u.trans (t.mono u.size)
  replace n_a := lkeep n_a t
  replace n_b := lkeep n_b t
  replace n_c := lkeep n_c t
  replace n_r := lkeep n_r t
  replace n_e := lkeep n_e t
  replace n_bc := lkeep n_bc t
  replace n_g := lkeep n_g t
  replace n_two := lkeep n_two t
  have n_left := World.alloc_heap_new v12 (.cells #[.string (sn left), .string (sd left)] 23)
  clear t u_old
  generalize (v12.alloc (.cells #[.string (sn left), .string (sd left)] 23)) = v13 at *
  have c_e_2 := lcell n_e 2 (v := .int .i64 (cd r2)) rfl
  have c_g_2 := lcell n_g 2 (v := .int .i64 (cd g2)) rfl
  have c_two_0 := lcell n_two 0 (v := .string (sn two)) rfl
  have c_two_1 := lcell n_two 1 (v := .string (sd two)) rfl
  have c_left_0 := lcell n_left 0 (v := .string (sn left)) rfl
  have c_left_1 := lcell n_left 1 (v := .string (sd left)) rfl
  go_cut [186] from 166 to 186 (fun s wx => s = .bool false ∧ wx = v13)
  case first =>
    by_cases h : cd r2 = 0
    · have B0 : (cd r2 == 0) = true := by rw [h]; rfl
      have D0 : (cd r2 != 0) = false := by rw [h]; rfl
      have H0 : Shut _ := ⟨h⟩
      clear h
      by_cases h : cd g2 = 0
      · have B1 : (cd g2 == 0) = true := by rw [h]; rfl
        have D1 : (cd g2 != 0) = false := by rw [h]; rfl
        have H1 : Shut _ := ⟨h⟩
        clear h
        by_cases h : cd two = 0
        · have B2 : (cd two == 0) = true := by rw [h]; rfl
          have D2 : (cd two != 0) = false := by rw [h]; rfl
          have H2 : Shut _ := ⟨h⟩
          clear h
          by_cases h : cd left = 0
          · have B3 : (cd left == 0) = true := by rw [h]; rfl
            have D3 : (cd left != 0) = false := by rw [h]; rfl
            have H3 : Shut _ := ⟨h⟩
            clear h
            have qq := L3.o H0.o H1.o H2.o H3.o
            have EE : (sn two).toList = (sn left).toList := by rw [qq]
            have FF : (sd two).toList = (sd left).toList := by rw [qq]
            clear qq
            go_wp2_with fail
            go_meet
            exact ⟨rfl, rfl⟩
          · have B3 : (cd left == 0) = false := by rw [beq_eq_false_iff_ne]; exact h
            have D3 : (cd left != 0) = true := by rw [bne_iff_ne]; exact h
            clear h
            go_wp2_with fail
            go_meet
            exact ⟨rfl, rfl⟩
        · have B2 : (cd two == 0) = false := by rw [beq_eq_false_iff_ne]; exact h
          have D2 : (cd two != 0) = true := by rw [bne_iff_ne]; exact h
          clear h
          go_wp2_with fail
          go_meet
          exact ⟨rfl, rfl⟩
      · have B1 : (cd g2 == 0) = false := by rw [beq_eq_false_iff_ne]; exact h
        have D1 : (cd g2 != 0) = true := by rw [bne_iff_ne]; exact h
        clear h
        go_wp2_with fail
        go_meet
        exact ⟨rfl, rfl⟩
    · have B0 : (cd r2 == 0) = false := by rw [beq_eq_false_iff_ne]; exact h
      have D0 : (cd r2 != 0) = true := by rw [bne_iff_ne]; exact h
      clear h
      go_wp2_with fail
      go_meet
      exact ⟨rfl, rfl⟩
  obtain ⟨rfl, hw⟩ := hcut
  rw [hw]
  clear hw c_e_2 c_g_2 c_two_0 c_two_1 c_left_0 c_left_1
  clear n_two
  clear n_left
  have c_a_0 := lcell n_a 0 (v := .string (sn a)) rfl
  have c_a_1 := lcell n_a 1 (v := .string (sd a)) rfl
  have c_c_0 := lcell n_c 0 (v := .string (sn c)) rfl
  have c_c_1 := lcell n_c 1 (v := .string (sd c)) rfl
  go_wp2_with fail
  with_reducible refine (K8.o.run _).mono ?_
  rintro e v14 ⟨rfl, hB⟩
  have t := hB
  have u_old := u
  replace u := u.trans (t.mono u.size)
  replace n_a := lkeep n_a t
  replace n_b := lkeep n_b t
  replace n_c := lkeep n_c t
  replace n_r := lkeep n_r t
  replace n_e := lkeep n_e t
  replace n_bc := lkeep n_bc t
  replace n_g := lkeep n_g t
  clear hB t c_a_0 c_a_1 c_c_0 c_c_1 u_old
  have c_bc_4 := lcell n_bc 4 (v := .string (sn g2)) rfl
  have c_bc_5 := lcell n_bc 5 (v := .string (sd g2)) rfl
  have l_bc := lt_of_block n_bc
  go_wp2_with fail
  with_reducible refine (K9.o.run _).mono ?_
  rintro e v15 ⟨rfl, hB⟩
  obtain ⟨t, n_ac⟩ := lstep hB
  have u_old := u
  replace u := u.trans (t.mono u.size)
  replace n_a := lkeep n_a t
  replace n_b := lkeep n_b t
  replace n_c := lkeep n_c t
  replace n_r := lkeep n_r t
  replace n_e := lkeep n_e t
  replace n_bc := lkeep n_bc t
  replace n_g := lkeep n_g t
  clear hB t c_bc_4 c_bc_5 l_bc u_old
  have c_r_0 := lcell n_r 0 (v := .string (sn r0)) rfl
  have c_r_1 := lcell n_r 1 (v := .string (sd r0)) rfl
  have c_c_0 := lcell n_c 0 (v := .string (sn c)) rfl
  have c_c_1 := lcell n_c 1 (v := .string (sd c)) rfl
  have l_r := lt_of_block n_r
  have l_c := lt_of_block n_c
  go_wp2_with fail
  with_reducible refine (K10.o.run _).mono ?_
  rintro e v16 ⟨rfl, hB⟩
  obtain ⟨t, n_sum⟩ := lstep hB
  have u_old := u
  replace u := u.trans (t.mono u.size)
  replace n_a := lkeep n_a t
  replace n_b := lkeep n_b t
  replace n_c := lkeep n_c t
  replace n_r := lkeep n_r t
  replace n_e := lkeep n_e t
  replace n_bc := lkeep n_bc t
  replace n_g := lkeep n_g t
  replace n_ac := lkeep n_ac t
  clear hB t c_r_0 c_r_1 c_c_0 c_c_1 l_r l_c u_old
  go_upto_region 24 with fail
  have t := (Below.refl v16.heap.size v16).alloc (Nat.le_refl _) (.cells #[.string (sn whole), .string (sd whole)] 23)
  have u_old := u
  replace u := u.trans (t.mono u.size)
  replace n_a := lkeep n_a t
  replace n_b := lkeep n_b t
  replace n_c := lkeep n_c t
  replace n_r := lkeep n_r t
  replace n_e := lkeep n_e t
  replace n_bc := lkeep n_bc t
  replace n_g := lkeep n_g t
  replace n_ac := lkeep n_ac t
  replace n_sum := lkeep n_sum t
  have n_whole := World.alloc_heap_new v16 (.cells #[.string (sn whole), .string (sd whole)] 23)
  clear t u_old
  generalize (v16.alloc (.cells #[.string (sn whole), .string (sd whole)] 23)) = v17 at *
  have c_e_0 := lcell n_e 0 (v := .int .i64 (cd r0)) rfl
  have c_g_2 := lcell n_g 2 (v := .int .i64 (cd g2)) rfl
  have c_sum_0 := lcell n_sum 0 (v := .string (sn sum)) rfl
  have c_sum_1 := lcell n_sum 1 (v := .string (sd sum)) rfl
  have c_whole_0 := lcell n_whole 0 (v := .string (sn whole)) rfl
  have c_whole_1 := lcell n_whole 1 (v := .string (sd whole)) rfl
  go_cut [231] from 207 to 231 (fun s wx => s = .bool false ∧ wx = v17)
  case first =>
    by_cases h : cd r0 = 0
    · have B0 : (cd r0 == 0) = true := by rw [h]; rfl
      have D0 : (cd r0 != 0) = false := by rw [h]; rfl
      have H0 : Shut _ := ⟨h⟩
      clear h
      by_cases h : cd ac = 0
      · have B1 : (cd ac == 0) = true := by rw [h]; rfl
        have D1 : (cd ac != 0) = false := by rw [h]; rfl
        have H1 : Shut _ := ⟨h⟩
        clear h
        by_cases h : cd g2 = 0
        · have B2 : (cd g2 == 0) = true := by rw [h]; rfl
          have D2 : (cd g2 != 0) = false := by rw [h]; rfl
          have H2 : Shut _ := ⟨h⟩
          clear h
          by_cases h : cd sum = 0
          · have B3 : (cd sum == 0) = true := by rw [h]; rfl
            have D3 : (cd sum != 0) = false := by rw [h]; rfl
            have H3 : Shut _ := ⟨h⟩
            clear h
            by_cases h : cd whole = 0
            · have B4 : (cd whole == 0) = true := by rw [h]; rfl
              have D4 : (cd whole != 0) = false := by rw [h]; rfl
              have H4 : Shut _ := ⟨h⟩
              clear h
              have qq := L4.o H0.o H1.o H2.o H3.o H4.o
              have EE : (sn sum).toList = (sn whole).toList := by rw [qq]
              have FF : (sd sum).toList = (sd whole).toList := by rw [qq]
              clear qq
              go_wp2_with fail
              go_meet
              exact ⟨rfl, rfl⟩
            · have B4 : (cd whole == 0) = false := by rw [beq_eq_false_iff_ne]; exact h
              have D4 : (cd whole != 0) = true := by rw [bne_iff_ne]; exact h
              clear h
              go_wp2_with fail
              go_meet
              exact ⟨rfl, rfl⟩
          · have B3 : (cd sum == 0) = false := by rw [beq_eq_false_iff_ne]; exact h
            have D3 : (cd sum != 0) = true := by rw [bne_iff_ne]; exact h
            clear h
            go_wp2_with fail
            go_meet
            exact ⟨rfl, rfl⟩
        · have B2 : (cd g2 == 0) = false := by rw [beq_eq_false_iff_ne]; exact h
          have D2 : (cd g2 != 0) = true := by rw [bne_iff_ne]; exact h
          clear h
          go_wp2_with fail
          go_meet
          exact ⟨rfl, rfl⟩
      · have B1 : (cd ac == 0) = false := by rw [beq_eq_false_iff_ne]; exact h
        have D1 : (cd ac != 0) = true := by rw [bne_iff_ne]; exact h
        clear h
        go_wp2_with fail
        go_meet
        exact ⟨rfl, rfl⟩
    · have B0 : (cd r0 == 0) = false := by rw [beq_eq_false_iff_ne]; exact h
      have D0 : (cd r0 != 0) = true := by rw [bne_iff_ne]; exact h
      clear h
      go_wp2_with fail
      go_meet
      exact ⟨rfl, rfl⟩
  obtain ⟨rfl, hw⟩ := hcut
  rw [hw]
  clear hw c_e_0 c_g_2 c_sum_0 c_sum_1 c_whole_0 c_whole_1
  clear n_sum
  clear n_whole
  clear n_ac
  clear n_bc
  clear n_g
  clear n_c
  have c_r_0 := lcell n_r 0 (v := .string (sn r0)) rfl
  have c_r_1 := lcell n_r 1 (v := .string (sd r0)) rfl
  have c_b_0 := lcell n_b 0 (v := .string (sn b)) rfl
  have c_b_1 := lcell n_b 1 (v := .string (sd b)) rfl
  go_wp2_with fail
  with_reducible refine (K11.o.run _).mono ?_
  rintro e v18 ⟨rfl, hB⟩
  have t := hB
  have u_old := u
  replace u := u.trans (t.mono u.size)
  replace n_a := lkeep n_a t
  replace n_b := lkeep n_b t
  replace n_r := lkeep n_r t
  replace n_e := lkeep n_e t
  clear hB t c_r_0 c_r_1 c_b_0 c_b_1 u_old
  have c_r_6 := lcell n_r 6 (v := .string (sn r3)) rfl
  have c_r_7 := lcell n_r 7 (v := .string (sd r3)) rfl
  have c_b_0 := lcell n_b 0 (v := .string (sn b)) rfl
  have c_b_1 := lcell n_b 1 (v := .string (sd b)) rfl
  have l_r := lt_of_block n_r
  have l_b := lt_of_block n_b
  go_wp2_with fail
  with_reducible refine (K12.o.run _).mono ?_
  rintro e v19 ⟨rfl, hB⟩
  obtain ⟨t, n_back⟩ := lstep hB
  have u_old := u
  replace u := u.trans (t.mono u.size)
  replace n_a := lkeep n_a t
  replace n_b := lkeep n_b t
  replace n_r := lkeep n_r t
  replace n_e := lkeep n_e t
  clear hB t c_r_6 c_r_7 c_b_0 c_b_1 l_r l_b u_old
  go_upto_region 28 with fail
  have t := (Below.refl v19.heap.size v19).alloc (Nat.le_refl _) (.cells #[.string (sn again), .string (sd again)] 23)
  have u_old := u
  replace u := u.trans (t.mono u.size)
  replace n_a := lkeep n_a t
  replace n_b := lkeep n_b t
  replace n_r := lkeep n_r t
  replace n_e := lkeep n_e t
  replace n_back := lkeep n_back t
  have n_again := World.alloc_heap_new v19 (.cells #[.string (sn again), .string (sd again)] 23)
  clear t u_old
  generalize (v19.alloc (.cells #[.string (sn again), .string (sd again)] 23)) = v20 at *
  have c_e_0 := lcell n_e 0 (v := .int .i64 (cd r0)) rfl
  have c_e_3 := lcell n_e 3 (v := .int .i64 (cd r3)) rfl
  have c_back_0 := lcell n_back 0 (v := .string (sn back)) rfl
  have c_back_1 := lcell n_back 1 (v := .string (sd back)) rfl
  have c_a_0 := lcell n_a 0 (v := .string (sn a)) rfl
  have c_a_1 := lcell n_a 1 (v := .string (sd a)) rfl
  have c_again_0 := lcell n_again 0 (v := .string (sn again)) rfl
  have c_again_1 := lcell n_again 1 (v := .string (sd again)) rfl
  replace u : Shut _ := ⟨u⟩
  by_cases h : cd r0 = 0
  · have B0 : (cd r0 == 0) = true := by rw [h]; rfl
    have D0 : (cd r0 != 0) = false := by rw [h]; rfl
    have H0 : Shut _ := ⟨h⟩
    clear h
    by_cases h : cd back = 0
    · have B1 : (cd back == 0) = true := by rw [h]; rfl
      have D1 : (cd back != 0) = false := by rw [h]; rfl
      have H1 : Shut _ := ⟨h⟩
      clear h
      have q0 := L5.o H0.o H1.o
      have E0 : (sn back).toList = (sn a).toList := by rw [q0]
      have F0 : (sd back).toList = (sd a).toList := by rw [q0]
      clear q0
      by_cases h : cd r3 = 0
      · have B2 : (cd r3 == 0) = true := by rw [h]; rfl
        have D2 : (cd r3 != 0) = false := by rw [h]; rfl
        have H2 : Shut _ := ⟨h⟩
        clear h
        by_cases h : cd again = 0
        · have B3 : (cd again == 0) = true := by rw [h]; rfl
          have D3 : (cd again != 0) = false := by rw [h]; rfl
          have H3 : Shut _ := ⟨h⟩
          clear h
          have q2 := L6.o H2.o H3.o
          have E2 : (sn again).toList = (sn a).toList := by rw [q2]
          have F2 : (sd again).toList = (sd a).toList := by rw [q2]
          clear q2
          go_wp2
          go_ret
          exact ⟨rfl, u.o⟩
        · have B3 : (cd again == 0) = false := by rw [beq_eq_false_iff_ne]; exact h
          have D3 : (cd again != 0) = true := by rw [bne_iff_ne]; exact h
          clear h
          go_wp2
          go_ret
          exact ⟨rfl, u.o⟩
      · have B2 : (cd r3 == 0) = false := by rw [beq_eq_false_iff_ne]; exact h
        have D2 : (cd r3 != 0) = true := by rw [bne_iff_ne]; exact h
        clear h
        go_wp2
        go_ret
        exact ⟨rfl, u.o⟩
    · have B1 : (cd back == 0) = false := by rw [beq_eq_false_iff_ne]; exact h
      have D1 : (cd back != 0) = true := by rw [bne_iff_ne]; exact h
      clear h
      by_cases h : cd r3 = 0
      · have B2 : (cd r3 == 0) = true := by rw [h]; rfl
        have D2 : (cd r3 != 0) = false := by rw [h]; rfl
        have H2 : Shut _ := ⟨h⟩
        clear h
        by_cases h : cd again = 0
        · have B3 : (cd again == 0) = true := by rw [h]; rfl
          have D3 : (cd again != 0) = false := by rw [h]; rfl
          have H3 : Shut _ := ⟨h⟩
          clear h
          have q2 := L6.o H2.o H3.o
          have E2 : (sn again).toList = (sn a).toList := by rw [q2]
          have F2 : (sd again).toList = (sd a).toList := by rw [q2]
          clear q2
          go_wp2
          go_ret
          exact ⟨rfl, u.o⟩
        · have B3 : (cd again == 0) = false := by rw [beq_eq_false_iff_ne]; exact h
          have D3 : (cd again != 0) = true := by rw [bne_iff_ne]; exact h
          clear h
          go_wp2
          go_ret
          exact ⟨rfl, u.o⟩
      · have B2 : (cd r3 == 0) = false := by rw [beq_eq_false_iff_ne]; exact h
        have D2 : (cd r3 != 0) = true := by rw [bne_iff_ne]; exact h
        clear h
        go_wp2
        go_ret
        exact ⟨rfl, u.o⟩
  · have B0 : (cd r0 == 0) = false := by rw [beq_eq_false_iff_ne]; exact h
    have D0 : (cd r0 != 0) = true := by rw [bne_iff_ne]; exact h
    clear h
    by_cases h : cd r3 = 0
    · have B2 : (cd r3 == 0) = true := by rw [h]; rfl
      have D2 : (cd r3 != 0) = false := by rw [h]; rfl
      have H2 : Shut _ := ⟨h⟩
      clear h
      by_cases h : cd again = 0
      · have B3 : (cd again == 0) = true := by rw [h]; rfl
        have D3 : (cd again != 0) = false := by rw [h]; rfl
        have H3 : Shut _ := ⟨h⟩
        clear h
        have q2 := L6.o H2.o H3.o
        have E2 : (sn again).toList = (sn a).toList := by rw [q2]
        have F2 : (sd again).toList = (sd a).toList := by rw [q2]
        clear q2
        go_wp2
        go_ret
        exact ⟨rfl, u.o⟩
      · have B3 : (cd again == 0) = false := by rw [beq_eq_false_iff_ne]; exact h
        have D3 : (cd again != 0) = true := by rw [bne_iff_ne]; exact h
        clear h
        go_wp2
        go_ret
        exact ⟨rfl, u.o⟩
    · have B2 : (cd r3 == 0) = false := by rw [beq_eq_false_iff_ne]; exact h
      have D2 : (cd r3 != 0) = true := by rw [bne_iff_ne]; exact h
      clear h
      go_wp2
      go_ret
      exact ⟨rfl, u.o⟩
end Rt
end Go.Proofs.YtofcihnihpfljaaGreat
namespace Go.Proofs.YtofcihnihpfljaaGreat
set_option maxRecDepth 1000000
namespace Rt
open Go.RowKit Go.Proofs.YtofcihnihpfljaaGreat.Nm
open N10 (Two)

set_option maxHeartbeats 8000000 in
theorem field_long (x0 x1 x2 x3 y0 y1 y2 y3 z0 z1 : Int) (hx0 : -9223372036854775808 ≤ x0 ∧ x0 ≤ 9223372036854775807) (hx1 : -9223372036854775808 ≤ x1 ∧ x1 ≤ 9223372036854775807) (hx2 : -9223372036854775808 ≤ x2 ∧ x2 ≤ 9223372036854775807) (hx3 : -9223372036854775808 ≤ x3 ∧ x3 ≤ 9223372036854775807) (hy0 : -9223372036854775808 ≤ y0 ∧ y0 ≤ 9223372036854775807) (hy1 : -9223372036854775808 ≤ y1 ∧ y1 ≤ 9223372036854775807) (hy2 : -9223372036854775808 ≤ y2 ∧ y2 ≤ 9223372036854775807) (hy3 : -9223372036854775808 ≤ y3 ∧ y3 ≤ 9223372036854775807) (hz0 : -9223372036854775808 ≤ z0 ∧ z0 ≤ 9223372036854775807) (hz1 : -9223372036854775808 ≤ z1 ∧ z1 ≤ 9223372036854775807) (w : World)
    (hS : ∀ W : World, Calls Tryz.prog 10 #[] W fun e w' => e = .returned (.bool true) ∧ Below W.heap.size W w') :
    Calls Tryz.prog 6 #[.agg #[.int .i64 x0, .int .i64 x1, .int .i64 x2, .int .i64 x3], .agg #[.int .i64 y0, .int .i64 y1, .int .i64 y2, .int .i64 y3], .agg #[.int .i64 z0, .int .i64 z1], .bool true] w fun e w' => e = .returned (.bool true) ∧ Below w.heap.size w w' := by
  have CX : Shut _ := ⟨fun W => Small_O x0 x1 hx0 hx1 W⟩
  have CY : Shut _ := ⟨fun W => Small_O y0 y1 hy0 hy1 W⟩
  have CZ : Shut _ := ⟨fun W => Small_O z0 z1 hz0 hz1 W⟩
  have CLX : Shut _ := ⟨fun W => Long_O x0 x1 x2 x3 hx0 hx1 hx2 hx3 W⟩
  have CLY : Shut _ := ⟨fun W => Long_O y0 y1 y2 y3 hy0 hy1 hy2 hy3 W⟩
  clear hx0 hx1 hx2 hx3 hy0 hy1 hy2 hy3 hz0 hz1
  go_enter Tryz.func6, Tryz.ntmps6
  go_wp2_with fail
  refine (hS _).mono ?_
  rintro e v0 ⟨rfl, hB⟩
  obtain ⟨u, n_x, n_y, n_z⟩ := lstep3 hB
  clear hB hS
  have c_x_0 := lcell n_x 0 (v := .int .i64 x0) rfl
  have c_x_1 := lcell n_x 1 (v := .int .i64 x1) rfl
  go_wp2_with fail
  with_reducible refine (CX.o _).mono ?_
  rintro e v1 ⟨p, sp, rfl, hB⟩
  have t := hB
  have u_old := u
  replace u := u.trans (t.mono u.size)
  replace n_x := lkeep n_x t
  replace n_y := lkeep n_y t
  replace n_z := lkeep n_z t
  clear hB t c_x_0 c_x_1 u_old
  have la_x := lt_of_block n_x
  have la_y := lt_of_block n_y
  have la_z := lt_of_block n_z
  have c_y_0 := lcell n_y 0 (v := .int .i64 y0) rfl
  have c_y_1 := lcell n_y 1 (v := .int .i64 y1) rfl
  have l_y := lt_of_block n_y
  go_wp2_with fail
  with_reducible refine (CY.o _).mono ?_
  rintro e v2 ⟨q, sq, rfl, hB⟩
  obtain ⟨t, n_a⟩ := lstep hB
  have u_old := u
  replace u := u.trans (t.mono u.size)
  replace n_x := lkeep n_x t
  replace n_y := lkeep n_y t
  replace n_z := lkeep n_z t
  clear hB t c_y_0 c_y_1 l_y u_old
  have lb_x := lt_of_block n_x
  have lb_y := lt_of_block n_y
  have lb_z := lt_of_block n_z
  have lb_a := lt_of_block n_a
  have c_z_0 := lcell n_z 0 (v := .int .i64 z0) rfl
  have c_z_1 := lcell n_z 1 (v := .int .i64 z1) rfl
  have l_z := lt_of_block n_z
  go_wp2_with fail
  with_reducible refine (CZ.o _).mono ?_
  rintro e v3 ⟨c, sc, rfl, hB⟩
  obtain ⟨t, n_b⟩ := lstep hB
  have u_old := u
  replace u := u.trans (t.mono u.size)
  replace n_x := lkeep n_x t
  replace n_y := lkeep n_y t
  replace n_z := lkeep n_z t
  replace n_a := lkeep n_a t
  clear hB t c_z_0 c_z_1 l_z u_old
  have lc_x := lt_of_block n_x
  have lc_y := lt_of_block n_y
  have lc_z := lt_of_block n_z
  have lc_a := lt_of_block n_a
  have lc_b := lt_of_block n_b
  have c_x_0 := lcell n_x 0 (v := .int .i64 x0) rfl
  have c_x_1 := lcell n_x 1 (v := .int .i64 x1) rfl
  have c_x_2 := lcell n_x 2 (v := .int .i64 x2) rfl
  have c_x_3 := lcell n_x 3 (v := .int .i64 x3) rfl
  have l_x := lt_of_block n_x
  go_wp2_with fail
  with_reducible refine (CLX.o _).mono ?_
  rintro e v4 ⟨a, sa, rfl, hB⟩
  obtain ⟨t, n_c⟩ := lstep hB
  have u_old := u
  replace u := u.trans (t.mono u.size)
  replace n_x := lkeep n_x t
  replace n_y := lkeep n_y t
  replace n_z := lkeep n_z t
  replace n_a := lkeep n_a t
  replace n_b := lkeep n_b t
  clear hB t c_x_0 c_x_1 c_x_2 c_x_3 l_x u_old
  have ld_x := lt_of_block n_x
  have ld_y := lt_of_block n_y
  have ld_z := lt_of_block n_z
  have ld_a := lt_of_block n_a
  have ld_b := lt_of_block n_b
  have ld_c := lt_of_block n_c
  obtain ⟨k0, k1, k2, k3⟩ := cell_box n_a
  go_upto_region 7 with fail
  clear k0 k1 k2 k3
  replace n_x := box_other (b := v1.heap.size) (u := .string (sn a)) (v := .string (sd a)) n_x (by omega)
  replace n_y := box_other (b := v1.heap.size) (u := .string (sn a)) (v := .string (sd a)) n_y (by omega)
  replace n_z := box_other (b := v1.heap.size) (u := .string (sn a)) (v := .string (sd a)) n_z (by omega)
  replace n_b := box_other (b := v1.heap.size) (u := .string (sn a)) (v := .string (sd a)) n_b (by omega)
  replace n_c := box_other (b := v1.heap.size) (u := .string (sn a)) (v := .string (sd a)) n_c (by omega)
  replace n_a := box_set (u := .string (sn a)) (v := .string (sd a)) n_a
  replace u := (u.setCell (p := ⟨v1.heap.size, 0, none⟩) (by show _ ≤ v1.heap.size; omega) (.string (sn a))).setCell (p := ⟨v1.heap.size, 1, none⟩) (by show _ ≤ v1.heap.size; omega) (.string (sd a))
  generalize ((v4.setCell ⟨v1.heap.size, 0, none⟩ (.string (sn a))).setCell ⟨v1.heap.size, 1, none⟩ (.string (sd a))) = v5 at *
  have c_y_0 := lcell n_y 0 (v := .int .i64 y0) rfl
  have c_y_1 := lcell n_y 1 (v := .int .i64 y1) rfl
  have c_y_2 := lcell n_y 2 (v := .int .i64 y2) rfl
  have c_y_3 := lcell n_y 3 (v := .int .i64 y3) rfl
  go_wp2_with fail
  with_reducible refine (CLY.o _).mono ?_
  rintro e v6 ⟨b, sb, rfl, hB⟩
  have t := hB
  have u_old := u
  replace u := u.trans (t.mono u.size)
  replace n_x := lkeep n_x t
  replace n_y := lkeep n_y t
  replace n_z := lkeep n_z t
  replace n_a := lkeep n_a t
  replace n_b := lkeep n_b t
  replace n_c := lkeep n_c t
  clear hB t c_y_0 c_y_1 c_y_2 c_y_3 u_old
  obtain ⟨k0, k1, k2, k3⟩ := cell_box n_b
  go_upto_region 8 with fail
  clear k0 k1 k2 k3
  replace n_x := box_other (b := v2.heap.size) (u := .string (sn b)) (v := .string (sd b)) n_x (by omega)
  replace n_y := box_other (b := v2.heap.size) (u := .string (sn b)) (v := .string (sd b)) n_y (by omega)
  replace n_z := box_other (b := v2.heap.size) (u := .string (sn b)) (v := .string (sd b)) n_z (by omega)
  replace n_a := box_other (b := v2.heap.size) (u := .string (sn b)) (v := .string (sd b)) n_a (by omega)
  replace n_c := box_other (b := v2.heap.size) (u := .string (sn b)) (v := .string (sd b)) n_c (by omega)
  replace n_b := box_set (u := .string (sn b)) (v := .string (sd b)) n_b
  replace u := (u.setCell (p := ⟨v2.heap.size, 0, none⟩) (by show _ ≤ v2.heap.size; omega) (.string (sn b))).setCell (p := ⟨v2.heap.size, 1, none⟩) (by show _ ≤ v2.heap.size; omega) (.string (sd b))
  generalize ((v6.setCell ⟨v2.heap.size, 0, none⟩ (.string (sn b))).setCell ⟨v2.heap.size, 1, none⟩ (.string (sd b))) = v7 at *
  obtain ⟨r0, r1, r2, r3, s1, s3, g0, g1, g2, g3, h0, h1, h2, h3, one, two, left, ac, sum, whole, back, again, K1, K2, K3, K4, K5, K6, K7, K8, K9, K10, K11, K12, L1, L2, L3, L4, L5, L6⟩ := field_facts a b c sa.ino sb.ino sc.ino
  replace K1 : Shut _ := ⟨K1⟩
  replace K2 : Shut _ := ⟨K2⟩
  replace K3 : Shut _ := ⟨K3⟩
  replace K4 : Shut _ := ⟨K4⟩
  replace K5 : Shut _ := ⟨K5⟩
  replace K6 : Shut _ := ⟨K6⟩
  replace K7 : Shut _ := ⟨K7⟩
  replace K8 : Shut _ := ⟨K8⟩
  replace K9 : Shut _ := ⟨K9⟩
  replace K10 : Shut _ := ⟨K10⟩
  replace K11 : Shut _ := ⟨K11⟩
  replace K12 : Shut _ := ⟨K12⟩
  replace L2 : Shut _ := ⟨L2⟩
  replace L3 : Shut _ := ⟨L3⟩
  replace L4 : Shut _ := ⟨L4⟩
  replace L5 : Shut _ := ⟨L5⟩
  replace L6 : Shut _ := ⟨L6⟩
  clear L1 sa sb sc CX CY CZ CLX CLY sp sq
  clear n_x
  clear n_y
  clear n_z
  have c_a_0 := lcell n_a 0 (v := .string (sn a)) rfl
  have c_a_1 := lcell n_a 1 (v := .string (sd a)) rfl
  have c_b_0 := lcell n_b 0 (v := .string (sn b)) rfl
  have c_b_1 := lcell n_b 1 (v := .string (sd b)) rfl
  go_wp2_with fail
  with_reducible refine (K1.o.run _).mono ?_
  rintro e v8 ⟨rfl, hB⟩
  have t := hB
  have u_old := u
  replace u := u.trans (t.mono u.size)
  replace n_a := lkeep n_a t
  replace n_b := lkeep n_b t
  replace n_c := lkeep n_c t
  clear hB t c_a_0 c_a_1 c_b_0 c_b_1 u_old
  have c_a_0 := lcell n_a 0 (v := .string (sn a)) rfl
  have c_a_1 := lcell n_a 1 (v := .string (sd a)) rfl
  have c_b_0 := lcell n_b 0 (v := .string (sn b)) rfl
  have c_b_1 := lcell n_b 1 (v := .string (sd b)) rfl
  have l_a := lt_of_block n_a
  have l_b := lt_of_block n_b
  go_wp2_with fail
  with_reducible refine (K2.o.run _).mono ?_
  rintro e v9 ⟨rfl, hB⟩
  obtain ⟨t, n_r, n_e⟩ := lstep2 hB
  have u_old := u
  replace u := u.trans (t.mono u.size)
  replace n_a := lkeep n_a t
  replace n_b := lkeep n_b t
  replace n_c := lkeep n_c t
  clear hB t c_a_0 c_a_1 c_b_0 c_b_1 l_a l_b u_old
  go_upto_region 10 with fail
  have t := ((Below.refl v9.heap.size v9).alloc (Nat.le_refl _) (.cells #[.string (sn r0), .string (sd r0), .string (sn s1), .string (sd s1), .string (sn r2), .string (sd r2), .string (sn s3), .string (sd s3)] 31)).alloc (by simp) (.cells #[.int .i64 (cd r0), .int .i64 (cd s1), .int .i64 (cd r2), .int .i64 (cd s3)] 33)
  have u_old := u
  replace u := u.trans (t.mono u.size)
  replace n_a := lkeep n_a t
  replace n_b := lkeep n_b t
  replace n_c := lkeep n_c t
  replace n_r := lkeep n_r t
  replace n_e := lkeep n_e t
  have n_s := res_old v9 (.cells #[.string (sn r0), .string (sd r0), .string (sn s1), .string (sd s1), .string (sn r2), .string (sd r2), .string (sn s3), .string (sd s3)] 31) (.cells #[.int .i64 (cd r0), .int .i64 (cd s1), .int .i64 (cd r2), .int .i64 (cd s3)] 33)
  have n_f := res_two v9 (.cells #[.string (sn r0), .string (sd r0), .string (sn s1), .string (sd s1), .string (sn r2), .string (sd r2), .string (sn s3), .string (sd s3)] 31) (.cells #[.int .i64 (cd r0), .int .i64 (cd s1), .int .i64 (cd r2), .int .i64 (cd s3)] 33)
  clear t u_old
  generalize ((v9.alloc (.cells #[.string (sn r0), .string (sd r0), .string (sn s1), .string (sd s1), .string (sn r2), .string (sd r2), .string (sn s3), .string (sd s3)] 31)).alloc (.cells #[.int .i64 (cd r0), .int .i64 (cd s1), .int .i64 (cd r2), .int .i64 (cd s3)] 33)) = v10 at *
  have c_r_0 := lcell n_r 0 (v := .string (sn r0)) rfl
  have c_r_1 := lcell n_r 1 (v := .string (sd r0)) rfl
  have c_s_0 := lcell n_s 0 (v := .string (sn r0)) rfl
  have c_s_1 := lcell n_s 1 (v := .string (sd r0)) rfl
  have c_r_4 := lcell n_r 4 (v := .string (sn r2)) rfl
  have c_r_5 := lcell n_r 5 (v := .string (sd r2)) rfl
  have c_s_4 := lcell n_s 4 (v := .string (sn r2)) rfl
  have c_s_5 := lcell n_s 5 (v := .string (sd r2)) rfl
  have c_e_0 := lcell n_e 0 (v := .int .i64 (cd r0)) rfl
  have c_f_0 := lcell n_f 0 (v := .int .i64 (cd r0)) rfl
  have c_e_2 := lcell n_e 2 (v := .int .i64 (cd r2)) rfl
  have c_f_2 := lcell n_f 2 (v := .int .i64 (cd r2)) rfl
  go_cut [108] from 69 to 108 (fun s wx => s = .bool false ∧ wx = v10)
  case first =>
    go_wp2_with fail
    go_meet
    exact ⟨rfl, rfl⟩
  obtain ⟨rfl, hw⟩ := hcut
  rw [hw]
  clear hw c_r_0 c_r_1 c_s_0 c_s_1 c_r_4 c_r_5 c_s_4 c_s_5 c_e_0 c_f_0 c_e_2 c_f_2
  clear n_s
  clear n_f
  have c_b_0 := lcell n_b 0 (v := .string (sn b)) rfl
  have c_b_1 := lcell n_b 1 (v := .string (sd b)) rfl
  have c_c_0 := lcell n_c 0 (v := .string (sn c)) rfl
  have c_c_1 := lcell n_c 1 (v := .string (sd c)) rfl
  go_wp2_with fail
  with_reducible refine (K3.o.run _).mono ?_
  rintro e v11 ⟨rfl, hB⟩
  have t := hB
  have u_old := u
  replace u := u.trans (t.mono u.size)
  replace n_a := lkeep n_a t
  replace n_b := lkeep n_b t
  replace n_c := lkeep n_c t
  replace n_r := lkeep n_r t
  replace n_e := lkeep n_e t
  clear hB t c_b_0 c_b_1 c_c_0 c_c_1 u_old
  have c_r_0 := lcell n_r 0 (v := .string (sn r0)) rfl
  have c_r_1 := lcell n_r 1 (v := .string (sd r0)) rfl
  have c_c_0 := lcell n_c 0 (v := .string (sn c)) rfl
  have c_c_1 := lcell n_c 1 (v := .string (sd c)) rfl
  have l_r := lt_of_block n_r
  have l_c := lt_of_block n_c
  go_wp2_with fail
  with_reducible refine (K4.o.run _).mono ?_
  rintro e v12 ⟨rfl, hB⟩
  obtain ⟨t, n_bc, n_g⟩ := lstep2 hB
  have u_old := u
  replace u := u.trans (t.mono u.size)
  replace n_a := lkeep n_a t
  replace n_b := lkeep n_b t
  replace n_c := lkeep n_c t
  replace n_r := lkeep n_r t
  replace n_e := lkeep n_e t
  clear hB t c_r_0 c_r_1 c_c_0 c_c_1 l_r l_c u_old
  have c_a_0 := lcell n_a 0 (v := .string (sn a)) rfl
  have c_a_1 := lcell n_a 1 (v := .string (sd a)) rfl
  have c_bc_0 := lcell n_bc 0 (v := .string (sn g0)) rfl
  have c_bc_1 := lcell n_bc 1 (v := .string (sd g0)) rfl
  have l_a := lt_of_block n_a
  have l_bc := lt_of_block n_bc
  go_wp2_with fail
  with_reducible refine (K5.o.run _).mono ?_
  rintro e v13 ⟨rfl, hB⟩
  obtain ⟨t, n_ab, n_h⟩ := lstep2 hB
  have u_old := u
  replace u := u.trans (t.mono u.size)
  replace n_a := lkeep n_a t
  replace n_b := lkeep n_b t
  replace n_c := lkeep n_c t
  replace n_r := lkeep n_r t
  replace n_e := lkeep n_e t
  replace n_bc := lkeep n_bc t
  replace n_g := lkeep n_g t
  clear hB t c_a_0 c_a_1 c_bc_0 c_bc_1 l_a l_bc u_old
  go_upto_region 15 with fail
  have t := (Below.refl v13.heap.size v13).alloc (Nat.le_refl _) (.cells #[.string (sn one), .string (sd one)] 23)
  have u_old := u
  replace u := u.trans (t.mono u.size)
  replace n_a := lkeep n_a t
  replace n_b := lkeep n_b t
  replace n_c := lkeep n_c t
  replace n_r := lkeep n_r t
  replace n_e := lkeep n_e t
  replace n_bc := lkeep n_bc t
  replace n_g := lkeep n_g t
  replace n_ab := lkeep n_ab t
  replace n_h := lkeep n_h t
  have n_one := World.alloc_heap_new v13 (.cells #[.string (sn one), .string (sd one)] 23)
  clear t u_old
  generalize (v13.alloc (.cells #[.string (sn one), .string (sd one)] 23)) = v14 at *
  have c_e_0 := lcell n_e 0 (v := .int .i64 (cd r0)) rfl
  have c_g_0 := lcell n_g 0 (v := .int .i64 (cd g0)) rfl
  have c_h_0 := lcell n_h 0 (v := .int .i64 (cd h0)) rfl
  have c_ab_0 := lcell n_ab 0 (v := .string (sn h0)) rfl
  have c_ab_1 := lcell n_ab 1 (v := .string (sd h0)) rfl
  have c_one_0 := lcell n_one 0 (v := .string (sn one)) rfl
  have c_one_1 := lcell n_one 1 (v := .string (sd one)) rfl
  go_cut [151] from 129 to 151 (fun s wx => s = .bool false ∧ wx = v14)
  case first =>
    by_cases h : cd r0 = 0
    · have B0 : (cd r0 == 0) = true := by rw [h]; rfl
      have D0 : (cd r0 != 0) = false := by rw [h]; rfl
      have H0 : Shut _ := ⟨h⟩
      clear h
      by_cases h : cd g0 = 0
      · have B1 : (cd g0 == 0) = true := by rw [h]; rfl
        have D1 : (cd g0 != 0) = false := by rw [h]; rfl
        have H1 : Shut _ := ⟨h⟩
        clear h
        by_cases h : cd h0 = 0
        · have B2 : (cd h0 == 0) = true := by rw [h]; rfl
          have D2 : (cd h0 != 0) = false := by rw [h]; rfl
          have H2 : Shut _ := ⟨h⟩
          clear h
          by_cases h : cd one = 0
          · have B3 : (cd one == 0) = true := by rw [h]; rfl
            have D3 : (cd one != 0) = false := by rw [h]; rfl
            have H3 : Shut _ := ⟨h⟩
            clear h
            have qq := L2.o H0.o H1.o H2.o H3.o
            have EE : (sn h0).toList = (sn one).toList := by rw [qq]
            have FF : (sd h0).toList = (sd one).toList := by rw [qq]
            clear qq
            go_wp2_with fail
            go_meet
            exact ⟨rfl, rfl⟩
          · have B3 : (cd one == 0) = false := by rw [beq_eq_false_iff_ne]; exact h
            have D3 : (cd one != 0) = true := by rw [bne_iff_ne]; exact h
            clear h
            go_wp2_with fail
            go_meet
            exact ⟨rfl, rfl⟩
        · have B2 : (cd h0 == 0) = false := by rw [beq_eq_false_iff_ne]; exact h
          have D2 : (cd h0 != 0) = true := by rw [bne_iff_ne]; exact h
          clear h
          go_wp2_with fail
          go_meet
          exact ⟨rfl, rfl⟩
      · have B1 : (cd g0 == 0) = false := by rw [beq_eq_false_iff_ne]; exact h
        have D1 : (cd g0 != 0) = true := by rw [bne_iff_ne]; exact h
        clear h
        go_wp2_with fail
        go_meet
        exact ⟨rfl, rfl⟩
    · have B0 : (cd r0 == 0) = false := by rw [beq_eq_false_iff_ne]; exact h
      have D0 : (cd r0 != 0) = true := by rw [bne_iff_ne]; exact h
      clear h
      go_wp2_with fail
      go_meet
      exact ⟨rfl, rfl⟩
  obtain ⟨rfl, hw⟩ := hcut
  rw [hw]
  clear hw c_e_0 c_g_0 c_h_0 c_ab_0 c_ab_1 c_one_0 c_one_1
  clear n_one
  clear n_ab
  clear n_h
  have c_a_0 := lcell n_a 0 (v := .string (sn a)) rfl
  have c_a_1 := lcell n_a 1 (v := .string (sd a)) rfl
  have c_bc_4 := lcell n_bc 4 (v := .string (sn g2)) rfl
  have c_bc_5 := lcell n_bc 5 (v := .string (sd g2)) rfl
  go_wp2_with fail
  with_reducible refine (K6.o.run _).mono ?_
  rintro e v15 ⟨rfl, hB⟩
  have t := hB
  have u_old := u
  replace u := u.trans (t.mono u.size)
  replace n_a := lkeep n_a t
  replace n_b := lkeep n_b t
  replace n_c := lkeep n_c t
  replace n_r := lkeep n_r t
  replace n_e := lkeep n_e t
  replace n_bc := lkeep n_bc t
  replace n_g := lkeep n_g t
  clear hB t c_a_0 c_a_1 c_bc_4 c_bc_5 u_old
  have c_r_4 := lcell n_r 4 (v := .string (sn r2)) rfl
  have c_r_5 := lcell n_r 5 (v := .string (sd r2)) rfl
  have c_c_0 := lcell n_c 0 (v := .string (sn c)) rfl
  have c_c_1 := lcell n_c 1 (v := .string (sd c)) rfl
  have l_r := lt_of_block n_r
  have l_c := lt_of_block n_c
  go_wp2_with fail
  with_reducible refine (K7.o.run _).mono ?_
  rintro e v16 ⟨rfl, hB⟩
  obtain ⟨t, n_two⟩ := lstep hB
  have u_old := u
  replace u := u.trans (t.mono u.size)
  replace n_a := lkeep n_a t
  replace n_b := lkeep n_b t
  replace n_c := lkeep n_c t
  replace n_r := lkeep n_r t
  replace n_e := lkeep n_e t
  replace n_bc := lkeep n_bc t
  replace n_g := lkeep n_g t
  clear hB t c_r_4 c_r_5 c_c_0 c_c_1 l_r l_c u_old
  go_upto_region 19 with fail
  have t := (Below.refl v16.heap.size v16).alloc (Nat.le_refl _) (.cells #[.string (sn left), .string (sd left)] 23)
  have u_old := u
  replace u := u.trans (t.mono u.size)
  replace n_a := lkeep n_a t
  replace n_b := lkeep n_b t
  replace n_c := lkeep n_c t
  replace n_r := lkeep n_r t
  replace n_e := lkeep n_e t
  replace n_bc := lkeep n_bc t
  replace n_g := lkeep n_g t
  replace n_two := lkeep n_two t
  have n_left := World.alloc_heap_new v16 (.cells #[.string (sn left), .string (sd left)] 23)
  clear t u_old
  generalize (v16.alloc (.cells #[.string (sn left), .string (sd left)] 23)) = v17 at *
  have c_e_2 := lcell n_e 2 (v := .int .i64 (cd r2)) rfl
  have c_g_2 := lcell n_g 2 (v := .int .i64 (cd g2)) rfl
  have c_two_0 := lcell n_two 0 (v := .string (sn two)) rfl
  have c_two_1 := lcell n_two 1 (v := .string (sd two)) rfl
  have c_left_0 := lcell n_left 0 (v := .string (sn left)) rfl
  have c_left_1 := lcell n_left 1 (v := .string (sd left)) rfl
  go_cut [186] from 166 to 186 (fun s wx => s = .bool false ∧ wx = v17)
  case first =>
    by_cases h : cd r2 = 0
    · have B0 : (cd r2 == 0) = true := by rw [h]; rfl
      have D0 : (cd r2 != 0) = false := by rw [h]; rfl
      have H0 : Shut _ := ⟨h⟩
      clear h
      by_cases h : cd g2 = 0
      · have B1 : (cd g2 == 0) = true := by rw [h]; rfl
        have D1 : (cd g2 != 0) = false := by rw [h]; rfl
        have H1 : Shut _ := ⟨h⟩
        clear h
        by_cases h : cd two = 0
        · have B2 : (cd two == 0) = true := by rw [h]; rfl
          have D2 : (cd two != 0) = false := by rw [h]; rfl
          have H2 : Shut _ := ⟨h⟩
          clear h
          by_cases h : cd left = 0
          · have B3 : (cd left == 0) = true := by rw [h]; rfl
            have D3 : (cd left != 0) = false := by rw [h]; rfl
            have H3 : Shut _ := ⟨h⟩
            clear h
            have qq := L3.o H0.o H1.o H2.o H3.o
            have EE : (sn two).toList = (sn left).toList := by rw [qq]
            have FF : (sd two).toList = (sd left).toList := by rw [qq]
            clear qq
            go_wp2_with fail
            go_meet
            exact ⟨rfl, rfl⟩
          · have B3 : (cd left == 0) = false := by rw [beq_eq_false_iff_ne]; exact h
            have D3 : (cd left != 0) = true := by rw [bne_iff_ne]; exact h
            clear h
            go_wp2_with fail
            go_meet
            exact ⟨rfl, rfl⟩
        · have B2 : (cd two == 0) = false := by rw [beq_eq_false_iff_ne]; exact h
          have D2 : (cd two != 0) = true := by rw [bne_iff_ne]; exact h
          clear h
          go_wp2_with fail
          go_meet
          exact ⟨rfl, rfl⟩
      · have B1 : (cd g2 == 0) = false := by rw [beq_eq_false_iff_ne]; exact h
        have D1 : (cd g2 != 0) = true := by rw [bne_iff_ne]; exact h
        clear h
        go_wp2_with fail
        go_meet
        exact ⟨rfl, rfl⟩
    · have B0 : (cd r2 == 0) = false := by rw [beq_eq_false_iff_ne]; exact h
      have D0 : (cd r2 != 0) = true := by rw [bne_iff_ne]; exact h
      clear h
      go_wp2_with fail
      go_meet
      exact ⟨rfl, rfl⟩
  obtain ⟨rfl, hw⟩ := hcut
  rw [hw]
  clear hw c_e_2 c_g_2 c_two_0 c_two_1 c_left_0 c_left_1
  clear n_two
  clear n_left
  have c_a_0 := lcell n_a 0 (v := .string (sn a)) rfl
  have c_a_1 := lcell n_a 1 (v := .string (sd a)) rfl
  have c_c_0 := lcell n_c 0 (v := .string (sn c)) rfl
  have c_c_1 := lcell n_c 1 (v := .string (sd c)) rfl
  go_wp2_with fail
  with_reducible refine (K8.o.run _).mono ?_
  rintro e v18 ⟨rfl, hB⟩
  have t := hB
  have u_old := u
  replace u := u.trans (t.mono u.size)
  replace n_a := lkeep n_a t
  replace n_b := lkeep n_b t
  replace n_c := lkeep n_c t
  replace n_r := lkeep n_r t
  replace n_e := lkeep n_e t
  replace n_bc := lkeep n_bc t
  replace n_g := lkeep n_g t
  clear hB t c_a_0 c_a_1 c_c_0 c_c_1 u_old
  have c_bc_4 := lcell n_bc 4 (v := .string (sn g2)) rfl
  have c_bc_5 := lcell n_bc 5 (v := .string (sd g2)) rfl
  have l_bc := lt_of_block n_bc
  go_wp2_with fail
  with_reducible refine (K9.o.run _).mono ?_
  rintro e v19 ⟨rfl, hB⟩
  obtain ⟨t, n_ac⟩ := lstep hB
  have u_old := u
  replace u := u.trans (t.mono u.size)
  replace n_a := lkeep n_a t
  replace n_b := lkeep n_b t
  replace n_c := lkeep n_c t
  replace n_r := lkeep n_r t
  replace n_e := lkeep n_e t
  replace n_bc := lkeep n_bc t
  replace n_g := lkeep n_g t
  clear hB t c_bc_4 c_bc_5 l_bc u_old
  have c_r_0 := lcell n_r 0 (v := .string (sn r0)) rfl
  have c_r_1 := lcell n_r 1 (v := .string (sd r0)) rfl
  have c_c_0 := lcell n_c 0 (v := .string (sn c)) rfl
  have c_c_1 := lcell n_c 1 (v := .string (sd c)) rfl
  have l_r := lt_of_block n_r
  have l_c := lt_of_block n_c
  go_wp2_with fail
  with_reducible refine (K10.o.run _).mono ?_
  rintro e v20 ⟨rfl, hB⟩
  obtain ⟨t, n_sum⟩ := lstep hB
  have u_old := u
  replace u := u.trans (t.mono u.size)
  replace n_a := lkeep n_a t
  replace n_b := lkeep n_b t
  replace n_c := lkeep n_c t
  replace n_r := lkeep n_r t
  replace n_e := lkeep n_e t
  replace n_bc := lkeep n_bc t
  replace n_g := lkeep n_g t
  replace n_ac := lkeep n_ac t
  clear hB t c_r_0 c_r_1 c_c_0 c_c_1 l_r l_c u_old
  go_upto_region 24 with fail
  have t := (Below.refl v20.heap.size v20).alloc (Nat.le_refl _) (.cells #[.string (sn whole), .string (sd whole)] 23)
  have u_old := u
  replace u := u.trans (t.mono u.size)
  replace n_a := lkeep n_a t
  replace n_b := lkeep n_b t
  replace n_c := lkeep n_c t
  replace n_r := lkeep n_r t
  replace n_e := lkeep n_e t
  replace n_bc := lkeep n_bc t
  replace n_g := lkeep n_g t
  replace n_ac := lkeep n_ac t
  replace n_sum := lkeep n_sum t
  have n_whole := World.alloc_heap_new v20 (.cells #[.string (sn whole), .string (sd whole)] 23)
  clear t u_old
  generalize (v20.alloc (.cells #[.string (sn whole), .string (sd whole)] 23)) = v21 at *
  have c_e_0 := lcell n_e 0 (v := .int .i64 (cd r0)) rfl
  have c_g_2 := lcell n_g 2 (v := .int .i64 (cd g2)) rfl
  have c_sum_0 := lcell n_sum 0 (v := .string (sn sum)) rfl
  have c_sum_1 := lcell n_sum 1 (v := .string (sd sum)) rfl
  have c_whole_0 := lcell n_whole 0 (v := .string (sn whole)) rfl
  have c_whole_1 := lcell n_whole 1 (v := .string (sd whole)) rfl
  go_cut [231] from 207 to 231 (fun s wx => s = .bool false ∧ wx = v21)
  case first =>
    by_cases h : cd r0 = 0
    · have B0 : (cd r0 == 0) = true := by rw [h]; rfl
      have D0 : (cd r0 != 0) = false := by rw [h]; rfl
      have H0 : Shut _ := ⟨h⟩
      clear h
      by_cases h : cd ac = 0
      · have B1 : (cd ac == 0) = true := by rw [h]; rfl
        have D1 : (cd ac != 0) = false := by rw [h]; rfl
        have H1 : Shut _ := ⟨h⟩
        clear h
        by_cases h : cd g2 = 0
        · have B2 : (cd g2 == 0) = true := by rw [h]; rfl
          have D2 : (cd g2 != 0) = false := by rw [h]; rfl
          have H2 : Shut _ := ⟨h⟩
          clear h
          by_cases h : cd sum = 0
          · have B3 : (cd sum == 0) = true := by rw [h]; rfl
            have D3 : (cd sum != 0) = false := by rw [h]; rfl
            have H3 : Shut _ := ⟨h⟩
            clear h
            by_cases h : cd whole = 0
            · have B4 : (cd whole == 0) = true := by rw [h]; rfl
              have D4 : (cd whole != 0) = false := by rw [h]; rfl
              have H4 : Shut _ := ⟨h⟩
              clear h
              have qq := L4.o H0.o H1.o H2.o H3.o H4.o
              have EE : (sn sum).toList = (sn whole).toList := by rw [qq]
              have FF : (sd sum).toList = (sd whole).toList := by rw [qq]
              clear qq
              go_wp2_with fail
              go_meet
              exact ⟨rfl, rfl⟩
            · have B4 : (cd whole == 0) = false := by rw [beq_eq_false_iff_ne]; exact h
              have D4 : (cd whole != 0) = true := by rw [bne_iff_ne]; exact h
              clear h
              go_wp2_with fail
              go_meet
              exact ⟨rfl, rfl⟩
          · have B3 : (cd sum == 0) = false := by rw [beq_eq_false_iff_ne]; exact h
            have D3 : (cd sum != 0) = true := by rw [bne_iff_ne]; exact h
            clear h
            go_wp2_with fail
            go_meet
            exact ⟨rfl, rfl⟩
        · have B2 : (cd g2 == 0) = false := by rw [beq_eq_false_iff_ne]; exact h
          have D2 : (cd g2 != 0) = true := by rw [bne_iff_ne]; exact h
          clear h
          go_wp2_with fail
          go_meet
          exact ⟨rfl, rfl⟩
      · have B1 : (cd ac == 0) = false := by rw [beq_eq_false_iff_ne]; exact h
        have D1 : (cd ac != 0) = true := by rw [bne_iff_ne]; exact h
        clear h
        go_wp2_with fail
        go_meet
        exact ⟨rfl, rfl⟩
    · have B0 : (cd r0 == 0) = false := by rw [beq_eq_false_iff_ne]; exact h
      have D0 : (cd r0 != 0) = true := by rw [bne_iff_ne]; exact h
      clear h
      go_wp2_with fail
      go_meet
      exact ⟨rfl, rfl⟩
  obtain ⟨rfl, hw⟩ := hcut
  rw [hw]
  clear hw c_e_0 c_g_2 c_sum_0 c_sum_1 c_whole_0 c_whole_1
  clear n_sum
  clear n_whole
  clear n_ac
  clear n_bc
  clear n_g
  clear n_c
  have c_r_0 := lcell n_r 0 (v := .string (sn r0)) rfl
  have c_r_1 := lcell n_r 1 (v := .string (sd r0)) rfl
  have c_b_0 := lcell n_b 0 (v := .string (sn b)) rfl
  have c_b_1 := lcell n_b 1 (v := .string (sd b)) rfl
  go_wp2_with fail
  with_reducible refine (K11.o.run _).mono ?_
  rintro e v22 ⟨rfl, hB⟩
  have t := hB
  have u_old := u
  replace u := u.trans (t.mono u.size)
  replace n_a := lkeep n_a t
  replace n_b := lkeep n_b t
  replace n_r := lkeep n_r t
  replace n_e := lkeep n_e t
  clear hB t c_r_0 c_r_1 c_b_0 c_b_1 u_old
  have c_r_6 := lcell n_r 6 (v := .string (sn r3)) rfl
  have c_r_7 := lcell n_r 7 (v := .string (sd r3)) rfl
  have c_b_0 := lcell n_b 0 (v := .string (sn b)) rfl
  have c_b_1 := lcell n_b 1 (v := .string (sd b)) rfl
  have l_r := lt_of_block n_r
  have l_b := lt_of_block n_b
  go_wp2_with fail
  with_reducible refine (K12.o.run _).mono ?_
  rintro e v23 ⟨rfl, hB⟩
  obtain ⟨t, n_back⟩ := lstep hB
  have u_old := u
  replace u := u.trans (t.mono u.size)
  replace n_a := lkeep n_a t
  replace n_b := lkeep n_b t
  replace n_r := lkeep n_r t
  replace n_e := lkeep n_e t
  clear hB t c_r_6 c_r_7 c_b_0 c_b_1 l_r l_b u_old
  go_upto_region 28 with fail
  have t := (Below.refl v23.heap.size v23).alloc (Nat.le_refl _) (.cells #[.string (sn again), .string (sd again)] 23)
  have u_old := u
  replace u := u.trans (t.mono u.size)
  replace n_a := lkeep n_a t
  replace n_b := lkeep n_b t
  replace n_r := lkeep n_r t
  replace n_e := lkeep n_e t
  replace n_back := lkeep n_back t
  have n_again := World.alloc_heap_new v23 (.cells #[.string (sn again), .string (sd again)] 23)
  clear t u_old
  generalize (v23.alloc (.cells #[.string (sn again), .string (sd again)] 23)) = v24 at *
  have c_e_0 := lcell n_e 0 (v := .int .i64 (cd r0)) rfl
  have c_e_3 := lcell n_e 3 (v := .int .i64 (cd r3)) rfl
  have c_back_0 := lcell n_back 0 (v := .string (sn back)) rfl
  have c_back_1 := lcell n_back 1 (v := .string (sd back)) rfl
  have c_a_0 := lcell n_a 0 (v := .string (sn a)) rfl
  have c_a_1 := lcell n_a 1 (v := .string (sd a)) rfl
  have c_again_0 := lcell n_again 0 (v := .string (sn again)) rfl
  have c_again_1 := lcell n_again 1 (v := .string (sd again)) rfl
  replace u : Shut _ := ⟨u⟩
  by_cases h : cd r0 = 0
  · have B0 : (cd r0 == 0) = true := by rw [h]; rfl
    have D0 : (cd r0 != 0) = false := by rw [h]; rfl
    have H0 : Shut _ := ⟨h⟩
    clear h
    by_cases h : cd back = 0
    · have B1 : (cd back == 0) = true := by rw [h]; rfl
      have D1 : (cd back != 0) = false := by rw [h]; rfl
      have H1 : Shut _ := ⟨h⟩
      clear h
      have q0 := L5.o H0.o H1.o
      have E0 : (sn back).toList = (sn a).toList := by rw [q0]
      have F0 : (sd back).toList = (sd a).toList := by rw [q0]
      clear q0
      by_cases h : cd r3 = 0
      · have B2 : (cd r3 == 0) = true := by rw [h]; rfl
        have D2 : (cd r3 != 0) = false := by rw [h]; rfl
        have H2 : Shut _ := ⟨h⟩
        clear h
        by_cases h : cd again = 0
        · have B3 : (cd again == 0) = true := by rw [h]; rfl
          have D3 : (cd again != 0) = false := by rw [h]; rfl
          have H3 : Shut _ := ⟨h⟩
          clear h
          have q2 := L6.o H2.o H3.o
          have E2 : (sn again).toList = (sn a).toList := by rw [q2]
          have F2 : (sd again).toList = (sd a).toList := by rw [q2]
          clear q2
          go_wp2
          go_ret
          exact ⟨rfl, u.o⟩
        · have B3 : (cd again == 0) = false := by rw [beq_eq_false_iff_ne]; exact h
          have D3 : (cd again != 0) = true := by rw [bne_iff_ne]; exact h
          clear h
          go_wp2
          go_ret
          exact ⟨rfl, u.o⟩
      · have B2 : (cd r3 == 0) = false := by rw [beq_eq_false_iff_ne]; exact h
        have D2 : (cd r3 != 0) = true := by rw [bne_iff_ne]; exact h
        clear h
        go_wp2
        go_ret
        exact ⟨rfl, u.o⟩
    · have B1 : (cd back == 0) = false := by rw [beq_eq_false_iff_ne]; exact h
      have D1 : (cd back != 0) = true := by rw [bne_iff_ne]; exact h
      clear h
      by_cases h : cd r3 = 0
      · have B2 : (cd r3 == 0) = true := by rw [h]; rfl
        have D2 : (cd r3 != 0) = false := by rw [h]; rfl
        have H2 : Shut _ := ⟨h⟩
        clear h
        by_cases h : cd again = 0
        · have B3 : (cd again == 0) = true := by rw [h]; rfl
          have D3 : (cd again != 0) = false := by rw [h]; rfl
          have H3 : Shut _ := ⟨h⟩
          clear h
          have q2 := L6.o H2.o H3.o
          have E2 : (sn again).toList = (sn a).toList := by rw [q2]
          have F2 : (sd again).toList = (sd a).toList := by rw [q2]
          clear q2
          go_wp2
          go_ret
          exact ⟨rfl, u.o⟩
        · have B3 : (cd again == 0) = false := by rw [beq_eq_false_iff_ne]; exact h
          have D3 : (cd again != 0) = true := by rw [bne_iff_ne]; exact h
          clear h
          go_wp2
          go_ret
          exact ⟨rfl, u.o⟩
      · have B2 : (cd r3 == 0) = false := by rw [beq_eq_false_iff_ne]; exact h
        have D2 : (cd r3 != 0) = true := by rw [bne_iff_ne]; exact h
        clear h
        go_wp2
        go_ret
        exact ⟨rfl, u.o⟩
  · have B0 : (cd r0 == 0) = false := by rw [beq_eq_false_iff_ne]; exact h
    have D0 : (cd r0 != 0) = true := by rw [bne_iff_ne]; exact h
    clear h
    by_cases h : cd r3 = 0
    · have B2 : (cd r3 == 0) = true := by rw [h]; rfl
      have D2 : (cd r3 != 0) = false := by rw [h]; rfl
      have H2 : Shut _ := ⟨h⟩
      clear h
      by_cases h : cd again = 0
      · have B3 : (cd again == 0) = true := by rw [h]; rfl
        have D3 : (cd again != 0) = false := by rw [h]; rfl
        have H3 : Shut _ := ⟨h⟩
        clear h
        have q2 := L6.o H2.o H3.o
        have E2 : (sn again).toList = (sn a).toList := by rw [q2]
        have F2 : (sd again).toList = (sd a).toList := by rw [q2]
        clear q2
        go_wp2
        go_ret
        exact ⟨rfl, u.o⟩
      · have B3 : (cd again == 0) = false := by rw [beq_eq_false_iff_ne]; exact h
        have D3 : (cd again != 0) = true := by rw [bne_iff_ne]; exact h
        clear h
        go_wp2
        go_ret
        exact ⟨rfl, u.o⟩
    · have B2 : (cd r3 == 0) = false := by rw [beq_eq_false_iff_ne]; exact h
      have D2 : (cd r3 != 0) = true := by rw [bne_iff_ne]; exact h
      clear h
      go_wp2
      go_ret
      exact ⟨rfl, u.o⟩
end Rt
end Go.Proofs.YtofcihnihpfljaaGreat
