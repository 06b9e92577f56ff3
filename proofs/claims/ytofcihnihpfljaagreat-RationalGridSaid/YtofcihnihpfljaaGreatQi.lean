/-
  The law RationalGrid: its walk.
-/
import Derived.Test.YtofcihnihpfljaaGreatQh
import Derived.Deep.DeepCutAuto
namespace Go.Proofs.YtofcihnihpfljaaGreat
set_option maxRecDepth 1000000
namespace Rt
open Go.RowKit Go.Proofs.YtofcihnihpfljaaGreat.Nm
open N10 (Two)

set_option maxHeartbeats 8000000 in
theorem grid_walk (x0 x1 x2 x3 p : Int) (hx0 : -9223372036854775808 ≤ x0 ∧ x0 ≤ 9223372036854775807) (hx1 : -9223372036854775808 ≤ x1 ∧ x1 ≤ 9223372036854775807) (hx2 : -9223372036854775808 ≤ x2 ∧ x2 ≤ 9223372036854775807) (hx3 : -9223372036854775808 ≤ x3 ∧ x3 ≤ 9223372036854775807) (hp : -9223372036854775808 ≤ p ∧ p ≤ 9223372036854775807) (w : World)
    (hS : ∀ W : World, Calls Tryz.prog 10 #[] W fun e w' => e = .returned (.bool true) ∧ Below W.heap.size W w') :
    Calls Tryz.prog 8 #[.agg #[.int .i64 x0, .int .i64 x1, .int .i64 x2, .int .i64 x3], .int .i64 p] w fun e w' => e = .returned (.bool true) ∧ Below w.heap.size w w' := by
  have CLX : Shut _ := ⟨fun W => Long_any x0 x1 x2 x3 hx0 hx1 hx2 hx3 W⟩
  have CP : Shut _ := ⟨fun W => pickL_any p 31 hp.1 hp.2 (by decide) (by decide) W⟩
  clear hx0 hx1 hx2 hx3 hp
  go_enter Tryz.func8, Tryz.ntmps8
  go_wp2_with fail
  refine (hS _).mono ?_
  rintro e v0 ⟨rfl, hB⟩
  obtain ⟨u, n_x⟩ := lstep hB
  clear hB hS
  have c_x_0 := lcell n_x 0 (v := .int .i64 x0) rfl
  have c_x_1 := lcell n_x 1 (v := .int .i64 x1) rfl
  have c_x_2 := lcell n_x 2 (v := .int .i64 x2) rfl
  have c_x_3 := lcell n_x 3 (v := .int .i64 x3) rfl
  go_wp2_with fail
  with_reducible refine (CLX.o _).mono ?_
  rintro e v1 ⟨q, sq, rfl, hB⟩
  have t := hB
  have u_old := u
  replace u := u.trans (t.mono u.size)
  replace n_x := lkeep n_x t
  clear hB t c_x_0 c_x_1 c_x_2 c_x_3 u_old
  clear n_x
  have HQ : Shut _ := ⟨sq⟩
  clear sq CLX
  unfold rq rv
  go_wp2_with fail
  refine (CP.o _).mono ?_
  rintro e vp ⟨c, hc, rfl, rfl⟩
  clear CP
  go_wp2_with fail
  generalize hrn : txt q.num = rn at *
  generalize hrd : txt (q.den : Int) = rd at *
  have HRN : Shut _ := ⟨hrn⟩
  have HRD : Shut _ := ⟨hrd⟩
  clear hrn hrd
  have t := (Below.refl v1.heap.size v1).alloc (Nat.le_refl _) (.cells #[.string rn, .string rd] 23)
  have u_old := u
  replace u := u.trans (t.mono u.size)
  have n_r := World.alloc_heap_new v1 (.cells #[.string rn, .string rd] 23)
  clear t u_old
  generalize (v1.alloc (.cells #[.string rn, .string rd] 23)) = v2 at *
  rename World => vw
  have HU : Shut _ := ⟨u⟩
  have HR : Shut _ := ⟨n_r⟩
  clear u n_r
  go_loopw [7, 8] (fun s iv wr => ∃ k : Nat, k ≤ c ∧ s = .string (T10 k) ∧ iv = .int .i64 (k : Int) ∧ wr = vw) (fun _ iv _ => c - (intOf iv).toNat)
  case atStart => exact ⟨0, Nat.zero_le _, by rw [T10_zero], rfl, rfl⟩
  case round =>
    obtain ⟨k, hk, rfl, rfl, rfl⟩ := hrel
    by_cases hgo : k < c
    · have hs := T10_size k
      have HS : Shut _ := ⟨T10_succ k⟩
      have h1s : (⟨#[48]⟩ : ByteArray).size = 1 := rfl
      generalize T10 k = s at *
      go_wp2
      exact ⟨⟨k + 1, by omega, by rw [HS.o], by go_num, trivial⟩, by simp [intOf]; omega⟩
    · obtain rfl : k = c := by omega
      clear hk
      have u := HU.o
      have n_r := HR.o
      clear HU HR
      obtain ⟨an, ad, bn, bd, mn, md, en, ed, kn, wn, wd, ca, cb, K1, K2, K3, K4, K5, K6, K7, K8, K9, K10, K11, hw⟩ := grid_facts q HQ.o k (by omega)
      rw [HRN.o, HRD.o] at K1 K2 K3 K6 K7
      have HW : Shut _ := ⟨hw⟩
      have HT0 : Shut (k = 0 → T10 k = ⟨#[49]⟩) := ⟨fun h => by rw [h, T10_zero]⟩
      have d1 : decide (0 < ca) = false := decide_eq_false (by rcases hw with ⟨h, -⟩ | ⟨h, -⟩ <;> omega)
      have d2 : decide (cb < 0) = false := decide_eq_false (by rcases hw with ⟨-, h, -⟩ | ⟨-, h, -⟩ <;> omega)
      clear hw HQ HRN HRD
      generalize T10 k = T at *
      replace K1 : Shut _ := ⟨K1⟩
      replace K2 : Shut _ := ⟨K2⟩
      replace K3 : Shut _ := ⟨K3⟩
      replace K4 : Shut _ := ⟨K4⟩
      replace K5 : Shut _ := ⟨K5⟩
      replace K6 : Shut _ := ⟨K6⟩
      replace K7 : Shut _ := ⟨K7⟩
      replace K8 : Shut _ := ⟨K8⟩
      replace K9 : Shut _ := ⟨K9⟩
      replace K10 : Shut _ := ⟨K10⟩
      replace K11 : Shut _ := ⟨K11⟩
      have c_r_0 := lcell n_r 0 (v := .string rn) rfl
      have c_r_1 := lcell n_r 1 (v := .string rd) rfl
      go_wp2_with fail
      with_reducible refine (K1.o.run _).mono ?_
      rintro e v3 ⟨rfl, hB⟩
      have t := hB
      have u_old := u
      replace u := u.trans (t.mono u.size)
      replace n_r := lkeep n_r t
      clear hB t c_r_0 c_r_1 u_old
      have la_r := lt_of_block n_r
      have c_r_0 := lcell n_r 0 (v := .string rn) rfl
      have c_r_1 := lcell n_r 1 (v := .string rd) rfl
      have l_r := lt_of_block n_r
      go_wp2_with fail
      with_reducible refine (K2.o.run _).mono ?_
      rintro e v4 ⟨rfl, hB⟩
      obtain ⟨t, n_a⟩ := lstep hB
      have u_old := u
      replace u := u.trans (t.mono u.size)
      replace n_r := lkeep n_r t
      clear hB t c_r_0 c_r_1 l_r u_old
      have lb_r := lt_of_block n_r
      have lb_a := lt_of_block n_a
      have c_r_0 := lcell n_r 0 (v := .string rn) rfl
      have c_r_1 := lcell n_r 1 (v := .string rd) rfl
      have l_r := lt_of_block n_r
      go_wp2_with fail
      with_reducible refine (K3.o.run _).mono ?_
      rintro e v5 ⟨rfl, hB⟩
      obtain ⟨t, n_b⟩ := lstep hB
      have u_old := u
      replace u := u.trans (t.mono u.size)
      replace n_r := lkeep n_r t
      replace n_a := lkeep n_a t
      clear hB t c_r_0 c_r_1 l_r u_old
      go_wp2_with fail
      with_reducible refine (K4.o.run _).mono ?_
      rintro e v6 ⟨rfl, hB⟩
      have t := hB
      have u_old := u
      replace u := u.trans (t.mono u.size)
      replace n_r := lkeep n_r t
      replace n_a := lkeep n_a t
      replace n_b := lkeep n_b t
      clear hB t  u_old
      have le_r := lt_of_block n_r
      have le_a := lt_of_block n_a
      have le_b := lt_of_block n_b
      go_upto_region 12 with fail
      have t := (Below.refl v6.heap.size v6).alloc (Nat.le_refl _) (.cells #[.string en, .string ed] 23)
      have u_old := u
      replace u := u.trans (t.mono u.size)
      replace n_r := lkeep n_r t
      replace n_a := lkeep n_a t
      replace n_b := lkeep n_b t
      have n_e := World.alloc_heap_new v6 (.cells #[.string en, .string ed] 23)
      clear t u_old
      generalize (v6.alloc (.cells #[.string en, .string ed] 23)) = v7 at *
      have c_r_0 := lcell n_r 0 (v := .string rn) rfl
      have c_r_1 := lcell n_r 1 (v := .string rd) rfl
      have c_a_0 := lcell n_a 0 (v := .string an) rfl
      have c_a_1 := lcell n_a 1 (v := .string ad) rfl
      have c_b_0 := lcell n_b 0 (v := .string bn) rfl
      have c_b_1 := lcell n_b 1 (v := .string bd) rfl
      have c_e_0 := lcell n_e 0 (v := .string en) rfl
      have c_e_1 := lcell n_e 1 (v := .string ed) rfl
      go_cut [83] from 56 to 83 (fun s wx => s = .bool false ∧ wx.heap[v1.heap.size]? = some (.cells #[.string rn, .string rd] 23 (0, 0)) ∧ wx.heap[v3.heap.size]? = some (.cells #[.string an, .string ad] 23 (0, 0)) ∧ wx.heap[v4.heap.size]? = some (.cells #[.string bn, .string bd] 23 (0, 0)) ∧ wx.heap[v6.heap.size]? = some (.cells #[.string en, .string ed] 23 (0, 0)) ∧ Below w.heap.size w wx)
      case first =>
        go_region_held3 (fun X => X.cell? ⟨v1.heap.size, 0, none⟩ = some (.string rn) ∧ X.cell? ⟨v1.heap.size, 1, none⟩ = some (.string rd) ∧ X.cell? ⟨v3.heap.size, 0, none⟩ = some (.string an) ∧ X.cell? ⟨v3.heap.size, 1, none⟩ = some (.string ad) ∧ X.cell? ⟨v4.heap.size, 0, none⟩ = some (.string bn) ∧ X.cell? ⟨v4.heap.size, 1, none⟩ = some (.string bd) ∧ X.cell? ⟨v6.heap.size, 0, none⟩ = some (.string en) ∧ X.cell? ⟨v6.heap.size, 1, none⟩ = some (.string ed)) (go_keep) (first | (go_at_call 41; go_loud (refine (K5.o.run _).mono ?_); rintro e w1 ⟨rfl, g1⟩; (first | replace n_r := lkeep n_r g1 | replace n_r := lkeep n_r (lundrew g1)); (first | replace n_a := lkeep n_a g1 | replace n_a := lkeep n_a (lundrew g1)); (first | replace n_b := lkeep n_b g1 | replace n_b := lkeep n_b (lundrew g1)); (first | replace n_e := lkeep n_e g1 | replace n_e := lkeep n_e (lundrew g1)); (first | replace u := u.trans (g1.mono u.size) | replace u := u.trans ((lundrew g1).mono u.size)); have c_r_0 := lcell n_r 0 (v := .string rn) rfl; have c_r_1 := lcell n_r 1 (v := .string rd) rfl; have c_a_0 := lcell n_a 0 (v := .string an) rfl; have c_a_1 := lcell n_a 1 (v := .string ad) rfl; have c_b_0 := lcell n_b 0 (v := .string bn) rfl; have c_b_1 := lcell n_b 1 (v := .string bd) rfl; have c_e_0 := lcell n_e 0 (v := .string en) rfl; have c_e_1 := lcell n_e 1 (v := .string ed) rfl) | (go_at_call 19; with_reducible refine (K6.o.run _).mono ?_; rintro e w2 ⟨rfl, g2⟩; (first | replace n_r := lkeep n_r g2 | replace n_r := lkeep n_r (lundrew g2)); (first | replace n_a := lkeep n_a g2 | replace n_a := lkeep n_a (lundrew g2)); (first | replace n_b := lkeep n_b g2 | replace n_b := lkeep n_b (lundrew g2)); (first | replace n_e := lkeep n_e g2 | replace n_e := lkeep n_e (lundrew g2)); (first | replace u := u.trans (g2.mono u.size) | replace u := u.trans ((lundrew g2).mono u.size)); have c_r_0 := lcell n_r 0 (v := .string rn) rfl; have c_r_1 := lcell n_r 1 (v := .string rd) rfl; have c_a_0 := lcell n_a 0 (v := .string an) rfl; have c_a_1 := lcell n_a 1 (v := .string ad) rfl; have c_b_0 := lcell n_b 0 (v := .string bn) rfl; have c_b_1 := lcell n_b 1 (v := .string bd) rfl; have c_e_0 := lcell n_e 0 (v := .string en) rfl; have c_e_1 := lcell n_e 1 (v := .string ed) rfl) | (go_at_call 19; go_loud (refine (K7.o.run _).mono ?_); rintro e w3 ⟨rfl, g3⟩; (first | replace n_r := lkeep n_r g3 | replace n_r := lkeep n_r (lundrew g3)); (first | replace n_a := lkeep n_a g3 | replace n_a := lkeep n_a (lundrew g3)); (first | replace n_b := lkeep n_b g3 | replace n_b := lkeep n_b (lundrew g3)); (first | replace n_e := lkeep n_e g3 | replace n_e := lkeep n_e (lundrew g3)); (first | replace u := u.trans (g3.mono u.size) | replace u := u.trans ((lundrew g3).mono u.size)); have c_r_0 := lcell n_r 0 (v := .string rn) rfl; have c_r_1 := lcell n_r 1 (v := .string rd) rfl; have c_a_0 := lcell n_a 0 (v := .string an) rfl; have c_a_1 := lcell n_a 1 (v := .string ad) rfl; have c_b_0 := lcell n_b 0 (v := .string bn) rfl; have c_b_1 := lcell n_b 1 (v := .string bd) rfl; have c_e_0 := lcell n_e 0 (v := .string en) rfl; have c_e_1 := lcell n_e 1 (v := .string ed) rfl) | fail)
        all_goals
          go_wp2_with fail
          go_meet
          exact ⟨rfl, n_r, n_a, n_b, n_e, u⟩
      clear u n_r n_a n_b n_e c_r_0 c_r_1 c_a_0 c_a_1 c_b_0 c_b_1 c_e_0 c_e_1
      obtain ⟨rfl, n_r, n_a, n_b, n_e, u⟩ := hcut
      obtain ⟨v8, hv⟩ : ∃ v, v = wc := ⟨_, rfl⟩
      rw [← hv] at u n_r n_a n_b n_e
      rw [← hv]
      clear hv
      clear n_e
      clear K1 K2 K3 K4 K5 d1 d2
      have c_b_0 := lcell n_b 0 (v := .string bn) rfl
      have c_b_1 := lcell n_b 1 (v := .string bd) rfl
      go_wp2_with fail
      with_reducible refine (K8.o.run _).mono ?_
      rintro e v9 ⟨rfl, hB⟩
      have t := hB
      have u_old := u
      replace u := u.trans (t.mono u.size)
      replace n_r := lkeep n_r t
      replace n_a := lkeep n_a t
      replace n_b := lkeep n_b t
      clear hB t c_b_0 c_b_1 u_old
      have lg_r := lt_of_block n_r
      have lg_a := lt_of_block n_a
      have lg_b := lt_of_block n_b
      have c_a_0 := lcell n_a 0 (v := .string an) rfl
      have c_a_1 := lcell n_a 1 (v := .string ad) rfl
      have l_a := lt_of_block n_a
      go_wp2_with fail
      with_reducible refine (K9.o.run _).mono ?_
      rintro e v10 ⟨rfl, hB⟩
      obtain ⟨t, n_g⟩ := lstep hB
      have u_old := u
      replace u := u.trans (t.mono u.size)
      replace n_r := lkeep n_r t
      replace n_a := lkeep n_a t
      replace n_b := lkeep n_b t
      clear hB t c_a_0 c_a_1 l_a u_old
      have lh_r := lt_of_block n_r
      have lh_a := lt_of_block n_a
      have lh_b := lt_of_block n_b
      have lh_g := lt_of_block n_g
      go_upto_region 16 with fail
      have t := (Below.refl v10.heap.size v10).alloc (Nat.le_refl _) (.cells #[.string an, .string ad] 23)
      have u_old := u
      replace u := u.trans (t.mono u.size)
      replace n_r := lkeep n_r t
      replace n_a := lkeep n_a t
      replace n_b := lkeep n_b t
      replace n_g := lkeep n_g t
      have n_h := World.alloc_heap_new v10 (.cells #[.string an, .string ad] 23)
      clear t u_old
      generalize (v10.alloc (.cells #[.string an, .string ad] 23)) = v11 at *
      have m_r := lt_of_block n_r
      have m_a := lt_of_block n_a
      have m_b := lt_of_block n_b
      have m_g := lt_of_block n_g
      have m_h := lt_of_block n_h
      have c_a_0 := lcell n_a 0 (v := .string an) rfl
      have c_a_1 := lcell n_a 1 (v := .string ad) rfl
      go_cut [19, 20] from 97 to 102 (fun s1 s2 wx => ∃ Z : Nat, s1 = .pointer (some ⟨Z, 0, none⟩) ∧ s2 = .int .i64 0 ∧ wx.heap[Z]? = some (.cells #[.string kn, .string ⟨#[49]⟩] 23 (0, 0)) ∧ (wx.heap[v1.heap.size]? = some (.cells #[.string rn, .string rd] 23 (0, 0)) ∧ wx.heap[v3.heap.size]? = some (.cells #[.string an, .string ad] 23 (0, 0)) ∧ wx.heap[v4.heap.size]? = some (.cells #[.string bn, .string bd] 23 (0, 0)) ∧ wx.heap[v9.heap.size]? = some (.cells #[.string bn, .string bd] 23 (0, 0)) ∧ wx.heap[v10.heap.size]? = some (.cells #[.string an, .string ad] 23 (0, 0)) ∧ Below w.heap.size w wx))
      case first =>
        have f1 : v3.heap.size ≠ v11.heap.size := by omega
        have f2 : v11.heap.size ≠ v3.heap.size := by omega
        go_region_held3 (fun X => X.cell? ⟨v3.heap.size, 0, none⟩ = some (.string an) ∧ X.cell? ⟨v3.heap.size, 1, none⟩ = some (.string ad)) (go_keep) (first | (go_at_call 40; go_loud (refine (lis_any _ _ _).mono ?_); rintro e w1 ⟨rfl, hI⟩; first | (have t1 : Below v11.heap.size v11 w1 := lundrew hI; have c_a_0 := lcell (lkeep n_a t1) 0 (v := .string an) rfl; have c_a_1 := lcell (lkeep n_a t1) 1 (v := .string ad) rfl; have l1 := t1.size; have f4 : v3.heap.size ≠ w1.heap.size := (by omega); have f5 : w1.heap.size ≠ v3.heap.size := (by omega)) | (have t1 : Below v11.heap.size v11 w1 := (lstep (lundrew hI)).1; have ns := (lstep (lundrew hI)).2; have c_a_0 := lcell (lkeep n_a t1) 0 (v := .string an) rfl; have c_a_1 := lcell (lkeep n_a t1) 1 (v := .string ad) rfl; have l1 := t1.size; have f4 : v3.heap.size ≠ w1.heap.size := (by omega); have f5 : w1.heap.size ≠ v3.heap.size := (by omega))) | (go_at_call 38; go_loud (refine (K10.o.run _).mono ?_); rintro e w3 ⟨rfl, hB3⟩; first | (have t3 : Below v11.heap.size v11 w3 := t1.trans (hB3.mono t1.size); have ns' := lkeep ns hB3; obtain ⟨s0, s1, s2, s3⟩ := cell_box ns'; have z0 := lcell (lkeep n_a t3) 0 (v := .string an) rfl; have z1 := lcell (lkeep n_a t3) 1 (v := .string ad) rfl) | (have t3 : Below v11.heap.size v11 w3 := t1.trans (hB3.mono t1.size); have z0 := lcell (lkeep n_a t3) 0 (v := .string an) rfl; have z1 := lcell (lkeep n_a t3) 1 (v := .string ad) rfl) | (have t3 : Below v11.heap.size v11 w3 := t1.trans ((lstep hB3).1.mono t1.size); have ns' := (lstep hB3).2; obtain ⟨s0, s1, s2, s3⟩ := cell_box ns'; have z0 := lcell (lkeep n_a t3) 0 (v := .string an) rfl; have z1 := lcell (lkeep n_a t3) 1 (v := .string ad) rfl)) | fail)
        · go_wp2_with fail
          have t4 := (Below.refl w3.heap.size w3).alloc (Nat.le_refl _) (.cells #[.string kn, .string ⟨#[49]⟩] 23)
          go_meet
          exact ⟨w3.heap.size, rfl, rfl, World.alloc_heap_new _ _, lkeep (lkeep n_r t3) t4, lkeep (lkeep n_a t3) t4, lkeep (lkeep n_b t3) t4, lkeep (lkeep n_g t3) t4, lkeep (lkeep n_h t3) t4, (u.trans (t3.mono u.size)).trans (t4.mono (u.trans (t3.mono u.size)).size)⟩
        · have uz := u.size
          go_wp2_with fail
          go_meet
          exact ⟨w1.heap.size, rfl, rfl, box_set ns', box_other (lkeep n_r t3) (by omega), box_other (lkeep n_a t3) (by omega), box_other (lkeep n_b t3) (by omega), box_other (lkeep n_g t3) (by omega), box_other (lkeep n_h t3) (by omega), ((u.trans (t3.mono u.size)).setCell (p := ⟨w1.heap.size, 0, none⟩) (by show _ ≤ w1.heap.size; omega) _).setCell (p := ⟨w1.heap.size, 1, none⟩) (by show _ ≤ w1.heap.size; omega) _⟩
        · have uz := u.size
          go_wp2_with fail
          go_meet
          exact ⟨v11.heap.size, rfl, rfl, box_set ns', box_other (lkeep n_r t3) (by omega), box_other (lkeep n_a t3) (by omega), box_other (lkeep n_b t3) (by omega), box_other (lkeep n_g t3) (by omega), box_other (lkeep n_h t3) (by omega), ((u.trans (t3.mono u.size)).setCell (p := ⟨v11.heap.size, 0, none⟩) (by show _ ≤ v11.heap.size; omega) _).setCell (p := ⟨v11.heap.size, 1, none⟩) (by show _ ≤ v11.heap.size; omega) _⟩
      clear u n_r n_a n_b n_g n_h
      obtain ⟨Z, rfl, rfl, n_k, n_r, n_a, n_b, n_g, n_h, u⟩ := hcut
      clear c_a_0 c_a_1 m_r m_a m_b m_g m_h
      obtain ⟨v12, hv⟩ : ∃ v, v = wc := ⟨_, rfl⟩
      rw [← hv] at u n_r n_a n_b n_g n_h n_k
      rw [← hv]
      clear hv
      clear K8 K9 K10
      have c_b_0 := lcell n_b 0 (v := .string bn) rfl
      have c_b_1 := lcell n_b 1 (v := .string bd) rfl
      have c_a_0 := lcell n_a 0 (v := .string an) rfl
      have c_a_1 := lcell n_a 1 (v := .string ad) rfl
      go_wp2_with fail
      with_reducible refine (K11.o.run _).mono ?_
      rintro e v13 ⟨rfl, hB⟩
      have t := hB
      have u_old := u
      replace u := u.trans (t.mono u.size)
      replace n_r := lkeep n_r t
      replace n_a := lkeep n_a t
      replace n_b := lkeep n_b t
      replace n_g := lkeep n_g t
      replace n_h := lkeep n_h t
      replace n_k := lkeep n_k t
      clear hB t c_b_0 c_b_1 c_a_0 c_a_1 u_old
      have lw_r := lt_of_block n_r
      have lw_a := lt_of_block n_a
      have lw_b := lt_of_block n_b
      have lw_g := lt_of_block n_g
      have lw_h := lt_of_block n_h
      have lw_k := lt_of_block n_k
      have c_a_0 := lcell n_a 0 (v := .string an) rfl
      have c_a_1 := lcell n_a 1 (v := .string ad) rfl
      have c_r_0 := lcell n_r 0 (v := .string rn) rfl
      have c_r_1 := lcell n_r 1 (v := .string rd) rfl
      have l_a := lt_of_block n_a
      have l_r := lt_of_block n_r
      go_wp2_with fail
      with_reducible refine (K6.o.run _).mono ?_
      rintro e v14 ⟨rfl, hB⟩
      obtain ⟨t, n_w⟩ := lstep hB
      have u_old := u
      replace u := u.trans (t.mono u.size)
      replace n_r := lkeep n_r t
      replace n_a := lkeep n_a t
      replace n_b := lkeep n_b t
      replace n_g := lkeep n_g t
      replace n_h := lkeep n_h t
      replace n_k := lkeep n_k t
      clear hB t c_a_0 c_a_1 c_r_0 c_r_1 l_a l_r u_old
      go_wp2_with fail
      with_reducible refine (lis_any _ _ _).mono ?_
      rintro e v15 ⟨rfl, hB⟩
      have t := hB
      have u_old := u
      replace u := u.trans (t.mono u.size)
      replace n_r := lkeep n_r t
      replace n_a := lkeep n_a t
      replace n_b := lkeep n_b t
      replace n_g := lkeep n_g t
      replace n_h := lkeep n_h t
      replace n_k := lkeep n_k t
      replace n_w := lkeep n_w t
      clear hB t  u_old
      have lt_r := lt_of_block n_r
      have lt_a := lt_of_block n_a
      have lt_b := lt_of_block n_b
      have lt_g := lt_of_block n_g
      have lt_h := lt_of_block n_h
      have lt_k := lt_of_block n_k
      have lt_w := lt_of_block n_w
      have lt_u := u.size
      go_upto_region 20 with fail
      have t := (Below.refl v15.heap.size v15).alloc (Nat.le_refl _) (.cells #[.string ⟨#[49]⟩, .string T] 23)
      have u_old := u
      replace u := u.trans (t.mono u.size)
      replace n_r := lkeep n_r t
      replace n_a := lkeep n_a t
      replace n_b := lkeep n_b t
      replace n_g := lkeep n_g t
      replace n_h := lkeep n_h t
      replace n_k := lkeep n_k t
      replace n_w := lkeep n_w t
      have n_want := World.alloc_heap_new v15 (.cells #[.string ⟨#[49]⟩, .string T] 23)
      clear t u_old
      generalize (v15.alloc (.cells #[.string ⟨#[49]⟩, .string T] 23)) = v16 at *
      clear K6 K11
      rcases HW.o with ⟨rfl, rfl, rfl, rfl⟩ | ⟨rfl, rfl, rfl, hwd⟩
      · clear HW
        by_cases hk0 : k = 0
        · obtain rfl := HT0.o hk0
          subst hk0
          go_upto_region 22 with (go_at_call 40; with_reducible refine (lis_any _ _ _).mono ?_; rintro e w1 ⟨rfl, g1⟩; (first | replace n_r := lkeep n_r g1 | replace n_r := lkeep n_r (lundrew g1)); (first | replace n_a := lkeep n_a g1 | replace n_a := lkeep n_a (lundrew g1)); (first | replace n_b := lkeep n_b g1 | replace n_b := lkeep n_b (lundrew g1)); (first | replace n_g := lkeep n_g g1 | replace n_g := lkeep n_g (lundrew g1)); (first | replace n_h := lkeep n_h g1 | replace n_h := lkeep n_h (lundrew g1)); (first | replace n_k := lkeep n_k g1 | replace n_k := lkeep n_k (lundrew g1)); (first | replace n_w := lkeep n_w g1 | replace n_w := lkeep n_w (lundrew g1)); (first | replace n_want := lkeep n_want g1 | replace n_want := lkeep n_want (lundrew g1)); (first | replace u := u.trans (g1.mono u.size) | replace u := u.trans ((lundrew g1).mono u.size)); obtain ⟨k0, k1, k2, k3⟩ := cell_box n_want)
          clear k0 k1 k2 k3 g1
          replace n_r := box_other (b := v15.heap.size) (u := .string ⟨#[49]⟩) (v := .string ⟨#[49]⟩) n_r (by omega)
          replace n_a := box_other (b := v15.heap.size) (u := .string ⟨#[49]⟩) (v := .string ⟨#[49]⟩) n_a (by omega)
          replace n_b := box_other (b := v15.heap.size) (u := .string ⟨#[49]⟩) (v := .string ⟨#[49]⟩) n_b (by omega)
          replace n_g := box_other (b := v15.heap.size) (u := .string ⟨#[49]⟩) (v := .string ⟨#[49]⟩) n_g (by omega)
          replace n_h := box_other (b := v15.heap.size) (u := .string ⟨#[49]⟩) (v := .string ⟨#[49]⟩) n_h (by omega)
          replace n_k := box_other (b := v15.heap.size) (u := .string ⟨#[49]⟩) (v := .string ⟨#[49]⟩) n_k (by omega)
          replace n_w := box_other (b := v15.heap.size) (u := .string ⟨#[49]⟩) (v := .string ⟨#[49]⟩) n_w (by omega)
          replace n_want := box_set (u := .string ⟨#[49]⟩) (v := .string ⟨#[49]⟩) n_want
          replace u := (u.setCell (p := ⟨v15.heap.size, 0, none⟩) (by show _ ≤ v15.heap.size; omega) (.string ⟨#[49]⟩)).setCell (p := ⟨v15.heap.size, 1, none⟩) (by show _ ≤ v15.heap.size; omega) (.string ⟨#[49]⟩)
          generalize ((w1.setCell ⟨v15.heap.size, 0, none⟩ (.string ⟨#[49]⟩)).setCell ⟨v15.heap.size, 1, none⟩ (.string ⟨#[49]⟩)) = v17 at *
          go_upto_region 24 with (go_at_call 40; with_reducible refine (lis_any _ _ _).mono ?_; rintro e w2 ⟨rfl, g2⟩; (first | replace n_r := lkeep n_r g2 | replace n_r := lkeep n_r (lundrew g2)); (first | replace n_a := lkeep n_a g2 | replace n_a := lkeep n_a (lundrew g2)); (first | replace n_b := lkeep n_b g2 | replace n_b := lkeep n_b (lundrew g2)); (first | replace n_g := lkeep n_g g2 | replace n_g := lkeep n_g (lundrew g2)); (first | replace n_h := lkeep n_h g2 | replace n_h := lkeep n_h (lundrew g2)); (first | replace n_k := lkeep n_k g2 | replace n_k := lkeep n_k (lundrew g2)); (first | replace n_w := lkeep n_w g2 | replace n_w := lkeep n_w (lundrew g2)); (first | replace n_want := lkeep n_want g2 | replace n_want := lkeep n_want (lundrew g2)); (first | replace u := u.trans (g2.mono u.size) | replace u := u.trans ((lundrew g2).mono u.size)); obtain ⟨k0, k1, k2, k3⟩ := cell_box n_want)
          clear k0 k1 k2 k3 g2
          replace n_r := box_other (b := v15.heap.size) (u := .string ⟨#[48]⟩) (v := .string ⟨#[49]⟩) n_r (by omega)
          replace n_a := box_other (b := v15.heap.size) (u := .string ⟨#[48]⟩) (v := .string ⟨#[49]⟩) n_a (by omega)
          replace n_b := box_other (b := v15.heap.size) (u := .string ⟨#[48]⟩) (v := .string ⟨#[49]⟩) n_b (by omega)
          replace n_g := box_other (b := v15.heap.size) (u := .string ⟨#[48]⟩) (v := .string ⟨#[49]⟩) n_g (by omega)
          replace n_h := box_other (b := v15.heap.size) (u := .string ⟨#[48]⟩) (v := .string ⟨#[49]⟩) n_h (by omega)
          replace n_k := box_other (b := v15.heap.size) (u := .string ⟨#[48]⟩) (v := .string ⟨#[49]⟩) n_k (by omega)
          replace n_w := box_other (b := v15.heap.size) (u := .string ⟨#[48]⟩) (v := .string ⟨#[49]⟩) n_w (by omega)
          replace n_want := box_set (u := .string ⟨#[48]⟩) (v := .string ⟨#[49]⟩) n_want
          replace u := (u.setCell (p := ⟨v15.heap.size, 0, none⟩) (by show _ ≤ v15.heap.size; omega) (.string ⟨#[48]⟩)).setCell (p := ⟨v15.heap.size, 1, none⟩) (by show _ ≤ v15.heap.size; omega) (.string ⟨#[49]⟩)
          generalize ((w2.setCell ⟨v15.heap.size, 0, none⟩ (.string ⟨#[48]⟩)).setCell ⟨v15.heap.size, 1, none⟩ (.string ⟨#[49]⟩)) = v18 at *
          have c_g_0 := lcell n_g 0 (v := .string bn) rfl
          have c_g_1 := lcell n_g 1 (v := .string bd) rfl
          have c_b_0 := lcell n_b 0 (v := .string bn) rfl
          have c_b_1 := lcell n_b 1 (v := .string bd) rfl
          have c_h_0 := lcell n_h 0 (v := .string an) rfl
          have c_h_1 := lcell n_h 1 (v := .string ad) rfl
          have c_a_0 := lcell n_a 0 (v := .string an) rfl
          have c_a_1 := lcell n_a 1 (v := .string ad) rfl
          have c_k_1 := lcell n_k 1 (v := .string ⟨#[49]⟩) rfl
          have c_w_0 := lcell n_w 0 (v := .string ⟨#[48]⟩) rfl
          have c_w_1 := lcell n_w 1 (v := .string ⟨#[49]⟩) rfl
          have c_want_0 := lcell n_want 0 (v := .string ⟨#[48]⟩) rfl
          have c_want_1 := lcell n_want 1 (v := .string ⟨#[49]⟩) rfl
          have c_r_0 := lcell n_r 0 (v := .string rn) rfl
          have c_r_1 := lcell n_r 1 (v := .string rd) rfl
          go_wp2_with (first | (go_at_call 19; with_reducible refine (K7.o.run _).mono ?_; rintro e w3 ⟨rfl, g3⟩; (first | replace n_r := lkeep n_r g3 | replace n_r := lkeep n_r (lundrew g3)); (first | replace n_a := lkeep n_a g3 | replace n_a := lkeep n_a (lundrew g3)); (first | replace n_b := lkeep n_b g3 | replace n_b := lkeep n_b (lundrew g3)); (first | replace n_g := lkeep n_g g3 | replace n_g := lkeep n_g (lundrew g3)); (first | replace n_h := lkeep n_h g3 | replace n_h := lkeep n_h (lundrew g3)); (first | replace n_k := lkeep n_k g3 | replace n_k := lkeep n_k (lundrew g3)); (first | replace n_w := lkeep n_w g3 | replace n_w := lkeep n_w (lundrew g3)); (first | replace n_want := lkeep n_want g3 | replace n_want := lkeep n_want (lundrew g3)); (first | replace u := u.trans (g3.mono u.size) | replace u := u.trans ((lundrew g3).mono u.size)); skip) | fail)
          go_ret
          exact ⟨rfl, u⟩
        · have hk1 : ¬ (k : Int) = 0 := by omega
          go_upto_region 22 with fail
          go_upto_region 24 with (go_at_call 40; with_reducible refine (lis_any _ _ _).mono ?_; rintro e w2 ⟨rfl, g2⟩; (first | replace n_r := lkeep n_r g2 | replace n_r := lkeep n_r (lundrew g2)); (first | replace n_a := lkeep n_a g2 | replace n_a := lkeep n_a (lundrew g2)); (first | replace n_b := lkeep n_b g2 | replace n_b := lkeep n_b (lundrew g2)); (first | replace n_g := lkeep n_g g2 | replace n_g := lkeep n_g (lundrew g2)); (first | replace n_h := lkeep n_h g2 | replace n_h := lkeep n_h (lundrew g2)); (first | replace n_k := lkeep n_k g2 | replace n_k := lkeep n_k (lundrew g2)); (first | replace n_w := lkeep n_w g2 | replace n_w := lkeep n_w (lundrew g2)); (first | replace n_want := lkeep n_want g2 | replace n_want := lkeep n_want (lundrew g2)); (first | replace u := u.trans (g2.mono u.size) | replace u := u.trans ((lundrew g2).mono u.size)); obtain ⟨k0, k1, k2, k3⟩ := cell_box n_want)
          clear k0 k1 k2 k3 g2
          replace n_r := box_other (b := v15.heap.size) (u := .string ⟨#[48]⟩) (v := .string ⟨#[49]⟩) n_r (by omega)
          replace n_a := box_other (b := v15.heap.size) (u := .string ⟨#[48]⟩) (v := .string ⟨#[49]⟩) n_a (by omega)
          replace n_b := box_other (b := v15.heap.size) (u := .string ⟨#[48]⟩) (v := .string ⟨#[49]⟩) n_b (by omega)
          replace n_g := box_other (b := v15.heap.size) (u := .string ⟨#[48]⟩) (v := .string ⟨#[49]⟩) n_g (by omega)
          replace n_h := box_other (b := v15.heap.size) (u := .string ⟨#[48]⟩) (v := .string ⟨#[49]⟩) n_h (by omega)
          replace n_k := box_other (b := v15.heap.size) (u := .string ⟨#[48]⟩) (v := .string ⟨#[49]⟩) n_k (by omega)
          replace n_w := box_other (b := v15.heap.size) (u := .string ⟨#[48]⟩) (v := .string ⟨#[49]⟩) n_w (by omega)
          replace n_want := box_set (u := .string ⟨#[48]⟩) (v := .string ⟨#[49]⟩) n_want
          replace u := (u.setCell (p := ⟨v15.heap.size, 0, none⟩) (by show _ ≤ v15.heap.size; omega) (.string ⟨#[48]⟩)).setCell (p := ⟨v15.heap.size, 1, none⟩) (by show _ ≤ v15.heap.size; omega) (.string ⟨#[49]⟩)
          generalize ((w2.setCell ⟨v15.heap.size, 0, none⟩ (.string ⟨#[48]⟩)).setCell ⟨v15.heap.size, 1, none⟩ (.string ⟨#[49]⟩)) = v17 at *
          have c_g_0 := lcell n_g 0 (v := .string bn) rfl
          have c_g_1 := lcell n_g 1 (v := .string bd) rfl
          have c_b_0 := lcell n_b 0 (v := .string bn) rfl
          have c_b_1 := lcell n_b 1 (v := .string bd) rfl
          have c_h_0 := lcell n_h 0 (v := .string an) rfl
          have c_h_1 := lcell n_h 1 (v := .string ad) rfl
          have c_a_0 := lcell n_a 0 (v := .string an) rfl
          have c_a_1 := lcell n_a 1 (v := .string ad) rfl
          have c_k_1 := lcell n_k 1 (v := .string ⟨#[49]⟩) rfl
          have c_w_0 := lcell n_w 0 (v := .string ⟨#[48]⟩) rfl
          have c_w_1 := lcell n_w 1 (v := .string ⟨#[49]⟩) rfl
          have c_want_0 := lcell n_want 0 (v := .string ⟨#[48]⟩) rfl
          have c_want_1 := lcell n_want 1 (v := .string ⟨#[49]⟩) rfl
          have c_r_0 := lcell n_r 0 (v := .string rn) rfl
          have c_r_1 := lcell n_r 1 (v := .string rd) rfl
          go_wp2_with (first | (go_at_call 19; with_reducible refine (K7.o.run _).mono ?_; rintro e w3 ⟨rfl, g3⟩; (first | replace n_r := lkeep n_r g3 | replace n_r := lkeep n_r (lundrew g3)); (first | replace n_a := lkeep n_a g3 | replace n_a := lkeep n_a (lundrew g3)); (first | replace n_b := lkeep n_b g3 | replace n_b := lkeep n_b (lundrew g3)); (first | replace n_g := lkeep n_g g3 | replace n_g := lkeep n_g (lundrew g3)); (first | replace n_h := lkeep n_h g3 | replace n_h := lkeep n_h (lundrew g3)); (first | replace n_k := lkeep n_k g3 | replace n_k := lkeep n_k (lundrew g3)); (first | replace n_w := lkeep n_w g3 | replace n_w := lkeep n_w (lundrew g3)); (first | replace n_want := lkeep n_want g3 | replace n_want := lkeep n_want (lundrew g3)); (first | replace u := u.trans (g3.mono u.size) | replace u := u.trans ((lundrew g3).mono u.size)); skip) | fail)
          go_ret
          exact ⟨rfl, u⟩
      · obtain rfl : T = wd := hwd.symm
        clear HW
        by_cases hk0 : k = 0
        · obtain rfl := HT0.o hk0
          subst hk0
          go_upto_region 22 with (go_at_call 40; with_reducible refine (lis_any _ _ _).mono ?_; rintro e w1 ⟨rfl, g1⟩; (first | replace n_r := lkeep n_r g1 | replace n_r := lkeep n_r (lundrew g1)); (first | replace n_a := lkeep n_a g1 | replace n_a := lkeep n_a (lundrew g1)); (first | replace n_b := lkeep n_b g1 | replace n_b := lkeep n_b (lundrew g1)); (first | replace n_g := lkeep n_g g1 | replace n_g := lkeep n_g (lundrew g1)); (first | replace n_h := lkeep n_h g1 | replace n_h := lkeep n_h (lundrew g1)); (first | replace n_k := lkeep n_k g1 | replace n_k := lkeep n_k (lundrew g1)); (first | replace n_w := lkeep n_w g1 | replace n_w := lkeep n_w (lundrew g1)); (first | replace n_want := lkeep n_want g1 | replace n_want := lkeep n_want (lundrew g1)); (first | replace u := u.trans (g1.mono u.size) | replace u := u.trans ((lundrew g1).mono u.size)); obtain ⟨k0, k1, k2, k3⟩ := cell_box n_want)
          clear k0 k1 k2 k3 g1
          replace n_r := box_other (b := v15.heap.size) (u := .string ⟨#[49]⟩) (v := .string ⟨#[49]⟩) n_r (by omega)
          replace n_a := box_other (b := v15.heap.size) (u := .string ⟨#[49]⟩) (v := .string ⟨#[49]⟩) n_a (by omega)
          replace n_b := box_other (b := v15.heap.size) (u := .string ⟨#[49]⟩) (v := .string ⟨#[49]⟩) n_b (by omega)
          replace n_g := box_other (b := v15.heap.size) (u := .string ⟨#[49]⟩) (v := .string ⟨#[49]⟩) n_g (by omega)
          replace n_h := box_other (b := v15.heap.size) (u := .string ⟨#[49]⟩) (v := .string ⟨#[49]⟩) n_h (by omega)
          replace n_k := box_other (b := v15.heap.size) (u := .string ⟨#[49]⟩) (v := .string ⟨#[49]⟩) n_k (by omega)
          replace n_w := box_other (b := v15.heap.size) (u := .string ⟨#[49]⟩) (v := .string ⟨#[49]⟩) n_w (by omega)
          replace n_want := box_set (u := .string ⟨#[49]⟩) (v := .string ⟨#[49]⟩) n_want
          replace u := (u.setCell (p := ⟨v15.heap.size, 0, none⟩) (by show _ ≤ v15.heap.size; omega) (.string ⟨#[49]⟩)).setCell (p := ⟨v15.heap.size, 1, none⟩) (by show _ ≤ v15.heap.size; omega) (.string ⟨#[49]⟩)
          generalize ((w1.setCell ⟨v15.heap.size, 0, none⟩ (.string ⟨#[49]⟩)).setCell ⟨v15.heap.size, 1, none⟩ (.string ⟨#[49]⟩)) = v17 at *
          go_upto_region 24 with fail
          have c_g_0 := lcell n_g 0 (v := .string bn) rfl
          have c_g_1 := lcell n_g 1 (v := .string bd) rfl
          have c_b_0 := lcell n_b 0 (v := .string bn) rfl
          have c_b_1 := lcell n_b 1 (v := .string bd) rfl
          have c_h_0 := lcell n_h 0 (v := .string an) rfl
          have c_h_1 := lcell n_h 1 (v := .string ad) rfl
          have c_a_0 := lcell n_a 0 (v := .string an) rfl
          have c_a_1 := lcell n_a 1 (v := .string ad) rfl
          have c_k_1 := lcell n_k 1 (v := .string ⟨#[49]⟩) rfl
          have c_w_0 := lcell n_w 0 (v := .string ⟨#[49]⟩) rfl
          have c_w_1 := lcell n_w 1 (v := .string ⟨#[49]⟩) rfl
          have c_want_0 := lcell n_want 0 (v := .string ⟨#[49]⟩) rfl
          have c_want_1 := lcell n_want 1 (v := .string ⟨#[49]⟩) rfl
          have c_r_0 := lcell n_r 0 (v := .string rn) rfl
          have c_r_1 := lcell n_r 1 (v := .string rd) rfl
          go_wp2_with (first | (go_at_call 19; with_reducible refine (K7.o.run _).mono ?_; rintro e w3 ⟨rfl, g3⟩; (first | replace n_r := lkeep n_r g3 | replace n_r := lkeep n_r (lundrew g3)); (first | replace n_a := lkeep n_a g3 | replace n_a := lkeep n_a (lundrew g3)); (first | replace n_b := lkeep n_b g3 | replace n_b := lkeep n_b (lundrew g3)); (first | replace n_g := lkeep n_g g3 | replace n_g := lkeep n_g (lundrew g3)); (first | replace n_h := lkeep n_h g3 | replace n_h := lkeep n_h (lundrew g3)); (first | replace n_k := lkeep n_k g3 | replace n_k := lkeep n_k (lundrew g3)); (first | replace n_w := lkeep n_w g3 | replace n_w := lkeep n_w (lundrew g3)); (first | replace n_want := lkeep n_want g3 | replace n_want := lkeep n_want (lundrew g3)); (first | replace u := u.trans (g3.mono u.size) | replace u := u.trans ((lundrew g3).mono u.size)); skip) | fail)
          go_ret
          exact ⟨rfl, u⟩
        · have hk1 : ¬ (k : Int) = 0 := by omega
          go_upto_region 22 with fail
          go_upto_region 24 with fail
          have c_g_0 := lcell n_g 0 (v := .string bn) rfl
          have c_g_1 := lcell n_g 1 (v := .string bd) rfl
          have c_b_0 := lcell n_b 0 (v := .string bn) rfl
          have c_b_1 := lcell n_b 1 (v := .string bd) rfl
          have c_h_0 := lcell n_h 0 (v := .string an) rfl
          have c_h_1 := lcell n_h 1 (v := .string ad) rfl
          have c_a_0 := lcell n_a 0 (v := .string an) rfl
          have c_a_1 := lcell n_a 1 (v := .string ad) rfl
          have c_k_1 := lcell n_k 1 (v := .string ⟨#[49]⟩) rfl
          have c_w_0 := lcell n_w 0 (v := .string ⟨#[49]⟩) rfl
          have c_w_1 := lcell n_w 1 (v := .string T) rfl
          have c_want_0 := lcell n_want 0 (v := .string ⟨#[49]⟩) rfl
          have c_want_1 := lcell n_want 1 (v := .string T) rfl
          have c_r_0 := lcell n_r 0 (v := .string rn) rfl
          have c_r_1 := lcell n_r 1 (v := .string rd) rfl
          go_wp2_with (first | (go_at_call 19; with_reducible refine (K7.o.run _).mono ?_; rintro e w3 ⟨rfl, g3⟩; (first | replace n_r := lkeep n_r g3 | replace n_r := lkeep n_r (lundrew g3)); (first | replace n_a := lkeep n_a g3 | replace n_a := lkeep n_a (lundrew g3)); (first | replace n_b := lkeep n_b g3 | replace n_b := lkeep n_b (lundrew g3)); (first | replace n_g := lkeep n_g g3 | replace n_g := lkeep n_g (lundrew g3)); (first | replace n_h := lkeep n_h g3 | replace n_h := lkeep n_h (lundrew g3)); (first | replace n_k := lkeep n_k g3 | replace n_k := lkeep n_k (lundrew g3)); (first | replace n_w := lkeep n_w g3 | replace n_w := lkeep n_w (lundrew g3)); (first | replace n_want := lkeep n_want g3 | replace n_want := lkeep n_want (lundrew g3)); (first | replace u := u.trans (g3.mono u.size) | replace u := u.trans ((lundrew g3).mono u.size)); skip) | fail)
          go_ret
          exact ⟨rfl, u⟩
end Rt
end Go.Proofs.YtofcihnihpfljaaGreat
