/-
  The law RationalMachine: its walk.
-/
import Derived.Test.YtofcihnihpfljaaGreatMchA
namespace Go.Proofs.YtofcihnihpfljaaGreat
set_option maxRecDepth 1000000
namespace Rt
open Go.RowKit Go.Proofs.YtofcihnihpfljaaGreat.Nm

theorem lstep {w w' : World} {o : Obj} (h : Below (w.alloc o).heap.size (w.alloc o) w') : Below w.heap.size w w' ∧ w'.heap[w.heap.size]? = some o :=
  ⟨((Below.refl w.heap.size w).alloc (Nat.le_refl _) o).trans (h.mono (by simp)), (h.block w.heap.size (by simp)).trans (World.alloc_heap_new w o)⟩
theorem lundrew {B : Nat} {w w' : World} (h : Below B w.drew w') : Below B w w' := ⟨h.os, h.tape, h.output, h.size, h.block⟩
theorem lkeep {w w' : World} {b : Nat} {o : Obj} (h : w.heap[b]? = some o) (hB : Below w.heap.size w w') : w'.heap[b]? = some o := (hB.block b (lt_of_block h)).trans h
theorem wrap_ok {z : Int} (h : z.natAbs ≤ 2000000000000000000) : IntKind.i64.wrap z = z := by simp [IntKind.wrap, IntKind.signed, IntKind.bits]; omega

/-- what lies in memory while the law's loop runs -/
structure MchM (A B R : Nat) (w V : World) (sa ta sb tb n1 d1 n2 d2 n3 d3 n4 d4 : ByteArray) (c4 x1 y1 x2 y2 x3 y3 x4 y4 : Int) : Prop where
  a : V.heap[A]? = some (.cells #[.string sa, .string ta] 23 (0, 0))
  b : V.heap[B]? = some (.cells #[.string sb, .string tb] 23 (0, 0))
  r : V.heap[R]? = some (.cells #[.string n1, .string d1, .string n2, .string d2, .string n3, .string d3, .string n4, .string d4] 31 (0, 0))
  g : V.heap[R + 1]? = some (.cells #[.int .i64 0, .int .i64 0, .int .i64 0, .int .i64 c4] 33 (0, 0))
  t : V.heap[R + 1 + 1]? = some (.cells #[.int .i64 x1, .int .i64 y1, .int .i64 x2, .int .i64 y2, .int .i64 x3, .int .i64 y3, .int .i64 x4, .int .i64 y4] 51 (0, 0))
  o : Below w.heap.size w V
theorem MchM.keep {A B R : Nat} {w V V' : World} {sa ta sb tb n1 d1 n2 d2 n3 d3 n4 d4 : ByteArray} {c4 x1 y1 x2 y2 x3 y3 x4 y4 : Int} (h : MchM A B R w V sa ta sb tb n1 d1 n2 d2 n3 d3 n4 d4 c4 x1 y1 x2 y2 x3 y3 x4 y4) (hB : Below V.heap.size V V') :
    MchM A B R w V' sa ta sb tb n1 d1 n2 d2 n3 d3 n4 d4 c4 x1 y1 x2 y2 x3 y3 x4 y4 :=
  ⟨lkeep h.a hB, lkeep h.b hB, lkeep h.r hB, lkeep h.g hB, lkeep h.t hB, h.o.trans (hB.mono h.o.size)⟩
theorem acell {W : World} {b : Nat} {cs : Array Value} {T : TypeId} (h : W.heap[b]? = some (.cells cs T (0, 0))) (i : Nat) {v : Value} (hv : cs[i]? = some v) : W.cell? ⟨b, i, none⟩ = some v := by simp [World.cell?, h, hv]

set_option maxHeartbeats 4000000 in
theorem mach_walk (n d m c : Int) (hn : -9223372036854775808 ≤ n ∧ n ≤ 9223372036854775807) (hd : -9223372036854775808 ≤ d ∧ d ≤ 9223372036854775807) (hm : -9223372036854775808 ≤ m ∧ m ≤ 9223372036854775807) (hc : -9223372036854775808 ≤ c ∧ c ≤ 9223372036854775807) (w : World)
    (hS : ∀ W : World, Calls Tryz.prog 10 #[] W fun e w' => e = .returned (.bool true) ∧ Below W.heap.size W w') :
    Calls Tryz.prog 5 #[.int .i64 n, .int .i64 d, .int .i64 m, .int .i64 c] w fun e w' => e = .returned (.bool true) ∧ Below w.heap.size w w' := by
  have pn := fun W => pick30001 n hn.1 hn.2 W
  have pm := fun W => pick30001 m hm.1 hm.2 W
  have pd := fun W => pick30000 d hd.1 hd.2 W
  have pc := fun W => pick30000 c hc.1 hc.2 W
  clear hn hm hd hc
  go_enter Tryz.func5, Tryz.ntmps5
  go_wp2_with fail
  refine (hS _).mono ?_
  rintro e w1 ⟨rfl, hb1⟩
  go_wp2_with fail
  refine (pn _).mono ?_
  rintro e w2 ⟨i, hi, rfl, rfl⟩
  go_wp2_with fail
  refine (pm _).mono ?_
  rintro e w3 ⟨j, hj, rfl, rfl⟩
  go_wp2_with fail
  refine (pd _).mono ?_
  rintro e w4 ⟨k, hk, rfl, rfl⟩
  go_wp2_with fail
  refine (pc _).mono ?_
  rintro e w5 ⟨l, hl, rfl, rfl⟩
  clear pn pm pd pc hS
  rename World => v0
  have hB0 : Shut (Below w.heap.size w v0) := ⟨hb1⟩
  clear hb1
  go_wp2_with fail
  have bN : ((i : Int) - 30000).natAbs ≤ 30000 := by omega
  have bM : ((j : Int) - 30000).natAbs ≤ 30000 := by omega
  have bD : 1 ≤ 1 + (k : Int) ∧ 1 + (k : Int) ≤ 30000 := by omega
  have bC : 1 ≤ 1 + (l : Int) ∧ 1 + (l : Int) ≤ 30000 := by omega
  generalize (i : Int) - 30000 = N at *
  generalize (j : Int) - 30000 = M at *
  generalize 1 + (k : Int) = D at *
  generalize 1 + (l : Int) = C at *
  clear hi hj hk hl
  obtain ⟨sa, ta, sb, tb, n1, d1, n2, d2, n3, d3, n4, d4, c4, cA, cB, cF, cC, hF1, hF2, hF3, hF4⟩ := mach_facts N D M C bN bD bM bC
  have CF : Shut _ := ⟨cF⟩
  have CC : Shut _ := ⟨cC⟩
  have HF1 : Shut _ := ⟨hF1⟩
  have HF2 : Shut _ := ⟨hF2⟩
  have HF3 : Shut _ := ⟨hF3⟩
  have HF4 : Shut _ := ⟨hF4⟩
  have qD : D.natAbs ≤ 30000 := by omega
  have qC : C.natAbs ≤ 30000 := by omega
  have k1 := prod_bd bN qC
  have k2 := prod_bd bM qD
  have k3 := prod_bd qD qC
  have k4 := prod_bd bN bM
  have k5 := prod_bd qD bM
  have u1 := wrap_ok (z := N * C) (by omega)
  have u2 := wrap_ok (z := M * D) (by omega)
  have u3 := wrap_ok (z := D * C) (by omega)
  have u4 := wrap_ok (z := N * M) (by omega)
  have u5 := wrap_ok (z := D * M) (by omega)
  have u6 : IntKind.i64.wrap (N * C + M * D) = N * C + M * D := wrap_ok (by generalize N * C = x at *; generalize M * D = y at *; omega)
  have u7 : IntKind.i64.wrap (N * C - M * D) = N * C - M * D := wrap_ok (by generalize N * C = x at *; generalize M * D = y at *; omega)
  clear k1 k2 k3 k4 k5 qD qC cF cC hF1 hF2 hF3 hF4 bN bM bD bC
  refine (cA _).mono ?_
  rintro e v1 ⟨rfl, hB1⟩
  go_wp2_with fail
  refine (cB _).mono ?_
  rintro e v2 ⟨rfl, hB2⟩
  obtain ⟨t2, nx⟩ := lstep hB2
  clear hB2 cA cB
  obtain ⟨x0, x1, x2, x3⟩ := cell_box nx
  have l1 := t2.size
  have f1 := lt_of_block nx
  go_wp2_with fail
  refine (CF.o _).mono ?_
  rintro e v3 ⟨rfl, hB3⟩
  obtain ⟨t3, ny⟩ := lstep hB3
  clear hB3 x0 x1 x2 x3
  replace nx := lkeep nx t3
  go_wp2_with fail
  have hM : MchM v1.heap.size v2.heap.size v3.heap.size w (((v3.alloc (.cells #[.string n1, .string d1, .string n2, .string d2, .string n3, .string d3, .string n4, .string d4] 31)).alloc (.cells #[.int .i64 0, .int .i64 0, .int .i64 0, .int .i64 c4] 33)).alloc (.cells #[.int .i64 (N * C + M * D), .int .i64 (D * C), .int .i64 (N * C - M * D), .int .i64 (D * C), .int .i64 (N * M), .int .i64 (D * C), .int .i64 (N * C), .int .i64 (D * M)] 51)) sa ta sb tb n1 d1 n2 d2 n3 d3 n4 d4 c4 (N * C + M * D) (D * C) (N * C - M * D) (D * C) (N * M) (D * C) (N * C) (D * M) := by
    have q1 := (Below.refl v3.heap.size v3).alloc (Nat.le_refl _) (.cells #[.string n1, .string d1, .string n2, .string d2, .string n3, .string d3, .string n4, .string d4] 31)
    have q2 := q1.alloc (by simp) (.cells #[.int .i64 0, .int .i64 0, .int .i64 0, .int .i64 c4] 33)
    have q3 := q2.alloc (by simp; omega) (.cells #[.int .i64 (N * C + M * D), .int .i64 (D * C), .int .i64 (N * C - M * D), .int .i64 (D * C), .int .i64 (N * M), .int .i64 (D * C), .int .i64 (N * C), .int .i64 (D * M)] 51)
    have s0 := hB0.o.size
    have s1 := hB1.size
    have s2 := t2.size
    have s3 := t3.size
    exact ⟨lkeep nx q3, lkeep ny q3, (Below.heap_alloc _ _ _ (by simp; omega)).trans ((Below.heap_alloc _ _ _ (by simp)).trans (World.alloc_heap_new _ _)), (Below.heap_alloc _ _ _ (by simp)).trans (res_two _ _ _), res_three _ _ _ _, (((hB0.o.trans (hB1.mono s0)).trans (t2.mono (by omega))).trans (t3.mono (by omega))).trans (q3.mono (by omega))⟩
  generalize (((v3.alloc (.cells #[.string n1, .string d1, .string n2, .string d2, .string n3, .string d3, .string n4, .string d4] 31)).alloc (.cells #[.int .i64 0, .int .i64 0, .int .i64 0, .int .i64 c4] 33)).alloc (.cells #[.int .i64 (N * C + M * D), .int .i64 (D * C), .int .i64 (N * C - M * D), .int .i64 (D * C), .int .i64 (N * M), .int .i64 (D * C), .int .i64 (N * C), .int .i64 (D * M)] 51)) = V0 at *
  clear nx ny t2 t3 hB0 hB1 l1 f1 u3 u4 u5 u6 u7
  generalize v1.heap.size = A at *
  generalize v2.heap.size = B at *
  generalize v3.heap.size = R at *
  have HM : Shut _ := ⟨hM⟩
  clear hM
  go_loopw [17] (fun iv wr => ∃ k : Nat, k ≤ 4 ∧ iv = .int .i64 (k : Int) ∧ Shut (MchM A B R w wr sa ta sb tb n1 d1 n2 d2 n3 d3 n4 d4 c4 (N * C + M * D) (D * C) (N * C - M * D) (D * C) (N * M) (D * C) (N * C) (D * M))) (fun iv _ => 4 - (intOf iv).toNat)
  case atStart => exact ⟨0, by omega, rfl, HM⟩
  case round =>
    obtain ⟨k, hk, rfl, hM⟩ := hrel
    clear HM
    rcases (show k = 0 ∨ k = 1 ∨ k = 2 ∨ k = 3 ∨ k = 4 by omega) with rfl | rfl | rfl | rfl | rfl
    · obtain ⟨P, Q, cn, cd, cv, z1, z2, z3, z4⟩ := HF1.o.ex
      have r0 := acell hM.o.r 0 (v := .string n1) rfl
      have r1 := acell hM.o.r 1 (v := .string d1) rfl
      obtain ⟨Y, hY⟩ : ∃ Y, Y = P * (D * C) := ⟨_, rfl⟩
      have w1 : IntKind.i64.wrap (P * (D * C)) = Y := by rw [hY]; exact wrap_ok (by omega)
      have w2 : IntKind.i64.wrap ((N * C + M * D) * Q) = Y := by rw [hY, z2]; exact wrap_ok (by rw [← z2]; omega)
      have z0 : decide (Q < 1) = false := by rw [decide_eq_false_iff_not]; omega
      clear hY z1 z2 z3 z4 u1 u2
      go_wp2_with fail
      refine (cn _).mono ?_
      rintro e va ⟨rfl, hBa⟩
      have hMa := hM.o.keep hBa
      have r1 := acell hMa.r 1 (v := .string d1) rfl
      go_wp2_with fail
      refine (cd _).mono ?_
      rintro e vb ⟨rfl, hBb⟩
      have hMb := hMa.keep hBb
      clear r0 hBa hBb cn cd
      have r0 := acell hMb.r 0 (v := .string n1) rfl
      have r1 := acell hMb.r 1 (v := .string d1) rfl
      have g0 := acell hMb.g 0 (v := .int .i64 0) rfl
      have t0 := acell hMb.t 0 (v := .int .i64 (N * C + M * D)) rfl
      have t1 := acell hMb.t 1 (v := .int .i64 (D * C)) rfl
      go_wp2_with fail
      go_region_held3 (fun X => X.cell? ⟨R, 0, none⟩ = some (.string n1) ∧ X.cell? ⟨R, 1, none⟩ = some (.string d1) ∧ X.cell? ⟨R + 1, 0, none⟩ = some (.int .i64 0) ∧ X.cell? ⟨R + 1 + 1, 0, none⟩ = some (.int .i64 (N * C + M * D)) ∧ X.cell? ⟨R + 1 + 1, 1, none⟩ = some (.int .i64 (D * C))) (go_keep) (first | (go_at_call 28; go_loud (refine (cv _).mono ?_); rintro e vc ⟨rfl, hBc⟩; have hMc := hMb.keep (lundrew hBc); have s0 := acell hMc.r 0 (v := .string n1) rfl; have s1 := acell hMc.r 1 (v := .string d1) rfl; have s2 := acell hMc.g 0 (v := .int .i64 0) rfl; have s3 := acell hMc.t 0 (v := .int .i64 (N * C + M * D)) rfl; have s4 := acell hMc.t 1 (v := .int .i64 (D * C)) rfl) | fail)
      have hMd : Shut _ := ⟨hMc⟩
      clear hMa hMb hMc hBc hM r0 r1 g0 t0 t1 s0 s1 s2 s3 s4 z0 w1 w2 cv
      go_wp2_with fail
      go_roundw
      case rel => exact ⟨1, by omega, rfl, hMd⟩
      case measure => simp [intOf]
    · obtain ⟨P, Q, cn, cd, cv, z1, z2, z3, z4⟩ := HF2.o.ex
      have r0 := acell hM.o.r 2 (v := .string n2) rfl
      have r1 := acell hM.o.r 3 (v := .string d2) rfl
      obtain ⟨Y, hY⟩ : ∃ Y, Y = P * (D * C) := ⟨_, rfl⟩
      have w1 : IntKind.i64.wrap (P * (D * C)) = Y := by rw [hY]; exact wrap_ok (by omega)
      have w2 : IntKind.i64.wrap ((N * C - M * D) * Q) = Y := by rw [hY, z2]; exact wrap_ok (by rw [← z2]; omega)
      have z0 : decide (Q < 1) = false := by rw [decide_eq_false_iff_not]; omega
      clear hY z1 z2 z3 z4 u1 u2
      go_wp2_with fail
      refine (cn _).mono ?_
      rintro e va ⟨rfl, hBa⟩
      have hMa := hM.o.keep hBa
      have r1 := acell hMa.r 3 (v := .string d2) rfl
      go_wp2_with fail
      refine (cd _).mono ?_
      rintro e vb ⟨rfl, hBb⟩
      have hMb := hMa.keep hBb
      clear r0 hBa hBb cn cd
      have r0 := acell hMb.r 2 (v := .string n2) rfl
      have r1 := acell hMb.r 3 (v := .string d2) rfl
      have g0 := acell hMb.g 1 (v := .int .i64 0) rfl
      have t0 := acell hMb.t 2 (v := .int .i64 (N * C - M * D)) rfl
      have t1 := acell hMb.t 3 (v := .int .i64 (D * C)) rfl
      go_wp2_with fail
      go_region_held3 (fun X => X.cell? ⟨R, 2, none⟩ = some (.string n2) ∧ X.cell? ⟨R, 3, none⟩ = some (.string d2) ∧ X.cell? ⟨R + 1, 1, none⟩ = some (.int .i64 0) ∧ X.cell? ⟨R + 1 + 1, 2, none⟩ = some (.int .i64 (N * C - M * D)) ∧ X.cell? ⟨R + 1 + 1, 3, none⟩ = some (.int .i64 (D * C))) (go_keep) (first | (go_at_call 28; go_loud (refine (cv _).mono ?_); rintro e vc ⟨rfl, hBc⟩; have hMc := hMb.keep (lundrew hBc); have s0 := acell hMc.r 2 (v := .string n2) rfl; have s1 := acell hMc.r 3 (v := .string d2) rfl; have s2 := acell hMc.g 1 (v := .int .i64 0) rfl; have s3 := acell hMc.t 2 (v := .int .i64 (N * C - M * D)) rfl; have s4 := acell hMc.t 3 (v := .int .i64 (D * C)) rfl) | fail)
      have hMd : Shut _ := ⟨hMc⟩
      clear hMa hMb hMc hBc hM r0 r1 g0 t0 t1 s0 s1 s2 s3 s4 z0 w1 w2 cv
      go_wp2_with fail
      go_roundw
      case rel => exact ⟨2, by omega, rfl, hMd⟩
      case measure => simp [intOf]
    · obtain ⟨P, Q, cn, cd, cv, z1, z2, z3, z4⟩ := HF3.o.ex
      have r0 := acell hM.o.r 4 (v := .string n3) rfl
      have r1 := acell hM.o.r 5 (v := .string d3) rfl
      obtain ⟨Y, hY⟩ : ∃ Y, Y = P * (D * C) := ⟨_, rfl⟩
      have w1 : IntKind.i64.wrap (P * (D * C)) = Y := by rw [hY]; exact wrap_ok (by omega)
      have w2 : IntKind.i64.wrap ((N * M) * Q) = Y := by rw [hY, z2]; exact wrap_ok (by rw [← z2]; omega)
      have z0 : decide (Q < 1) = false := by rw [decide_eq_false_iff_not]; omega
      clear hY z1 z2 z3 z4 u1 u2
      go_wp2_with fail
      refine (cn _).mono ?_
      rintro e va ⟨rfl, hBa⟩
      have hMa := hM.o.keep hBa
      have r1 := acell hMa.r 5 (v := .string d3) rfl
      go_wp2_with fail
      refine (cd _).mono ?_
      rintro e vb ⟨rfl, hBb⟩
      have hMb := hMa.keep hBb
      clear r0 hBa hBb cn cd
      have r0 := acell hMb.r 4 (v := .string n3) rfl
      have r1 := acell hMb.r 5 (v := .string d3) rfl
      have g0 := acell hMb.g 2 (v := .int .i64 0) rfl
      have t0 := acell hMb.t 4 (v := .int .i64 (N * M)) rfl
      have t1 := acell hMb.t 5 (v := .int .i64 (D * C)) rfl
      go_wp2_with fail
      go_region_held3 (fun X => X.cell? ⟨R, 4, none⟩ = some (.string n3) ∧ X.cell? ⟨R, 5, none⟩ = some (.string d3) ∧ X.cell? ⟨R + 1, 2, none⟩ = some (.int .i64 0) ∧ X.cell? ⟨R + 1 + 1, 4, none⟩ = some (.int .i64 (N * M)) ∧ X.cell? ⟨R + 1 + 1, 5, none⟩ = some (.int .i64 (D * C))) (go_keep) (first | (go_at_call 28; go_loud (refine (cv _).mono ?_); rintro e vc ⟨rfl, hBc⟩; have hMc := hMb.keep (lundrew hBc); have s0 := acell hMc.r 4 (v := .string n3) rfl; have s1 := acell hMc.r 5 (v := .string d3) rfl; have s2 := acell hMc.g 2 (v := .int .i64 0) rfl; have s3 := acell hMc.t 4 (v := .int .i64 (N * M)) rfl; have s4 := acell hMc.t 5 (v := .int .i64 (D * C)) rfl) | fail)
      have hMd : Shut _ := ⟨hMc⟩
      clear hMa hMb hMc hBc hM r0 r1 g0 t0 t1 s0 s1 s2 s3 s4 z0 w1 w2 cv
      go_wp2_with fail
      go_roundw
      case rel => exact ⟨3, by omega, rfl, hMd⟩
      case measure => simp [intOf]
    · rcases HF4.o with ⟨hM0, rfl, rfl, rfl⟩ | ⟨hM0, rfl, hF4⟩
      · have hM0 : (M == 0) = true := by rw [hM0]; rfl
        have g0 := acell hM.o.g 3 (v := .int .i64 40) rfl
        have r0 := acell hM.o.r 6 (v := .string ⟨#[]⟩) rfl
        have r1 := acell hM.o.r 7 (v := .string ⟨#[]⟩) rfl
        go_wp2_with fail
        go_roundw
        case rel => exact ⟨4, by omega, rfl, hM⟩
        case measure => simp [intOf]
      · have hM0 : (M == 0) = false := by rw [beq_eq_false_iff_ne]; exact hM0
        obtain ⟨P, Q, cn, cd, cv, z1, z2, z3, z4⟩ := hF4.ex
        have r0 := acell hM.o.r 6 (v := .string n4) rfl
        have r1 := acell hM.o.r 7 (v := .string d4) rfl
        obtain ⟨Y, hY⟩ : ∃ Y, Y = P * (D * M) := ⟨_, rfl⟩
        have w1 : IntKind.i64.wrap (P * (D * M)) = Y := by rw [hY]; exact wrap_ok (by omega)
        have w2 : IntKind.i64.wrap ((N * C) * Q) = Y := by rw [hY, z2]; exact wrap_ok (by rw [← z2]; omega)
        have z0 : decide (Q < 1) = false := by rw [decide_eq_false_iff_not]; omega
        clear hY z1 z2 z3 z4 u1 u2
        go_wp2_with fail
        refine (cn _).mono ?_
        rintro e va ⟨rfl, hBa⟩
        have hMa := hM.o.keep hBa
        have r1 := acell hMa.r 7 (v := .string d4) rfl
        go_wp2_with fail
        refine (cd _).mono ?_
        rintro e vb ⟨rfl, hBb⟩
        have hMb := hMa.keep hBb
        clear r0 hBa hBb cn cd
        have r0 := acell hMb.r 6 (v := .string n4) rfl
        have r1 := acell hMb.r 7 (v := .string d4) rfl
        have g0 := acell hMb.g 3 (v := .int .i64 0) rfl
        have t0 := acell hMb.t 6 (v := .int .i64 (N * C)) rfl
        have t1 := acell hMb.t 7 (v := .int .i64 (D * M)) rfl
        go_wp2_with fail
        go_region_held3 (fun X => X.cell? ⟨R, 6, none⟩ = some (.string n4) ∧ X.cell? ⟨R, 7, none⟩ = some (.string d4) ∧ X.cell? ⟨R + 1, 3, none⟩ = some (.int .i64 0) ∧ X.cell? ⟨R + 1 + 1, 6, none⟩ = some (.int .i64 (N * C)) ∧ X.cell? ⟨R + 1 + 1, 7, none⟩ = some (.int .i64 (D * M))) (go_keep) (first | (go_at_call 28; go_loud (refine (cv _).mono ?_); rintro e vc ⟨rfl, hBc⟩; have hMc := hMb.keep (lundrew hBc); have s0 := acell hMc.r 6 (v := .string n4) rfl; have s1 := acell hMc.r 7 (v := .string d4) rfl; have s2 := acell hMc.g 3 (v := .int .i64 0) rfl; have s3 := acell hMc.t 6 (v := .int .i64 (N * C)) rfl; have s4 := acell hMc.t 7 (v := .int .i64 (D * M)) rfl) | fail)
        have hMd : Shut _ := ⟨hMc⟩
        clear hMa hMb hMc hBc hM r0 r1 g0 t0 t1 s0 s1 s2 s3 s4 z0 w1 w2 cv
        go_wp2_with fail
        go_roundw
        case rel => exact ⟨4, by omega, rfl, hMd⟩
        case measure => simp [intOf]
    · have hcc := CC.o
      obtain ⟨X, hX⟩ : ∃ X, X = N * C := ⟨_, rfl⟩
      obtain ⟨Y, hY⟩ : ∃ Y, Y = M * D := ⟨_, rfl⟩
      rw [← hX, ← hY] at hcc
      have u1 : IntKind.i64.wrap (N * C) = X := u1.trans hX.symm
      have u2 : IntKind.i64.wrap (M * D) = Y := u2.trans hY.symm
      have a0 := acell hM.o.a 0 (v := .string sa) rfl
      have a1 := acell hM.o.a 1 (v := .string ta) rfl
      have b0 := acell hM.o.b 0 (v := .string sb) rfl
      have b1 := acell hM.o.b 1 (v := .string tb) rfl
      clear hX hY
      rcases Int.lt_trichotomy X Y with h | h | h
      · have hcc : ∀ W : World, _ := fun W => by have := hcc W; unfold cmpZ at this; rw [if_pos h] at this; exact this
        go_wp2_with fail
        refine (hcc _).mono ?_
        rintro e vz ⟨rfl, hBz⟩
        have hMz := hM.o.keep hBz
        go_wp2
        go_ret
        exact ⟨rfl, hMz.o⟩
      · have hcc : ∀ W : World, _ := fun W => by have := hcc W; unfold cmpZ at this; rw [if_neg (by omega), if_pos h] at this; exact this
        have h2 : ¬ X < Y := by omega
        have h3 : ¬ Y < X := by omega
        clear h
        go_wp2_with fail
        refine (hcc _).mono ?_
        rintro e vz ⟨rfl, hBz⟩
        have hMz := hM.o.keep hBz
        go_wp2
        go_ret
        exact ⟨rfl, hMz.o⟩
      · have hcc : ∀ W : World, _ := fun W => by have := hcc W; unfold cmpZ at this; rw [if_neg (by omega), if_neg (by omega)] at this; exact this
        have h2 : ¬ X < Y := by omega
        go_wp2_with fail
        refine (hcc _).mono ?_
        rintro e vz ⟨rfl, hBz⟩
        have hMz := hM.o.keep hBz
        go_wp2
        go_ret
        exact ⟨rfl, hMz.o⟩
end Rt
end Go.Proofs.YtofcihnihpfljaaGreat
