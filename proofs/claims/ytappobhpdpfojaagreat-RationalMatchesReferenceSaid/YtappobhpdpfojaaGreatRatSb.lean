/-
  The law's sane.
-/
import Derived.Test.YtappobhpdpfojaaGreatRatSa
namespace Go.Proofs.YtappobhpdpfojaaGreat
set_option maxRecDepth 1000000
namespace Rt
open Go.RowKit Go.Proofs.YtappobhpdpfojaaGreat.Nm
theorem step1 {w w' : World} {o : Obj} (h : Below (w.alloc o).heap.size (w.alloc o) w') : Below w.heap.size w w' ∧ w'.heap[w.heap.size]? = some o :=
  ⟨((Below.refl w.heap.size w).alloc (Nat.le_refl _) o).trans (h.mono (by simp)), (h.block w.heap.size (by simp)).trans (World.alloc_heap_new w o)⟩
theorem undrew {B : Nat} {w w' : World} (h : Below B w.drew w') : Below B w w' := ⟨h.os, h.tape, h.output, h.size, h.block⟩
theorem afterY {w w' : World} {b : Nat} {u v : Value} (h : Below ((w.setCell ⟨b, 0, none⟩ u).setCell ⟨b, 1, none⟩ v).heap.size ((w.setCell ⟨b, 0, none⟩ u).setCell ⟨b, 1, none⟩ v) w') : Rim (fun k => k = b) w w' :=
  ((Rim.set (bs := fun k => k = b) w ⟨b, 0, none⟩ u rfl).trans (Rim.set _ ⟨b, 1, none⟩ v rfl)).trans (Rim.of_below h)
theorem keepB {w w' : World} {b : Nat} {o : Obj} (h : w.heap[b]? = some o) (hB : Below w.heap.size w w') : w'.heap[b]? = some o := (hB.block b (lt_of_block h)).trans h
def HL (l : List (Nat × Obj)) (W : World) : Prop := ∀ x ∈ l, W.heap[x.1]? = some x.2
theorem pass {l : List (Nat × Obj)} {w W W' : World} (hl : HL l W) (hb : Below w.heap.size w W) (hn : Below W.heap.size W W') : HL l W' ∧ Below w.heap.size w W' :=
  ⟨fun x hx => keepB (hl x hx) hn, hb.trans (hn.mono hb.size)⟩
theorem S7 {ba bb bc bd bk bm bo : Nat} {W : World} (h : HL [(ba, (.cells #[.string ⟨#[45, 51]⟩, .string ⟨#[50]⟩] 23)), (bb, (.cells #[.string ⟨#[48]⟩, .string ⟨#[49]⟩] 23)), (bc, (.cells #[.string ⟨#[53]⟩, .string ⟨#[54]⟩] 23)), (bd, (.cells #[.string ⟨#[45, 50]⟩, .string ⟨#[49]⟩] 23)), (bk, (.cells #[.string ⟨#[45, 49, 55]⟩, .string ⟨#[53, 48]⟩] 23)), (bm, (.cells #[.string ⟨#[49, 55]⟩, .string ⟨#[53, 48]⟩] 23)), (bo, (.cells #[.string ⟨#[45, 51]⟩, .string ⟨#[50]⟩] 23))] W) : W.cell? ⟨ba, 0, none⟩ = some (.string ⟨#[45, 51]⟩) ∧ W.cell? ⟨ba, 1, none⟩ = some (.string ⟨#[50]⟩) ∧ W.cell? ⟨bb, 0, none⟩ = some (.string ⟨#[48]⟩) ∧ W.cell? ⟨bb, 1, none⟩ = some (.string ⟨#[49]⟩) ∧ W.cell? ⟨bc, 0, none⟩ = some (.string ⟨#[53]⟩) ∧ W.cell? ⟨bc, 1, none⟩ = some (.string ⟨#[54]⟩) ∧ W.cell? ⟨bd, 0, none⟩ = some (.string ⟨#[45, 50]⟩) ∧ W.cell? ⟨bd, 1, none⟩ = some (.string ⟨#[49]⟩) ∧ W.cell? ⟨bk, 0, none⟩ = some (.string ⟨#[45, 49, 55]⟩) ∧ W.cell? ⟨bk, 1, none⟩ = some (.string ⟨#[53, 48]⟩) ∧ W.cell? ⟨bm, 0, none⟩ = some (.string ⟨#[49, 55]⟩) ∧ W.cell? ⟨bm, 1, none⟩ = some (.string ⟨#[53, 48]⟩) ∧ W.cell? ⟨bo, 0, none⟩ = some (.string ⟨#[45, 51]⟩) ∧ W.cell? ⟨bo, 1, none⟩ = some (.string ⟨#[50]⟩) := by
  obtain ⟨a0, a1, _, _⟩ := cell_box (h (ba, (.cells #[.string ⟨#[45, 51]⟩, .string ⟨#[50]⟩] 23)) (by simp))
  obtain ⟨b0, b1, _, _⟩ := cell_box (h (bb, (.cells #[.string ⟨#[48]⟩, .string ⟨#[49]⟩] 23)) (by simp))
  obtain ⟨c0, c1, _, _⟩ := cell_box (h (bc, (.cells #[.string ⟨#[53]⟩, .string ⟨#[54]⟩] 23)) (by simp))
  obtain ⟨d0, d1, _, _⟩ := cell_box (h (bd, (.cells #[.string ⟨#[45, 50]⟩, .string ⟨#[49]⟩] 23)) (by simp))
  obtain ⟨k0, k1, _, _⟩ := cell_box (h (bk, (.cells #[.string ⟨#[45, 49, 55]⟩, .string ⟨#[53, 48]⟩] 23)) (by simp))
  obtain ⟨m0, m1, _, _⟩ := cell_box (h (bm, (.cells #[.string ⟨#[49, 55]⟩, .string ⟨#[53, 48]⟩] 23)) (by simp))
  obtain ⟨o0, o1, _, _⟩ := cell_box (h (bo, (.cells #[.string ⟨#[45, 51]⟩, .string ⟨#[50]⟩] 23)) (by simp))
  exact ⟨a0, a1, b0, b1, c0, c1, d0, d1, k0, k1, m0, m1, o0, o1⟩
set_option maxHeartbeats 8000000 in
theorem sane_any (w : World) : Calls Tryz.prog 10 #[] w fun e w' => e = .returned (.bool true) ∧ Below w.heap.size w w' := by
  go_enter Tryz.func10, Tryz.ntmps10
  go_wp2_with fail
  refine (e_o1 _).mono ?_
  rintro e w0 ⟨rfl, hB0⟩
  have hb0 := hB0
  clear hB0
  go_wp2_with fail
  refine (e_o2 _).mono ?_
  rintro e w1 ⟨rfl, hB1⟩
  obtain ⟨t1, na⟩ := step1 hB1
  have hb1 := hb0.trans (t1.mono hb0.size)
  clear hb0 hB1 t1
  obtain ⟨a0, a1, a2, a3⟩ := cell_box na
  go_wp2_with fail
  refine (e_o3 _).mono ?_
  rintro e w2 ⟨rfl, hB2⟩
  obtain ⟨t2, nb⟩ := step1 hB2
  have hb2 := hb1.trans (t2.mono hb1.size)
  clear a0 a1 a2 a3
  replace na := keepB na t2
  clear hb1 hB2 t2
  obtain ⟨a0, a1, a2, a3⟩ := cell_box na
  obtain ⟨b0, b1, b2, b3⟩ := cell_box nb
  go_wp2_with fail
  refine (is_any _ _ _).mono ?_
  rintro e w3 ⟨rfl, hB3⟩
  have t3 : Below w2.heap.size w2 w3 := by first | exact (step1 hB3).1 | exact hB3
  have hb3 := hb2.trans (t3.mono hb2.size)
  clear a0 a1 a2 a3 b0 b1 b2 b3
  replace na := keepB na t3
  replace nb := keepB nb t3
  clear hb2 hB3 t3
  obtain ⟨a0, a1, a2, a3⟩ := cell_box na
  obtain ⟨b0, b1, b2, b3⟩ := cell_box nb
  go_wp2_with fail
  refine (is_any _ _ _).mono ?_
  rintro e w4 ⟨rfl, hB4⟩
  have t4 : Below w3.heap.size w3 w4 := by first | exact (step1 hB4).1 | exact hB4
  have hb4 := hb3.trans (t4.mono hb3.size)
  clear a0 a1 a2 a3 b0 b1 b2 b3
  replace na := keepB na t4
  replace nb := keepB nb t4
  clear hb3 hB4 t4
  obtain ⟨a0, a1, a2, a3⟩ := cell_box na
  obtain ⟨b0, b1, b2, b3⟩ := cell_box nb
  go_wp2_with fail
  refine (e_ad _).mono ?_
  rintro e w5 ⟨rfl, hB5⟩
  have t5 : Below w4.heap.size w4 w5 := by first | exact (step1 hB5).1 | exact hB5
  have hb5 := hb4.trans (t5.mono hb4.size)
  clear a0 a1 a2 a3 b0 b1 b2 b3
  replace na := keepB na t5
  replace nb := keepB nb t5
  clear hb4 hB5 t5
  obtain ⟨a0, a1, a2, a3⟩ := cell_box na
  obtain ⟨b0, b1, b2, b3⟩ := cell_box nb
  go_wp2_with fail
  refine (is_any _ _ _).mono ?_
  rintro e w6 ⟨rfl, hB6⟩
  obtain ⟨t6, nc⟩ := step1 hB6
  have hb6 := hb5.trans (t6.mono hb5.size)
  clear a0 a1 a2 a3 b0 b1 b2 b3
  replace na := keepB na t6
  replace nb := keepB nb t6
  clear hb5 hB6 t6
  obtain ⟨a0, a1, a2, a3⟩ := cell_box na
  obtain ⟨b0, b1, b2, b3⟩ := cell_box nb
  obtain ⟨c0, c1, c2, c3⟩ := cell_box nc
  go_wp2_with fail
  refine (is_any _ _ _).mono ?_
  rintro e w7 ⟨rfl, hB7⟩
  have t7 : Below w6.heap.size w6 w7 := by first | exact (step1 hB7).1 | exact hB7
  have hb7 := hb6.trans (t7.mono hb6.size)
  clear a0 a1 a2 a3 b0 b1 b2 b3 c0 c1 c2 c3
  replace na := keepB na t7
  replace nb := keepB nb t7
  replace nc := keepB nc t7
  clear hb6 hB7 t7
  obtain ⟨a0, a1, a2, a3⟩ := cell_box na
  obtain ⟨b0, b1, b2, b3⟩ := cell_box nb
  obtain ⟨c0, c1, c2, c3⟩ := cell_box nc
  go_wp2_with fail
  refine (e_d1 _).mono ?_
  rintro e w8 ⟨rfl, hB8⟩
  have t8 : Below w7.heap.size w7 w8 := by first | exact (step1 hB8).1 | exact hB8
  have hb8 := hb7.trans (t8.mono hb7.size)
  clear a0 a1 a2 a3 b0 b1 b2 b3 c0 c1 c2 c3
  replace na := keepB na t8
  replace nb := keepB nb t8
  replace nc := keepB nc t8
  clear hb7 hB8 t8
  obtain ⟨a0, a1, a2, a3⟩ := cell_box na
  obtain ⟨b0, b1, b2, b3⟩ := cell_box nb
  obtain ⟨c0, c1, c2, c3⟩ := cell_box nc
  go_wp2_with fail
  have nA := keepB nb ((Below.refl w8.heap.size w8).alloc (Nat.le_refl _) (.cells #[.string ⟨#[45, 50]⟩, .string ⟨#[49]⟩] 23))
  obtain ⟨g0, g1, g2, g3⟩ := cell_box nA
  have f0 : w1.heap.size < w8.heap.size := lt_of_block nb
  have f1 : w8.heap.size + 1 ≠ w1.heap.size := by omega
  have f2 : w1.heap.size ≠ w8.heap.size + 1 := by omega
  go_region_held3 (fun w' => w'.cell? ⟨w1.heap.size, 0, none⟩ = some (.string ⟨#[48]⟩) ∧ w'.cell? ⟨w1.heap.size, 1, none⟩ = some (.string ⟨#[49]⟩)) (go_keep) (first | (go_at_call 40; refine (is_any _ _ _).mono ?_; rintro e wI ⟨rfl, hI⟩; have tI : Below w8.heap.size w8 wI := (by first | exact (step1 (step1 (undrew hI)).1).1 | exact (step1 (undrew hI)).1); have nd : wI.heap[w8.heap.size]? = some (.cells #[.string ⟨#[45, 50]⟩, .string ⟨#[49]⟩] 23) := (by first | exact (step1 (step1 (undrew hI)).1).2 | exact (step1 (undrew hI)).2); (first | (have hg := step1 (step1 (undrew hI)).1; clear hg; have hh := step1 (undrew hI); have ny := hh.2; clear hh; simp only [World.size_alloc] at ny; have hc := cell_box ny; obtain ⟨y0, y1, y2, y3⟩ := hc) | skip); have nbI := keepB nb tI; have f3 := tI.size; have f4 : wI.heap.size ≠ w1.heap.size := (by omega); have f5 : w1.heap.size ≠ wI.heap.size := (by omega); obtain ⟨i0, i1, i2, i3⟩ := cell_box nbI) | (go_at_call 44; refine (e_d2 _).mono ?_; rintro e w9 ⟨rfl, hB9⟩; have tJ : Below wI.heap.size wI w9 := (by first | exact (step1 hB9).1 | exact hB9); (first | (have hh := step1 hB9; have nz := hh.2; clear hh; have hc := cell_box nz; obtain ⟨y0, y1, y2, y3⟩ := hc) | (have nz := keepB ny hB9; have hc := cell_box nz; obtain ⟨y0, y1, y2, y3⟩ := hc) | skip); have nbJ := keepB nbI tJ; have f6 := tJ.size; have f7 : w9.heap.size ≠ w1.heap.size := (by omega); have f8 : w1.heap.size ≠ w9.heap.size := (by omega); obtain ⟨j0, j1, j2, j3⟩ := cell_box nbJ) | fail)
  all_goals
    have u0 := lt_of_block na
    have u1 := lt_of_block nb
    have u2 := lt_of_block nc
    have u3 := lt_of_block nd
    have u4 := tJ.size
    have u5 := hb8.size
    have t9 := tI.trans (tJ.mono tI.size)
    have ndJ := keepB nd tJ
    have hb9 := hb8.trans (t9.mono hb8.size)
    clear a0 a1 a2 a3 b0 b1 b2 b3 c0 c1 c2 c3
    replace na := keepB na t9
    replace nb := keepB nb t9
    replace nc := keepB nc t9
    clear nA g0 g1 g2 g3 nbI i0 i1 i2 i3 nbJ j0 j1 j2 j3 nd tI tJ hb8 t9 f0 f1 f2 f3 f4 f5 f6 f7 f8
    have nd := ndJ
    clear ndJ
    obtain ⟨a0, a1, a2, a3⟩ := cell_box na
    obtain ⟨b0, b1, b2, b3⟩ := cell_box nb
    obtain ⟨c0, c1, c2, c3⟩ := cell_box nc
    obtain ⟨d0, d1, d2, d3⟩ := cell_box nd
    go_wp2_with fail
    refine (is_any _ _ _).mono ?_
    rintro e w10 ⟨rfl, hB10⟩
    obtain ⟨Y, ⟨y6, y7, y8, y9, yw⟩, t10⟩ : ∃ Y : Nat, (Y ≠ w0.heap.size ∧ Y ≠ w1.heap.size ∧ Y ≠ w5.heap.size ∧ Y ≠ w8.heap.size ∧ w.heap.size ≤ Y) ∧ Rim (fun k => k = Y) w9 w10 := by
      first | exact ⟨wI.heap.size, ⟨by omega, by omega, by omega, by omega, by omega⟩, afterY hB10⟩ | exact ⟨w8.heap.size + 1, ⟨by omega, by omega, by omega, by omega, by omega⟩, afterY hB10⟩ | exact ⟨w9.heap.size, ⟨by omega, by omega, by omega, by omega, by omega⟩, Rim.of_below (step1 hB10).1⟩
    have hb10 := hb9.trans (t10.below hb9.size (fun k hk => hk ▸ yw))
    clear a0 a1 a2 a3 b0 b1 b2 b3 c0 c1 c2 c3 d0 d1 d2 d3
    replace na := t10.heap na (fun e => y6 e.symm)
    replace nb := t10.heap nb (fun e => y7 e.symm)
    replace nc := t10.heap nc (fun e => y8 e.symm)
    replace nd := t10.heap nd (fun e => y9 e.symm)
    clear hb9 hB10 t10 u0 u1 u2 u3 u4 u5 y6 y7 y8 y9 yw
    obtain ⟨a0, a1, a2, a3⟩ := cell_box na
    obtain ⟨b0, b1, b2, b3⟩ := cell_box nb
    obtain ⟨c0, c1, c2, c3⟩ := cell_box nc
    obtain ⟨d0, d1, d2, d3⟩ := cell_box nd
    go_wp2_with fail
    refine (e_dn _).mono ?_
    rintro e w11 ⟨rfl, hB11⟩
    have t11 : Below w10.heap.size w10 w11 := by first | exact (step1 hB11).1 | exact hB11
    have hb11 := hb10.trans (t11.mono hb10.size)
    clear a0 a1 a2 a3 b0 b1 b2 b3 c0 c1 c2 c3 d0 d1 d2 d3
    replace na := keepB na t11
    replace nb := keepB nb t11
    replace nc := keepB nc t11
    replace nd := keepB nd t11
    clear hb10 hB11 t11
    obtain ⟨a0, a1, a2, a3⟩ := cell_box na
    obtain ⟨b0, b1, b2, b3⟩ := cell_box nb
    obtain ⟨c0, c1, c2, c3⟩ := cell_box nc
    obtain ⟨d0, d1, d2, d3⟩ := cell_box nd
    go_wp2_with fail
    refine (is_any _ _ _).mono ?_
    rintro e w12 ⟨rfl, hB12⟩
    obtain ⟨t12, nk⟩ := step1 hB12
    have hb12 := hb11.trans (t12.mono hb11.size)
    clear a0 a1 a2 a3 b0 b1 b2 b3 c0 c1 c2 c3 d0 d1 d2 d3
    replace na := keepB na t12
    replace nb := keepB nb t12
    replace nc := keepB nc t12
    replace nd := keepB nd t12
    clear hb11 hB12 t12
    obtain ⟨a0, a1, a2, a3⟩ := cell_box na
    obtain ⟨b0, b1, b2, b3⟩ := cell_box nb
    obtain ⟨c0, c1, c2, c3⟩ := cell_box nc
    obtain ⟨d0, d1, d2, d3⟩ := cell_box nd
    obtain ⟨k0, k1, k2, k3⟩ := cell_box nk
    go_wp2_with fail
    refine (e_up _).mono ?_
    rintro e w13 ⟨rfl, hB13⟩
    have t13 : Below w12.heap.size w12 w13 := by first | exact (step1 hB13).1 | exact hB13
    have hb13 := hb12.trans (t13.mono hb12.size)
    clear a0 a1 a2 a3 b0 b1 b2 b3 c0 c1 c2 c3 d0 d1 d2 d3 k0 k1 k2 k3
    replace na := keepB na t13
    replace nb := keepB nb t13
    replace nc := keepB nc t13
    replace nd := keepB nd t13
    replace nk := keepB nk t13
    clear hb12 hB13 t13
    obtain ⟨a0, a1, a2, a3⟩ := cell_box na
    obtain ⟨b0, b1, b2, b3⟩ := cell_box nb
    obtain ⟨c0, c1, c2, c3⟩ := cell_box nc
    obtain ⟨d0, d1, d2, d3⟩ := cell_box nd
    obtain ⟨k0, k1, k2, k3⟩ := cell_box nk
    go_wp2_with fail
    refine (e_p1 _).mono ?_
    rintro e w14 ⟨rfl, hB14⟩
    obtain ⟨t14, nm⟩ := step1 hB14
    have hb14 := hb13.trans (t14.mono hb13.size)
    clear a0 a1 a2 a3 b0 b1 b2 b3 c0 c1 c2 c3 d0 d1 d2 d3 k0 k1 k2 k3
    replace na := keepB na t14
    replace nb := keepB nb t14
    replace nc := keepB nc t14
    replace nd := keepB nd t14
    replace nk := keepB nk t14
    clear hb13 hB14 t14
    obtain ⟨a0, a1, a2, a3⟩ := cell_box na
    obtain ⟨b0, b1, b2, b3⟩ := cell_box nb
    obtain ⟨c0, c1, c2, c3⟩ := cell_box nc
    obtain ⟨d0, d1, d2, d3⟩ := cell_box nd
    obtain ⟨k0, k1, k2, k3⟩ := cell_box nk
    obtain ⟨m0, m1, m2, m3⟩ := cell_box nm
    go_wp2_with fail
    refine (e_p2 _).mono ?_
    rintro e w15 ⟨rfl, hB15⟩
    obtain ⟨t15, no⟩ := step1 hB15
    have hb15 := hb14.trans (t15.mono hb14.size)
    clear a0 a1 a2 a3 b0 b1 b2 b3 c0 c1 c2 c3 d0 d1 d2 d3 k0 k1 k2 k3 m0 m1 m2 m3
    replace na := keepB na t15
    replace nb := keepB nb t15
    replace nc := keepB nc t15
    replace nd := keepB nd t15
    replace nk := keepB nk t15
    replace nm := keepB nm t15
    clear hb14 hB15 t15
    obtain ⟨a0, a1, a2, a3⟩ := cell_box na
    obtain ⟨b0, b1, b2, b3⟩ := cell_box nb
    obtain ⟨c0, c1, c2, c3⟩ := cell_box nc
    obtain ⟨d0, d1, d2, d3⟩ := cell_box nd
    obtain ⟨k0, k1, k2, k3⟩ := cell_box nk
    obtain ⟨m0, m1, m2, m3⟩ := cell_box nm
    obtain ⟨o0, o1, o2, o3⟩ := cell_box no
    go_wp2_with fail
    have hl : HL [(w0.heap.size, (.cells #[.string ⟨#[45, 51]⟩, .string ⟨#[50]⟩] 23)), (w1.heap.size, (.cells #[.string ⟨#[48]⟩, .string ⟨#[49]⟩] 23)), (w5.heap.size, (.cells #[.string ⟨#[53]⟩, .string ⟨#[54]⟩] 23)), (w8.heap.size, (.cells #[.string ⟨#[45, 50]⟩, .string ⟨#[49]⟩] 23)), (w11.heap.size, (.cells #[.string ⟨#[45, 49, 55]⟩, .string ⟨#[53, 48]⟩] 23)), (w13.heap.size, (.cells #[.string ⟨#[49, 55]⟩, .string ⟨#[53, 48]⟩] 23)), (w14.heap.size, (.cells #[.string ⟨#[45, 51]⟩, .string ⟨#[50]⟩] 23))] w15 := by
      intro x hx
      simp only [List.mem_cons, List.not_mem_nil, or_false] at hx
      rcases hx with rfl | rfl | rfl | rfl | rfl | rfl | rfl
      · exact na
      · exact nb
      · exact nc
      · exact nd
      · exact nk
      · exact nm
      · exact no
    have hb := hb15
    clear hb15 na a0 a1 a2 a3 nb b0 b1 b2 b3 nc c0 c1 c2 c3 nd d0 d1 d2 d3 nk k0 k1 k2 k3 nm m0 m1 m2 m3 no o0 o1 o2 o3
    have hA := S7 (pass hl hb ((Below.refl w15.heap.size w15).alloc (Nat.le_refl _) (.cells #[.string ⟨#[]⟩, .string ⟨#[]⟩] 23))).1
    go_region_held3 (fun w' => w'.cell? ⟨w0.heap.size, 0, none⟩ = some (.string ⟨#[45, 51]⟩) ∧ w'.cell? ⟨w0.heap.size, 1, none⟩ = some (.string ⟨#[50]⟩) ∧ w'.cell? ⟨w1.heap.size, 0, none⟩ = some (.string ⟨#[48]⟩) ∧ w'.cell? ⟨w1.heap.size, 1, none⟩ = some (.string ⟨#[49]⟩) ∧ w'.cell? ⟨w5.heap.size, 0, none⟩ = some (.string ⟨#[53]⟩) ∧ w'.cell? ⟨w5.heap.size, 1, none⟩ = some (.string ⟨#[54]⟩) ∧ w'.cell? ⟨w8.heap.size, 0, none⟩ = some (.string ⟨#[45, 50]⟩) ∧ w'.cell? ⟨w8.heap.size, 1, none⟩ = some (.string ⟨#[49]⟩) ∧ w'.cell? ⟨w11.heap.size, 0, none⟩ = some (.string ⟨#[45, 49, 55]⟩) ∧ w'.cell? ⟨w11.heap.size, 1, none⟩ = some (.string ⟨#[53, 48]⟩) ∧ w'.cell? ⟨w13.heap.size, 0, none⟩ = some (.string ⟨#[49, 55]⟩) ∧ w'.cell? ⟨w13.heap.size, 1, none⟩ = some (.string ⟨#[53, 48]⟩) ∧ w'.cell? ⟨w14.heap.size, 0, none⟩ = some (.string ⟨#[45, 51]⟩) ∧ w'.cell? ⟨w14.heap.size, 1, none⟩ = some (.string ⟨#[50]⟩)) (first | exact S7 (by assumption) | exact hA) (first | (go_at_call 40; go_loud (with_reducible refine (is_any _ _ _).mono ?_); rintro e wn ⟨rfl, hn⟩; go_loud (first | (have hh := pass hl hb hn; clear hl hb hn; obtain ⟨hl, hb⟩ := hh) | (have hh := pass hl hb (step1 (undrew hn)).1; clear hl hb hn; obtain ⟨hl, hb⟩ := hh))) | (go_at_call 32; with_reducible refine (e_pr _).mono ?_; rintro e wn ⟨rfl, hn⟩; (first | (have hh := pass hl hb hn; clear hl hb hn; obtain ⟨hl, hb⟩ := hh) | (have hh := pass hl hb (step1 (undrew hn)).1; clear hl hb hn; obtain ⟨hl, hb⟩ := hh))) | (go_at_call 19; with_reducible refine (e_cm _).mono ?_; rintro e wn ⟨rfl, hn⟩; (first | (have hh := pass hl hb hn; clear hl hb hn; obtain ⟨hl, hb⟩ := hh) | (have hh := pass hl hb (step1 (undrew hn)).1; clear hl hb hn; obtain ⟨hl, hb⟩ := hh))) | (go_at_call 28; with_reducible refine (e_v1 _).mono ?_; rintro e wn ⟨rfl, hn⟩; (first | (have hh := pass hl hb hn; clear hl hb hn; obtain ⟨hl, hb⟩ := hh) | (have hh := pass hl hb (step1 (undrew hn)).1; clear hl hb hn; obtain ⟨hl, hb⟩ := hh))) | (go_at_call 28; with_reducible refine (e_v2 _).mono ?_; rintro e wn ⟨rfl, hn⟩; (first | (have hh := pass hl hb hn; clear hl hb hn; obtain ⟨hl, hb⟩ := hh) | (have hh := pass hl hb (step1 (undrew hn)).1; clear hl hb hn; obtain ⟨hl, hb⟩ := hh))) | fail)
    go_wp2
    go_ret
    exact ⟨rfl, hb⟩
end Rt
end Go.Proofs.YtappobhpdpfojaaGreat
