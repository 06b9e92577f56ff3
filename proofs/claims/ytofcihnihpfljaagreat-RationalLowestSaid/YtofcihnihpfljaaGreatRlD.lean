/-
  The law RationalLowest: its walk.
-/
import Derived.Test.YtofcihnihpfljaaGreatRlC
namespace Go.Proofs.YtofcihnihpfljaaGreat
set_option maxRecDepth 1000000
namespace Rt
open Go.RowKit Go.Proofs.YtofcihnihpfljaaGreat.Nm
open N10 (Two)

set_option maxHeartbeats 1000000 in
theorem pickL_any (c n : Int) (h1 : -9223372036854775808 ≤ c) (h2 : c ≤ 9223372036854775807) (n1 : 1 ≤ n) (n2 : n ≤ 9223372036854775807) (w : World) :
    Calls Tryz.prog 21 #[.int .i64 c, .int .i64 n] w fun e w' => ∃ k : Nat, (k : Int) < n ∧ e = .returned (.int .i64 (k : Int)) ∧ w' = w := by
  have hw : ∀ x : Int, -9223372036854775808 ≤ x → x ≤ 9223372036854775807 → IntKind.i64.wrap x = x := fun x a b => by simp [IntKind.wrap, IntKind.signed, IntKind.bits]; omega
  have hn0 : ¬ n = 0 := by omega
  by_cases hc : c < 0
  · have e1 := hw (c + 1) (by omega) (by omega)
    have e2 := hw (-(c + 1)) (by omega) (by omega)
    obtain ⟨k, hk⟩ : ∃ k : Nat, -(c + 1) = (k : Int) := ⟨(-(c + 1)).toNat, by omega⟩
    obtain ⟨m, rfl⟩ := Int.eq_ofNat_of_zero_le (show 0 ≤ n by omega)
    have hm : k % m < m := Nat.mod_lt _ (by omega)
    go_enter Tryz.func21, Tryz.ntmps21
    go_wp2
    go_ret
    exact ⟨k % m, by omega, by congr 2, rfl⟩
  · obtain ⟨k, rfl⟩ := Int.eq_ofNat_of_zero_le (show 0 ≤ c by omega)
    obtain ⟨m, rfl⟩ := Int.eq_ofNat_of_zero_le (show 0 ≤ n by omega)
    have hm : k % m < m := Nat.mod_lt _ (by omega)
    go_enter Tryz.func21, Tryz.ntmps21
    go_wp2
    go_ret
    exact ⟨k % m, by omega, by congr 2, rfl⟩
set_option maxHeartbeats 1000000 in
theorem lis_any (s t : ByteArray) (w : World) : Calls Tryz.prog 40 #[.string s, .string t] w fun e w' => e = .returned (.agg #[.string s, .string t]) ∧ Below w.heap.size w w' := by
  go_enter Tryz.func40, Tryz.ntmps40
  go_wp2
  refine bodyPost_ret (v := .agg #[.string s, .string t]) (by simp [results, Tryz.results40, go_sem]) rfl ⟨rfl, (Below.refl w.heap.size w).alloc (Nat.le_refl _) _⟩
theorem two_M {x y : Int} (hx : Fits x) (hy : Fits y) (h : Fits (x * y)) : Two 43 #[.string (txt x), .string (txt y)] (.tuple #[.string (txt (x * y)), .int .i64 0]) := fun W => by
  have := N10.Mul_ref x y hx hy W
  rwa [calcR_fit h] at this
theorem make_rq {x y : Int} {q : Rat} (hx : Fits x) (hy : Fits y) (h0 : y ≠ 0) (hq : Rat.divInt x y = q) : Two 26 #[.string (txt x), .string (txt y)] (.tuple #[.agg #[.string (txt q.num), .string (txt (q.den : Int))], .int .i64 0]) := fun W => by
  have := Make_all (txt x) (txt y) (txt_size6 hx) (txt_size6 hy) W
  rw [red_q hx hy h0, hq] at this
  exact this
/-- what the law asks of a fraction and a factor -/
theorem low_facts (q : Rat) (hq : LongQ q) (K : Int) (h0 : K ≠ 0) (h1 : -1000000 ≤ K) (h2 : K ≤ 1000000) : ∃ sk nk dk p : ByteArray,
    Two 42 #[.int .i64 K] (.string sk) ∧
    Two 43 #[.string (txt q.num), .string sk] (.tuple #[.string nk, .int .i64 0]) ∧
    Two 43 #[.string (txt (q.den : Int)), .string sk] (.tuple #[.string dk, .int .i64 0]) ∧
    Two 26 #[.string nk, .string dk] (.tuple #[.agg #[.string (txt q.num), .string (txt (q.den : Int))], .int .i64 0]) ∧
    Two 26 #[.string (txt q.num), .string (txt (q.den : Int))] (.tuple #[.agg #[.string (txt q.num), .string (txt (q.den : Int))], .int .i64 0]) ∧
    Two 26 #[.string ⟨#[48]⟩, .string sk] (.tuple #[.agg #[.string ⟨#[48]⟩, .string ⟨#[49]⟩], .int .i64 0]) ∧
    Two 28 #[.agg #[.string (txt q.num), .string (txt (q.den : Int))]] (.bool true) ∧
    Two 19 #[.agg #[.string (txt q.num), .string (txt (q.den : Int))], .agg #[.string (txt q.num), .string (txt (q.den : Int))]] (.int .i64 0) ∧
    Two 32 #[.agg #[.string (txt q.num), .string (txt (q.den : Int))]] (.string p) := by
  have fq := hq.fit
  have fK : Fits K := fits_small (Nat.lt_trans (show K.natAbs < 10 ^ 10 by omega) (by decide))
  have b1 : (q.num * K).natAbs < 10 ^ 200 := by
    rw [Int.natAbs_mul]
    exact Nat.lt_of_le_of_lt (Nat.mul_le_mul (Nat.le_of_lt hq.num) (show K.natAbs ≤ 10 ^ 10 by omega)) (by decide)
  have b2 : ((q.den : Int) * K).natAbs < 10 ^ 200 := by
    rw [Int.natAbs_mul, Int.natAbs_natCast]
    exact Nat.lt_of_le_of_lt (Nat.mul_le_mul (Nat.le_of_lt hq.den) (show K.natAbs ≤ 10 ^ 10 by omega)) (by decide)
  have f1 := fits_small b1
  have f2 := fits_small b2
  have hz : Rat.divInt 0 K = 0 := Rat.zero_divInt K
  have hK : Rat.divInt (q.num * K) ((q.den : Int) * K) = q := by
    rw [Rat.divInt_mul_right h0, Rat.num_divInt_den]
  have m3 := make_rq fits0 fK h0 hz
  rw [show (0 : Rat).num = 0 from rfl, show (((0 : Rat).den : Nat) : Int) = 1 from rfl, txt_0, txt_1] at m3
  have cP := fun W => Print_all (txt q.num) (txt (q.den : Int)) fq.size.1 fq.size.2 W
  exact ⟨_, _, _, _, fun W => N10.FromInt_ref K (by omega) (by omega) W, two_M fq.1 fK f1, two_M fq.2 fK f2, make_rq f1 f2 (Int.mul_ne_zero (den_ne q) h0) hK, make_rq fq.1 fq.2 (den_ne q) (Rat.num_divInt_den q), m3, fun W => Valid_q fq W, fun W => Compare_same _ _ W, cP⟩
/-- the boxes of the law -/
structure LoM (A B C D : Nat) (w V : World) (sn sd : ByteArray) : Prop where
  r : V.heap[A]? = some (.cells #[.string sn, .string sd] 23 (0, 0))
  a : V.heap[B]? = some (.cells #[.string sn, .string sd] 23 (0, 0))
  b : V.heap[C]? = some (.cells #[.string sn, .string sd] 23 (0, 0))
  z : V.heap[D]? = some (.cells #[.string ⟨#[48]⟩, .string ⟨#[49]⟩] 23 (0, 0))
  u : Below w.heap.size w V
theorem LoM.keep {A B C D : Nat} {w V V' : World} {sn sd : ByteArray} (h : LoM A B C D w V sn sd) (hB : Below V.heap.size V V') : LoM A B C D w V' sn sd :=
  ⟨lkeep h.r hB, lkeep h.a hB, lkeep h.b hB, lkeep h.z hB, h.u.trans (hB.mono h.u.size)⟩
theorem LoM.cells {A B C D : Nat} {w V : World} {sn sd : ByteArray} (h : LoM A B C D w V sn sd) : V.cell? ⟨A, 0, none⟩ = some (.string sn) ∧ V.cell? ⟨A, 1, none⟩ = some (.string sd) ∧ V.cell? ⟨B, 0, none⟩ = some (.string sn) ∧ V.cell? ⟨B, 1, none⟩ = some (.string sd) ∧ V.cell? ⟨C, 0, none⟩ = some (.string sn) ∧ V.cell? ⟨C, 1, none⟩ = some (.string sd) ∧ V.cell? ⟨D, 0, none⟩ = some (.string ⟨#[48]⟩) ∧ V.cell? ⟨D, 1, none⟩ = some (.string ⟨#[49]⟩) :=
  ⟨(cell_box h.r).1, (cell_box h.r).2.1, (cell_box h.a).1, (cell_box h.a).2.1, (cell_box h.b).1, (cell_box h.b).2.1, (cell_box h.z).1, (cell_box h.z).2.1⟩

set_option maxHeartbeats 4000000 in
theorem low_walk (x0 x1 x2 x3 f : Int) (s : Bool) (h0 : -9223372036854775808 ≤ x0 ∧ x0 ≤ 9223372036854775807) (h1 : -9223372036854775808 ≤ x1 ∧ x1 ≤ 9223372036854775807) (h2 : -9223372036854775808 ≤ x2 ∧ x2 ≤ 9223372036854775807) (h3 : -9223372036854775808 ≤ x3 ∧ x3 ≤ 9223372036854775807) (hf : -9223372036854775808 ≤ f ∧ f ≤ 9223372036854775807) (w : World)
    (hS : ∀ W : World, Calls Tryz.prog 10 #[] W fun e w' => e = .returned (.bool true) ∧ Below W.heap.size W w') :
    Calls Tryz.prog 9 #[.agg #[.int .i64 x0, .int .i64 x1, .int .i64 x2, .int .i64 x3], .int .i64 f, .bool s] w fun e w' => e = .returned (.bool true) ∧ Below w.heap.size w w' := by
  have cL := fun W => Long_any x0 x1 x2 x3 h0 h1 h2 h3 W
  have cp := fun W => pickL_any f 1000000 hf.1 hf.2 (by decide) (by decide) W
  have CP : Shut _ := ⟨cp⟩
  clear h0 h1 h2 h3 hf cp
  cases s
  · go_enter Tryz.func9, Tryz.ntmps9
    go_wp2_with fail
    refine (hS _).mono ?_
    rintro e w1 ⟨rfl, hb1⟩
    obtain ⟨t1, nx⟩ := lstep hb1
    have cx0 := lcell nx 0 (v := .int .i64 x0) rfl
    have cx1 := lcell nx 1 (v := .int .i64 x1) rfl
    have cx2 := lcell nx 2 (v := .int .i64 x2) rfl
    have cx3 := lcell nx 3 (v := .int .i64 x3) rfl
    clear hb1 hS
    go_wp2_with fail
    refine (cL _).mono ?_
    rintro e w2 ⟨q, hq, rfl, hb2⟩
    have t2 := t1.trans (hb2.mono t1.size)
    clear cx0 cx1 cx2 cx3 nx t1 hb2 cL
    have HQ : Shut (LongQ q) := ⟨hq⟩
    clear hq
    unfold rq rv
    go_wp2_with fail
    refine (CP.o _).mono ?_
    rintro e w3 ⟨i, hi, rfl, rfl⟩
    go_wp2_with fail
    have k0 : 1 + (i : Int) ≠ 0 := by omega
    have k1 : -1000000 ≤ 1 + (i : Int) := by omega
    have k2 : 1 + (i : Int) ≤ 1000000 := by omega
    generalize 1 + (i : Int) = K at *
    obtain ⟨sk, nk, dk, p, cF, cM1, cM2, cK1, cK2, cK3, cV, cC, cP⟩ := low_facts q HQ.o K k0 k1 k2
    clear k0 k1 k2 hi CP HQ
    generalize txt q.num = sn at *
    generalize txt (q.den : Int) = sd at *
    refine (cF.run _).mono ?_
    rintro e w4 ⟨rfl, hb4⟩
    obtain ⟨t4, nr⟩ := lstep hb4
    have u4 := t2.trans (t4.mono t2.size)
    clear hb4 t4 t2 cF
    obtain ⟨y0, y1, y2, y3⟩ := cell_box nr
    go_wp2_with fail
    with_reducible refine (cM1.run _).mono ?_
    rintro e w5 ⟨rfl, hb5⟩
    have u5 := u4.trans (hb5.mono u4.size)
    replace nr := lkeep nr hb5
    clear y0 y1 y2 y3 hb5 cM1 u4
    obtain ⟨y0, y1, y2, y3⟩ := cell_box nr
    go_wp2_with fail
    with_reducible refine (cM2.run _).mono ?_
    rintro e w6 ⟨rfl, hb6⟩
    have u6 := u5.trans (hb6.mono u5.size)
    replace nr := lkeep nr hb6
    clear y0 y1 y2 y3 hb6 cM2 u5
    go_wp2_with fail
    with_reducible refine (cK1.run _).mono ?_
    rintro e w7 ⟨rfl, hb7⟩
    have u7 := u6.trans (hb7.mono u6.size)
    replace nr := lkeep nr hb7
    have lr := lt_of_block nr
    clear hb7 cK1 u6
    obtain ⟨y0, y1, y2, y3⟩ := cell_box nr
    go_wp2_with fail
    with_reducible refine (cK2.run _).mono ?_
    rintro e w8 ⟨rfl, hb8⟩
    obtain ⟨t8, na⟩ := lstep hb8
    have u8 := u7.trans (t8.mono u7.size)
    replace nr := lkeep nr t8
    clear y0 y1 y2 y3 hb8 cK2 u7 t8 lr
    go_wp2_with fail
    with_reducible refine (cK3.run _).mono ?_
    rintro e w9 ⟨rfl, hb9⟩
    obtain ⟨t9, nb⟩ := lstep hb9
    have u9 := u8.trans (t9.mono u8.size)
    replace nr := lkeep nr t9
    replace na := lkeep na t9
    clear hb9 cK3 u8 t9
    have hM : LoM w2.heap.size w7.heap.size w8.heap.size w9.heap.size w (w9.alloc (.cells #[.string ⟨#[48]⟩, .string ⟨#[49]⟩] 23)) sn sd := by
      have q1 := (Below.refl w9.heap.size w9).alloc (Nat.le_refl _) (.cells #[.string ⟨#[48]⟩, .string ⟨#[49]⟩] 23)
      exact ⟨lkeep nr q1, lkeep na q1, lkeep nb q1, World.alloc_heap_new _ _, u9.trans (q1.mono u9.size)⟩
    clear nr na nb u9
    go_wp2_with fail
    generalize w9.alloc (.cells #[.string ⟨#[48]⟩, .string ⟨#[49]⟩] 23) = V at *
    generalize w2.heap.size = A at *
    generalize w7.heap.size = B at *
    generalize w8.heap.size = C at *
    generalize w9.heap.size = D at *
    have CV : Shut _ := ⟨cV⟩
    have CC : Shut _ := ⟨cC⟩
    have CPr : Shut _ := ⟨cP⟩
    have HM : Shut _ := ⟨hM⟩
    obtain ⟨r0, r1, a0, a1, b0, b1, z0, z1⟩ := hM.cells
    clear cV cC cP hM
    go_region_held3 (fun X => X.cell? ⟨A, 0, none⟩ = some (.string sn) ∧ X.cell? ⟨A, 1, none⟩ = some (.string sd) ∧ X.cell? ⟨B, 0, none⟩ = some (.string sn) ∧ X.cell? ⟨B, 1, none⟩ = some (.string sd) ∧ X.cell? ⟨C, 0, none⟩ = some (.string sn) ∧ X.cell? ⟨C, 1, none⟩ = some (.string sd) ∧ X.cell? ⟨D, 0, none⟩ = some (.string ⟨#[48]⟩) ∧ X.cell? ⟨D, 1, none⟩ = some (.string ⟨#[49]⟩)) (go_keep) (first | (go_at_call 28; go_loud (refine (CV.o.run _).mono ?_); rintro e v1 ⟨rfl, g1⟩; have m1 := HM.o.keep (lundrew g1); obtain ⟨r0, r1, a0, a1, b0, b1, z0, z1⟩ := m1.cells) | (go_at_call 19; go_loud (refine (CC.o.run _).mono ?_); rintro e v2 ⟨rfl, g2⟩; have m2 := m1.keep g2; obtain ⟨r0, r1, a0, a1, b0, b1, z0, z1⟩ := m2.cells) | (go_at_call 40; go_loud (refine (lis_any _ _ _).mono ?_); rintro e v3 ⟨rfl, g3⟩; have m3 := m2.keep g3; obtain ⟨r0, r1, a0, a1, b0, b1, z0, z1⟩ := m3.cells) | (go_at_call 32; have q4 := m4; clear q4; go_loud (refine (CPr.o.run _).mono ?_); rintro e v5 ⟨rfl, g5⟩; have m5 := m4.keep g5; obtain ⟨r0, r1, a0, a1, b0, b1, z0, z1⟩ := m5.cells) | (go_at_call 32; go_loud (refine (CPr.o.run _).mono ?_); rintro e v4 ⟨rfl, g4⟩; have m4 := m3.keep g4; obtain ⟨r0, r1, a0, a1, b0, b1, z0, z1⟩ := m4.cells) | fail)
    all_goals
      go_wp2
      go_ret
      exact ⟨rfl, m5.u⟩
  · go_enter Tryz.func9, Tryz.ntmps9
    go_wp2_with fail
    refine (hS _).mono ?_
    rintro e w1 ⟨rfl, hb1⟩
    obtain ⟨t1, nx⟩ := lstep hb1
    have cx0 := lcell nx 0 (v := .int .i64 x0) rfl
    have cx1 := lcell nx 1 (v := .int .i64 x1) rfl
    have cx2 := lcell nx 2 (v := .int .i64 x2) rfl
    have cx3 := lcell nx 3 (v := .int .i64 x3) rfl
    clear hb1 hS
    go_wp2_with fail
    refine (cL _).mono ?_
    rintro e w2 ⟨q, hq, rfl, hb2⟩
    have t2 := t1.trans (hb2.mono t1.size)
    clear cx0 cx1 cx2 cx3 nx t1 hb2 cL
    have HQ : Shut (LongQ q) := ⟨hq⟩
    clear hq
    unfold rq rv
    go_wp2_with fail
    refine (CP.o _).mono ?_
    rintro e w3 ⟨i, hi, rfl, rfl⟩
    go_wp2_with fail
    have k0 : -(1 + (i : Int)) ≠ 0 := by omega
    have k1 : -1000000 ≤ -(1 + (i : Int)) := by omega
    have k2 : -(1 + (i : Int)) ≤ 1000000 := by omega
    generalize -(1 + (i : Int)) = K at *
    obtain ⟨sk, nk, dk, p, cF, cM1, cM2, cK1, cK2, cK3, cV, cC, cP⟩ := low_facts q HQ.o K k0 k1 k2
    clear k0 k1 k2 hi CP HQ
    generalize txt q.num = sn at *
    generalize txt (q.den : Int) = sd at *
    refine (cF.run _).mono ?_
    rintro e w4 ⟨rfl, hb4⟩
    obtain ⟨t4, nr⟩ := lstep hb4
    have u4 := t2.trans (t4.mono t2.size)
    clear hb4 t4 t2 cF
    obtain ⟨y0, y1, y2, y3⟩ := cell_box nr
    go_wp2_with fail
    with_reducible refine (cM1.run _).mono ?_
    rintro e w5 ⟨rfl, hb5⟩
    have u5 := u4.trans (hb5.mono u4.size)
    replace nr := lkeep nr hb5
    clear y0 y1 y2 y3 hb5 cM1 u4
    obtain ⟨y0, y1, y2, y3⟩ := cell_box nr
    go_wp2_with fail
    with_reducible refine (cM2.run _).mono ?_
    rintro e w6 ⟨rfl, hb6⟩
    have u6 := u5.trans (hb6.mono u5.size)
    replace nr := lkeep nr hb6
    clear y0 y1 y2 y3 hb6 cM2 u5
    go_wp2_with fail
    with_reducible refine (cK1.run _).mono ?_
    rintro e w7 ⟨rfl, hb7⟩
    have u7 := u6.trans (hb7.mono u6.size)
    replace nr := lkeep nr hb7
    have lr := lt_of_block nr
    clear hb7 cK1 u6
    obtain ⟨y0, y1, y2, y3⟩ := cell_box nr
    go_wp2_with fail
    with_reducible refine (cK2.run _).mono ?_
    rintro e w8 ⟨rfl, hb8⟩
    obtain ⟨t8, na⟩ := lstep hb8
    have u8 := u7.trans (t8.mono u7.size)
    replace nr := lkeep nr t8
    clear y0 y1 y2 y3 hb8 cK2 u7 t8 lr
    go_wp2_with fail
    with_reducible refine (cK3.run _).mono ?_
    rintro e w9 ⟨rfl, hb9⟩
    obtain ⟨t9, nb⟩ := lstep hb9
    have u9 := u8.trans (t9.mono u8.size)
    replace nr := lkeep nr t9
    replace na := lkeep na t9
    clear hb9 cK3 u8 t9
    have hM : LoM w2.heap.size w7.heap.size w8.heap.size w9.heap.size w (w9.alloc (.cells #[.string ⟨#[48]⟩, .string ⟨#[49]⟩] 23)) sn sd := by
      have q1 := (Below.refl w9.heap.size w9).alloc (Nat.le_refl _) (.cells #[.string ⟨#[48]⟩, .string ⟨#[49]⟩] 23)
      exact ⟨lkeep nr q1, lkeep na q1, lkeep nb q1, World.alloc_heap_new _ _, u9.trans (q1.mono u9.size)⟩
    clear nr na nb u9
    go_wp2_with fail
    generalize w9.alloc (.cells #[.string ⟨#[48]⟩, .string ⟨#[49]⟩] 23) = V at *
    generalize w2.heap.size = A at *
    generalize w7.heap.size = B at *
    generalize w8.heap.size = C at *
    generalize w9.heap.size = D at *
    have CV : Shut _ := ⟨cV⟩
    have CC : Shut _ := ⟨cC⟩
    have CPr : Shut _ := ⟨cP⟩
    have HM : Shut _ := ⟨hM⟩
    obtain ⟨r0, r1, a0, a1, b0, b1, z0, z1⟩ := hM.cells
    clear cV cC cP hM
    go_region_held3 (fun X => X.cell? ⟨A, 0, none⟩ = some (.string sn) ∧ X.cell? ⟨A, 1, none⟩ = some (.string sd) ∧ X.cell? ⟨B, 0, none⟩ = some (.string sn) ∧ X.cell? ⟨B, 1, none⟩ = some (.string sd) ∧ X.cell? ⟨C, 0, none⟩ = some (.string sn) ∧ X.cell? ⟨C, 1, none⟩ = some (.string sd) ∧ X.cell? ⟨D, 0, none⟩ = some (.string ⟨#[48]⟩) ∧ X.cell? ⟨D, 1, none⟩ = some (.string ⟨#[49]⟩)) (go_keep) (first | (go_at_call 28; go_loud (refine (CV.o.run _).mono ?_); rintro e v1 ⟨rfl, g1⟩; have m1 := HM.o.keep (lundrew g1); obtain ⟨r0, r1, a0, a1, b0, b1, z0, z1⟩ := m1.cells) | (go_at_call 19; go_loud (refine (CC.o.run _).mono ?_); rintro e v2 ⟨rfl, g2⟩; have m2 := m1.keep g2; obtain ⟨r0, r1, a0, a1, b0, b1, z0, z1⟩ := m2.cells) | (go_at_call 40; go_loud (refine (lis_any _ _ _).mono ?_); rintro e v3 ⟨rfl, g3⟩; have m3 := m2.keep g3; obtain ⟨r0, r1, a0, a1, b0, b1, z0, z1⟩ := m3.cells) | (go_at_call 32; have q4 := m4; clear q4; go_loud (refine (CPr.o.run _).mono ?_); rintro e v5 ⟨rfl, g5⟩; have m5 := m4.keep g5; obtain ⟨r0, r1, a0, a1, b0, b1, z0, z1⟩ := m5.cells) | (go_at_call 32; go_loud (refine (CPr.o.run _).mono ?_); rintro e v4 ⟨rfl, g4⟩; have m4 := m3.keep g4; obtain ⟨r0, r1, a0, a1, b0, b1, z0, z1⟩ := m4.cells) | fail)
    all_goals
      go_wp2
      go_ret
      exact ⟨rfl, m5.u⟩
end Rt
end Go.Proofs.YtofcihnihpfljaaGreat
