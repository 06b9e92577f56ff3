/-
  Contracts: Compare where the products fit.
-/
import Derived.Test.YtappobhpdpfojaaGreatRatL
import Derived.ScopeJumps
import Derived.WalkMore
namespace Go.Proofs.YtappobhpdpfojaaGreat
set_option maxRecDepth 1000000
namespace Rt
open Go.RowKit Go.Proofs.YtappobhpdpfojaaGreat.Nm
/-- the boxes of two fractions -/
structure AB (b : Nat) (W : World) (s t u v : ByteArray) : Prop where
  a : W.heap[b]? = some (.cells #[.string s, .string t] 23 (0, 0))
  b : W.heap[b + 1]? = some (.cells #[.string u, .string v] 23 (0, 0))
theorem AB.new (w : World) (s t u v : ByteArray) : AB w.heap.size ((w.alloc (.cells #[.string s, .string t] 23)).alloc (.cells #[.string u, .string v] 23)) s t u v :=
  ⟨res_old w _ _, res_two w _ _⟩
theorem AB.keep {b : Nat} {W W' : World} {s t u v : ByteArray} (h : AB b W s t u v) (hB : Below W.heap.size W W') : AB b W' s t u v :=
  ⟨(hB.block _ (lt_of_block h.a)).trans h.a, (hB.block _ (lt_of_block h.b)).trans h.b⟩
theorem AB.cells {b : Nat} {W : World} {s t u v : ByteArray} (h : AB b W s t u v) : W.cell? ⟨b, 0, none⟩ = some (.string s) ∧ W.cell? ⟨b, 1, none⟩ = some (.string t) ∧ W.cell? ⟨b + 1, 0, none⟩ = some (.string u) ∧ W.cell? ⟨b + 1, 1, none⟩ = some (.string v) :=
  ⟨cell_of_row W _ 0 _ _ _ h.a, cell_of_row W _ 1 _ _ _ h.a, cell_of_row W _ 0 _ _ _ h.b, cell_of_row W _ 1 _ _ _ h.b⟩
theorem AB.lt {b : Nat} {W : World} {s t u v : ByteArray} (h : AB b W s t u v) : b + 1 < W.heap.size := lt_of_block h.b
set_option maxHeartbeats 2000000 in
theorem Compare_fit (s t u v l r : ByteArray) (c : Int) (w : World) (h : ¬ (s = u ∧ t = v)) (hV1 : ∀ W : World, Calls Tryz.prog 28 #[.agg #[.string s, .string t]] W fun e W' => e = .returned (.bool true) ∧ Below W.heap.size W W')
    (hV2 : ∀ W : World, Calls Tryz.prog 28 #[.agg #[.string u, .string v]] W fun e W' => e = .returned (.bool true) ∧ Below W.heap.size W W')
    (hM1 : ∀ W : World, Calls Tryz.prog 49 #[.string s, .string v] W fun e W' => e = .returned (.tuple #[.string l, .int .i64 0]) ∧ Below W.heap.size W W')
    (hM2 : ∀ W : World, Calls Tryz.prog 49 #[.string u, .string t] W fun e W' => e = .returned (.tuple #[.string r, .int .i64 0]) ∧ Below W.heap.size W W')
    (hC : ∀ W : World, Calls Tryz.prog 50 #[.string l, .string r] W fun e W' => e = .returned (.int .i64 c) ∧ Below W.heap.size W W') :
    Calls Tryz.prog 19 #[rv s t, rv u v] w fun e w' => e = .returned (.int .i64 c) ∧ Below w.heap.size w w' := by
  have inj : ∀ a b : ByteArray, a.toList = b.toList → a = b := fun a b h => by
    have := str_eq a b
    rw [h] at this
    simpa using this.symm
  have a0 := AB.new w s t u v
  unfold rv
  by_cases h1 : s = u
  · have h2 : ¬ t.toList = v.toList := fun e => h ⟨h1, inj _ _ e⟩
    have h3 : s.toList = u.toList := by rw [h1]
    clear h h1 inj
    go_enter Tryz.func19, Tryz.ntmps19
    go_wp2
    go_step3
    go_wp2_with (first | (go_at_call 28; with_reducible refine (hV1 _).mono ?_; rintro e w1 ⟨rfl, hB1⟩; have a1 := a0.keep hB1; obtain ⟨x0, x1, x2, x3⟩ := a1.cells) | (go_at_call 28; with_reducible refine (hV2 _).mono ?_; rintro e w2 ⟨rfl, hB2⟩; have a2 := a1.keep hB2; obtain ⟨y0, y1, y2, y3⟩ := a2.cells))
    go_step3
    go_wp2_with (first | (go_at_call 49; with_reducible refine (hM1 _).mono ?_; rintro e w3 ⟨rfl, hB3⟩; have a3 := a2.keep hB3; obtain ⟨z0, z1, z2, z3⟩ := a3.cells) | (go_at_call 49; with_reducible refine (hM2 _).mono ?_; rintro e w4 ⟨rfl, hB4⟩) | (go_at_call 50; with_reducible refine (hC _).mono ?_; rintro e w5 ⟨rfl, hB5⟩))
    rw [Exit.noGoto_ret]
    go_ret
    have s1 := hB1.size
    have s2 := hB2.size
    have s3 := hB3.size
    have s4 := hB4.size
    simp only [World.size_alloc] at s1
    exact ⟨rfl, ((((((Below.refl w.heap.size w).alloc (Nat.le_refl _) _).alloc (by simp) _).trans (hB1.mono (by simp; omega))).trans (hB2.mono (by omega))).trans (hB3.mono (by omega))).trans (hB4.mono (by omega)) |>.trans (hB5.mono (by omega))⟩
  · have h3 : ¬ s.toList = u.toList := fun e => h1 (inj _ _ e)
    clear h h1 inj
    go_enter Tryz.func19, Tryz.ntmps19
    go_wp2
    go_step3
    go_wp2_with (first | (go_at_call 28; with_reducible refine (hV1 _).mono ?_; rintro e w1 ⟨rfl, hB1⟩; have a1 := a0.keep hB1; obtain ⟨x0, x1, x2, x3⟩ := a1.cells) | (go_at_call 28; with_reducible refine (hV2 _).mono ?_; rintro e w2 ⟨rfl, hB2⟩; have a2 := a1.keep hB2; obtain ⟨y0, y1, y2, y3⟩ := a2.cells))
    go_step3
    go_wp2_with (first | (go_at_call 49; with_reducible refine (hM1 _).mono ?_; rintro e w3 ⟨rfl, hB3⟩; have a3 := a2.keep hB3; obtain ⟨z0, z1, z2, z3⟩ := a3.cells) | (go_at_call 49; with_reducible refine (hM2 _).mono ?_; rintro e w4 ⟨rfl, hB4⟩) | (go_at_call 50; with_reducible refine (hC _).mono ?_; rintro e w5 ⟨rfl, hB5⟩))
    rw [Exit.noGoto_ret]
    go_ret
    have s1 := hB1.size
    have s2 := hB2.size
    have s3 := hB3.size
    have s4 := hB4.size
    simp only [World.size_alloc] at s1
    exact ⟨rfl, ((((((Below.refl w.heap.size w).alloc (Nat.le_refl _) _).alloc (by simp) _).trans (hB1.mono (by simp; omega))).trans (hB2.mono (by omega))).trans (hB3.mono (by omega))).trans (hB4.mono (by omega)) |>.trans (hB5.mono (by omega))⟩
set_option maxHeartbeats 2000000 in
theorem Compare_same (s t : ByteArray) (w : World) : Calls Tryz.prog 19 #[rv s t, rv s t] w fun e w' => e = .returned (.int .i64 0) ∧ Below w.heap.size w w' := by
  unfold rv
  go_enter Tryz.func19, Tryz.ntmps19
  go_wp2
  go_step3
  go_wp2
  rw [Exit.noGoto_ret]
  go_ret
  exact ⟨rfl, ((Below.refl w.heap.size w).alloc (Nat.le_refl _) _).alloc (by simp) _⟩
def rq (q : Rat) : Value := rv (txt q.num) (txt (q.den : Int))
theorem Valid_q {q : Rat} (h : FitQ q) (W : World) : Calls Tryz.prog 28 #[rq q] W fun e W' => e = .returned (.bool true) ∧ Below W.heap.size W W' := by
  have := Valid_all (txt q.num) (txt (q.den : Int)) h.size.1 h.size.2 W
  rw [qOf_txt h] at this
  exact this
/-- the order of two fractions -/
def cmpQ (p q : Rat) : Int := cmpZ (p.num * q.den) (q.num * p.den)
theorem cmpQ_same (p : Rat) : cmpQ p p = 0 := by rw [cmpQ, cmpZ, if_neg (by omega), if_pos rfl]
theorem Compare_small {p q : Rat} (hp : FitQ p) (hq : FitQ q) (h1 : Fits (p.num * q.den)) (h2 : Fits (q.num * p.den)) (w : World) : Calls Tryz.prog 19 #[rq p, rq q] w fun e w' => e = .returned (.int .i64 (cmpQ p q)) ∧ Below w.heap.size w w' := by
  by_cases he : p = q
  · subst he
    rw [cmpQ_same]
    exact Compare_same _ _ w
  · refine Compare_fit _ _ _ _ (txt (p.num * q.den)) (txt (q.num * p.den)) (cmpQ p q) w (fun h => he (txtQ_inj (Prod.ext h.1 h.2))) (Valid_q hp) (Valid_q hq) (fun W => ?_) (fun W => ?_) (fun W => Compare_ok _ _ h1 h2 W)
    · have := Mul_ok _ _ hp.1 hq.2 W
      rwa [calcR_fit h1] at this
    · have := Mul_ok _ _ hq.1 hp.2 W
      rwa [calcR_fit h2] at this
end Rt
end Go.Proofs.YtappobhpdpfojaaGreat
