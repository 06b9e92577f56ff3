/-
  Contracts: Compare where the products are too long and the whole parts differ.
-/
import Derived.Test.YtnljohcbpljplaaRatY
namespace Go.Proofs.Ytnljohcbpljplaa
set_option maxRecDepth 1000000
namespace Rt
open Go.RowKit Go.Proofs.Ytnljohcbpljplaa.Nm
set_option maxHeartbeats 2000000 in
theorem Compare_whole (s t u v l r q1 r1 q2 r2 : ByteArray) (e2 c : Int) (w : World) (h : ¬ (s = u ∧ t = v)) (hV1 : ∀ W : World, Calls Try.prog 16 #[.agg #[.string s, .string t]] W fun e W' => e = .returned (.bool true) ∧ Below W.heap.size W W')
    (hV2 : ∀ W : World, Calls Try.prog 16 #[.agg #[.string u, .string v]] W fun e W' => e = .returned (.bool true) ∧ Below W.heap.size W W')
    (hM1 : ∀ W : World, Calls Try.prog 20 #[.string s, .string v] W fun e W' => e = .returned (.tuple #[.string l, .int .i64 30]) ∧ Below W.heap.size W W')
    (hM2 : ∀ W : World, Calls Try.prog 20 #[.string u, .string t] W fun e W' => e = .returned (.tuple #[.string r, .int .i64 e2]) ∧ Below W.heap.size W W')
    (hD1 : ∀ W : World, Calls Try.prog 24 #[.string s, .string t] W fun e W' => e = .returned (.tuple #[.string q1, .string r1, .int .i64 0]) ∧ Below W.heap.size W W')
    (hD2 : ∀ W : World, Calls Try.prog 24 #[.string u, .string v] W fun e W' => e = .returned (.tuple #[.string q2, .string r2, .int .i64 0]) ∧ Below W.heap.size W W')
    (hq : (q1.toList == q2.toList) = false)
    (hC : ∀ W : World, Calls Try.prog 23 #[.string q1, .string q2] W fun e W' => e = .returned (.int .i64 c) ∧ Below W.heap.size W W') :
    Calls Try.prog 10 #[rv s t, rv u v] w fun e w' => e = .returned (.int .i64 c) ∧ Below w.heap.size w w' := by
  have inj : ∀ a b : ByteArray, a.toList = b.toList → a = b := fun a b h => by
    have := str_eq a b
    rw [h] at this
    simpa using this.symm
  have a0 := AB.new w s t u v
  unfold rv
  by_cases h1 : s = u
  · have h2 : ¬ t.toList = v.toList := fun e => h ⟨h1, inj _ _ e⟩
    have h3 : s.toList = u.toList := by rw [h1]
    clear h h1 inj
    go_enter Try.func10, Try.ntmps10
    go_wp2
    go_step3
    go_wp2_with (first | (go_at_call 16; with_reducible refine (hV1 _).mono ?_; rintro e w1 ⟨rfl, hB1⟩; have a1 := a0.keep hB1; obtain ⟨x0, x1, x2, x3⟩ := a1.cells) | (go_at_call 16; with_reducible refine (hV2 _).mono ?_; rintro e w2 ⟨rfl, hB2⟩; have a2 := a1.keep hB2; obtain ⟨y0, y1, y2, y3⟩ := a2.cells))
    go_step3
    go_wp2_with (first | (go_at_call 20; with_reducible refine (hM1 _).mono ?_; rintro e w3 ⟨rfl, hB3⟩; have a3 := a2.keep hB3; obtain ⟨z0, z1, z2, z3⟩ := a3.cells) | (go_at_call 20; with_reducible refine (hM2 _).mono ?_; rintro e w4 ⟨rfl, hB4⟩; have a4 := a3.keep hB4; obtain ⟨o0, o1, o2, o3⟩ := a4.cells) | (go_at_call 24; with_reducible refine (hD1 _).mono ?_; rintro e w6 ⟨rfl, hB6⟩; have a6 := a4.keep hB6; obtain ⟨v0, v1, v2, v3⟩ := a6.cells) | (go_at_call 24; with_reducible refine (hD2 _).mono ?_; rintro e w7 ⟨rfl, hB7⟩) | (go_at_call 23; with_reducible refine (hC _).mono ?_; rintro e w5 ⟨rfl, hB5⟩))
    rw [Exit.noGoto_ret]
    go_ret
    have s1 := hB1.size
    have s2 := hB2.size
    have s3 := hB3.size
    have s4 := hB4.size
    have s6 := hB6.size
    have s7 := hB7.size
    simp only [World.size_alloc] at s1
    exact ⟨rfl, ((((((Below.refl w.heap.size w).alloc (Nat.le_refl _) _).alloc (by simp) _).trans (hB1.mono (by simp; omega))).trans (hB2.mono (by omega))).trans (hB3.mono (by omega))).trans (hB4.mono (by omega)) |>.trans (hB6.mono (by omega)) |>.trans (hB7.mono (by omega)) |>.trans (hB5.mono (by omega))⟩
  · have h3 : ¬ s.toList = u.toList := fun e => h1 (inj _ _ e)
    clear h h1 inj
    go_enter Try.func10, Try.ntmps10
    go_wp2
    go_step3
    go_wp2_with (first | (go_at_call 16; with_reducible refine (hV1 _).mono ?_; rintro e w1 ⟨rfl, hB1⟩; have a1 := a0.keep hB1; obtain ⟨x0, x1, x2, x3⟩ := a1.cells) | (go_at_call 16; with_reducible refine (hV2 _).mono ?_; rintro e w2 ⟨rfl, hB2⟩; have a2 := a1.keep hB2; obtain ⟨y0, y1, y2, y3⟩ := a2.cells))
    go_step3
    go_wp2_with (first | (go_at_call 20; with_reducible refine (hM1 _).mono ?_; rintro e w3 ⟨rfl, hB3⟩; have a3 := a2.keep hB3; obtain ⟨z0, z1, z2, z3⟩ := a3.cells) | (go_at_call 20; with_reducible refine (hM2 _).mono ?_; rintro e w4 ⟨rfl, hB4⟩; have a4 := a3.keep hB4; obtain ⟨o0, o1, o2, o3⟩ := a4.cells) | (go_at_call 24; with_reducible refine (hD1 _).mono ?_; rintro e w6 ⟨rfl, hB6⟩; have a6 := a4.keep hB6; obtain ⟨v0, v1, v2, v3⟩ := a6.cells) | (go_at_call 24; with_reducible refine (hD2 _).mono ?_; rintro e w7 ⟨rfl, hB7⟩) | (go_at_call 23; with_reducible refine (hC _).mono ?_; rintro e w5 ⟨rfl, hB5⟩))
    rw [Exit.noGoto_ret]
    go_ret
    have s1 := hB1.size
    have s2 := hB2.size
    have s3 := hB3.size
    have s4 := hB4.size
    have s6 := hB6.size
    have s7 := hB7.size
    simp only [World.size_alloc] at s1
    exact ⟨rfl, ((((((Below.refl w.heap.size w).alloc (Nat.le_refl _) _).alloc (by simp) _).trans (hB1.mono (by simp; omega))).trans (hB2.mono (by omega))).trans (hB3.mono (by omega))).trans (hB4.mono (by omega)) |>.trans (hB6.mono (by omega)) |>.trans (hB7.mono (by omega)) |>.trans (hB5.mono (by omega))⟩
theorem Compare_wholeQ {p q : Rat} (hp : FitQ p) (hq : FitQ q) (h1 : ¬ Fits (p.num * q.den)) (hne : p.num / (p.den : Int) ≠ q.num / (q.den : Int)) (w : World) : Calls Try.prog 10 #[rq p, rq q] w fun e w' => e = .returned (.int .i64 (cmpZ (p.num / (p.den : Int)) (q.num / (q.den : Int)))) ∧ Below w.heap.size w w' := by
  have he : p ≠ q := fun e => hne (by rw [e])
  obtain ⟨r, e2, hM⟩ : ∃ (r : ByteArray) (e2 : Int), calcR (q.num * p.den) = .tuple #[.string r, .int .i64 e2] := by
    by_cases h : Fits (q.num * p.den)
    · exact ⟨_, _, calcR_fit h⟩
    · exact ⟨_, _, calcR_not h⟩
  refine Compare_whole _ _ _ _ ⟨#[]⟩ r (txt (p.num / (p.den : Int))) (txt (p.num % (p.den : Int))) (txt (q.num / (q.den : Int))) (txt (q.num % (q.den : Int))) e2 _ w (fun h => he (txtQ_inj (Prod.ext h.1 h.2))) (Valid_q hp) (Valid_q hq) (fun W => ?_) (fun W => ?_) (fun W => Div_ok _ _ hp.1 hp.2 (den_ne p) W) (fun W => Div_ok _ _ hq.1 hq.2 (den_ne q) W) ?_ (fun W => Compare_ok _ _ (fits_ediv hp.1) (fits_ediv hq.1) W)
  · have := Mul_ok _ _ hp.1 hq.2 W
    rwa [calcR_not h1] at this
  · have := Mul_ok _ _ hq.1 hp.2 W
    rwa [hM] at this
  · rw [str_eq]; exact decide_eq_false fun e => hne (txt_inj e)
end Rt
end Go.Proofs.Ytnljohcbpljplaa
