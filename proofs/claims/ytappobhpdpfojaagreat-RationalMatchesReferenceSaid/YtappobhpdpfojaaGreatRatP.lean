/-
  Contracts: ceiling, withSign, Valid.
-/
import Derived.Test.YtappobhpdpfojaaGreatRatO
namespace Go.Proofs.YtappobhpdpfojaaGreat
set_option maxRecDepth 1000000
namespace Rt
open Go.RowKit Nm

theorem txt_eq0 (z : Int) : ((txt z).toList == [48]) = decide (z = 0) := by
  have := str_eq (txt z) (txt 0)
  rw [txt_0] at this
  rw [show ([48] : List UInt8) = (⟨#[48]⟩ : ByteArray).toList from by decide +kernel, this, ← txt_0]
  by_cases h : z = 0
  · subst h; simp
  · rw [decide_eq_false h, decide_eq_false fun e => h (txt_inj e)]

set_option maxHeartbeats 1000000 in
theorem ceil_up (s t q r : ByteArray) (W : World) (hq : q.size ≤ 1000000) (hC : ∀ W : World, Calls Tryz.prog 51 #[.string s, .string t] W fun e w' => e = .returned (.tuple #[.string q, .string r, .int .i64 0]) ∧ Below W.heap.size W w') (hr : (r.toList == [48]) = false) :
    Calls Tryz.prog 58 #[.string s, .string t] W fun e W' => ∃ (v : ByteArray) (n : Int), e = .returned (.tuple #[.string v, .int .i64 n]) ∧ (∀ u, opAdd q (txt 1) = some u → v = u ∧ n = 0) ∧ (opAdd q (txt 1) = none → n ≠ 0) ∧ Below W.heap.size W W' := by
  have hA := fun W => opC_Add q (txt 1) W hq (txt_size6 fits1)
  rw [txt_1] at hA
  rw [txt_1]
  go_enter Tryz.func58, Tryz.ntmps58
  go_wp2_with (first | (go_at_call 51; refine (hC _).mono ?_; rintro e w1 ⟨rfl, hB⟩) | (go_at_call 66; refine (hA _).mono ?_; rintro e w2 ⟨v, n, rfl, h1, h2, hB2⟩))
  go_ret2
  exact ⟨v, n, rfl, h1, h2, hB.trans (hB2.mono hB.size)⟩

set_option maxHeartbeats 1000000 in
theorem ceil_in (s t q r : ByteArray) (n : Int) (W : World) (hC : ∀ W : World, Calls Tryz.prog 51 #[.string s, .string t] W fun e w' => e = .returned (.tuple #[.string q, .string r, .int .i64 n]) ∧ Below W.heap.size W w') (hr : (n = 30) ∨ (n = 0 ∧ (r.toList == [48]) = true)) :
    Calls Tryz.prog 58 #[.string s, .string t] W fun e W' => e = .returned (.tuple #[.string q, .int .i64 n]) ∧ Below W.heap.size W W' := by
  rcases hr with rfl | ⟨rfl, hr⟩
  · go_enter Tryz.func58, Tryz.ntmps58
    go_wp2_with (first | (go_at_call 51; refine (hC _).mono ?_; rintro e w1 ⟨rfl, hB⟩))
    go_ret2
    exact ⟨rfl, hB⟩
  · go_enter Tryz.func58, Tryz.ntmps58
    go_wp2_with (first | (go_at_call 51; refine (hC _).mono ?_; rintro e w1 ⟨rfl, hB⟩))
    go_ret2
    exact ⟨rfl, hB⟩

theorem opC_ceiling : OpC 58 opCeil := by
  intro s t W hs ht
  obtain ⟨q, r, n, hC, h1, h2⟩ := div_all s t hs ht
  rcases h2 with ⟨x, y, hx, hy, h0⟩ | ⟨rfl, h0⟩
  · obtain ⟨e1, e2, e3⟩ := h1 x y hx hy h0
    obtain ⟨rfl, fx⟩ := zOf_some hx
    obtain ⟨rfl, fy⟩ := zOf_some hy
    subst e1; subst e2; subst e3
    by_cases hm : x % y = 0
    · refine (ceil_in _ _ _ _ _ W hC (.inr ⟨rfl, by rw [txt_eq0, hm]; rfl⟩)).mono ?_
      rintro e w' ⟨rfl, hB⟩
      refine ⟨_, _, rfl, ?_, ?_, hB⟩
      · intro u hu
        rw [opCeil, op2_txt fx fy, if_neg h0, Option.bind_some, if_pos hm, fitO_pos (fits_ediv fx)] at hu
        injection hu with hu
        exact ⟨hu, rfl⟩
      · intro hu
        rw [opCeil, op2_txt fx fy, if_neg h0, Option.bind_some, if_pos hm, fitO_pos (fits_ediv fx)] at hu
        cases hu
    · refine (ceil_up _ _ _ _ W (txt_size6 (fits_ediv fx)) hC (by rw [txt_eq0]; exact decide_eq_false hm)).mono ?_
      rintro e w' ⟨v, n, rfl, ha, hb, hB⟩
      have he : opCeil (txt x) (txt y) = opAdd (txt (x / y)) (txt 1) := by
        rw [opCeil, op2_txt fx fy, if_neg h0, Option.bind_some, if_neg hm, opAdd, op2_txt (fits_ediv fx) fits1, Option.bind_some]
      rw [he]
      exact ⟨v, n, rfl, ha, hb, hB⟩
  · refine (ceil_in _ _ _ _ _ W hC (.inl rfl)).mono ?_
    rintro e w' ⟨rfl, hB⟩
    refine ⟨_, _, rfl, ?_, fun _ => by decide, hB⟩
    intro u hu
    rw [opCeil, op2] at hu
    cases hx : zOf s with
    | none => rw [hx] at hu; cases hu
    | some x =>
      cases hy : zOf t with
      | none => rw [hx, hy] at hu; cases hu
      | some y =>
        rw [hx, hy, Option.bind_some, Option.bind_some, if_pos (h0 x y hx hy)] at hu; cases hu

/-- integer.Compare, by strings -/
noncomputable def cmpS (s t : ByteArray) : Int := match zOf s, zOf t with | some x, some y => cmpZ x y | _, _ => 0
theorem cmpS_txt {x y : Int} (hx : Fits x) (hy : Fits y) : cmpS (txt x) (txt y) = cmpZ x y := by rw [cmpS, zOf_txt hx, zOf_txt hy]
theorem cmp_all (s t : ByteArray) (hs : s.size ≤ 1000000) (ht : t.size ≤ 1000000) (W : World) : Calls Tryz.prog 50 #[.string s, .string t] W fun e w' => e = .returned (.int .i64 (cmpS s t)) ∧ Below W.heap.size W w' := by
  rcases two_ways s t with ⟨x, y, rfl, rfl, hx, hy⟩ | hb
  · rw [cmpS_txt hx hy]; exact Compare_ok x y hx hy W
  · have : cmpS s t = 0 := by
      rw [cmpS]
      cases h1 : zOf s with
      | none => rfl
      | some x =>
        cases h2 : zOf t with
        | none => rfl
        | some y =>
          obtain ⟨rfl, hx⟩ := zOf_some h1
          obtain ⟨rfl, hy⟩ := zOf_some h2
          rw [valid_txt x hx, valid_txt y hy] at hb
          cases hb
    rw [this]; exact Compare_bad s t hs ht hb W

set_option maxHeartbeats 1000000 in
theorem sign_up (s t : ByteArray) (W : World) (hs : s.size ≤ 1000000) (hC : ∀ W : World, Calls Tryz.prog 50 #[.string t, .string ⟨#[48]⟩] W fun e w' => e = .returned (.int .i64 (-1)) ∧ Below W.heap.size W w') :
    Calls Tryz.prog 88 #[.string s, .string t] W fun e W' => ∃ (v : ByteArray) (n : Int), e = .returned (.tuple #[.string v, .int .i64 n]) ∧ (∀ u, opSub (txt 0) s = some u → v = u ∧ n = 0) ∧ (opSub (txt 0) s = none → n ≠ 0) ∧ Below W.heap.size W W' := by
  have hA := fun W => opC_Sub (txt 0) s W (txt_size6 fits0) hs
  rw [txt_0] at hA
  rw [txt_0]
  go_enter Tryz.func88, Tryz.ntmps88
  go_wp2_with (first | (go_at_call 50; refine (hC _).mono ?_; rintro e w1 ⟨rfl, hB⟩) | (go_at_call 69; refine (hA _).mono ?_; rintro e w2 ⟨v, n, rfl, h1, h2, hB2⟩))
  go_ret2
  exact ⟨v, n, rfl, h1, h2, hB.trans (hB2.mono hB.size)⟩
set_option maxHeartbeats 1000000 in
theorem sign_in (s t : ByteArray) (c : Int) (W : World) (hc : c = 0 ∨ c = 1) (hC : ∀ W : World, Calls Tryz.prog 50 #[.string t, .string ⟨#[48]⟩] W fun e w' => e = .returned (.int .i64 c) ∧ Below W.heap.size W w') :
    Calls Tryz.prog 88 #[.string s, .string t] W fun e W' => ∃ (v : ByteArray) (n : Int), e = .returned (.tuple #[.string v, .int .i64 n]) ∧ (c = 1 → v = s ∧ n = 0) ∧ (c = 0 → n ≠ 0) ∧ Below W.heap.size W W' := by
  rcases hc with rfl | rfl
  · go_enter Tryz.func88, Tryz.ntmps88
    go_wp2_with (first | (go_at_call 50; refine (hC _).mono ?_; rintro e w1 ⟨rfl, hB⟩))
    go_ret2
    exact ⟨_, _, rfl, fun h => absurd h (by decide), fun _ => by decide, hB⟩
  · go_enter Tryz.func88, Tryz.ntmps88
    go_wp2_with (first | (go_at_call 50; refine (hC _).mono ?_; rintro e w1 ⟨rfl, hB⟩))
    go_ret2
    exact ⟨_, _, rfl, fun _ => ⟨rfl, rfl⟩, by decide, hB⟩
theorem opC_sign : OpC 88 opSign := by
  intro s t W hs ht
  have hC := fun W => cmp_all t (txt 0) ht (txt_size6 fits0) W
  rw [txt_0] at hC
  cases hz : zOf t with
  | none =>
    have e0 : cmpS t ⟨#[48]⟩ = 0 := by rw [cmpS, hz]
    rw [e0] at hC
    refine (sign_in s t 0 W (.inl rfl) hC).mono ?_
    rintro e w' ⟨v, n, rfl, h1, h2, hB⟩
    refine ⟨v, n, rfl, ?_, fun _ => h2 rfl, hB⟩
    intro u hu
    rw [opSign, hz] at hu
    cases hu
  | some y =>
    obtain ⟨rfl, hy⟩ := zOf_some hz
    have e0 : cmpS (txt y) ⟨#[48]⟩ = cmpZ y 0 := by rw [← txt_0, cmpS_txt hy fits0]
    rw [e0] at hC
    rcases Int.lt_trichotomy y 0 with h | h | h
    · rw [show cmpZ y 0 = -1 from if_pos h] at hC
      rw [show opSign s (txt y) = opSub (txt 0) s from by rw [opSign, hz, Option.bind_some, if_neg (by omega), if_neg (by omega)]]
      exact sign_up s _ W hs hC
    · subst h
      rw [show cmpZ 0 0 = 0 from rfl] at hC
      refine (sign_in s _ 0 W (.inl rfl) hC).mono ?_
      rintro e w' ⟨v, n, rfl, h1, h2, hB⟩
      refine ⟨v, n, rfl, ?_, fun _ => h2 rfl, hB⟩
      intro u hu
      rw [opSign, hz] at hu
      cases hu
    · rw [show cmpZ y 0 = 1 from by rw [cmpZ, if_neg (by omega), if_neg (by omega)]] at hC
      refine (sign_in s _ 1 W (.inr rfl) hC).mono ?_
      rintro e w' ⟨v, n, rfl, h1, h2, hB⟩
      have e1 : opSign s (txt y) = some s := by rw [opSign, hz, Option.bind_some, if_neg (by omega), if_pos h]
      rw [e1]
      exact ⟨v, n, rfl, (by rintro u ⟨⟩; exact h1 rfl), (by rintro ⟨⟩), hB⟩

theorem new2 (W : World) (a b : Value) (T : TypeId) : (W.alloc (.cells #[a, b] T)).cell? ⟨W.heap.size, 1, none⟩ = some b := by
  rw [cell_of_row _ W.heap.size 1 #[a, b] T (0, 0) (World.alloc_heap_new W _)]
  rfl
theorem new1 (W : World) (a b : Value) (T : TypeId) : (W.alloc (.cells #[a, b] T)).cell? ⟨W.heap.size, 0, none⟩ = some a := by
  rw [cell_of_row _ W.heap.size 0 #[a, b] T (0, 0) (World.alloc_heap_new W _)]
  rfl
/-- a fraction's value in memory -/
def rv (s t : ByteArray) : Value := .agg #[.string s, .string t]
set_option maxHeartbeats 1000000 in
theorem Valid_ways (s t d : ByteArray) (n c : Int) (W : World) (hG : ∀ W : World, Calls Tryz.prog 62 #[.string s, .string t] W fun e w' => e = .returned (.tuple #[.string d, .int .i64 n]) ∧ Below W.heap.size W w')
    (hC : ∀ W : World, Calls Tryz.prog 50 #[.string t, .string ⟨#[48]⟩] W fun e w' => e = .returned (.int .i64 c) ∧ Below W.heap.size W w') :
    Calls Tryz.prog 28 #[rv s t] W fun e W' => e = .returned (.bool (decide (d = ⟨#[49]⟩) && decide (0 < c))) ∧ Below W.heap.size W W' := by
  have e1 := str_eq d ⟨#[49]⟩
  rw [show (⟨#[49]⟩ : ByteArray).toList = [49] from by decide +kernel] at e1
  rw [rv]
  by_cases hd : d = ⟨#[49]⟩
  · rw [decide_eq_true hd] at e1 ⊢
    rw [Bool.true_and]
    clear hd
    go_enter Tryz.func28, Tryz.ntmps28
    go_wp2_with (first | (go_at_call 62; refine (hG _).mono ?_; rintro e w1 ⟨rfl, hB⟩; have k1 : w1.cell? ⟨W.heap.size, 1, none⟩ = some (.string t) := (hB.cell (p := ⟨W.heap.size, 1, none⟩) (by simp)).trans (new2 W _ _ _)) | (go_at_call 50; refine (hC _).mono ?_; rintro e w2 ⟨rfl, hB2⟩))
    go_ret
    exact ⟨rfl, (((Below.refl W.heap.size W).alloc (Nat.le_refl _) _).trans (hB.mono (by simp))).trans (hB2.mono (by have := hB.size; rw [World.size_alloc] at this; omega))⟩
  · rw [decide_eq_false hd] at e1 ⊢
    rw [Bool.false_and]
    clear hd
    go_enter Tryz.func28, Tryz.ntmps28
    go_wp2_with (first | (go_at_call 62; refine (hG _).mono ?_; rintro e w1 ⟨rfl, hB⟩; have k1 : w1.cell? ⟨W.heap.size, 1, none⟩ = some (.string t) := (hB.cell (p := ⟨W.heap.size, 1, none⟩) (by simp)).trans (new2 W _ _ _)) | (go_at_call 50; refine (hC _).mono ?_; rintro e w2 ⟨rfl, hB2⟩))
    go_ret
    exact ⟨rfl, ((Below.refl W.heap.size W).alloc (Nat.le_refl _) _).trans (hB.mono (by simp))⟩
theorem cmpZ_pos (y : Int) : (0 < cmpZ y 0) ↔ 0 < y := by
  rw [cmpZ]
  split
  · omega
  · split <;> omega
theorem Valid_all (s t : ByteArray) (hs : s.size ≤ 1000000) (ht : t.size ≤ 1000000) (W : World) : Calls Tryz.prog 28 #[rv s t] W fun e W' => e = .returned (.bool (qOf s t).isSome) ∧ Below W.heap.size W W' := by
  have hC := fun W => cmp_all t (txt 0) ht (txt_size6 fits0) W
  rw [txt_0] at hC
  rcases two_ways s t with ⟨x, y, rfl, rfl, hx, hy⟩ | hb
  · have e0 : cmpS (txt y) ⟨#[48]⟩ = cmpZ y 0 := by rw [← txt_0, cmpS_txt hy fits0]
    rw [e0] at hC
    have hG := fun W => Gcd_ok x y hx hy (gcdC hx hy) W
    have e2 : (qOf (txt x) (txt y)).isSome = (decide (Nat.gcd x.natAbs y.natAbs = 1) && decide (0 < y)) := by
      rw [qOf, zOf_txt hx, zOf_txt hy, Option.bind_some, Option.bind_some]
      by_cases h1 : 0 < y <;> by_cases h2 : Nat.gcd x.natAbs y.natAbs = 1 <;> simp [h1, h2]
    rw [e2]
    by_cases hf : Fits ((Nat.gcd x.natAbs y.natAbs : Nat) : Int)
    · rw [calcR_fit hf] at hG
      refine (Valid_ways _ _ _ _ _ W hG hC).mono ?_
      rintro e w' ⟨rfl, hB⟩
      refine ⟨?_, hB⟩
      congr 3
      · rw [← txt_1]
        by_cases h : Nat.gcd x.natAbs y.natAbs = 1
        · rw [decide_eq_true h, decide_eq_true (by rw [h]; rfl)]
        · rw [decide_eq_false h, decide_eq_false fun e => h (by have := txt_inj e; omega)]
      · exact decide_eq_decide.2 (cmpZ_pos y)
    · rw [calcR_not hf] at hG
      refine (Valid_ways _ _ _ _ _ W hG hC).mono ?_
      rintro e w' ⟨rfl, hB⟩
      refine ⟨?_, hB⟩
      have h1 : Nat.gcd x.natAbs y.natAbs ≠ 1 := fun e => hf (by rw [e]; exact fits1)
      rw [decide_eq_false h1, Bool.false_and, decide_eq_false (by decide), Bool.false_and]
  · have e2 : qOf s t = none := by
      cases h : qOf s t with
      | none => rfl
      | some q =>
        obtain ⟨rfl, rfl, hf⟩ := qOf_some h
        rw [valid_txt _ hf.1, valid_txt _ hf.2] at hb
        cases hb
    rw [e2]
    refine (Valid_ways _ _ _ _ _ W (fun W => Gcd_bad s t hs ht hb W) hC).mono ?_
    rintro e w' ⟨rfl, hB⟩
    refine ⟨?_, hB⟩
    rw [decide_eq_false (by decide), Bool.false_and]; rfl
end Rt
end Go.Proofs.YtappobhpdpfojaaGreat
