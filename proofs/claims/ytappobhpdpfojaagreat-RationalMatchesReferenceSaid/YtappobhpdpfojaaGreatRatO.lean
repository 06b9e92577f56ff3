/-
  Contracts: what the operations on integers answer, by strings; floor, ceiling, withSign, Valid.
-/
import Derived.Test.YtappobhpdpfojaaGreatRatM
import Derived.Test.YtappobhpdpfojaaGreatRatT
namespace Go.Proofs.YtappobhpdpfojaaGreat
set_option maxRecDepth 1000000
namespace Rt
open Go.RowKit Nm

theorem two_ways (s t : ByteArray) : (∃ x y : Int, s = txt x ∧ t = txt y ∧ Fits x ∧ Fits y) ∨ (validB s && validB t) = false := by
  cases hs : validB s with
  | false => exact .inr rfl
  | true =>
    cases ht : validB t with
    | false => exact .inr rfl
    | true =>
      obtain ⟨x, rfl, hx⟩ := valid_is hs
      obtain ⟨y, rfl, hy⟩ := valid_is ht
      exact .inl ⟨x, y, rfl, rfl, hx, hy⟩
theorem opC_calc {k : Nat} {g : Int → Int → Int} (hok : ∀ x y, Fits x → Fits y → ∀ W : World, Calls Tryz.prog k #[.string (txt x), .string (txt y)] W fun e w' => e = .returned (calcR (g x y)) ∧ Below W.heap.size W w')
    (hbad : ∀ s t : ByteArray, s.size ≤ 1000000 → t.size ≤ 1000000 → (validB s && validB t) = false → ∀ W : World, Calls Tryz.prog k #[.string s, .string t] W fun e w' => e = .returned (.tuple #[.string ⟨#[]⟩, .int .i64 30]) ∧ Below W.heap.size W w') : OpC k (op2 fun x y => some (g x y)) := by
  intro s t W hs ht
  rcases two_ways s t with ⟨x, y, rfl, rfl, hx, hy⟩ | hb
  · rw [op2_txt hx hy, Option.bind_some]
    refine (hok x y hx hy W).mono ?_
    rintro e w' ⟨rfl, hB⟩
    by_cases hf : Fits (g x y)
    · rw [fitO_pos hf, calcR_fit hf]
      exact ⟨_, _, rfl, (by rintro u ⟨⟩; exact ⟨rfl, rfl⟩), (by rintro ⟨⟩), hB⟩
    · rw [fitO_neg hf, calcR_not hf]
      exact ⟨_, _, rfl, (by rintro u ⟨⟩), (fun _ => by decide), hB⟩
  · rw [op2_bad hb]
    refine (hbad s t hs ht hb W).mono ?_
    rintro e w' ⟨rfl, hB⟩
    exact ⟨_, _, rfl, (by rintro u ⟨⟩), (fun _ => by decide), hB⟩
theorem opC_Add : OpC 66 opAdd := opC_calc (fun x y hx hy W => Add_ok x y hx hy W) (fun s t hs ht h W => Add_bad s t hs ht h W)
theorem opC_Sub : OpC 69 opSub := opC_calc (fun x y hx hy W => Sub_ok x y hx hy W) (fun s t hs ht h W => Sub_bad s t hs ht h W)
theorem opC_Mul : OpC 49 opMul := opC_calc (fun x y hx hy W => Mul_ok x y hx hy W) (fun s t hs ht h W => Mul_bad s t hs ht h W)
theorem gcdC {x y : Int} (hx : Fits x) (hy : Fits y) : GcdC x.natAbs y.natAbs := gcd_any _ _ (by have := fits_len hx; omega) (by have := fits_len hy; omega)
theorem opC_Gcd : OpC 62 opGcd := opC_calc (fun x y hx hy W => Gcd_ok x y hx hy (gcdC hx hy) W) (fun s t hs ht h W => Gcd_bad s t hs ht h W)

theorem txt_0 : txt 0 = ⟨#[48]⟩ := by decide +kernel
theorem txt_1 : txt 1 = ⟨#[49]⟩ := by decide +kernel
/-- integer.Div, by strings -/
theorem div_all (s t : ByteArray) (hs : s.size ≤ 1000000) (ht : t.size ≤ 1000000) : ∃ (q r : ByteArray) (n : Int), (∀ W : World, Calls Tryz.prog 51 #[.string s, .string t] W fun e w' => e = .returned (.tuple #[.string q, .string r, .int .i64 n]) ∧ Below W.heap.size W w') ∧
    (∀ x y, zOf s = some x → zOf t = some y → y ≠ 0 → q = txt (x / y) ∧ r = txt (x % y) ∧ n = 0) ∧ ((∃ x y, zOf s = some x ∧ zOf t = some y ∧ y ≠ 0) ∨ (n = 30 ∧ ∀ x y, zOf s = some x → zOf t = some y → y = 0)) := by
  rcases two_ways s t with ⟨x, y, rfl, rfl, hx, hy⟩ | hb
  · by_cases h0 : y = 0
    · subst h0
      refine ⟨_, _, _, fun W => Div_zero x hx W, fun x' y' _ h2 h3 => ?_, .inr ⟨rfl, fun x' y' _ h2 => ?_⟩⟩
      · rw [zOf_txt hy] at h2; injection h2 with h2; exact absurd h2.symm h3
      · rw [zOf_txt hy] at h2; injection h2 with h2; exact h2.symm
    · refine ⟨_, _, _, fun W => Div_ok x y hx hy h0 W, fun x' y' h1 h2 h3 => ?_, .inl ⟨x, y, zOf_txt hx, zOf_txt hy, h0⟩⟩
      rw [zOf_txt hx] at h1; rw [zOf_txt hy] at h2; injection h1 with h1; injection h2 with h2; subst h1; subst h2
      exact ⟨rfl, rfl, rfl⟩
  · have hz : ∀ x y, zOf s = some x → zOf t = some y → False := fun x y h1 h2 => by
      obtain ⟨rfl, hx⟩ := zOf_some h1
      obtain ⟨rfl, hy⟩ := zOf_some h2
      rw [valid_txt x hx, valid_txt y hy] at hb
      cases hb
    exact ⟨_, _, _, fun W => Div_bad s t hs ht hb W, fun x y h1 h2 _ => (hz x y h1 h2).elim, .inr ⟨rfl, fun x y h1 h2 => (hz x y h1 h2).elim⟩⟩

set_option maxHeartbeats 1000000 in
theorem opC_floor : OpC 56 opFloor := by
  intro s t W hs ht
  obtain ⟨q, r, n, hC, h1, h2⟩ := div_all s t hs ht
  have H1 : Shut _ := ⟨And.intro h1 h2⟩
  clear h1 h2
  go_enter Tryz.func56, Tryz.ntmps56
  go_wp2_with (go_at_call 51; refine (hC _).mono ?_; rintro e w1 ⟨rfl, hB⟩)
  go_ret2
  obtain ⟨h1, h2⟩ := H1.o
  refine ⟨q, n, rfl, ?_, ?_, hB⟩
  · intro u hu
    rcases h2 with ⟨x, y, hx, hy, h0⟩ | ⟨rfl, h0⟩
    · obtain ⟨e1, e2, e3⟩ := h1 x y hx hy h0
      obtain ⟨rfl, fx⟩ := zOf_some hx
      obtain ⟨rfl, fy⟩ := zOf_some hy
      rw [opFloor, op2_txt fx fy, if_neg h0, Option.bind_some, fitO_pos (fits_ediv fx)] at hu
      injection hu with hu
      exact ⟨e1.trans hu, e3⟩
    · rw [opFloor, op2] at hu
      cases hx : zOf s with
      | none => rw [hx] at hu; cases hu
      | some x =>
        cases hy : zOf t with
        | none => rw [hx, hy] at hu; cases hu
        | some y =>
          rw [hx, hy, Option.bind_some, Option.bind_some, if_pos (h0 x y hx hy)] at hu; cases hu
  · intro hn
    rcases h2 with ⟨x, y, hx, hy, h0⟩ | ⟨rfl, h0⟩
    · obtain ⟨rfl, fx⟩ := zOf_some hx
      obtain ⟨rfl, fy⟩ := zOf_some hy
      rw [opFloor, op2_txt fx fy, if_neg h0, Option.bind_some, fitO_pos (fits_ediv fx)] at hn
      cases hn
    · decide
end Rt
end Go.Proofs.YtappobhpdpfojaaGreat
