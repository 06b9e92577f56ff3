/-
  Arrays of numbers as arguments.
-/
import Derived.Test.YtbfonkabmehlmaaGreatDoorQa
import Derived.Lib.SmallJoins
import Derived.ProofKit
namespace Go.Proofs.YtbfonkabmehlmaaGreatDoor
set_option maxRecDepth 1000000
namespace Rt
open Go.RowKit Go.ChangeShapes Go.WideShapes
section
variable {H : Type} {enc : TypeId × Value → H} {P : Program} {w : World} {base : Nat} {spare : Nat → Bool} {held : Bool}
theorem okWide_arr {r : Reach} {b0 n : Nat} {t e : TypeId} {v : Value} (ht : P.underlying t = some (.array n e)) (h : Value.okWide P w r b0 t v) : ∃ cs : Array Value, v = .agg cs ∧ cs.size = P.cellsOf t := by
  simp only [Value.okWide, ht] at h
  obtain ⟨cs, h1, h2, _⟩ := h
  exact ⟨cs, h1, h2⟩
theorem open_arr4 {r : Reach} {b0 : Nat} {t e : TypeId} {k : IntKind} {v : Value} {d : DataW H} {p : List MemPlace} (ht : P.underlying t = some (.array 4 e)) (he : P.underlying e = some (.int k)) (hc : P.cellsOf e = 1) (hn : P.cellsOf t = 4)
    (hv : Value.okWide P w r b0 t v) (h : DataW.Trod enc P w base spare held t v d p) :
    ∃ a0 a1 a2 a3 : Int, v = .agg #[.int k a0, .int k a1, .int k a2, .int k a3] ∧ d = .agg [.lit (.int k a0), .lit (.int k a1), .lit (.int k a2), .lit (.int k a3)] ∧ p = [] ∧ ((Lit.int k a0).wf = true ∧ (Lit.int k a1).wf = true ∧ (Lit.int k a2).wf = true ∧ (Lit.int k a3).wf = true) := by
  obtain ⟨cs, rfl, hsz⟩ := okWide_arr ht hv
  obtain ⟨l⟩ := cs
  match l, hsz.trans hn with
  | [c0, c1, c2, c3], _ =>
    obtain ⟨fuel, hf⟩ := h
    obtain ⟨xs, m, _, hx, _, hlen, hg⟩ := DataW.trod_array ht hf
    rw [hc] at hg
    match xs, hlen with
    | [y0, y1, y2, y3], _ =>
      obtain ⟨a0, e0, rfl, w0⟩ := DataW.trod_int he (by simpa [Value.cells] using hg 0 (by decide))
      obtain ⟨a1, e1, rfl, w1⟩ := DataW.trod_int he (by simpa [Value.cells] using hg 1 (by decide))
      obtain ⟨a2, e2, rfl, w2⟩ := DataW.trod_int he (by simpa [Value.cells] using hg 2 (by decide))
      obtain ⟨a3, e3, rfl, w3⟩ := DataW.trod_int he (by simpa [Value.cells] using hg 3 (by decide))
      simp only [Prod.mk.injEq] at hx
      simp at e0 e1 e2 e3
      subst e0 e1 e2 e3
      exact ⟨a0, a1, a2, a3, rfl, by simpa using hx.1, by simpa using hx.2, w0, w1, w2, w3⟩
theorem shut_arr4 {t e : TypeId} {k : IntKind} (ht : P.underlying t = some (.array 4 e)) (he : P.underlying e = some (.int k)) (hc : P.cellsOf e = 1) (hn : P.cellsOf t = 4) {a0 a1 a2 a3 : Int}
    (hw : (Lit.int k a0).wf = true ∧ (Lit.int k a1).wf = true ∧ (Lit.int k a2).wf = true ∧ (Lit.int k a3).wf = true) :
    DataW.Trod enc P w base spare held t (.agg #[.int k a0, .int k a1, .int k a2, .int k a3]) (.agg [.lit (.int k a0), .lit (.int k a1), .lit (.int k a2), .lit (.int k a3)]) [] :=
  ⟨2, by simp [DataW.trod, Value.cells, ht, he, hc, hn, hw.1, hw.2.1, hw.2.2.1, hw.2.2.2, show List.range 4 = [0, 1, 2, 3] from rfl]⟩
theorem open_arr2 {r : Reach} {b0 : Nat} {t e : TypeId} {k : IntKind} {v : Value} {d : DataW H} {p : List MemPlace} (ht : P.underlying t = some (.array 2 e)) (he : P.underlying e = some (.int k)) (hc : P.cellsOf e = 1) (hn : P.cellsOf t = 2)
    (hv : Value.okWide P w r b0 t v) (h : DataW.Trod enc P w base spare held t v d p) :
    ∃ a0 a1 : Int, v = .agg #[.int k a0, .int k a1] ∧ d = .agg [.lit (.int k a0), .lit (.int k a1)] ∧ p = [] ∧ ((Lit.int k a0).wf = true ∧ (Lit.int k a1).wf = true) := by
  obtain ⟨cs, rfl, hsz⟩ := okWide_arr ht hv
  obtain ⟨l⟩ := cs
  match l, hsz.trans hn with
  | [c0, c1], _ =>
    obtain ⟨fuel, hf⟩ := h
    obtain ⟨xs, m, _, hx, _, hlen, hg⟩ := DataW.trod_array ht hf
    rw [hc] at hg
    match xs, hlen with
    | [y0, y1], _ =>
      obtain ⟨a0, e0, rfl, w0⟩ := DataW.trod_int he (by simpa [Value.cells] using hg 0 (by decide))
      obtain ⟨a1, e1, rfl, w1⟩ := DataW.trod_int he (by simpa [Value.cells] using hg 1 (by decide))
      simp only [Prod.mk.injEq] at hx
      simp at e0 e1
      subst e0 e1
      exact ⟨a0, a1, rfl, by simpa using hx.1, by simpa using hx.2, w0, w1⟩
theorem shut_arr2 {t e : TypeId} {k : IntKind} (ht : P.underlying t = some (.array 2 e)) (he : P.underlying e = some (.int k)) (hc : P.cellsOf e = 1) (hn : P.cellsOf t = 2) {a0 a1 : Int}
    (hw : (Lit.int k a0).wf = true ∧ (Lit.int k a1).wf = true) :
    DataW.Trod enc P w base spare held t (.agg #[.int k a0, .int k a1]) (.agg [.lit (.int k a0), .lit (.int k a1)]) [] :=
  ⟨2, by simp [DataW.trod, Value.cells, ht, he, hc, hn, hw.1, hw.2, show List.range 2 = [0, 1] from rfl]⟩
end
end Rt
end Go.Proofs.YtbfonkabmehlmaaGreatDoor
