/-
  A fraction as an argument; the law RationalTextMatchesReference, with its fixed examples.
-/
import Derived.Test.YtappobhpdpfojaaGreatRatFo
import Derived.Lib.SmallJoins
import Derived.ProofKit
import Derived.Test.YtappobhpdpfojaaGreatQl
import Derived.Test.YtappobhpdpfojaaGreatRatSb
namespace Go.Proofs.YtappobhpdpfojaaGreat
set_option maxRecDepth 1000000
namespace Rt
open Go.RowKit Go.ChangeShapes Go.WideShapes
section
variable {H : Type} {enc : TypeId × Value → H} {P : Program} {w : World} {base : Nat} {spare : Nat → Bool} {held : Bool}
theorem okWide_arr {r : Reach} {b0 n : Nat} {t e : TypeId} {v : Value} (ht : P.underlying t = some (.array n e)) (h : Value.okWide P w r b0 t v) : ∃ cs : Array Value, v = .agg cs ∧ cs.size = P.cellsOf t := by
  simp only [Value.okWide, ht] at h
  obtain ⟨cs, h1, h2, _⟩ := h
  exact ⟨cs, h1, h2⟩
theorem open_arr4 {r : Reach} {b0 : Nat} {t e : TypeId} {k : IntKind} {v : Value} {d : DataW H} {p : List MemPlace} (ht : P.underlying t = some (.array 4 e)) (he : P.underlying e = some (.int k)) (hc : P.cellsOf e = 1) (hn : P.cellsOf t = 4)
    (hv : Value.okWide P w r b0 t v) (h : DataW.Trod enc P w base spare held t v d p) :
    ∃ a0 a1 a2 a3 : Int, v = .agg #[.int k a0, .int k a1, .int k a2, .int k a3] ∧ d = .agg [.lit (.int k a0), .lit (.int k a1), .lit (.int k a2), .lit (.int k a3)] ∧ p = [] ∧ ((Lit.int k a0).wf = true ∧ (Lit.int k a1).wf = true ∧ (Lit.int k a2).wf = true ∧ (Lit.int k a3).wf = true) := by
  obtain ⟨cs, rfl, hsz⟩ := okWide_arr ht hv
  obtain ⟨l⟩ := cs
  match l, hsz.trans hn with
  | [c0, c1, c2, c3], _ =>
    obtain ⟨fuel, hf⟩ := h
    obtain ⟨xs, m, _, hx, _, hlen, hg⟩ := DataW.trod_array ht hf
    rw [hc] at hg
    match xs, hlen with
    | [y0, y1, y2, y3], _ =>
      obtain ⟨a0, e0, rfl, w0⟩ := DataW.trod_int he (by simpa [Value.cells] using hg 0 (by decide))
      obtain ⟨a1, e1, rfl, w1⟩ := DataW.trod_int he (by simpa [Value.cells] using hg 1 (by decide))
      obtain ⟨a2, e2, rfl, w2⟩ := DataW.trod_int he (by simpa [Value.cells] using hg 2 (by decide))
      obtain ⟨a3, e3, rfl, w3⟩ := DataW.trod_int he (by simpa [Value.cells] using hg 3 (by decide))
      simp only [Prod.mk.injEq] at hx
      simp at e0 e1 e2 e3
      subst e0 e1 e2 e3
      exact ⟨a0, a1, a2, a3, rfl, by simpa using hx.1, by simpa using hx.2, w0, w1, w2, w3⟩
theorem shut_arr4 {t e : TypeId} {k : IntKind} (ht : P.underlying t = some (.array 4 e)) (he : P.underlying e = some (.int k)) (hc : P.cellsOf e = 1) (hn : P.cellsOf t = 4) {a0 a1 a2 a3 : Int}
    (hw : (Lit.int k a0).wf = true ∧ (Lit.int k a1).wf = true ∧ (Lit.int k a2).wf = true ∧ (Lit.int k a3).wf = true) :
    DataW.Trod enc P w base spare held t (.agg #[.int k a0, .int k a1, .int k a2, .int k a3]) (.agg [.lit (.int k a0), .lit (.int k a1), .lit (.int k a2), .lit (.int k a3)]) [] :=
  ⟨2, by simp [DataW.trod, Value.cells, ht, he, hc, hn, hw.1, hw.2.1, hw.2.2.1, hw.2.2.2, show List.range 4 = [0, 1, 2, 3] from rfl]⟩
theorem open_arr2 {r : Reach} {b0 : Nat} {t e : TypeId} {k : IntKind} {v : Value} {d : DataW H} {p : List MemPlace} (ht : P.underlying t = some (.array 2 e)) (he : P.underlying e = some (.int k)) (hc : P.cellsOf e = 1) (hn : P.cellsOf t = 2)
    (hv : Value.okWide P w r b0 t v) (h : DataW.Trod enc P w base spare held t v d p) :
    ∃ a0 a1 : Int, v = .agg #[.int k a0, .int k a1] ∧ d = .agg [.lit (.int k a0), .lit (.int k a1)] ∧ p = [] ∧ ((Lit.int k a0).wf = true ∧ (Lit.int k a1).wf = true) := by
  obtain ⟨cs, rfl, hsz⟩ := okWide_arr ht hv
  obtain ⟨l⟩ := cs
  match l, hsz.trans hn with
  | [c0, c1], _ =>
    obtain ⟨fuel, hf⟩ := h
    obtain ⟨xs, m, _, hx, _, hlen, hg⟩ := DataW.trod_array ht hf
    rw [hc] at hg
    match xs, hlen with
    | [y0, y1], _ =>
      obtain ⟨a0, e0, rfl, w0⟩ := DataW.trod_int he (by simpa [Value.cells] using hg 0 (by decide))
      obtain ⟨a1, e1, rfl, w1⟩ := DataW.trod_int he (by simpa [Value.cells] using hg 1 (by decide))
      simp only [Prod.mk.injEq] at hx
      simp at e0 e1
      subst e0 e1
      exact ⟨a0, a1, rfl, by simpa using hx.1, by simpa using hx.2, w0, w1⟩
theorem shut_arr2 {t e : TypeId} {k : IntKind} (ht : P.underlying t = some (.array 2 e)) (he : P.underlying e = some (.int k)) (hc : P.cellsOf e = 1) (hn : P.cellsOf t = 2) {a0 a1 : Int}
    (hw : (Lit.int k a0).wf = true ∧ (Lit.int k a1).wf = true) :
    DataW.Trod enc P w base spare held t (.agg #[.int k a0, .int k a1]) (.agg [.lit (.int k a0), .lit (.int k a1)]) [] :=
  ⟨2, by simp [DataW.trod, Value.cells, ht, he, hc, hn, hw.1, hw.2, show List.range 2 = [0, 1] from rfl]⟩
end
end Rt
end Go.Proofs.YtappobhpdpfojaaGreat
namespace Go.Proofs.YtappobhpdpfojaaGreat
set_option maxRecDepth 1000000
namespace Rt
open Go.RowKit Go.ChangeShapes Go.WideShapes Go.Proofs.YtappobhpdpfojaaGreat.Nm
section
variable {H : Type} {enc : TypeId × Value → H} {P : Program} {w : World} {base : Nat} {spare : Nat → Bool} {held : Bool}
theorem okWide_st {r : Reach} {b0 : Nat} {t : TypeId} {fs : Array Field} {v : Value} (ht : P.underlying t = some (.struct fs)) (h : Value.okWide P w r b0 t v) : ∃ cs : Array Value, v = .agg cs ∧ cs.size = P.cellsOf t := by
  simp only [Value.okWide, ht] at h
  obtain ⟨cs, h1, h2, _⟩ := h
  exact ⟨cs, h1, h2⟩
theorem trod_str1 {t : TypeId} (ht : P.underlying t = some .string) {fuel : Nat} {c : Value} {x : DataW H × List MemPlace} (h : DataW.trod enc P w base spare held fuel t [c] = some x) : ∃ s : ByteArray, c = .string s ∧ x = (.lit (.string s.data.toList), []) ∧ s.size ≤ maxLen := by
  cases fuel with
  | zero => simp [DataW.trod] at h
  | succ n =>
    unfold DataW.trod at h
    rw [ht] at h
    cases c <;> simp at h
    exact ⟨_, rfl, by simp_all, by simp_all⟩
theorem open_two {r : Reach} {b0 : Nat} {t : TypeId} {f0 f1 : Field} {v : Value} {d : DataW H} {p : List MemPlace} (ht : P.underlying t = some (.struct #[f0, f1])) (e0 : P.underlying f0.type = some .string) (e1 : P.underlying f1.type = some .string) (o0 : f0.offset = 0) (o1 : f1.offset = 1) (c0 : P.cellsOf f0.type = 1) (c1 : P.cellsOf f1.type = 1) (hn : P.cellsOf t = 2)
    (hv : Value.okWide P w r b0 t v) (h : DataW.Trod enc P w base spare held t v d p) :
    ∃ a b : ByteArray, v = .agg #[.string a, .string b] ∧ d = .agg [.lit (.string a.data.toList), .lit (.string b.data.toList)] ∧ p = [] ∧ (a.size ≤ maxLen ∧ b.size ≤ maxLen) := by
  obtain ⟨cs, rfl, hsz⟩ := okWide_st ht hv
  obtain ⟨l⟩ := cs
  match l, hsz.trans hn with
  | [k0, k1], _ =>
    obtain ⟨fuel, hf⟩ := h
    obtain ⟨y0, y1, m, hx, _, g0, g1⟩ := trod_struct2 ht hf
    rw [o0, c0] at g0
    rw [o1, c1] at g1
    obtain ⟨a, rfl, rfl, wa⟩ := trod_str1 e0 (by simpa [Value.cells] using g0)
    obtain ⟨b, rfl, rfl, wb⟩ := trod_str1 e1 (by simpa [Value.cells] using g1)
    obtain ⟨rfl, rfl⟩ := Prod.mk.inj hx
    exact ⟨a, b, rfl, rfl, rfl, wa, wb⟩
theorem shut_two {t : TypeId} {f0 f1 : Field} (ht : P.underlying t = some (.struct #[f0, f1])) (e0 : P.underlying f0.type = some .string) (e1 : P.underlying f1.type = some .string) (o0 : f0.offset = 0) (o1 : f1.offset = 1) (c0 : P.cellsOf f0.type = 1) (c1 : P.cellsOf f1.type = 1) (hn : P.cellsOf t = 2) {a b : ByteArray} (hw : a.size ≤ maxLen ∧ b.size ≤ maxLen) :
    DataW.Trod enc P w base spare held t (.agg #[.string a, .string b]) (.agg [.lit (.string a.data.toList), .lit (.string b.data.toList)]) [] :=
  ⟨2, by simp [DataW.trod, Value.cells, ht, e0, e1, o0, o1, c0, c1, hn, hw.1, hw.2]⟩
end
theorem text_any (xn xd raw : ByteArray) (x0 x1 x2 x3 f ch : Int) (hx : (Lit.int .i64 x0).wf = true ∧ (Lit.int .i64 x1).wf = true ∧ (Lit.int .i64 x2).wf = true ∧ (Lit.int .i64 x3).wf = true) (hf : (Lit.int .i64 f).wf = true) (hc : (Lit.int .u8 ch).wf = true) (w : World) :
    Calls Tryz.prog 4 #[.agg #[.string xn, .string xd], .agg #[.int .i64 x0, .int .i64 x1, .int .i64 x2, .int .i64 x3], .int .i64 f, .int .u8 ch, .string raw] w fun e w' => e = .returned (.bool true) ∧ Below w.heap.size w w' := by
  have h1 : 0 ≤ ch ∧ ch ≤ 255 := by
    simp [Lit.wf, IntKind.min, IntKind.max, IntKind.signed, IntKind.bits] at hc
    omega
  obtain ⟨c, rfl⟩ := Int.eq_ofNat_of_zero_le h1.1
  exact tm_walk xn xd raw x0 x1 x2 x3 f c (Joins.in64_of_wf hx.1) (Joins.in64_of_wf hx.2.1) (Joins.in64_of_wf hx.2.2.1) (Joins.in64_of_wf hx.2.2.2) (Joins.in64_of_wf hf) (by omega) w (fun W => sane_any W)
end Rt
end Go.Proofs.YtappobhpdpfojaaGreat
