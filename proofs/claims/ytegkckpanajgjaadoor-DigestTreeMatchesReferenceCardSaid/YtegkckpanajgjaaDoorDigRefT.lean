/-
  append of a list of strings as one step of a region that draws its order (as in DigProof).
-/
import Derived.Test.YtegkckpanajgjaaDoorDigRefF
import Derived.Test.YtegkckpanajgjaaDoorDigSplit
namespace Go.Proofs.YtegkckpanajgjaaDoor
namespace Ds
open Go.RowKit
theorem step_append_strs {w : World} {ops : Array Oper} {o : Oper} {a : Act} {K : Act → World → Prop} {Q : Exit → Act → World → Prop} {E : Prop}
    (hg : o.guard = none) (s x : Operand) (hop : o.op = .call { callee := .builtin .append, args := #[s, x], argTypes := #[26, 26] }) (base : Nat) (v : Value) (xs : List ByteArray) (hs : a.eval s = v) (hown : OwnS w base v xs)
    (Bx : Nat) (vx : Value) (ys zs : List ByteArray) (hx : a.eval x = vx) (hys : OwnS w Bx vx ys) (hz : zs = xs ++ ys) (hl : xs.length + ys.length ≤ 1000) (hb : base ≤ w.heap.size)
    (hK : ∀ v' w', OwnS w' base v' zs → Below base w w' → w.grownBy w' v.ownBlock → K (a.put o.dst v') w') : if Region.wanted o (yielded ops a.tmps) = true then Oper.wp Tryd.prog o a w K Q else E := by
  obtain ⟨i0, hinf, hz0, hz1, hz2⟩ := info_parts infoStr
  subst hz
  rcases hys.2 with ⟨rfl, hn⟩ | ⟨g, cap, cur, rfl, _⟩
  · obtain rfl := List.eq_nil_of_length_eq_zero hn
    have hw : Region.wanted o (yielded ops a.tmps) = true := by simp [Region.wanted, hg]
    rw [if_pos hw]
    have hrun := run_append_owned_none (P := Tryd.prog) (w := w) base 26 o.type 9 i0 1 Tryd.underlying26 hinf v xs.length _ hown
    unfold Oper.wp
    simp [execOp, hop, resolve, invoke, builtin, hs, hx, hrun, Result.andThen]
    exact hK _ _ (by rw [List.append_nil]; exact hown) (Below.refl _ _) ⟨rfl, rfl, rfl, Nat.le_refl _, fun _ _ _ => rfl⟩
  · obtain ⟨p, cap', g', he, hp, hA, hc, hm⟩ := hys.open
    have hA' : SA w g 0 ys := by
      intro i hi
      injection he with e1 e2 e3
      obtain ⟨hp1, _⟩ := hp (by omega)
      rw [hp1] at e1
      injection e1 with e1
      injection e1 with e1
      subst e1
      exact hA i hi
    refine step_append_own hg s x 26 hop base 9 i0 (.string ⟨#[]⟩) 1 16 Tryd.underlying26 hinf hz0 hz1 hz2 rfl (by decide) v xs.length _ hs hown ⟨g, 0, none⟩ ys.length cap (ys.map Value.string) hx (by rw [List.length_map, Nat.mul_one]) (SA.cells hA') (strs_one ys) (by unfold maxLen; omega) (by omega) hb ?_
    intro v' w' hown' hgrow
    refine hK v' w' ?_ (below_append (Below.refl _ _) hb hown hgrow) hgrow
    unfold OwnS
    rw [List.length_append, List.map_append]
    exact hown'
theorem step_append_at {w : World} {ops : Array Oper} {a : Act} {K : Act → World → Prop} {Q : Exit → Act → World → Prop} {E : Prop} {ty : TypeId} {pos : String} {after : Array Edge}
    (d s x : Nat) (base : Nat) (xs : List ByteArray) (Bx : Nat) (ys zs : List ByteArray) (hown : OwnS w base (a.eval (.tmp s)) xs)
    (hys : OwnS w Bx (a.eval (.tmp x)) ys) (hz : zs = xs ++ ys) (hl : xs.length + ys.length ≤ 1000) (hb : base ≤ w.heap.size)
    (hK : ∀ v' w', OwnS w' base v' zs → Below base w w' → w.grownBy w' (a.eval (.tmp s)).ownBlock → K (a.put (some d) v') w') : if Region.wanted { dst := some d, op := .call { callee := .builtin .append, args := #[.tmp s, .tmp x], argTypes := #[26, 26] }, type := ty, pos := pos, after := after, guard := none } (yielded ops a.tmps) = true then Oper.wp Tryd.prog { dst := some d, op := .call { callee := .builtin .append, args := #[.tmp s, .tmp x], argTypes := #[26, 26] }, type := ty, pos := pos, after := after, guard := none } a w K Q else E :=
  step_append_strs rfl (.tmp s) (.tmp x) rfl base _ xs rfl hown Bx _ ys zs rfl hys hz hl hb hK
end Ds
end Go.Proofs.YtegkckpanajgjaaDoor
