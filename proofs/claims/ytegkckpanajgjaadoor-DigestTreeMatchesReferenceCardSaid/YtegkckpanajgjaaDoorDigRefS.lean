/-
  The reference: append as one step of a region that draws its order.
-/
import Derived.Test.YtegkckpanajgjaaDoorDigRefB
import Derived.Test.YtegkckpanajgjaaDoorDigHex
namespace Go.Proofs.YtegkckpanajgjaaDoor
namespace D4
open Go.RowKit
theorem step_at {w : World} {ops : Array Oper} {a : Act} {K : Act → World → Prop} {Q : Exit → Act → World → Prop} {E : Prop} {ty : TypeId} {pos : String} {after : Array Edge}
    (d s x : Nat) (base : Nat) (v : Value) (xs : List Nat) (hs : a.eval (.tmp s) = v) (hown : OwnU w base v xs) (vx : Value) (ys : List Nat) (hx : a.eval (.tmp x) = vx) (hys : NA w vx ys) (hl : xs.length + ys.length ≤ 1000000) (hb : base ≤ w.heap.size)
    (hK : ∀ v' w', OwnU w' base v' (xs ++ ys) → Below base w w' → K (a.put (some d) v') w') : if Region.wanted { dst := some d, op := .call { callee := .builtin .append, args := #[.tmp s, .tmp x], argTypes := #[48, 48] }, type := ty, pos := pos, after := after, guard := none } (yielded ops a.tmps) = true then Oper.wp Tryd.prog { dst := some d, op := .call { callee := .builtin .append, args := #[.tmp s, .tmp x], argTypes := #[48, 48] }, type := ty, pos := pos, after := after, guard := none } a w K Q else E := by
  obtain ⟨i0, hinf, hz0, hz1, hz2⟩ := info_parts infoU
  obtain ⟨p, cap, rfl, h1, h2, ⟨rfl, rfl, rfl⟩ | ⟨g, o, rfl, hg, hu⟩⟩ := hys
  · rw [if_pos (by simp [Region.wanted])]
    have hrun := run_append_owned_none (P := Tryd.prog) (w := w) base 48 ty 47 i0 1 Tryd.underlying48 hinf v xs.length _ hown
    unfold Oper.wp
    simp [execOp, resolve, invoke, builtin, hs, hx, hrun, Result.andThen]
    exact hK _ _ (by rw [List.append_nil]; exact hown) (Below.refl _ _)
  · refine step_append_own rfl (.tmp s) (.tmp x) 48 rfl base 47 i0 (.int .u32 0) 1 4 Tryd.underlying48 hinf hz0 hz1 hz2 rfl (by decide) v xs.length _ hs hown ⟨g, o, none⟩ ys.length cap (ys.map fun n : Nat => Value.int .u32 (n : Int)) hx (by rw [List.length_map, Nat.mul_one]) (UA.cells hu) (u32_one ys) (by unfold maxLen; omega) (by omega) hb ?_
    intro v' w' hown' hgrow
    refine hK v' w' ?_ (below_grown (Below.refl _ _) hb hown hgrow)
    unfold OwnU
    rw [List.length_append, List.map_append]
    exact hown'
end D4
namespace D1
open Go.RowKit
theorem step_at {w : World} {ops : Array Oper} {a : Act} {K : Act → World → Prop} {Q : Exit → Act → World → Prop} {E : Prop} {ty : TypeId} {pos : String} {after : Array Edge}
    (d s x : Nat) (base : Nat) (v : Value) (xs : List Nat) (hs : a.eval (.tmp s) = v) (hown : OwnU w base v xs) (vx : Value) (ys : List Nat) (hx : a.eval (.tmp x) = vx) (hys : NA w vx ys) (hl : xs.length + ys.length ≤ 1000000) (hb : base ≤ w.heap.size)
    (hK : ∀ v' w', OwnU w' base v' (xs ++ ys) → Below base w w' → K (a.put (some d) v') w') : if Region.wanted { dst := some d, op := .call { callee := .builtin .append, args := #[.tmp s, .tmp x], argTypes := #[42, 42] }, type := ty, pos := pos, after := after, guard := none } (yielded ops a.tmps) = true then Oper.wp Tryd.prog { dst := some d, op := .call { callee := .builtin .append, args := #[.tmp s, .tmp x], argTypes := #[42, 42] }, type := ty, pos := pos, after := after, guard := none } a w K Q else E := by
  obtain ⟨i0, hinf, hz0, hz1, hz2⟩ := info_parts infoU
  obtain ⟨p, cap, rfl, h1, h2, ⟨rfl, rfl, rfl⟩ | ⟨g, o, rfl, hg, hu⟩⟩ := hys
  · rw [if_pos (by simp [Region.wanted])]
    have hrun := run_append_owned_none (P := Tryd.prog) (w := w) base 42 ty 5 i0 1 Tryd.underlying42 hinf v xs.length _ hown
    unfold Oper.wp
    simp [execOp, resolve, invoke, builtin, hs, hx, hrun, Result.andThen]
    exact hK _ _ (by rw [List.append_nil]; exact hown) (Below.refl _ _)
  · refine step_append_own rfl (.tmp s) (.tmp x) 42 rfl base 5 i0 (.int .u8 0) 1 1 Tryd.underlying42 hinf hz0 hz1 hz2 rfl (by decide) v xs.length _ hs hown ⟨g, o, none⟩ ys.length cap (ys.map fun n : Nat => Value.int .u8 (n : Int)) hx (by rw [List.length_map, Nat.mul_one]) (UA.cells hu) (u32_one ys) (by unfold maxLen; omega) (by omega) hb ?_
    intro v' w' hown' hgrow
    refine hK v' w' ?_ (below_grown (Below.refl _ _) hb hown hgrow)
    unfold OwnU
    rw [List.length_append, List.map_append]
    exact hown'
end D1
end Go.Proofs.YtegkckpanajgjaaDoor
