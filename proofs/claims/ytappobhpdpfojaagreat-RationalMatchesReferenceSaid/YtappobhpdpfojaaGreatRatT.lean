/-
  Contracts: into.
-/
import Derived.Test.YtappobhpdpfojaaGreatRatW
namespace Go.Proofs.YtappobhpdpfojaaGreat
set_option maxRecDepth 1000000
namespace Rt
open Go.RowKit Nm

/-- the closure that into makes, its four boxes from block B on -/
def clo (B : Nat) : Value := .func (.func 94) #[] #[.pointer (some ⟨B + 1, 0, none⟩), .pointer (some ⟨B + 1 + 1, 0, none⟩), .pointer (some ⟨B + 1 + 1 + 1, 0, none⟩), .pointer (some ⟨B, 0, none⟩)]
structure IntoAt (W : World) (B : Nat) (res : Addr) (f : Value) (x y : Addr) : Prop where
  r : Boxed W B 82 (.pointer (some res))
  f : Boxed W (B + 1) 106 f
  x : Boxed W (B + 1 + 1) 82 (.pointer (some x))
  y : Boxed W (B + 1 + 1 + 1) 82 (.pointer (some y))
theorem IntoAt.keep {W W' : World} {B : Nat} {res : Addr} {f : Value} {x y : Addr} {bs : Nat → Prop} (h : IntoAt W B res f x y) (ho : Rim bs W W') (hn : ∀ k, B ≤ k → k ≤ B + 3 → ¬ bs k) : IntoAt W' B res f x y :=
  ⟨ho.heap h.r (hn _ (by omega) (by omega)), ho.heap h.f (hn _ (by omega) (by omega)), ho.heap h.x (hn _ (by omega) (by omega)), ho.heap h.y (hn _ (by omega) (by omega))⟩

theorem into_any (res x y : Addr) (k : Nat) (W : World) : Calls Tryz.prog 68 #[.pointer (some res), .func (.func k) #[] #[], .pointer (some x), .pointer (some y)] W fun e W' => e = .returned (.func (.func 94) #[] #[.pointer (some ⟨W.heap.size + 1, 0, none⟩), .pointer (some ⟨W.heap.size + 1 + 1, 0, none⟩), .pointer (some ⟨W.heap.size + 1 + 1 + 1, 0, none⟩), .pointer (some ⟨W.heap.size, 0, none⟩)]) ∧ IntoAt W' W.heap.size res (.func (.func k) #[] #[]) x y ∧ Below W.heap.size W W' ∧ W.heap.size + 4 ≤ W'.heap.size := by
  have hmf : ∀ (fn : Fn) (first cap : Array Value) (w : World), (Instr.makeFunc fn first cap).run Tryz.prog w = .ok (.func fn first cap) w := fun _ _ _ _ => rfl
  go_enter Tryz.func68, Tryz.ntmps68
  go_wp2
  go_ret
  refine ⟨rfl, ⟨?_, ?_, ?_, ?_⟩, ?_, ?_⟩
  · exact (((Boxed.new _ _ _).alloc _).alloc _).alloc _
  · have := (((Boxed.new (W.alloc (.cells #[.pointer (some res)] 82)) 106 (.func (.func k) #[] #[])).alloc (.cells #[.pointer (some x)] 82)).alloc (.cells #[.pointer (some y)] 82))
    rwa [World.size_alloc] at this
  · have := ((Boxed.new ((W.alloc (.cells #[.pointer (some res)] 82)).alloc (.cells #[.func (.func k) #[] #[]] 106)) 82 (.pointer (some x))).alloc (.cells #[.pointer (some y)] 82))
    rwa [World.size_alloc, World.size_alloc] at this
  · have := Boxed.new (((W.alloc (.cells #[.pointer (some res)] 82)).alloc (.cells #[.func (.func k) #[] #[]] 106)).alloc (.cells #[.pointer (some x)] 82)) 82 (.pointer (some y))
    rwa [World.size_alloc, World.size_alloc, World.size_alloc] at this
  · exact ((((Below.refl _ W).alloc (Nat.le_refl _) _).alloc (by simp) _).alloc (by simp; omega) _).alloc (by simp; omega) _
  · simp

/-- what function k answers is what op says -/
def OpC (k : Nat) (op : ByteArray → ByteArray → Option ByteArray) : Prop := ∀ (s t : ByteArray) (W : World), s.size ≤ 1000000 → t.size ≤ 1000000 →
  Calls Tryz.prog k #[.string s, .string t] W fun e W' => ∃ (v : ByteArray) (n : Int), e = .returned (.tuple #[.string v, .int .i64 n]) ∧ (∀ u, op s t = some u → v = u ∧ n = 0) ∧ (op s t = none → n ≠ 0) ∧ Below W.heap.size W W'

end Rt
end Go.Proofs.YtappobhpdpfojaaGreat
