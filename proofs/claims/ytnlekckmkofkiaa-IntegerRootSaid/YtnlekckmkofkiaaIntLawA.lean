/-
  Calls of the functions of package integer, as facts on strings alone.
-/
import Derived.Test.YtnlekckmkofkiaaIntRing
namespace Go.Proofs.Ytnlekckmkofkiaa
open Go.RowKit Nm

def CCmp (s t : ByteArray) (k : Int) : Prop := ∀ w : World, Calls Try.prog 31 #[.string s, .string t] w fun e w' => e = .returned (.int .i64 k) ∧ Below w.heap.size w w'
theorem cCmp (x y : Int) (hx : Fits x) (hy : Fits y) : CCmp (txt x) (txt y) (cmpZ x y) := fun w => Compare_ok x y hx hy w
def CDiv (s t q r : ByteArray) : Prop := ∀ w : World, Calls Try.prog 21 #[.string s, .string t] w fun e w' => e = .returned (.tuple #[.string q, .string r, .int .i64 0]) ∧ Below w.heap.size w w'
theorem cDiv (x y : Int) (hx : Fits x) (hy : Fits y) (h : y ≠ 0) : CDiv (txt x) (txt y) (txt (x / y)) (txt (x % y)) := fun w => Div_ok x y hx hy h w
def CDivZ (s t : ByteArray) : Prop := ∀ w : World, Calls Try.prog 21 #[.string s, .string t] w fun e w' => e = .returned (.tuple #[.string ⟨#[]⟩, .string ⟨#[]⟩, .int .i64 30]) ∧ Below w.heap.size w w'
def CVal (s : ByteArray) (b : Bool) : Prop := ∀ w : World, Calls Try.prog 29 #[.string s] w fun e w' => e = .returned (.bool b) ∧ Below w.heap.size w w'
theorem cVal (s : ByteArray) (hs : s.size ≤ 1000000) : CVal s (validB s) := fun w => by
  refine (Valid_any s hs w).mono ?_
  rintro e w1 ⟨rfl, m, rfl⟩
  exact ⟨rfl, below_drewN (Below.refl _ _) m⟩
theorem cmpZ_cases (x y : Int) : (cmpZ x y = -1 ∧ cmpZ y x = 1 ∧ x < y) ∨ (cmpZ x y = 0 ∧ cmpZ y x = 0 ∧ x = y) ∨ (cmpZ x y = 1 ∧ cmpZ y x = -1 ∧ y < x) := by
  unfold cmpZ
  rcases Int.lt_trichotomy x y with h | h | h
  · left; rw [if_pos h, if_neg (by omega), if_neg (by omega)]; exact ⟨rfl, rfl, h⟩
  · right; left; subst h; rw [if_neg (by omega), if_pos rfl]; exact ⟨rfl, rfl, rfl⟩
  · right; right; rw [if_neg (by omega), if_neg (by omega), if_pos h]; exact ⟨rfl, rfl, h⟩
theorem cmpZ_shift {x y x' y' : Int} (h : x - y = x' - y') : cmpZ x y = cmpZ x' y' := by
  unfold cmpZ; (repeat' split) <;> omega
theorem txt_ne {x y : Int} (h : x ≠ y) : ((txt x).toList == (txt y).toList) = false := by rw [str_eq]; exact decide_eq_false fun e => h (txt_inj e)
theorem Bd.z : Fits 0 := ft_0
end Go.Proofs.Ytnlekckmkofkiaa
