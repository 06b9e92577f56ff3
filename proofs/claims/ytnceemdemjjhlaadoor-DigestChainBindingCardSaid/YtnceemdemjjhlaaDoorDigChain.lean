/-
  Heads of lists of records: the binding of chains.
-/
import Derived.Test.YtnceemdemjjhlaaDoorDigSplit
namespace Go.Proofs.YtnceemdemjjhlaaDoor
open Go.RowKit

/-- 32 zero bytes -/
def zeros32 : ByteArray := ⟨(List.replicate 32 (0 : UInt8)).toArray⟩
theorem zeros32_size : zeros32.size = 32 := rfl
/-- the head of a list of records, the last one first -/
def headR : List ByteArray → ByteArray
  | [] => zeros32
  | x :: q => chainB (headR q) x
/-- the strings of which Sum is computed for the head, the last one first -/
def outR : List ByteArray → List ByteArray
  | [] => []
  | x :: q => (⟨#[2]⟩ ++ headR q ++ x) :: outR q
theorem headR_size : ∀ q, (headR q).size = 32
  | [] => zeros32_size
  | _ :: _ => chain_size _ _
theorem outR_len : ∀ q, (outR q).length = q.length
  | [] => rfl
  | _ :: q => by rw [outR, List.length_cons, outR_len q, List.length_cons]
theorem outR_small : ∀ (q : List ByteArray) (_ : ∀ x ∈ q, x.size ≤ 900), Small (outR q)
  | [], _ => by intro x hx; simp [outR] at hx
  | x :: q, hq => by
    intro z hz
    rw [outR] at hz
    rcases List.mem_cons.1 hz with rfl | hz
    · have := hq x (by simp)
      have h1 : (⟨#[2]⟩ : ByteArray).size = 1 := rfl
      rw [ByteArray.size_append, ByteArray.size_append, headR_size]; omega
    · exact outR_small q (fun y hy => hq y (by simp [hy])) z hz
/-- one of two lists is longer, and the string at the other's length has Sum zeros32 -/
def Zero (a b : List ByteArray) : Prop := (∃ h : a.length < b.length, Sh.sha b[a.length] = zeros32) ∨ (∃ h : b.length < a.length, Sh.sha a[b.length] = zeros32)
theorem Zero.cons {x y : ByteArray} {a b : List ByteArray} (h : Zero a b) : Zero (x :: a) (y :: b) := by
  rcases h with ⟨h, e⟩ | ⟨h, e⟩
  · exact .inl ⟨by simpa using h, by simpa using e⟩
  · exact .inr ⟨by simpa using h, by simpa using e⟩
theorem bind2 {u v x y : ByteArray} (hu : u.size = 32) (hv : v.size = 32) (h : (⟨#[2]⟩ ++ u ++ x : ByteArray) = ⟨#[2]⟩ ++ v ++ y) : u = v ∧ x = y := by
  have h1 := app_inj_left h (by rw [ByteArray.size_append, ByteArray.size_append, hu, hv])
  exact ⟨(app_inj_left h1.1 rfl).2, h1.2⟩
theorem chain_binding : ∀ (a b : List ByteArray), headR a = headR b → a = b ∨ Coll (outR a) (outR b) ∨ Zero (outR a) (outR b)
  | [], [], _ => .inl rfl
  | [], y :: r, h => .inr (.inr (.inl ⟨by simp [outR], by rw [headR, headR] at h; exact h.symm⟩))
  | x :: q, [], h => .inr (.inr (.inr ⟨by simp [outR], by rw [headR, headR] at h; exact h⟩))
  | x :: q, y :: r, h => by
    rw [headR, headR] at h
    rw [outR, outR]
    by_cases he : (⟨#[2]⟩ ++ headR q ++ x : ByteArray) = ⟨#[2]⟩ ++ headR r ++ y
    · obtain ⟨h1, rfl⟩ := bind2 (headR_size q) (headR_size r) he
      rcases chain_binding q r h1 with h2 | h2 | h2
      · exact .inl (by rw [h2])
      · exact .inr (.inl h2.cons)
      · exact .inr (.inr h2.cons)
    · exact .inr (.inl (Coll.here he h))
end Go.Proofs.YtnceemdemjjhlaaDoor
