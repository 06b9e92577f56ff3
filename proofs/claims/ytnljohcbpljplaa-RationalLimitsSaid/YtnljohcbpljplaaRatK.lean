/-
  Contracts: strings.Cut at a byte, Print.
-/
import Derived.Test.YtnljohcbpljplaaRatN
import Derived.Shelf.Strings.Cut
namespace Go.Proofs.Ytnljohcbpljplaa
set_option maxRecDepth 1000000
namespace Rt
open Go.RowKit Go.Proofs.Ytnljohcbpljplaa.Nm
def renC : Go.Shelf.Ren where
  f := fun x => match x with
    | 145 => 30
    | 220 => 45
    | 219 => 63
    | 217 => 82
    | 225 => 83
    | 224 => 84
    | 267 => 85
    | 266 => 94
    | 314 => 95
    | n => n
  t := fun x => match x with
    | 9 => 9
    | 4 => 4
    | 59 => 53
    | 3 => 3
    | 5 => 5
    | 46 => 83
    | 146 => 107
    | 51 => 82
    | n => n
  g := fun x => match x with
    | 1 => 0
    | n => n
theorem renC_lays : Lays.n145 Try.prog renC where
  mixed := by kernel_rfl
  f145 := (Try.func30).trans (congrArg some (by kernel_rfl))
  f217 := (Try.func82).trans (congrArg some (by kernel_rfl))
  f219 := (Try.func63).trans (congrArg some (by kernel_rfl))
  f220 := (Try.func45).trans (congrArg some (by kernel_rfl))
  f224 := (Try.func84).trans (congrArg some (by kernel_rfl))
  f225 := (Try.func83).trans (congrArg some (by kernel_rfl))
  f266 := (Try.func94).trans (congrArg some (by kernel_rfl))
  f267 := (Try.func85).trans (congrArg some (by kernel_rfl))
  f314 := (Try.func95).trans (congrArg some (by kernel_rfl))
  t3 := Try.underlying3
  a3 := Try.isAgg3
  z3 := Try.sizeOf3
  v3 := Try.zeroValue3
  t4 := Try.underlying4
  a4 := Try.isAgg4
  z4 := Try.sizeOf4
  v4 := Try.zeroValue4
  t5 := Try.underlying5
  a5 := Try.isAgg5
  z5 := Try.sizeOf5
  v5 := Try.zeroValue5
  t9 := Try.underlying9
  a9 := Try.isAgg9
  z9 := Try.sizeOf9
  v9 := Try.zeroValue9
  t46 := Try.underlying83
  a46 := Try.isAgg83
  z46 := Try.sizeOf83
  v46 := Try.zeroValue83
  t51 := Try.underlying82
  a51 := Try.isAgg82
  z51 := Try.sizeOf82
  v51 := Try.zeroValue82
  t59 := Try.underlying53
  a59 := Try.isAgg53
  z59 := Try.sizeOf53
  v59 := Try.zeroValue53
  t146 := Try.underlying107
  a146 := Try.isAgg107
  z146 := Try.sizeOf107
  v146 := Try.zeroValue107
  g1 := by kernel_rfl

theorem index_all (s : ByteArray) (w : World) : Calls Try.prog 63 #[.string s, .string ⟨#[47]⟩] w fun e w' => e = .returned (.int .i64 (Lib.indexByte s.data.toList 47)) ∧ w' = w :=
  Any.stringslite_Index_one { renC_lays with } s 47 w
set_option maxHeartbeats 1000000 in
theorem lcut_miss (s : ByteArray) (h : Lib.indexByte s.data.toList 47 = -1) (w : World) : Calls Try.prog 45 #[.string s, .string ⟨#[47]⟩] w fun e w' => e = .returned (.tuple #[.string s, .string ⟨#[]⟩, .bool false]) ∧ Below w.heap.size w w' := by
  have hi := fun W => index_all s W
  rw [h] at hi
  go_enter Try.func45, Try.ntmps45
  go_wp2_with (go_at_call 63; refine (hi _).mono ?_; rintro e w' ⟨rfl, rfl⟩)
  go_ret3
  exact ⟨rfl, Below.refl _ _⟩
set_option maxHeartbeats 1000000 in
theorem lcut_hit (s : ByteArray) (i : Nat) (h : Lib.indexByte s.data.toList 47 = i) (hi : i + 1 ≤ s.size) (hs : s.size ≤ 1000000) (w : World) : Calls Try.prog 45 #[.string s, .string ⟨#[47]⟩] w fun e w' => e = .returned (.tuple #[.string (s.extract 0 i), .string (s.extract (i + 1) s.size), .bool true]) ∧ Below w.heap.size w w' := by
  have hx := fun W => index_all s W
  rw [h] at hx
  have c1 : (0 : Int) ≤ ↑i := by omega
  have c2 : (↑i : Int) ≤ ↑s.size := by omega
  have c3 : (0 : Int) ≤ ↑i + 1 := by omega
  have c4 : (↑i + 1 : Int) ≤ ↑s.size := by omega
  have c5 : IntKind.i64.wrap ((i : Int) + 1) = (i : Int) + 1 := by simp [IntKind.wrap, IntKind.signed, IntKind.bits]; omega
  have c6 : ((i : Int) + 1).toNat = i + 1 := by omega
  clear h
  go_enter Try.func45, Try.ntmps45
  go_wp2_with (go_at_call 63; refine (hx _).mono ?_; rintro e w' ⟨rfl, rfl⟩)
  go_region
  go_wp2
  go_ret3
  exact ⟨rfl, (Below.refl _ _).drew⟩
/-- where the first slash stands -/
def slash (s : ByteArray) : Int := Lib.indexByte s.data.toList 47
theorem slash_ways (s : ByteArray) : slash s = -1 ∨ ∃ i : Nat, slash s = i ∧ i + 1 ≤ s.size := by
  have hge := Lib.indexByte_ge s.data.toList 47
  by_cases h : slash s = -1
  · exact .inl h
  · refine .inr ⟨(slash s).toNat, by have : -1 ≤ slash s := hge; omega, ?_⟩
    have hi : Lib.indexByte s.data.toList 47 = ((slash s).toNat : Int) := by have : -1 ≤ slash s := hge; show slash s = _; omega
    have h1 := (Lib.indexByte_some hi).1
    have h2 := (List.getElem?_eq_some_iff.1 h1).1
    have e : s.data.toList.length = s.size := rfl
    omega
/-- before the first slash, and behind it -/
def cutS (s : ByteArray) : ByteArray × ByteArray × Bool := if slash s = -1 then (s, ⟨#[]⟩, false) else (s.extract 0 (slash s).toNat, s.extract ((slash s).toNat + 1) s.size, true)
set_option maxHeartbeats 1000000 in
theorem Cut_all (s : ByteArray) (hs : s.size ≤ 1000000) (w : World) : Calls Try.prog 30 #[.string s, .string ⟨#[47]⟩] w fun e w' => e = .returned (.tuple #[.string (cutS s).1, .string (cutS s).2.1, .bool (cutS s).2.2]) ∧ Below w.heap.size w w' := by
  have hC : ∀ W, Calls Try.prog 45 #[.string s, .string ⟨#[47]⟩] W fun e w' => e = .returned (.tuple #[.string (cutS s).1, .string (cutS s).2.1, .bool (cutS s).2.2]) ∧ Below W.heap.size W w' := fun W => by
    rcases slash_ways s with h | ⟨i, h, hi⟩
    · rw [cutS, if_pos h]
      exact lcut_miss s h W
    · rw [cutS, if_neg (by omega), h, Int.toNat_natCast]
      exact lcut_hit s i h hi hs W
  generalize (cutS s).1 = a at *
  generalize (cutS s).2.1 = b at *
  generalize (cutS s).2.2 = c at *
  go_enter Try.func30, Try.ntmps30
  go_wp2_with (go_at_call 45; refine (hC _).mono ?_; rintro e w' ⟨rfl, hB⟩)
  go_ret3
  exact ⟨rfl, hB⟩

/-- what Print answers -/
noncomputable def printR (s t : ByteArray) : ByteArray := if (qOf s t).isSome then (if t = ⟨#[49]⟩ then s else s ++ ⟨#[47]⟩ ++ t) else ⟨#[]⟩
set_option maxHeartbeats 1000000 in
theorem Print_all (s t : ByteArray) (hs : s.size ≤ 1000000) (ht : t.size ≤ 1000000) (w : World) : Calls Try.prog 15 #[rv s t] w fun e w' => e = .returned (.string (printR s t)) ∧ Below w.heap.size w w' := by
  have hV := fun W => Valid_all s t hs ht W
  have e1 := str_eq t ⟨#[49]⟩
  rw [show (⟨#[49]⟩ : ByteArray).toList = [49] from by decide +kernel] at e1
  unfold rv at hV ⊢
  cases hq : (qOf s t).isSome with
  | false =>
    rw [printR, hq, if_neg (by decide)]
    simp only [hq] at hV
    clear hq e1
    go_enter Try.func15, Try.ntmps15
    go_wp2_with (go_at_call 16; refine (hV _).mono ?_; rintro e w1 ⟨rfl, hB⟩)
    go_ret
    exact ⟨rfl, ((Below.refl w.heap.size w).alloc (Nat.le_refl _) _).trans (hB.mono (by simp))⟩
  | true =>
    simp only [hq] at hV
    by_cases h1 : t = ⟨#[49]⟩
    · rw [printR, hq, if_pos rfl, if_pos h1]
      rw [decide_eq_true h1] at e1
      clear hq h1
      go_enter Try.func15, Try.ntmps15
      go_wp2_with (go_at_call 16; refine (hV _).mono ?_; rintro e w1 ⟨rfl, hB⟩; obtain ⟨c0, c1, z0, z1⟩ := cell_box ((hB.block w.heap.size (by simp)).trans (World.alloc_heap_new w _)))
      go_ret
      exact ⟨rfl, ((Below.refl w.heap.size w).alloc (Nat.le_refl _) _).trans (hB.mono (by simp))⟩
    · rw [printR, hq, if_pos rfl, if_neg h1]
      rw [decide_eq_false h1] at e1
      clear hq h1
      go_enter Try.func15, Try.ntmps15
      go_wp2_with (go_at_call 16; refine (hV _).mono ?_; rintro e w1 ⟨rfl, hB⟩; obtain ⟨c0, c1, z0, z1⟩ := cell_box ((hB.block w.heap.size (by simp)).trans (World.alloc_heap_new w _)))
      go_ret
      exact ⟨rfl, ((Below.refl w.heap.size w).alloc (Nat.le_refl _) _).trans (hB.mono (by simp))⟩
end Rt
end Go.Proofs.Ytnljohcbpljplaa
