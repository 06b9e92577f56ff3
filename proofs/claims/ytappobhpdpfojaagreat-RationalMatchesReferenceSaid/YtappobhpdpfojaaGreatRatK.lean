/-
  Contracts: strings.Cut at a byte, Print.
-/
import Derived.Test.YtappobhpdpfojaaGreatRatN
import Derived.Shelf.Strings.Cut
namespace Go.Proofs.YtappobhpdpfojaaGreat
set_option maxRecDepth 1000000
namespace Rt
open Go.RowKit Go.Proofs.YtappobhpdpfojaaGreat.Nm
def renC : Go.Shelf.Ren where
  f := fun x => match x with
    | 145 => 64
    | 220 => 91
    | 219 => 113
    | 217 => 133
    | 225 => 134
    | 224 => 135
    | 267 => 136
    | 266 => 142
    | 314 => 143
    | n => n
  t := fun x => match x with
    | 9 => 9
    | 4 => 4
    | 59 => 75
    | 3 => 3
    | 5 => 5
    | 46 => 120
    | 146 => 144
    | 51 => 119
    | n => n
  g := fun x => match x with
    | 1 => 0
    | n => n
theorem renC_lays : Lays.n145 Tryz.prog renC where
  mixed := by kernel_rfl
  f145 := (Tryz.func64).trans (congrArg some (by kernel_rfl))
  f217 := (Tryz.func133).trans (congrArg some (by kernel_rfl))
  f219 := (Tryz.func113).trans (congrArg some (by kernel_rfl))
  f220 := (Tryz.func91).trans (congrArg some (by kernel_rfl))
  f224 := (Tryz.func135).trans (congrArg some (by kernel_rfl))
  f225 := (Tryz.func134).trans (congrArg some (by kernel_rfl))
  f266 := (Tryz.func142).trans (congrArg some (by kernel_rfl))
  f267 := (Tryz.func136).trans (congrArg some (by kernel_rfl))
  f314 := (Tryz.func143).trans (congrArg some (by kernel_rfl))
  t3 := Tryz.underlying3
  a3 := Tryz.isAgg3
  z3 := Tryz.sizeOf3
  v3 := Tryz.zeroValue3
  t4 := Tryz.underlying4
  a4 := Tryz.isAgg4
  z4 := Tryz.sizeOf4
  v4 := Tryz.zeroValue4
  t5 := Tryz.underlying5
  a5 := Tryz.isAgg5
  z5 := Tryz.sizeOf5
  v5 := Tryz.zeroValue5
  t9 := Tryz.underlying9
  a9 := Tryz.isAgg9
  z9 := Tryz.sizeOf9
  v9 := Tryz.zeroValue9
  t46 := Tryz.underlying120
  a46 := Tryz.isAgg120
  z46 := Tryz.sizeOf120
  v46 := Tryz.zeroValue120
  t51 := Tryz.underlying119
  a51 := Tryz.isAgg119
  z51 := Tryz.sizeOf119
  v51 := Tryz.zeroValue119
  t59 := Tryz.underlying75
  a59 := Tryz.isAgg75
  z59 := Tryz.sizeOf75
  v59 := Tryz.zeroValue75
  t146 := Tryz.underlying144
  a146 := Tryz.isAgg144
  z146 := Tryz.sizeOf144
  v146 := Tryz.zeroValue144
  g1 := by kernel_rfl

theorem index_all (s : ByteArray) (w : World) : Calls Tryz.prog 113 #[.string s, .string ⟨#[47]⟩] w fun e w' => e = .returned (.int .i64 (Lib.indexByte s.data.toList 47)) ∧ w' = w :=
  Any.stringslite_Index_one { renC_lays with } s 47 w
set_option maxHeartbeats 1000000 in
theorem lcut_miss (s : ByteArray) (h : Lib.indexByte s.data.toList 47 = -1) (w : World) : Calls Tryz.prog 91 #[.string s, .string ⟨#[47]⟩] w fun e w' => e = .returned (.tuple #[.string s, .string ⟨#[]⟩, .bool false]) ∧ Below w.heap.size w w' := by
  have hi := fun W => index_all s W
  rw [h] at hi
  go_enter Tryz.func91, Tryz.ntmps91
  go_wp2_with (go_at_call 113; refine (hi _).mono ?_; rintro e w' ⟨rfl, rfl⟩)
  go_ret3
  exact ⟨rfl, Below.refl _ _⟩
set_option maxHeartbeats 1000000 in
theorem lcut_hit (s : ByteArray) (i : Nat) (h : Lib.indexByte s.data.toList 47 = i) (hi : i + 1 ≤ s.size) (hs : s.size ≤ 1000000) (w : World) : Calls Tryz.prog 91 #[.string s, .string ⟨#[47]⟩] w fun e w' => e = .returned (.tuple #[.string (s.extract 0 i), .string (s.extract (i + 1) s.size), .bool true]) ∧ Below w.heap.size w w' := by
  have hx := fun W => index_all s W
  rw [h] at hx
  have c1 : (0 : Int) ≤ ↑i := by omega
  have c2 : (↑i : Int) ≤ ↑s.size := by omega
  have c3 : (0 : Int) ≤ ↑i + 1 := by omega
  have c4 : (↑i + 1 : Int) ≤ ↑s.size := by omega
  have c5 : IntKind.i64.wrap ((i : Int) + 1) = (i : Int) + 1 := by simp [IntKind.wrap, IntKind.signed, IntKind.bits]; omega
  have c6 : ((i : Int) + 1).toNat = i + 1 := by omega
  clear h
  go_enter Tryz.func91, Tryz.ntmps91
  go_wp2_with (go_at_call 113; refine (hx _).mono ?_; rintro e w' ⟨rfl, rfl⟩)
  go_region
  go_wp2
  go_ret3
  exact ⟨rfl, (Below.refl _ _).drew⟩
/-- where the first slash stands -/
def slash (s : ByteArray) : Int := Lib.indexByte s.data.toList 47
theorem slash_ways (s : ByteArray) : slash s = -1 ∨ ∃ i : Nat, slash s = i ∧ i + 1 ≤ s.size := by
  have hge := Lib.indexByte_ge s.data.toList 47
  by_cases h : slash s = -1
  · exact .inl h
  · refine .inr ⟨(slash s).toNat, by have : -1 ≤ slash s := hge; omega, ?_⟩
    have hi : Lib.indexByte s.data.toList 47 = ((slash s).toNat : Int) := by have : -1 ≤ slash s := hge; show slash s = _; omega
    have h1 := (Lib.indexByte_some hi).1
    have h2 := (List.getElem?_eq_some_iff.1 h1).1
    have e : s.data.toList.length = s.size := rfl
    omega
/-- before the first slash, and behind it -/
def cutS (s : ByteArray) : ByteArray × ByteArray × Bool := if slash s = -1 then (s, ⟨#[]⟩, false) else (s.extract 0 (slash s).toNat, s.extract ((slash s).toNat + 1) s.size, true)
set_option maxHeartbeats 1000000 in
theorem Cut_all (s : ByteArray) (hs : s.size ≤ 1000000) (w : World) : Calls Tryz.prog 64 #[.string s, .string ⟨#[47]⟩] w fun e w' => e = .returned (.tuple #[.string (cutS s).1, .string (cutS s).2.1, .bool (cutS s).2.2]) ∧ Below w.heap.size w w' := by
  have hC : ∀ W, Calls Tryz.prog 91 #[.string s, .string ⟨#[47]⟩] W fun e w' => e = .returned (.tuple #[.string (cutS s).1, .string (cutS s).2.1, .bool (cutS s).2.2]) ∧ Below W.heap.size W w' := fun W => by
    rcases slash_ways s with h | ⟨i, h, hi⟩
    · rw [cutS, if_pos h]
      exact lcut_miss s h W
    · rw [cutS, if_neg (by omega), h, Int.toNat_natCast]
      exact lcut_hit s i h hi hs W
  generalize (cutS s).1 = a at *
  generalize (cutS s).2.1 = b at *
  generalize (cutS s).2.2 = c at *
  go_enter Tryz.func64, Tryz.ntmps64
  go_wp2_with (go_at_call 91; refine (hC _).mono ?_; rintro e w' ⟨rfl, hB⟩)
  go_ret3
  exact ⟨rfl, hB⟩

/-- what Print answers -/
noncomputable def printR (s t : ByteArray) : ByteArray := if (qOf s t).isSome then (if t = ⟨#[49]⟩ then s else s ++ ⟨#[47]⟩ ++ t) else ⟨#[]⟩
set_option maxHeartbeats 1000000 in
theorem Print_all (s t : ByteArray) (hs : s.size ≤ 1000000) (ht : t.size ≤ 1000000) (w : World) : Calls Tryz.prog 32 #[rv s t] w fun e w' => e = .returned (.string (printR s t)) ∧ Below w.heap.size w w' := by
  have hV := fun W => Valid_all s t hs ht W
  have e1 := str_eq t ⟨#[49]⟩
  rw [show (⟨#[49]⟩ : ByteArray).toList = [49] from by decide +kernel] at e1
  unfold rv at hV ⊢
  cases hq : (qOf s t).isSome with
  | false =>
    rw [printR, hq, if_neg (by decide)]
    simp only [hq] at hV
    clear hq e1
    go_enter Tryz.func32, Tryz.ntmps32
    go_wp2_with (go_at_call 28; refine (hV _).mono ?_; rintro e w1 ⟨rfl, hB⟩)
    go_ret
    exact ⟨rfl, ((Below.refl w.heap.size w).alloc (Nat.le_refl _) _).trans (hB.mono (by simp))⟩
  | true =>
    simp only [hq] at hV
    by_cases h1 : t = ⟨#[49]⟩
    · rw [printR, hq, if_pos rfl, if_pos h1]
      rw [decide_eq_true h1] at e1
      clear hq h1
      go_enter Tryz.func32, Tryz.ntmps32
      go_wp2_with (go_at_call 28; refine (hV _).mono ?_; rintro e w1 ⟨rfl, hB⟩; obtain ⟨c0, c1, z0, z1⟩ := cell_box ((hB.block w.heap.size (by simp)).trans (World.alloc_heap_new w _)))
      go_ret
      exact ⟨rfl, ((Below.refl w.heap.size w).alloc (Nat.le_refl _) _).trans (hB.mono (by simp))⟩
    · rw [printR, hq, if_pos rfl, if_neg h1]
      rw [decide_eq_false h1] at e1
      clear hq h1
      go_enter Tryz.func32, Tryz.ntmps32
      go_wp2_with (go_at_call 28; refine (hV _).mono ?_; rintro e w1 ⟨rfl, hB⟩; obtain ⟨c0, c1, z0, z1⟩ := cell_box ((hB.block w.heap.size (by simp)).trans (World.alloc_heap_new w _)))
      go_ret
      exact ⟨rfl, ((Below.refl w.heap.size w).alloc (Nat.le_refl _) _).trans (hB.mono (by simp))⟩
end Rt
end Go.Proofs.YtappobhpdpfojaaGreat
