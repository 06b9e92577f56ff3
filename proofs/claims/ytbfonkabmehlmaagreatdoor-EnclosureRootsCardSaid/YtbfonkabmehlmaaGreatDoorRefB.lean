/-
  The reference: text, digits.
-/
import Derived.Test.YtbfonkabmehlmaaGreatDoorRefA
import Derived.Deep.RegionWith
namespace Go.Proofs.YtbfonkabmehlmaaGreatDoor
set_option maxRecDepth 1000000
namespace N10
open Go.RowKit
open Nm (decN decN_zero decN_pos decN_dig decN_head)

theorem decN_natL (n : Nat) : decN n = (natL n).reverse.map (48 + ·) := by
  induction n using Nat.strongRecOn with
  | ind n ih =>
    by_cases h : n = 0
    · subst h; rw [decN_zero, natL_zero]; rfl
    · rw [decN_pos h, natL_pos h, ih (n / 10) (by omega), List.reverse_cons, List.map_append]; rfl
/-- a number by its sign and its size -/
def sg (neg : Bool) (n : Nat) : Int := if neg = true then -(n : Int) else (n : Int)
theorem txt_dig (n : Nat) (hn : n ≠ 0) (neg : Bool) : ba ((if neg = true then [45] else []) ++ (natL n).reverse.map (48 + ·)) = txt (sg neg n) := by
  rw [← decN_natL]
  cases neg with
  | false => rw [sg, if_neg (by simp), if_neg (by simp), txt, if_neg (by omega), if_neg (by omega), Int.natAbs_natCast]; rfl
  | true => rw [sg, if_pos rfl, if_pos rfl, txt, if_neg (by omega), if_pos (by omega), Int.natAbs_neg, Int.natAbs_natCast]; rfl
theorem ds_dig (n : Nat) (hn : n ≠ 0) : (∀ y ∈ (natL n).reverse.map (48 + ·), 48 ≤ y ∧ y < 58) ∧ ((natL n).reverse.map (48 + ·)).getD 0 0 ≠ 48 := by
  rw [← decN_natL]; exact ⟨decN_dig n, decN_head n hn⟩
set_option maxHeartbeats 2000000 in
theorem text_pos (n : Nat) (hn : n ≠ 0) (neg : Bool) (p : Option Addr) (cap g o : Nat) (w : World) (hp : p = some ⟨g, o, none⟩) (hu : IA w g o (natL n)) (hg : g < w.heap.size) (hl : (natL n).length ≤ 1000) :
    Calls Tryz.prog 149 #[.bool neg, .slice p (natL n).length cap] w fun e w' => e = .returned (.tuple #[.string (txt (sg neg n)), .bool (decide ((natL n).length ≤ 200))]) ∧ Below w.heap.size w w' := by
  have hd : ∀ x ∈ natL n, x < 10 := natL_dig n
  have h0 : ¬ (natL n).length = 0 := fun h => hn (natL_len0.1 h)
  have tx := txt_dig n hn
  have hds := ds_dig n hn
  have hne : natL n ≠ [] := fun h => hn (natL_nil.1 h)
  generalize hxs : natL n = xs at *
  subst hp
  have HTX : Shut _ := ⟨tx⟩
  clear tx hxs
  go_enter Tryz.func149, Tryz.ntmps149
  obtain ⟨i0, hinf, hz0, hz1, hz2⟩ := info_parts infoB8
  have HU : Shut _ := ⟨hu⟩
  have HD : Shut _ := ⟨hd⟩
  have HDS : Shut _ := ⟨hds⟩
  have HDEC : Shut (decide (((xs.length : Nat) : Int) ≤ 200) = decide (xs.length ≤ 200)) := ⟨by rw [decide_eq_decide]; omega⟩
  clear hu hd hds
  cases neg with
  | true =>
    go_wp2_with (at_builtin; go_must (refine wpList_append_own _ rfl _ _ 65 rfl w.heap.size 5 i0 (.int .u8 0) 1 1 Tryz.underlying65 hinf hz0 hz1 hz2 rfl (by decide) _ _ _ rfl (World.ownsRow.alloc (OwnB.nil w w.heap.size) _) ⟨_, 0, none⟩ 1 1 [(.int .u8 45)] rfl rfl (cell_one_new _ _ _) (by simp [Value.oneCell']) (by simp [maxLen]) (by simp) (by rw [World.size_alloc]; omega) ?_); intro v' w' hown' hgrow _; have hB' := below_grownV ((Below.refl _ w).alloc (Nat.le_refl _) _) (Nat.le_refl _) (World.ownsRow.alloc (OwnB.nil w w.heap.size) _) hgrow)
    have hO1 : OwnB w' w.heap.size v' [45] := OwnB.snoc hown'
    have hB1 : Below w.heap.size w w' := hB'
    clear hown' hgrow hB'
    go_loopw [6, 7] (fun v i wr => ∃ k : Nat, k ≤ xs.length ∧ i = .int .i64 ((k : Int) - 1) ∧ Shut (OwnB wr w.heap.size v ([45] ++ ((xs.drop k).reverse.map (48 + ·)))) ∧ Shut (Below w.heap.size w wr)) (fun _ i _ => (intOf i + 1).toNat)
    case atStart => exact ⟨xs.length, Nat.le_refl _, rfl, ⟨by rw [List.drop_eq_nil_iff.2 (Nat.le_refl _)]; exact hO1⟩, ⟨hB1⟩⟩
    case round =>
      obtain ⟨k, hk, rfl, hO, hB⟩ := hrel
      by_cases hk0 : k = 0
      · subst hk0
        have hz1 := HTX.o true
        have hO2 := hO.o
        rw [List.drop_zero] at hO2
        obtain ⟨cp, g2, rfl, hb⟩ := OwnB.open hO2 (by simp)
        have hcv := back_string wr g2 0 cp _ (fun y hy => by
          have : y = 45 ∨ y < 58 := by
            rcases List.mem_append.1 hy with h | h
            · simp at h; try exact .inl h
            · exact .inr (HDS.o.1 y h).2
          omega) hb
        rw [show ba ([45] ++ xs.reverse.map (48 + ·)) = txt (sg true n) from hz1] at hcv
        obtain ⟨str, hstr⟩ : ∃ str, str = txt (sg true n) := ⟨_, rfl⟩
        rw [← hstr] at hcv
        have HSTR : Shut _ := ⟨hstr⟩
        clear hstr hz1 hO2 hb hO
        generalize ([45] ++ xs.reverse.map (48 + ·)).length = nn at *
        go_wp2
        go_ret2
        exact ⟨by rw [← HSTR.o, ← HDEC.o]; rfl, hB.o⟩
      · obtain ⟨k, rfl⟩ : ∃ k', k = k' + 1 := ⟨k - 1, by omega⟩
        have hi : (((k + 1 : Nat) : Int) - 1) = (k : Int) := by omega
        rw [hi]
        have hcl := (hB.o.cell (p := ⟨g, o + k, none⟩) hg).trans (HU.o k (by omega))
        have hx : xs.getD k 0 < 10 := by
          rw [List.getD_eq_getElem?_getD, List.getElem?_eq_getElem (show k < xs.length by omega)]; exact HD.o _ (List.getElem_mem _)
        have HE : Shut ([45] ++ ((xs.drop k).reverse.map (48 + ·)) = ([45] ++ ((xs.drop (k + 1)).reverse.map (48 + ·))) ++ [48 + xs.getD k 0]) := ⟨by
          rw [List.drop_eq_getElem_cons (show k < xs.length by omega), List.reverse_cons, List.map_append, ← List.append_assoc, List.map_cons, List.map_nil, List.getD_eq_getElem?_getD, List.getElem?_eq_getElem (show k < xs.length by omega)]; rfl⟩
        have hln : ([45] ++ ((xs.drop (k + 1)).reverse.map (48 + ·))).length ≤ 1001 := by simp; omega
        have hO2 := hO.o
        clear hO
        generalize [45] ++ ((xs.drop (k + 1)).reverse.map (48 + ·)) = L at *
        generalize xs.getD k 0 = d at *
        have hbs := hB.o.size
        go_wp2_with (at_builtin; go_must (refine wpList_append_own _ rfl _ _ 65 rfl w.heap.size 5 i0 (.int .u8 0) 1 1 Tryz.underlying65 hinf hz0 hz1 hz2 rfl (by decide) _ _ _ rfl (World.ownsRow.alloc hO2 _) ⟨_, 0, none⟩ 1 1 [(.int .u8 (48 + (d : Int)))] rfl rfl (cell_one_new _ _ _) (by simp [Value.oneCell']) (by unfold maxLen; omega) (by omega) (by rw [World.size_alloc]; omega) ?_); intro v' w' hown' hgrow _; have hB' := below_grownV (hB.o.alloc hbs _) (Nat.le_refl _) (World.ownsRow.alloc hO2 _) hgrow)
        rw [show (48 + (d : Int)) = ((48 + d : Nat) : Int) by omega] at hown'
        exact ⟨⟨k, by omega, by go_num, ⟨by rw [HE.o]; exact OwnB.snoc hown'⟩, ⟨hB'⟩⟩, by simp [intOf]⟩
  | false =>
    go_wp2
    have hO1 : OwnB w w.heap.size (.slice none 0 0) [] := OwnB.nil _ _
    have hB1 : Below w.heap.size w w := Below.refl _ _
    go_loopw [6, 7] (fun v i wr => ∃ k : Nat, k ≤ xs.length ∧ i = .int .i64 ((k : Int) - 1) ∧ Shut (OwnB wr w.heap.size v ([] ++ ((xs.drop k).reverse.map (48 + ·)))) ∧ Shut (Below w.heap.size w wr)) (fun _ i _ => (intOf i + 1).toNat)
    case atStart => exact ⟨xs.length, Nat.le_refl _, rfl, ⟨by rw [List.drop_eq_nil_iff.2 (Nat.le_refl _)]; exact hO1⟩, ⟨hB1⟩⟩
    case round =>
      obtain ⟨k, hk, rfl, hO, hB⟩ := hrel
      by_cases hk0 : k = 0
      · subst hk0
        have hz1 := HTX.o false
        have hO2 := hO.o
        rw [List.drop_zero] at hO2
        obtain ⟨cp, g2, rfl, hb⟩ := OwnB.open hO2 (by simp; omega)
        have hcv := back_string wr g2 0 cp _ (fun y hy => by
          have : y = 45 ∨ y < 58 := by
            rcases List.mem_append.1 hy with h | h
            · simp at h; try exact .inl h
            · exact .inr (HDS.o.1 y h).2
          omega) hb
        rw [show ba ([] ++ xs.reverse.map (48 + ·)) = txt (sg false n) from hz1] at hcv
        obtain ⟨str, hstr⟩ : ∃ str, str = txt (sg false n) := ⟨_, rfl⟩
        rw [← hstr] at hcv
        have HSTR : Shut _ := ⟨hstr⟩
        clear hstr hz1 hO2 hb hO
        generalize ([] ++ xs.reverse.map (48 + ·)).length = nn at *
        go_wp2
        go_ret2
        exact ⟨by rw [← HSTR.o, ← HDEC.o]; rfl, hB.o⟩
      · obtain ⟨k, rfl⟩ : ∃ k', k = k' + 1 := ⟨k - 1, by omega⟩
        have hi : (((k + 1 : Nat) : Int) - 1) = (k : Int) := by omega
        rw [hi]
        have hcl := (hB.o.cell (p := ⟨g, o + k, none⟩) hg).trans (HU.o k (by omega))
        have hx : xs.getD k 0 < 10 := by
          rw [List.getD_eq_getElem?_getD, List.getElem?_eq_getElem (show k < xs.length by omega)]; exact HD.o _ (List.getElem_mem _)
        have HE : Shut ([] ++ ((xs.drop k).reverse.map (48 + ·)) = ([] ++ ((xs.drop (k + 1)).reverse.map (48 + ·))) ++ [48 + xs.getD k 0]) := ⟨by
          rw [List.drop_eq_getElem_cons (show k < xs.length by omega), List.reverse_cons, List.map_append, ← List.append_assoc, List.map_cons, List.map_nil, List.getD_eq_getElem?_getD, List.getElem?_eq_getElem (show k < xs.length by omega)]; rfl⟩
        have hln : ([] ++ ((xs.drop (k + 1)).reverse.map (48 + ·))).length ≤ 1001 := by simp; omega
        have hO2 := hO.o
        clear hO
        generalize [] ++ ((xs.drop (k + 1)).reverse.map (48 + ·)) = L at *
        generalize xs.getD k 0 = d at *
        have hbs := hB.o.size
        go_wp2_with (at_builtin; go_must (refine wpList_append_own _ rfl _ _ 65 rfl w.heap.size 5 i0 (.int .u8 0) 1 1 Tryz.underlying65 hinf hz0 hz1 hz2 rfl (by decide) _ _ _ rfl (World.ownsRow.alloc hO2 _) ⟨_, 0, none⟩ 1 1 [(.int .u8 (48 + (d : Int)))] rfl rfl (cell_one_new _ _ _) (by simp [Value.oneCell']) (by unfold maxLen; omega) (by omega) (by rw [World.size_alloc]; omega) ?_); intro v' w' hown' hgrow _; have hB' := below_grownV (hB.o.alloc hbs _) (Nat.le_refl _) (World.ownsRow.alloc hO2 _) hgrow)
        rw [show (48 + (d : Int)) = ((48 + d : Nat) : Int) by omega] at hown'
        exact ⟨⟨k, by omega, by go_num, ⟨by rw [HE.o]; exact OwnB.snoc hown'⟩, ⟨hB'⟩⟩, by simp [intOf]⟩

theorem text_ref2 (n : Nat) (neg : Bool) (v : Value) (w : World) (h : NI w v (natL n)) (hl : (natL n).length ≤ 1000) :
    Calls Tryz.prog 149 #[.bool neg, v] w fun e w' => e = .returned (.tuple #[.string (txt (sg neg n)), .bool (decide ((natL n).length ≤ 200))]) ∧ Below w.heap.size w w' := by
  by_cases hn : n = 0
  · subst hn
    obtain ⟨p, cap, rfl, -, -, -⟩ := h
    rw [natL_zero]
    refine (text_nil neg p cap w).mono ?_
    rintro e w' ⟨rfl, rfl⟩
    refine ⟨?_, Below.refl _ _⟩
    have : sg neg 0 = 0 := by cases neg <;> rfl
    rw [this, txt_0]; rfl
  · obtain ⟨p, cap, g, o, rfl, h1, h2, hp, hu⟩ := h.open
    have hlen : 1 ≤ (natL n).length := by
      rcases Nat.eq_zero_or_pos (natL n).length with h0 | h0
      · exact absurd (natL_len0.1 h0) hn
      · exact h0
    exact text_pos n hn neg p cap g o w (hp hlen).1 hu (hp hlen).2 hl
end N10
end Go.Proofs.YtbfonkabmehlmaaGreatDoor
