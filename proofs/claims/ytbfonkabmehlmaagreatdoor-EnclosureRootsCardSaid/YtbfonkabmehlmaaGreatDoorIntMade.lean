/-
  Made of the reference: a number of few digits.
-/
import Derived.Test.YtbfonkabmehlmaaGreatDoorIntE
import Derived.Deep.RegionWith
namespace Go.Proofs.YtbfonkabmehlmaaGreatDoor
set_option maxRecDepth 1000000
open Go.RowKit Nm

theorem txt_pos {ds : List Nat} (hd : ∀ y ∈ ds, 48 ≤ y ∧ y < 58) (hz : ds.getD 0 0 ≠ 48) (hn : ds ≠ []) (neg : Bool) : ∃ z : Int, ba ((if neg = true then [45] else []) ++ ds) = txt z ∧ (decN z.natAbs).length = ds.length := by
  have he := decN_eq ds hd (.inr hz)
  have hv0 : dvl ds ≠ 0 := by
    intro e; rw [e, decN_zero] at he; exact hn he
  have hb : ∀ (l : List Nat), (∀ y ∈ l, 48 ≤ y ∧ y < 58) → ∀ y ∈ l, y < 256 := fun l h y hy => by have := h y hy; omega
  cases neg with
  | false =>
    refine ⟨(dvl ds : Int), ?_, by rw [Int.natAbs_natCast, ← he]⟩
    apply bl_inj
    show bl (ba ds) = _
    rw [txt_bl, if_neg (by omega), if_neg (by omega), Int.natAbs_natCast, ← he]
    exact bl_ba _ (hb _ hd)
  | true =>
    refine ⟨-(dvl ds : Int), ?_, by rw [Int.natAbs_neg, Int.natAbs_natCast, ← he]⟩
    apply bl_inj
    show bl (ba (45 :: ds)) = _
    rw [txt_bl, if_neg (by omega), if_pos (by omega), Int.natAbs_neg, Int.natAbs_natCast, ← he]
    exact bl_ba (45 :: ds) (fun y hy => by
      rcases List.mem_cons.1 hy with rfl | h
      · decide
      · exact hb _ hd y h)

def i64s (l : List Nat) : List Value := l.map fun n : Nat => Value.int .i64 (n : Int)
def byts (l : List Nat) : List Value := l.map fun n : Nat => Value.int .u8 (n : Int)
def OwnI (W : World) (B : Nat) (v : Value) (xs : List Nat) : Prop := W.ownsRow B 3 1 v xs.length (i64s xs)
def OwnB (W : World) (B : Nat) (v : Value) (xs : List Nat) : Prop := W.ownsRow B 5 1 v xs.length (byts xs)
theorem OwnI.nil (W : World) (B : Nat) : OwnI W B (.slice none 0 0) [] := World.ownsRow_nil _ _ _ _
theorem OwnB.nil (W : World) (B : Nat) : OwnB W B (.slice none 0 0) [] := World.ownsRow_nil _ _ _ _
theorem OwnI.snoc {W : World} {B : Nat} {v : Value} {xs : List Nat} {x : Nat} (h : W.ownsRow B 3 1 v (xs.length + 1) (i64s xs ++ [.int .i64 (x : Int)])) : OwnI W B v (xs ++ [x]) := by
  unfold OwnI i64s; rw [List.length_append, List.map_append]; exact h
theorem OwnB.snoc {W : World} {B : Nat} {v : Value} {xs : List Nat} {x : Nat} (h : W.ownsRow B 5 1 v (xs.length + 1) (byts xs ++ [.int .u8 (x : Int)])) : OwnB W B v (xs ++ [x]) := by
  unfold OwnB byts; rw [List.length_append, List.map_append]; exact h
theorem rowGet {W : World} {g : Nat} {cur : Array Value} {T : TypeId} {n : Nat} {l : List Value} (hgg : RowAt W g cur T) (htk : cur.toList.take n = l) (i : Nat) (hi : i < n) : W.cell? ⟨g, i, none⟩ = l[i]? := by
  rw [RowAt.cell hgg i, ← htk, List.getElem?_take, if_pos hi, Array.getElem?_toList]
theorem OwnI.open {W : World} {B : Nat} {v : Value} {xs : List Nat} (h : OwnI W B v xs) : ∃ (p : Option Addr) (cap g : Nat), v = .slice p xs.length cap ∧ (1 ≤ xs.length → p = some ⟨g, 0, none⟩) ∧ xs.length ≤ cap ∧ cap ≤ maxLen ∧ ∀ i, i < xs.length → W.cell? ⟨g, i, none⟩ = some (.int .i64 ((xs.getD i 0 : Nat) : Int)) := by
  rcases h.2 with ⟨hv, hn⟩ | ⟨g, cap, cur, hv, hg, hgg, hle, hm, hsz, htk⟩
  · exact ⟨none, 0, 0, by rw [hv, hn], fun h => by omega, by omega, by omega, fun i hi => by omega⟩
  · rw [Nat.mul_one] at htk
    refine ⟨_, cap, g, hv, fun _ => rfl, hle, hm, fun i hi => ?_⟩
    rw [rowGet hgg htk i hi]; simp [i64s, List.getD, hi]
theorem OwnB.open {W : World} {B : Nat} {v : Value} {xs : List Nat} (h : OwnB W B v xs) (hn : 1 ≤ xs.length) : ∃ (cap g : Nat), v = .slice (some ⟨g, 0, none⟩) xs.length cap ∧ ∀ i, i < xs.length → W.cell? ⟨g, 0 + i, none⟩ = some (.int .u8 ((xs.getD i 0 : Nat) : Int)) := by
  rcases h.2 with ⟨-, h0⟩ | ⟨g, cap, cur, hv, -, hgg, -, -, -, htk⟩
  · rw [h0] at hn; exact absurd hn (by decide)
  · rw [Nat.mul_one] at htk
    refine ⟨cap, g, hv, fun i hi => ?_⟩
    rw [Nat.zero_add, rowGet hgg htk i hi]; simp [byts, List.getD, hi]
theorem below_grownV {B : Nat} {w w1 w3 : World} {v : Value} {T : TypeId} {n : Nat} {l : List Value} (hb : Below B w w1) (hB : B ≤ w.heap.size) (hO : w1.ownsRow B T 1 v n l) (hg : w1.grownBy w3 v.ownBlock) : Below B w w3 :=
  hb.trans ⟨hg.os, hg.tape, hg.output, hg.size, fun k hk => hg.block k (Nat.lt_of_lt_of_le (Nat.lt_of_lt_of_le hk hB) hb.size) (fun e => by
    rcases hO.2 with ⟨rfl, _⟩ | ⟨g, cap, cur, rfl, h1, _⟩
    · simp [Value.ownBlock] at e
    · simp [Value.ownBlock] at e; omega)⟩
theorem infoI8 : (Tryz.prog.info? 3).map (fun i => (i.zero, i.size, i.bytes)) = some (some (.int .i64 0), 1, 8) := by kernel_rfl

set_option maxHeartbeats 1000000 in
theorem trimI (xs : List Nat) (p : Option Addr) (cap g : Nat) (w : World) (hp : 1 ≤ xs.length → p = some ⟨g, 0, none⟩) (hu : ∀ i, i < xs.length → w.cell? ⟨g, i, none⟩ = some (.int .i64 ((xs.getD i 0 : Nat) : Int))) (hl : xs.length ≤ 1000000) (hc : xs.length ≤ cap) (hcm : cap ≤ maxLen) :
    Calls Tryz.prog 151 #[.slice p xs.length cap] w fun e w' => ∃ k, k ≤ xs.length ∧ (k = 0 ∨ xs.getD (k - 1) 0 ≠ 0) ∧ e = .returned (.slice p k cap) ∧ w' = w := by
  go_enter Tryz.func151, Tryz.ntmps151
  have HU : Shut _ := ⟨hu⟩
  have HP : Shut _ := ⟨hp⟩
  unfold maxLen at hcm
  clear hu hp
  go_wp2
  go_loopw [0] (fun a wr => ∃ k : Nat, k ≤ xs.length ∧ a = .slice p k cap ∧ wr = w) (fun a _ => match a with | .slice _ k _ => k | _ => 0)
  case atStart => exact ⟨xs.length, Nat.le_refl _, rfl, rfl⟩
  case round =>
    obtain ⟨k, hk, rfl, rfl⟩ := hrel
    by_cases hk0 : k = 0
    · subst hk0
      go_wp2
      go_ret
      exact ⟨0, Nat.zero_le _, .inl rfl, rfl, rfl⟩
    · obtain rfl := HP.o (by omega)
      have hcl := HU.o (k - 1) (by omega)
      obtain ⟨k, rfl⟩ : ∃ k', k = k' + 1 := ⟨k - 1, by omega⟩
      rw [Nat.add_sub_cancel] at hcl
      by_cases hx : xs.getD k 0 = 0
      · rw [hx] at hcl
        clear hx
        go_wp2
        exact ⟨⟨k, by omega, rfl, trivial⟩, Nat.lt_succ_self k⟩
      · have HF : Shut (xs.getD k 0 ≠ 0) := ⟨hx⟩
        have hxi : ((xs.getD k 0 : Nat) : Int) ≠ 0 := by omega
        generalize hy : xs.getD k 0 = y at *
        have HY : Shut _ := ⟨hy⟩
        clear hy
        go_wp2
        go_ret
        exact ⟨k + 1, by omega, .inr (by have := HF.o; rw [← HY.o] at this; simpa using this), rfl, rfl⟩

set_option maxHeartbeats 2000000 in
theorem text_ref (xs : List Nat) (neg : Bool) (p : Option Addr) (cap g : Nat) (w : World) (hd : ∀ x ∈ xs, x < 10) (hp : 1 ≤ xs.length → p = some ⟨g, 0, none⟩) (hu : ∀ i, i < xs.length → w.cell? ⟨g, i, none⟩ = some (.int .i64 ((xs.getD i 0 : Nat) : Int))) (hg : 1 ≤ xs.length → g < w.heap.size) (hl : xs.length ≤ 1000) (hc : xs.length ≤ cap) (hz : xs.length = 0 ∨ xs.getD (xs.length - 1) 0 ≠ 0) :
    Calls Tryz.prog 149 #[.bool neg, .slice p xs.length cap] w fun e w' => ∃ z, e = .returned (.tuple #[.string (txt z), .bool (decide (xs.length ≤ 200))]) ∧ (decN z.natAbs).length = xs.length ∧ Below w.heap.size w w' := by
  go_enter Tryz.func149, Tryz.ntmps149
  by_cases h0 : xs.length = 0
  · have hx : xs = [] := List.eq_nil_of_length_eq_zero h0
    subst hx
    clear hp hu hg hz hd hc hl
    go_wp2
    go_ret2
    exact ⟨0, rfl, by rw [show (0 : Int).natAbs = 0 from rfl, decN_zero], Below.refl _ _⟩
  · obtain rfl := hp (by omega)
    have hg := hg (by omega)
    have hz := hz.resolve_left h0
    obtain ⟨i0, hinf, hz0, hz1, hz2⟩ := info_parts infoB8
    have HU : Shut _ := ⟨hu⟩
    have HD : Shut _ := ⟨hd⟩
    have HDS : Shut ((∀ y ∈ xs.reverse.map (48 + ·), 48 ≤ y ∧ y < 58) ∧ (xs.reverse.map (48 + ·)).getD 0 0 ≠ 48) := ⟨by
      refine ⟨fun y hy => ?_, ?_⟩
      · simp only [List.mem_map, List.mem_reverse] at hy
        obtain ⟨a, ha, rfl⟩ := hy
        have := hd a ha; omega
      · have hlt : xs.length - 1 < xs.length := by omega
        rw [List.getD_eq_getElem?_getD, List.getElem?_eq_getElem hlt] at hz
        rw [List.getD_eq_getElem?_getD, List.getElem?_eq_getElem (by simp; omega)]
        simp only [List.getElem_map, List.getElem_reverse, Option.getD_some, Nat.sub_zero] at hz ⊢
        omega⟩
    have HDEC : Shut (decide (((xs.length : Nat) : Int) ≤ 200) = decide (xs.length ≤ 200)) := ⟨by rw [decide_eq_decide]; omega⟩
    clear hu hz hd hp
    cases neg with
    | true =>
      go_wp2_with (at_builtin; go_must (refine wpList_append_own _ rfl _ _ 65 rfl w.heap.size 5 i0 (.int .u8 0) 1 1 Tryz.underlying65 hinf hz0 hz1 hz2 rfl (by decide) _ _ _ rfl (World.ownsRow.alloc (OwnB.nil w w.heap.size) _) ⟨_, 0, none⟩ 1 1 [(.int .u8 45)] rfl rfl (cell_one_new _ _ _) (by simp [Value.oneCell']) (by simp [maxLen]) (by simp) (by rw [World.size_alloc]; omega) ?_); intro v' w' hown' hgrow _; have hB' := below_grownV ((Below.refl _ w).alloc (Nat.le_refl _) _) (Nat.le_refl _) (World.ownsRow.alloc (OwnB.nil w w.heap.size) _) hgrow)
      have hO1 : OwnB w' w.heap.size v' [45] := OwnB.snoc hown'
      have hB1 : Below w.heap.size w w' := hB'
      clear hown' hgrow hB'
      go_loopw [6, 7] (fun v i wr => ∃ k : Nat, k ≤ xs.length ∧ i = .int .i64 ((k : Int) - 1) ∧ Shut (OwnB wr w.heap.size v ([45] ++ ((xs.drop k).reverse.map (48 + ·)))) ∧ Shut (Below w.heap.size w wr)) (fun _ i _ => (intOf i + 1).toNat)
      case atStart => exact ⟨xs.length, Nat.le_refl _, rfl, ⟨by rw [List.drop_eq_nil_iff.2 (Nat.le_refl _)]; exact hO1⟩, ⟨hB1⟩⟩
      case round =>
        obtain ⟨k, hk, rfl, hO, hB⟩ := hrel
        by_cases hk0 : k = 0
        · subst hk0
          obtain ⟨z, hz1, hz2⟩ := txt_pos (ds := xs.reverse.map (48 + ·)) HDS.o.1 HDS.o.2 (by intro e; have := congrArg List.length e; simp at this; exact h0 (by rw [this]; rfl)) true
          have hO2 := hO.o
          rw [List.drop_zero] at hO2
          obtain ⟨cp, g2, rfl, hb⟩ := OwnB.open hO2 (by simp)
          have hcv := back_string wr g2 0 cp _ (fun y hy => by
            have : y = 45 ∨ y < 58 := by
              rcases List.mem_append.1 hy with h | h
              · simp at h; try exact .inl h
              · exact .inr (HDS.o.1 y h).2
            omega) hb
          rw [show ba ([45] ++ xs.reverse.map (48 + ·)) = txt z from hz1] at hcv
          have HZ2 : Shut _ := ⟨hz2⟩
          obtain ⟨str, hstr⟩ : ∃ str, str = txt z := ⟨_, rfl⟩
          rw [← hstr] at hcv
          have HSTR : Shut _ := ⟨hstr⟩
          clear hstr hz1 hz2 hO2 hb hO
          generalize ([45] ++ xs.reverse.map (48 + ·)).length = nn at *
          go_wp2
          go_ret2
          exact ⟨z, by rw [← HSTR.o, ← HDEC.o]; rfl, by rw [HZ2.o]; simp, hB.o⟩
        · obtain ⟨k, rfl⟩ : ∃ k', k = k' + 1 := ⟨k - 1, by omega⟩
          have hi : (((k + 1 : Nat) : Int) - 1) = (k : Int) := by omega
          rw [hi]
          have hcl := (hB.o.cell (p := ⟨g, k, none⟩) hg).trans (HU.o k (by omega))
          have hx : xs.getD k 0 < 10 := by
            rw [List.getD_eq_getElem?_getD, List.getElem?_eq_getElem (show k < xs.length by omega)]; exact HD.o _ (List.getElem_mem _)
          have HE : Shut ([45] ++ ((xs.drop k).reverse.map (48 + ·)) = ([45] ++ ((xs.drop (k + 1)).reverse.map (48 + ·))) ++ [48 + xs.getD k 0]) := ⟨by
            rw [List.drop_eq_getElem_cons (show k < xs.length by omega), List.reverse_cons, List.map_append, ← List.append_assoc, List.map_cons, List.map_nil, List.getD_eq_getElem?_getD, List.getElem?_eq_getElem (show k < xs.length by omega)]; rfl⟩
          have hln : ([45] ++ ((xs.drop (k + 1)).reverse.map (48 + ·))).length ≤ 1001 := by simp; omega
          have hO2 := hO.o
          clear hO
          generalize [45] ++ ((xs.drop (k + 1)).reverse.map (48 + ·)) = L at *
          generalize xs.getD k 0 = d at *
          have hbs := hB.o.size
          go_wp2_with (at_builtin; go_must (refine wpList_append_own _ rfl _ _ 65 rfl w.heap.size 5 i0 (.int .u8 0) 1 1 Tryz.underlying65 hinf hz0 hz1 hz2 rfl (by decide) _ _ _ rfl (World.ownsRow.alloc hO2 _) ⟨_, 0, none⟩ 1 1 [(.int .u8 (48 + (d : Int)))] rfl rfl (cell_one_new _ _ _) (by simp [Value.oneCell']) (by unfold maxLen; omega) (by omega) (by rw [World.size_alloc]; omega) ?_); intro v' w' hown' hgrow _; have hB' := below_grownV (hB.o.alloc hbs _) (Nat.le_refl _) (World.ownsRow.alloc hO2 _) hgrow)
          rw [show (48 + (d : Int)) = ((48 + d : Nat) : Int) by omega] at hown'
          exact ⟨⟨k, by omega, by go_num, ⟨by rw [HE.o]; exact OwnB.snoc hown'⟩, ⟨hB'⟩⟩, by simp [intOf]⟩
    | false =>
      go_wp2
      have hO1 : OwnB w w.heap.size (.slice none 0 0) [] := OwnB.nil _ _
      have hB1 : Below w.heap.size w w := Below.refl _ _
      go_loopw [6, 7] (fun v i wr => ∃ k : Nat, k ≤ xs.length ∧ i = .int .i64 ((k : Int) - 1) ∧ Shut (OwnB wr w.heap.size v ([] ++ ((xs.drop k).reverse.map (48 + ·)))) ∧ Shut (Below w.heap.size w wr)) (fun _ i _ => (intOf i + 1).toNat)
      case atStart => exact ⟨xs.length, Nat.le_refl _, rfl, ⟨by rw [List.drop_eq_nil_iff.2 (Nat.le_refl _)]; exact hO1⟩, ⟨hB1⟩⟩
      case round =>
        obtain ⟨k, hk, rfl, hO, hB⟩ := hrel
        by_cases hk0 : k = 0
        · subst hk0
          obtain ⟨z, hz1, hz2⟩ := txt_pos (ds := xs.reverse.map (48 + ·)) HDS.o.1 HDS.o.2 (by intro e; have := congrArg List.length e; simp at this; exact h0 (by rw [this]; rfl)) false
          have hO2 := hO.o
          rw [List.drop_zero] at hO2
          obtain ⟨cp, g2, rfl, hb⟩ := OwnB.open hO2 (by simp; omega)
          have hcv := back_string wr g2 0 cp _ (fun y hy => by
            have : y = 45 ∨ y < 58 := by
              rcases List.mem_append.1 hy with h | h
              · simp at h; try exact .inl h
              · exact .inr (HDS.o.1 y h).2
            omega) hb
          rw [show ba ([] ++ xs.reverse.map (48 + ·)) = txt z from hz1] at hcv
          have HZ2 : Shut _ := ⟨hz2⟩
          obtain ⟨str, hstr⟩ : ∃ str, str = txt z := ⟨_, rfl⟩
          rw [← hstr] at hcv
          have HSTR : Shut _ := ⟨hstr⟩
          clear hstr hz1 hz2 hO2 hb hO
          generalize ([] ++ xs.reverse.map (48 + ·)).length = nn at *
          go_wp2
          go_ret2
          exact ⟨z, by rw [← HSTR.o, ← HDEC.o]; rfl, by rw [HZ2.o]; simp, hB.o⟩
        · obtain ⟨k, rfl⟩ : ∃ k', k = k' + 1 := ⟨k - 1, by omega⟩
          have hi : (((k + 1 : Nat) : Int) - 1) = (k : Int) := by omega
          rw [hi]
          have hcl := (hB.o.cell (p := ⟨g, k, none⟩) hg).trans (HU.o k (by omega))
          have hx : xs.getD k 0 < 10 := by
            rw [List.getD_eq_getElem?_getD, List.getElem?_eq_getElem (show k < xs.length by omega)]; exact HD.o _ (List.getElem_mem _)
          have HE : Shut ([] ++ ((xs.drop k).reverse.map (48 + ·)) = ([] ++ ((xs.drop (k + 1)).reverse.map (48 + ·))) ++ [48 + xs.getD k 0]) := ⟨by
            rw [List.drop_eq_getElem_cons (show k < xs.length by omega), List.reverse_cons, List.map_append, ← List.append_assoc, List.map_cons, List.map_nil, List.getD_eq_getElem?_getD, List.getElem?_eq_getElem (show k < xs.length by omega)]; rfl⟩
          have hln : ([] ++ ((xs.drop (k + 1)).reverse.map (48 + ·))).length ≤ 1001 := by simp; omega
          have hO2 := hO.o
          clear hO
          generalize [] ++ ((xs.drop (k + 1)).reverse.map (48 + ·)) = L at *
          generalize xs.getD k 0 = d at *
          have hbs := hB.o.size
          go_wp2_with (at_builtin; go_must (refine wpList_append_own _ rfl _ _ 65 rfl w.heap.size 5 i0 (.int .u8 0) 1 1 Tryz.underlying65 hinf hz0 hz1 hz2 rfl (by decide) _ _ _ rfl (World.ownsRow.alloc hO2 _) ⟨_, 0, none⟩ 1 1 [(.int .u8 (48 + (d : Int)))] rfl rfl (cell_one_new _ _ _) (by simp [Value.oneCell']) (by unfold maxLen; omega) (by omega) (by rw [World.size_alloc]; omega) ?_); intro v' w' hown' hgrow _; have hB' := below_grownV (hB.o.alloc hbs _) (Nat.le_refl _) (World.ownsRow.alloc hO2 _) hgrow)
          rw [show (48 + (d : Int)) = ((48 + d : Nat) : Int) by omega] at hown'
          exact ⟨⟨k, by omega, by go_num, ⟨by rw [HE.o]; exact OwnB.snoc hown'⟩, ⟨hB'⟩⟩, by simp [intOf]⟩

set_option maxHeartbeats 1000000 in
theorem trim_nil (p : Option Addr) (cap : Nat) (w : World) (hcm : cap ≤ maxLen) :
    Calls Tryz.prog 151 #[.slice p 0 cap] w fun e w' => e = .returned (.slice p 0 cap) ∧ w' = w := by
  refine (trimI [] p cap 0 w (fun h => absurd h (by decide)) (fun i hi => absurd hi (Nat.not_lt_zero i)) (Nat.zero_le _) (Nat.zero_le _) hcm).mono ?_
  rintro e w1 ⟨k, hk, -, rfl, rfl⟩
  have hk0 : k = 0 := Nat.le_zero.1 hk
  exact ⟨by rw [hk0], rfl⟩
theorem text_nil (neg : Bool) (p : Option Addr) (cap : Nat) (w : World) :
    Calls Tryz.prog 149 #[.bool neg, .slice p 0 cap] w fun e w' => e = .returned (.tuple #[.string ⟨#[48]⟩, .bool true]) ∧ w' = w := by
  go_enter Tryz.func149, Tryz.ntmps149
  go_wp2
  go_ret2
  exact ⟨rfl, rfl⟩
theorem txt_0 : txt 0 = ⟨#[48]⟩ := by decide +kernel
end Go.Proofs.YtbfonkabmehlmaaGreatDoor
