/-
  The reference: extended.
-/
import Derived.Test.YtegkckpanajgjaaDoorDigRefRow
namespace Go.Proofs.YtegkckpanajgjaaDoor
open Go.RowKit

theorem take_next (l : List Nat) (i : Nat) (h : i < l.length) : l.take (i + 1) = l.take i ++ [l.getD i 0] := by
  rw [List.take_succ_eq_append_getElem h, List.getD_eq_getElem?_getD, List.getElem?_eq_getElem h]; rfl
theorem rep_next (k : Nat) : List.replicate (k + 1) 0 = List.replicate k 0 ++ [0] := List.replicate_succ'
theorem pad_cond (n k : Nat) (hk : k ≤ (119 - n % 64) % 64) : ((n + 1 + k) % 64 = 56 ↔ k = (119 - n % 64) % 64) := by omega
set_option maxRecDepth 100000 in
set_option maxHeartbeats 2000000 in
theorem extended_ref (s : ByteArray) (hs : s.size ≤ 100000) (w : World) :
    Calls Tryd.prog 38 #[.string s] w fun e w' => ∃ v, e = .returned v ∧ D1.OwnU w' w.heap.size v (Sh.pad (Sh.bl s)) ∧ Below w.heap.size w w' := by
  have hbl := Sh.bl_len s
  have HBL : Shut _ := ⟨hbl⟩
  clear hbl
  go_enter Tryd.func38, Tryd.ntmps38
  go_wp2
  go_loopw [3, 4] (fun bv iv wr => ∃ i : Nat, i ≤ s.size ∧ iv = .int .i64 i ∧ Shut (D1.OwnU wr w.heap.size bv ((Sh.bl s).take i)) ∧ Shut (Below w.heap.size w wr)) (fun _ iv _ => s.size - (intOf iv).toNat)
  case atStart => exact ⟨0, by omega, rfl, ⟨D1.OwnU.nil _ _⟩, ⟨Below.refl _ _⟩⟩
  case round =>
    obtain ⟨i, hi, rfl, hO, hB⟩ := hrel
    by_cases hlt : i < s.size
    · have hg := Sh.bl_get s i hlt
      have HE : Shut ((Sh.bl s).take (i + 1) = (Sh.bl s).take i ++ [s[i].toNat]) := ⟨by rw [take_next _ _ (by rw [HBL.o]; exact hlt), hg]⟩
      have hl : ((Sh.bl s).take i).length ≤ 100000 := by rw [List.length_take]; omega
      have hbs := hB.o.size
      clear hg
      generalize (Sh.bl s).take i = L at *
      go_wp2_with (at_builtin; go_must (refine D1.append_u32 rfl _ _ rfl w.heap.size _ (L) rfl (D1.OwnU.below hO.o ((Below.refl _ _).alloc (Nat.le_refl _) _)) _ [s[i].toNat] rfl (D1.NA.one wr s[i].toNat) (by simp; omega) (by rw [World.size_alloc]; omega) ?_); intro v5 w5 hO5 _ hB5)
      have hB6 := (hB.o.alloc hbs _).trans hB5
      exact ⟨⟨i + 1, by omega, by go_num, ⟨by rw [HE.o]; exact hO5⟩, ⟨hB6⟩⟩, by simp [intOf]; omega⟩
    · obtain rfl : i = s.size := by omega
      have hO1 := hO.o
      rw [List.take_of_length_le (by rw [HBL.o]; exact Nat.le_refl _)] at hO1
      have hml : (Sh.bl s).length ≤ 100000 := by rw [HBL.o]; exact hs
      have hbs := hB.o.size
      have HBB : Shut _ := ⟨hB.o⟩
      have HNL : Shut ((Sh.bl s).length = s.size) := ⟨HBL.o⟩
      have HPAD : Shut (Sh.pad (Sh.bl s) = Sh.bl s ++ [128] ++ List.replicate ((119 - s.size % 64) % 64) 0 ++ Sh.len8 s.size) := ⟨by rw [Sh.pad, HBL.o]⟩
      clear hO hB
      generalize hM : Sh.bl s = M at *
      have HM : Shut _ := ⟨hM⟩
      clear hM
      rename World => wo
      go_upto_region 4 with (at_builtin; go_must (refine D1.append_u32 rfl _ _ rfl w.heap.size _ (M) rfl (D1.OwnU.below hO1 ((Below.refl _ _).alloc (Nat.le_refl _) _)) _ [128] rfl (D1.NA.lit wo 128 128 rfl) (by simp; omega) (by rw [World.size_alloc]; omega) ?_); intro v5 w5 hO5 _ hB5)
      have hB6 := (HBB.o.alloc hbs _).trans hB5
      have HB6 : Shut _ := ⟨hB6⟩
      have HO6 : Shut _ := ⟨hO5⟩
      clear hO5 hB5 hB6 hO1
      obtain ⟨K, hK⟩ : ∃ K, K = (119 - s.size % 64) % 64 := ⟨_, rfl⟩
      have HK : Shut _ := ⟨hK⟩
      have hK64 : K ≤ 64 := by omega
      rw [← hK] at HPAD
      clear hK hbs
      rename World => w6
      go_loopw [3] (fun bv wr => ∃ k : Nat, k ≤ K ∧ Shut (D1.OwnU wr w.heap.size bv (M ++ [128] ++ List.replicate k 0)) ∧ Shut (Below w.heap.size w wr)) (fun bv _ => match bv with | .slice _ n _ => 200000 - n | _ => 0)
      case atStart => exact ⟨0, by omega, ⟨by rw [List.replicate_zero, List.append_nil]; exact HO6.o⟩, HB6⟩
      case round =>
        clear HO6 HB6
        obtain ⟨k, hk, hO, hB⟩ := hrel
        have hbs := hB.o.size
        have hO2 := hO.o
        have hln : (M ++ [128] ++ List.replicate k 0).length = s.size + 1 + k := by simp only [List.length_append, List.length_replicate, List.length_singleton, HNL.o]
        obtain ⟨p2, c2, g2, o2, rfl, hc2, hm2, _, _⟩ := (D1.OwnU.na hO2).open
        rw [hln] at hO2 hc2 ⊢
        clear hO
        by_cases hkK : k = K
        · have hq : ((s.size + 1 + k : Nat) : Int) % 64 = 56 := by have := (pad_cond s.size k (by rw [← HK.o]; omega)).2 (by rw [← HK.o]; exact hkK); omega
          subst hkK
          have HO7 : Shut _ := ⟨hO2⟩
          have hLn : (M ++ [128] ++ List.replicate k 0).length ≤ 200000 := by rw [hln]; omega
          clear hln hO2
          generalize M ++ [128] ++ List.replicate k 0 = L at *
          generalize hn : s.size + 1 + k = n at *
          have HNN : Shut _ := ⟨hn⟩
          clear hn
          go_upto_region 99 with fail
          have HB7 : Shut _ := ⟨hB⟩
          clear hq hB hbs
          rename World => w7
          go_loopw [3, 5] (fun bv iv wr => ∃ j : Nat, j ≤ 8 ∧ iv = .int .i64 (7 - (j : Int)) ∧ Shut (D1.OwnU wr w.heap.size bv (L ++ (Sh.len8 s.size).take j)) ∧ Shut (Below w.heap.size w wr)) (fun _ iv _ => (intOf iv + 1).toNat)
          case atStart => exact ⟨0, by omega, rfl, ⟨by rw [List.take_zero, List.append_nil]; exact HO7.o⟩, HB7.o⟩
          case round =>
            clear HO7 HB7
            obtain ⟨j, hj, rfl, hO, hB⟩ := hrel
            have hbs := hB.o.size
            have hO2 := hO.o
            rcases (show j = 0 ∨ j = 1 ∨ j = 2 ∨ j = 3 ∨ j = 4 ∨ j = 5 ∨ j = 6 ∨ j = 7 ∨ j = 8 by omega) with rfl | rfl | rfl | rfl | rfl | rfl | rfl | rfl | rfl
            · have HE : Shut (L ++ (Sh.len8 s.size).take 1 = L ++ (Sh.len8 s.size).take 0 ++ [8 * s.size / 72057594037927936 % 256]) := ⟨by rw [take_next _ 0 (by rw [Sh.len8_len]; decide), Sh.len8, map_range_getD _ 8 0 (by decide), List.append_assoc]⟩
              have hLL : (L ++ (Sh.len8 s.size).take 0).length ≤ 300000 := by rw [List.length_append, List.length_take]; omega
              generalize L ++ (Sh.len8 s.size).take 0 = LL at *
              go_wp2_with (at_builtin; go_must (refine D1.append_u32 rfl _ _ rfl w.heap.size _ LL rfl (D1.OwnU.below hO2 ((Below.refl _ _).alloc (Nat.le_refl _) _)) _ [8 * s.size / 72057594037927936 % 256] rfl (D1.NA.lit wr (8 * s.size / 72057594037927936 % 256) _ (by omega)) (by simp; omega) (by rw [World.size_alloc]; omega) ?_); intro v9 w9 hO9 _ hB9)
              exact ⟨⟨1, by omega, by go_num, ⟨by rw [HE.o]; exact hO9⟩, ⟨(hB.o.alloc hbs _).trans hB9⟩⟩, by simp [intOf]⟩
            · have HE : Shut (L ++ (Sh.len8 s.size).take 2 = L ++ (Sh.len8 s.size).take 1 ++ [8 * s.size / 281474976710656 % 256]) := ⟨by rw [take_next _ 1 (by rw [Sh.len8_len]; decide), Sh.len8, map_range_getD _ 8 1 (by decide), List.append_assoc]⟩
              have hLL : (L ++ (Sh.len8 s.size).take 1).length ≤ 300000 := by rw [List.length_append, List.length_take]; omega
              generalize L ++ (Sh.len8 s.size).take 1 = LL at *
              go_wp2_with (at_builtin; go_must (refine D1.append_u32 rfl _ _ rfl w.heap.size _ LL rfl (D1.OwnU.below hO2 ((Below.refl _ _).alloc (Nat.le_refl _) _)) _ [8 * s.size / 281474976710656 % 256] rfl (D1.NA.lit wr (8 * s.size / 281474976710656 % 256) _ (by omega)) (by simp; omega) (by rw [World.size_alloc]; omega) ?_); intro v9 w9 hO9 _ hB9)
              exact ⟨⟨2, by omega, by go_num, ⟨by rw [HE.o]; exact hO9⟩, ⟨(hB.o.alloc hbs _).trans hB9⟩⟩, by simp [intOf]⟩
            · have HE : Shut (L ++ (Sh.len8 s.size).take 3 = L ++ (Sh.len8 s.size).take 2 ++ [8 * s.size / 1099511627776 % 256]) := ⟨by rw [take_next _ 2 (by rw [Sh.len8_len]; decide), Sh.len8, map_range_getD _ 8 2 (by decide), List.append_assoc]⟩
              have hLL : (L ++ (Sh.len8 s.size).take 2).length ≤ 300000 := by rw [List.length_append, List.length_take]; omega
              generalize L ++ (Sh.len8 s.size).take 2 = LL at *
              go_wp2_with (at_builtin; go_must (refine D1.append_u32 rfl _ _ rfl w.heap.size _ LL rfl (D1.OwnU.below hO2 ((Below.refl _ _).alloc (Nat.le_refl _) _)) _ [8 * s.size / 1099511627776 % 256] rfl (D1.NA.lit wr (8 * s.size / 1099511627776 % 256) _ (by omega)) (by simp; omega) (by rw [World.size_alloc]; omega) ?_); intro v9 w9 hO9 _ hB9)
              exact ⟨⟨3, by omega, by go_num, ⟨by rw [HE.o]; exact hO9⟩, ⟨(hB.o.alloc hbs _).trans hB9⟩⟩, by simp [intOf]⟩
            · have HE : Shut (L ++ (Sh.len8 s.size).take 4 = L ++ (Sh.len8 s.size).take 3 ++ [8 * s.size / 4294967296 % 256]) := ⟨by rw [take_next _ 3 (by rw [Sh.len8_len]; decide), Sh.len8, map_range_getD _ 8 3 (by decide), List.append_assoc]⟩
              have hLL : (L ++ (Sh.len8 s.size).take 3).length ≤ 300000 := by rw [List.length_append, List.length_take]; omega
              generalize L ++ (Sh.len8 s.size).take 3 = LL at *
              go_wp2_with (at_builtin; go_must (refine D1.append_u32 rfl _ _ rfl w.heap.size _ LL rfl (D1.OwnU.below hO2 ((Below.refl _ _).alloc (Nat.le_refl _) _)) _ [8 * s.size / 4294967296 % 256] rfl (D1.NA.lit wr (8 * s.size / 4294967296 % 256) _ (by omega)) (by simp; omega) (by rw [World.size_alloc]; omega) ?_); intro v9 w9 hO9 _ hB9)
              exact ⟨⟨4, by omega, by go_num, ⟨by rw [HE.o]; exact hO9⟩, ⟨(hB.o.alloc hbs _).trans hB9⟩⟩, by simp [intOf]⟩
            · have HE : Shut (L ++ (Sh.len8 s.size).take 5 = L ++ (Sh.len8 s.size).take 4 ++ [8 * s.size / 16777216 % 256]) := ⟨by rw [take_next _ 4 (by rw [Sh.len8_len]; decide), Sh.len8, map_range_getD _ 8 4 (by decide), List.append_assoc]⟩
              have hLL : (L ++ (Sh.len8 s.size).take 4).length ≤ 300000 := by rw [List.length_append, List.length_take]; omega
              generalize L ++ (Sh.len8 s.size).take 4 = LL at *
              go_wp2_with (at_builtin; go_must (refine D1.append_u32 rfl _ _ rfl w.heap.size _ LL rfl (D1.OwnU.below hO2 ((Below.refl _ _).alloc (Nat.le_refl _) _)) _ [8 * s.size / 16777216 % 256] rfl (D1.NA.lit wr (8 * s.size / 16777216 % 256) _ (by omega)) (by simp; omega) (by rw [World.size_alloc]; omega) ?_); intro v9 w9 hO9 _ hB9)
              exact ⟨⟨5, by omega, by go_num, ⟨by rw [HE.o]; exact hO9⟩, ⟨(hB.o.alloc hbs _).trans hB9⟩⟩, by simp [intOf]⟩
            · have HE : Shut (L ++ (Sh.len8 s.size).take 6 = L ++ (Sh.len8 s.size).take 5 ++ [8 * s.size / 65536 % 256]) := ⟨by rw [take_next _ 5 (by rw [Sh.len8_len]; decide), Sh.len8, map_range_getD _ 8 5 (by decide), List.append_assoc]⟩
              have hLL : (L ++ (Sh.len8 s.size).take 5).length ≤ 300000 := by rw [List.length_append, List.length_take]; omega
              generalize L ++ (Sh.len8 s.size).take 5 = LL at *
              go_wp2_with (at_builtin; go_must (refine D1.append_u32 rfl _ _ rfl w.heap.size _ LL rfl (D1.OwnU.below hO2 ((Below.refl _ _).alloc (Nat.le_refl _) _)) _ [8 * s.size / 65536 % 256] rfl (D1.NA.lit wr (8 * s.size / 65536 % 256) _ (by omega)) (by simp; omega) (by rw [World.size_alloc]; omega) ?_); intro v9 w9 hO9 _ hB9)
              exact ⟨⟨6, by omega, by go_num, ⟨by rw [HE.o]; exact hO9⟩, ⟨(hB.o.alloc hbs _).trans hB9⟩⟩, by simp [intOf]⟩
            · have HE : Shut (L ++ (Sh.len8 s.size).take 7 = L ++ (Sh.len8 s.size).take 6 ++ [8 * s.size / 256 % 256]) := ⟨by rw [take_next _ 6 (by rw [Sh.len8_len]; decide), Sh.len8, map_range_getD _ 8 6 (by decide), List.append_assoc]⟩
              have hLL : (L ++ (Sh.len8 s.size).take 6).length ≤ 300000 := by rw [List.length_append, List.length_take]; omega
              generalize L ++ (Sh.len8 s.size).take 6 = LL at *
              go_wp2_with (at_builtin; go_must (refine D1.append_u32 rfl _ _ rfl w.heap.size _ LL rfl (D1.OwnU.below hO2 ((Below.refl _ _).alloc (Nat.le_refl _) _)) _ [8 * s.size / 256 % 256] rfl (D1.NA.lit wr (8 * s.size / 256 % 256) _ (by omega)) (by simp; omega) (by rw [World.size_alloc]; omega) ?_); intro v9 w9 hO9 _ hB9)
              exact ⟨⟨7, by omega, by go_num, ⟨by rw [HE.o]; exact hO9⟩, ⟨(hB.o.alloc hbs _).trans hB9⟩⟩, by simp [intOf]⟩
            · have HE : Shut (L ++ (Sh.len8 s.size).take 8 = L ++ (Sh.len8 s.size).take 7 ++ [8 * s.size / 1 % 256]) := ⟨by rw [take_next _ 7 (by rw [Sh.len8_len]; decide), Sh.len8, map_range_getD _ 8 7 (by decide), List.append_assoc]⟩
              have hLL : (L ++ (Sh.len8 s.size).take 7).length ≤ 300000 := by rw [List.length_append, List.length_take]; omega
              generalize L ++ (Sh.len8 s.size).take 7 = LL at *
              go_wp2_with (at_builtin; go_must (refine D1.append_u32 rfl _ _ rfl w.heap.size _ LL rfl (D1.OwnU.below hO2 ((Below.refl _ _).alloc (Nat.le_refl _) _)) _ [8 * s.size / 1 % 256] rfl (D1.NA.lit wr (8 * s.size / 1 % 256) _ (by omega)) (by simp; omega) (by rw [World.size_alloc]; omega) ?_); intro v9 w9 hO9 _ hB9)
              exact ⟨⟨8, by omega, by go_num, ⟨by rw [HE.o]; exact hO9⟩, ⟨(hB.o.alloc hbs _).trans hB9⟩⟩, by simp [intOf]⟩
            · have HFIN : Shut (D1.OwnU wr w.heap.size u3 (Sh.pad M)) := ⟨by
                have h9 := hO2
                rw [List.take_of_length_le (by rw [Sh.len8_len]; decide)] at h9
                rw [HPAD.o]; exact h9⟩
              go_wp2
              go_ret
              exact ⟨_, rfl, by rw [HM.o]; exact HFIN.o, hB.o⟩
        · have hq : ¬ ((s.size + 1 + k : Nat) : Int) % 64 = 56 := fun h => by have := (pad_cond s.size k (by rw [← HK.o]; omega)).1 (by omega); rw [← HK.o] at this; exact hkK this
          have hq2 : ((((s.size + 1 + k : Nat) : Int) % 64) != 56) = true := by rw [bne_iff_ne]; exact hq
          have HE : Shut (M ++ [128] ++ List.replicate (k + 1) 0 = M ++ [128] ++ List.replicate k 0 ++ [0]) := ⟨by rw [rep_next, ← List.append_assoc]⟩
          have HLN : Shut _ := ⟨hln⟩
          have hLL : (M ++ [128] ++ List.replicate k 0).length ≤ 200000 := by rw [hln]; omega
          clear hln
          generalize M ++ [128] ++ List.replicate k 0 = L at *
          generalize hn : s.size + 1 + k = n at *
          have HNN : Shut _ := ⟨hn⟩
          clear hn
          go_wp2_with (at_builtin; go_must (refine D1.append_u32 rfl _ _ rfl w.heap.size _ L rfl (D1.OwnU.below hO2 ((Below.refl _ _).alloc (Nat.le_refl _) _)) _ [0] rfl (D1.NA.lit wr 0 0 rfl) (by simp; omega) (by rw [World.size_alloc]; omega) ?_); intro v7 w7 hO7 _ hB7)
          have hB8 := (hB.o.alloc hbs _).trans hB7
          obtain ⟨p7, c7, g7, o7, rfl, _, _, _, _⟩ := (D1.OwnU.na hO7).open
          exact ⟨⟨k + 1, by omega, ⟨by rw [HE.o]; exact hO7⟩, ⟨hB8⟩⟩, by have := HNN.o; have := HLN.o; rw [List.length_append, HLN.o, List.length_singleton]; show 200000 - (n + 1) < 200000 - n; omega⟩
end Go.Proofs.YtegkckpanajgjaaDoor
