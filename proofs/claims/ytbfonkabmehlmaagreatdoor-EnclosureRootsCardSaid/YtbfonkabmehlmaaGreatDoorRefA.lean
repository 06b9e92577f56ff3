/-
  The reference: trim, order.
-/
import Derived.Test.YtbfonkabmehlmaaGreatDoorRefRow
import Derived.Maps.AppendAt
import Derived.Deep.RegionHeld3
namespace Go.Proofs.YtbfonkabmehlmaaGreatDoor
set_option maxRecDepth 1000000
namespace N10
open Go.RowKit

theorem trim_eq {l : List Nat} (hd : Dig l) (k : Nat) (hk : k ≤ l.length) (hz : ∀ j, k ≤ j → l.getD j 0 = 0) (hl : k = 0 ∨ l.getD (k - 1) 0 ≠ 0) : l.take k = natL (nv l) := by
  have h1 := nv_take_zeros l k hk hz
  rw [← h1]
  refine natL_append _ (hd.take k) ?_
  have hlen : (l.take k).length = k := by rw [List.length_take]; omega
  rcases hl with rfl | hl
  · exact .inl rfl
  · rcases Nat.eq_zero_or_pos k with rfl | hp
    · exact .inl rfl
    · right
      rw [hlen]
      rw [List.getD_eq_getElem?_getD] at hl ⊢
      rwa [List.getElem?_take, if_pos (by omega)]
theorem trim_len {l : List Nat} (hd : Dig l) : (natL (nv l)).length ≤ l.length := natL_len_le (nv_lt hd)
theorem trim_take {l : List Nat} (hd : Dig l) : l.take (natL (nv l)).length = natL (nv l) := by
  have h1 := padL_eq hd
  have h2 := padL_eq (natL_dig (nv l))
  rw [natL_nv] at h2
  obtain ⟨m, hm⟩ : ∃ m, l.length = (natL (nv l)).length + m := ⟨l.length - (natL (nv l)).length, by have := trim_len hd; omega⟩
  have h3 := padL_app (natL (nv l)).length m (nv l) 0 (natL_lt _)
  rw [Nat.mul_zero, Nat.add_zero, ← hm, h1, h2] at h3
  have h4 := congrArg (List.take (natL (nv l)).length) h3
  rw [h4, List.take_left' rfl]

set_option maxHeartbeats 1000000 in
theorem trim_any (l : List Nat) (p : Option Addr) (cap g o : Nat) (w : World) (hp : 1 ≤ l.length → p = some ⟨g, o, none⟩) (hu : IA w g o l) (hd : Dig l) (hl : l.length ≤ 1000000) (hc : l.length ≤ cap) (hcm : cap ≤ maxLen) :
    Calls Tryz.prog 151 #[.slice p l.length cap] w fun e w' => e = .returned (.slice p (natL (nv l)).length cap) ∧ w' = w := by
  go_enter Tryz.func151, Tryz.ntmps151
  have HU : Shut _ := ⟨hu⟩
  have HP : Shut _ := ⟨hp⟩
  have HD : Shut _ := ⟨hd⟩
  unfold maxLen at hcm
  clear hu hp hd
  go_wp2
  go_loopw [0] (fun a wr => ∃ k : Nat, k ≤ l.length ∧ a = .slice p k cap ∧ wr = w ∧ Shut (∀ j, k ≤ j → l.getD j 0 = 0)) (fun a _ => match a with | .slice _ k _ => k | _ => 0)
  case atStart => exact ⟨l.length, Nat.le_refl _, rfl, rfl, ⟨fun j hj => by rw [List.getD_eq_getElem?_getD, List.getElem?_eq_none hj]; rfl⟩⟩
  case round =>
    obtain ⟨k, hk, rfl, rfl, hz⟩ := hrel
    by_cases hk0 : k = 0
    · subst hk0
      have HF : Shut (l.take 0 = natL (nv l)) := ⟨trim_eq HD.o 0 hk hz.o (.inl rfl)⟩
      have HF2 : Shut (0 = (natL (nv l)).length) := ⟨by rw [← HF.o]; rfl⟩
      go_wp2
      go_ret
      exact ⟨by rw [← HF2.o]; rfl, rfl⟩
    · obtain rfl := HP.o (by omega)
      have hcl := HU.o (k - 1) (by omega)
      obtain ⟨k, rfl⟩ : ∃ k', k = k' + 1 := ⟨k - 1, by omega⟩
      rw [Nat.add_sub_cancel] at hcl
      by_cases hx : l.getD k 0 = 0
      · have hz2 : Shut (∀ j, k ≤ j → l.getD j 0 = 0) := ⟨fun j hj => by
          by_cases e : j = k
          · rw [e]; exact hx
          · exact hz.o j (by omega)⟩
        rw [hx] at hcl
        clear hx hz
        go_wp2
        exact ⟨⟨k, by omega, rfl, trivial, hz2⟩, Nat.lt_succ_self k⟩
      · have HF : Shut (k + 1 = (natL (nv l)).length) := ⟨by
          have := trim_eq HD.o (k + 1) hk hz.o (.inr (by simpa using hx))
          rw [← this, List.length_take]; omega⟩
        have hxi : ((l.getD k 0 : Nat) : Int) ≠ 0 := by omega
        clear hz
        generalize l.getD k 0 = x at *
        go_wp2
        go_ret
        exact ⟨by rw [← HF.o]; rfl, rfl⟩

set_option maxHeartbeats 1000000 in
theorem order_any (x y : Nat) (pa : Option Addr) (ca ga oa : Nat) (pb : Option Addr) (cb gb ob : Nat) (w : World) (hpa : 1 ≤ (natL x).length → pa = some ⟨ga, oa, none⟩) (hua : IA w ga oa (natL x)) (hpb : 1 ≤ (natL y).length → pb = some ⟨gb, ob, none⟩) (hub : IA w gb ob (natL y))
    (hla : (natL x).length ≤ 1000000) (hlb : (natL y).length ≤ 1000000) :
    Calls Tryz.prog 103 #[.slice pa (natL x).length ca, .slice pb (natL y).length cb] w fun e w' => e = .returned (.int .i64 (cmpN x y)) ∧ ∃ m, w' = w.drewN m := by
  go_enter Tryz.func103, Tryz.ntmps103
  have HA : Shut _ := ⟨hua⟩
  have HB : Shut _ := ⟨hub⟩
  have HPa : Shut _ := ⟨hpa⟩
  have HPb : Shut _ := ⟨hpb⟩
  clear hua hub hpa hpb
  obtain ⟨na, hna⟩ : ∃ na, na = (natL x).length := ⟨_, rfl⟩
  obtain ⟨nb, hnb⟩ : ∃ nb, nb = (natL y).length := ⟨_, rfl⟩
  have HNa : Shut _ := ⟨hna⟩
  have HNb : Shut _ := ⟨hnb⟩
  rw [← hna, ← hnb]
  rw [← hna] at hla
  rw [← hnb] at hlb
  clear hna hnb
  by_cases hl : na = nb
  · subst hl
    go_wp2
    go_loopw [5] (fun i5 wr => ∃ k : Nat, k ≤ na ∧ i5 = .int .i64 ((k : Int) - 1) ∧ (∃ m, wr = w.drewN m) ∧ Shut ((natL x).drop k = (natL y).drop k)) (fun i5 _ => (intOf i5 + 1).toNat)
    case atStart => exact ⟨na, Nat.le_refl _, rfl, ⟨0, rfl⟩, ⟨by rw [List.drop_eq_nil_iff.2 (by have := HNa.o; omega), List.drop_eq_nil_iff.2 (by have := HNb.o; omega)]⟩⟩
    case round =>
      obtain ⟨k, hk, rfl, ⟨m, hw⟩, hd⟩ := hrel
      have HW : Shut _ := ⟨hw⟩
      clear hw
      by_cases hk0 : k = 0
      · subst hk0
        have hxy : x = y := by
          have := hd.o
          rw [List.drop_zero, List.drop_zero] at this
          rw [← natL_nv x, this, natL_nv]
        have HC : Shut (cmpN x y = 0) := ⟨by rw [cmpN, if_neg (by omega), if_pos hxy]⟩
        clear hxy hd
        go_wp2
        go_ret
        exact ⟨by rw [HC.o]; rfl, _, HW.o⟩
      · obtain ⟨k, rfl⟩ : ∃ k', k = k' + 1 := ⟨k - 1, by omega⟩
        have h1 : k < (natL x).length := by rw [← HNa.o]; omega
        have h2 : k < (natL y).length := by rw [← HNb.o]; omega
        obtain rfl := HPa.o (by omega)
        obtain rfl := HPb.o (by omega)
        have c1 : wr.cell? ⟨ga, oa + k, none⟩ = some (.int .i64 (((natL x).getD k 0 : Nat) : Int)) := by rw [HW.o]; exact HA.o k h1
        have c2 : wr.cell? ⟨gb, ob + k, none⟩ = some (.int .i64 (((natL y).getD k 0 : Nat) : Int)) := by rw [HW.o]; exact HB.o k h2
        have hi : (((k + 1 : Nat) : Int) - 1) = (k : Int) := by omega
        rw [hi]
        have hdx := (natL_dig x).getD k
        have hdy := (natL_dig y).getD k
        by_cases he : (natL x).getD k 0 = (natL y).getD k 0
        · have hd2 : Shut ((natL x).drop k = (natL y).drop k) := ⟨by
            rw [List.drop_eq_getElem_cons h1, List.drop_eq_getElem_cons h2, hd.o]
            rw [List.getD_eq_getElem?_getD, List.getD_eq_getElem?_getD, List.getElem?_eq_getElem h1, List.getElem?_eq_getElem h2] at he
            simp only [Option.getD_some] at he
            rw [he]⟩
          rw [← he] at c2
          clear he hd h1 h2 hdy
          generalize (natL x).getD k 0 = d at *
          go_wp2
          go_quiet (fail)
          go_wp2
          exact ⟨⟨k, by omega, rfl, ⟨_, by rw [HW.o, World.drewN_drewN]⟩, hd2⟩, by simp [intOf]⟩
        · have hlt : (natL x).getD k 0 < (natL y).getD k 0 → x < y := fun h => by
            have := nv_less (natL_dig x) (by rw [← HNa.o, ← HNb.o]) k h1 h hd.o
            rwa [natL_nv, natL_nv] at this
          have hgt : (natL y).getD k 0 < (natL x).getD k 0 → y < x := fun h => by
            have := nv_less (natL_dig y) (by rw [← HNa.o, ← HNb.o]) k h2 h hd.o.symm
            rwa [natL_nv, natL_nv] at this
          have HC : Shut (cmpN x y = if (natL x).getD k 0 < (natL y).getD k 0 then -1 else 1) := ⟨by
            by_cases h : (natL x).getD k 0 < (natL y).getD k 0
            · rw [if_pos h, cmpN, if_pos (hlt h)]
            · have := hgt (by omega)
              rw [if_neg h, cmpN, if_neg (by omega), if_neg (by omega)]⟩
          clear hlt hgt hd h1 h2
          generalize (natL x).getD k 0 = d at *
          generalize (natL y).getD k 0 = e at *
          have hne : ((d : Int) ≠ (e : Int)) := by omega
          go_wp2
          go_quiet (fail)
          generalize hw2 : wr.drewN nq = w2
          have HW2 : Shut _ := ⟨hw2⟩
          have c3 : w2.cell? ⟨ga, oa + k, none⟩ = some (.int .i64 (d : Int)) := by rw [← hw2]; exact c1
          have c4 : w2.cell? ⟨gb, ob + k, none⟩ = some (.int .i64 (e : Int)) := by rw [← hw2]; exact c2
          clear c1 c2 hw2
          have i1 : (0 : Int) ≤ (k : Int) := by omega
          have i2 : (k : Int) < (na : Int) := by omega
          by_cases hde : d < e
          · rw [if_pos hde] at HC
            go_wp2
            go_quiet (fail)
            go_wp2
            go_ret
            exact ⟨by rw [HC.o]; rfl, _, by rw [← HW2.o, HW.o, World.drewN_drewN, World.drewN_drewN]⟩
          · rw [if_neg hde] at HC
            go_wp2
            go_quiet (fail)
            go_wp2
            go_ret
            exact ⟨by rw [HC.o]; rfl, _, by rw [← HW2.o, HW.o, World.drewN_drewN, World.drewN_drewN]⟩
  · have hne : ((na : Int) ≠ (nb : Int)) := by omega
    have HC : Shut (cmpN x y = if na < nb then -1 else 1) := ⟨by
      have e1 := HNa.o
      have e2 := HNb.o
      by_cases h : na < nb
      · rw [if_pos h, cmpN, if_pos (natL_len_lt (by omega))]
      · have := natL_len_lt (n := y) (m := x) (by omega)
        rw [if_neg h, cmpN, if_neg (by omega), if_neg (by omega)]⟩
    by_cases h : na < nb
    · rw [if_pos h] at HC
      go_wp2
      go_ret
      exact ⟨by rw [HC.o]; rfl, 0, rfl⟩
    · rw [if_neg h] at HC
      go_wp2
      go_ret
      exact ⟨by rw [HC.o]; rfl, 0, rfl⟩

theorem order_ref (x y : Nat) (va vb : Value) (w : World) (ha : NI w va (natL x)) (hb : NI w vb (natL y)) (hla : (natL x).length ≤ 1000) (hlb : (natL y).length ≤ 1000) :
    Calls Tryz.prog 103 #[va, vb] w fun e w' => e = .returned (.int .i64 (cmpN x y)) ∧ ∃ m, w' = w.drewN m := by
  obtain ⟨p1, c1, g1, o1, rfl, _, _, hp1, hu1⟩ := ha.open
  obtain ⟨p2, c2, g2, o2, rfl, _, _, hp2, hu2⟩ := hb.open
  exact order_any x y p1 c1 g1 o1 p2 c2 g2 o2 w (fun h => (hp1 h).1) hu1 (fun h => (hp2 h).1) hu2 (by omega) (by omega)
theorem NI.trimmed {W : World} {g o cap : Nat} {l : List Nat} (hd : Dig l) (hu : IA W g o l) (hg : g < W.heap.size) (hc : l.length ≤ cap) (hm : cap ≤ maxLen) : NI W (.slice (some ⟨g, o, none⟩) (natL (nv l)).length cap) (natL (nv l)) := by
  refine ⟨_, cap, rfl, Nat.le_trans (trim_len hd) hc, hm, .inr ⟨g, o, rfl, hg, ?_⟩⟩
  have := hu.take (natL (nv l)).length
  rwa [trim_take hd] at this
theorem OwnJ.fresh {W : World} {B : Nat} {v : Value} {xs : List Nat} (h : OwnJ W B v xs) : ∀ g, v.ownBlock = some g → B ≤ g := by
  intro g hg
  rcases h.open with ⟨rfl, _⟩ | ⟨c, g', rfl, hB, _⟩
  · cases hg
  · injection hg with hg; subst hg; exact hB
theorem NI.setOther {W : World} {v : Value} {l : List Nat} {g i : Nat} {x : Value} (h : NI W v l) (hne : ∀ k, v.ownBlock = some k → k ≠ g) : NI (W.setCell ⟨g, i, none⟩ x) v l := by
  obtain ⟨p, cap, rfl, h1, h2, h3 | ⟨b, o, rfl, hb, hu⟩⟩ := h
  · exact ⟨p, cap, rfl, h1, h2, .inl h3⟩
  · have hbg : b ≠ g := hne b rfl
    refine ⟨_, cap, rfl, h1, h2, .inr ⟨b, o, rfl, by simp only [World.setCell, Array.size_modify]; exact hb, fun j hj => ?_⟩⟩
    rw [World.cell?_setCell_far W ⟨g, i, none⟩ ⟨b, o + j, none⟩ x (Ne.symm hbg)]
    exact hu j hj
/-- trim, of whatever holds digits -/
theorem trim_ref (l : List Nat) (v : Value) (w : World) (h : NI w v l) (hd : Dig l) (hl : l.length ≤ 1000000) :
    Calls Tryz.prog 151 #[v] w fun e w' => ∃ u, e = .returned u ∧ NI w u (natL (nv l)) ∧ u.ownBlock = v.ownBlock ∧ w' = w := by
  obtain ⟨p, cap, rfl, h1, h2, ⟨rfl, rfl, rfl⟩ | ⟨g, o, rfl, hg, hu⟩⟩ := h
  · refine (trim_any [] none 0 0 0 w (by simp) (fun i hi => by simp at hi) hd (by simp) (by simp) (by unfold maxLen; omega)).mono ?_
    rintro e w' ⟨rfl, rfl⟩
    rw [nv, natL_zero]
    exact ⟨_, rfl, ⟨none, 0, rfl, Nat.le_refl _, by omega, .inl ⟨rfl, rfl, rfl⟩⟩, rfl, rfl⟩
  · refine (trim_any l _ cap g o w (fun _ => rfl) hu hd hl h1 h2).mono ?_
    rintro e w' ⟨rfl, rfl⟩
    exact ⟨_, rfl, NI.trimmed hd hu hg h1 h2, rfl, rfl⟩
end N10
end Go.Proofs.YtbfonkabmehlmaaGreatDoor
