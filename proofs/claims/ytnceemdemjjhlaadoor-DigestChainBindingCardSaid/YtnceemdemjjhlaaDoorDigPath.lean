/-
  path and part; Proof and Extension.
-/
import Derived.Test.YtnceemdemjjhlaaDoorDigVal
import Derived.Maps.AppendAt
import Derived.RangeFuncBox
namespace Go.Proofs.YtnceemdemjjhlaaDoor
open Go.RowKit

theorem infoStr : (Tryd.prog.info? 9).map (fun i => (i.zero, i.size, i.bytes)) = some (some (.string ⟨#[]⟩), 1, 16) := by kernel_rfl
/-- a slice of strings that the call made -/
def OwnS (W : World) (B : Nat) (v : Value) (xs : List ByteArray) : Prop := W.ownsRow B 9 1 v xs.length (xs.map Value.string)
theorem OwnS.below {W W' : World} {B : Nat} {v : Value} {xs : List ByteArray} (h : OwnS W B v xs) (hb : Below W.heap.size W W') : OwnS W' B v xs := by
  refine ⟨h.1, ?_⟩
  rcases h.2 with hn | ⟨g, cap, cur, e, hg, hgg, rest⟩
  · exact .inl hn
  · exact .inr ⟨g, cap, cur, e, hg, by rw [hb.block g (Array.getElem?_eq_some_iff.1 hgg).1]; exact hgg, rest⟩
theorem OwnS.mono {W : World} {B B' : Nat} {v : Value} {xs : List ByteArray} (h : OwnS W B v xs) (hb : B' ≤ B) : OwnS W B' v xs := by
  refine ⟨h.1, ?_⟩
  rcases h.2 with hn | ⟨g, cap, cur, e, hg, rest⟩
  · exact .inl hn
  · exact .inr ⟨g, cap, cur, e, by omega, rest⟩
theorem OwnS.nil (W : World) (B : Nat) : OwnS W B (.slice none 0 0) [] := World.ownsRow_nil _ _ _ _
theorem OwnS.snoc {W : World} {B : Nat} {v : Value} {xs : List ByteArray} {x : ByteArray} (h : W.ownsRow B 9 1 v (xs.length + 1) (xs.map Value.string ++ [.string x])) : OwnS W B v (xs ++ [x]) := by
  unfold OwnS; rw [List.length_append, List.map_append]; exact h
theorem OwnS.one (W : World) (B : Nat) (x : ByteArray) (h : B ≤ W.heap.size) : OwnS (W.alloc (.cells #[.string x] 9)) B (.slice (some ⟨W.heap.size, 0, none⟩) 1 1) [x] :=
  ⟨by simp, .inr ⟨W.heap.size, 1, #[.string x], rfl, h, RowAt.new W _ _, by simp, by unfold maxLen; omega, by simp, by simp⟩⟩
/-- opened -/
theorem OwnS.open {W : World} {B : Nat} {v : Value} {xs : List ByteArray} (h : OwnS W B v xs) :
    ∃ (p : Option Addr) (cap g : Nat), v = .slice p xs.length cap ∧ (1 ≤ xs.length → p = some ⟨g, 0, none⟩ ∧ B ≤ g) ∧ SA W g 0 xs ∧ xs.length ≤ cap ∧ cap ≤ maxLen := by
  rcases h.2 with ⟨hv, hn⟩ | ⟨g, cap, cur, hv, hg, hgg, hle, hm, _⟩
  · refine ⟨none, 0, 0, by rw [hv, hn], fun h1 => by omega, fun i hi => by omega, by omega, by unfold maxLen; omega⟩
  · refine ⟨some ⟨g, 0, none⟩, cap, g, hv, fun _ => ⟨rfl, hg⟩, fun i hi => ?_, hle, hm⟩
    have := World.ownsRow.cells (g := g) h (by rw [hv]; rfl) i (.string xs[i]) (by simp [hi])
    rw [Addr.add_lit] at this
    simpa using this

theorem below_append {B : Nat} {w w1 w3 : World} {v : Value} {xs : List ByteArray} (hb : Below B w w1) (hB : B ≤ w.heap.size) (hO : OwnS w1 B v xs) (hg : w1.grownBy w3 v.ownBlock) : Below B w w3 :=
  hb.trans ⟨hg.os, hg.tape, hg.output, hg.size, fun k hk => hg.block k (Nat.lt_of_lt_of_le (Nat.lt_of_lt_of_le hk hB) hb.size) (fun e => by
    rcases hO.2 with ⟨rfl, _⟩ | ⟨g, cap, cur, rfl, h1, _⟩
    · simp [Value.ownBlock] at e
    · simp [Value.ownBlock] at e; omega)⟩
/-- the proof of an entry, its last element first -/
def pathR (l : List ByteArray) (i : Nat) : List ByteArray :=
  if _h : l.length ≤ 1 then [] else if i < spl l.length then rootB (l.drop (spl l.length)) :: pathR (l.take (spl l.length)) i else rootB (l.take (spl l.length)) :: pathR (l.drop (spl l.length)) (i - spl l.length)
termination_by l.length
decreasing_by
  · have := spl_lt l.length (by omega); rw [List.length_take]; omega
  · have := spl_pos l.length; rw [List.length_drop]; omega
/-- the proof of a beginning, its last element first -/
def partR (l : List ByteArray) (m : Nat) (whole : Bool) : List ByteArray :=
  if _h : l.length ≤ max m 1 then (if whole then [] else [rootB l]) else if m ≤ spl l.length then rootB (l.drop (spl l.length)) :: partR (l.take (spl l.length)) m whole else rootB (l.take (spl l.length)) :: partR (l.drop (spl l.length)) (m - spl l.length) false
termination_by l.length
decreasing_by
  · have := spl_lt l.length (by omega); rw [List.length_take]; omega
  · have := spl_pos l.length; rw [List.length_drop]; omega

set_option maxHeartbeats 2000000 in
theorem path_ind : ∀ (N : Nat) (ls : List ByteArray) (i b o cap : Nat) (w : World), ls.length ≤ N → i < ls.length → ls.length ≤ 1000 → ls.length ≤ cap → cap ≤ 9223372036854775807 → Small ls → Tab w → SA w b o ls →
    Calls Tryd.prog 40 #[.slice (some ⟨b, o, none⟩) ls.length cap, .int .i64 i] w fun e w' => ∃ v, e = .returned v ∧ OwnS w' w.heap.size v (pathR ls i).reverse ∧ (pathR ls i).length + 1 ≤ ls.length ∧ Below w.heap.size w w' := by
  intro N
  induction N with
  | zero => intro ls i b o cap w h1 h2; omega
  | succ N ih =>
    intro ls i b o cap w hN hi hth hcap hc hS ht hA
    by_cases hl : ls.length = 1
    · have HP : Shut (pathR ls i = []) := ⟨by rw [pathR, dif_pos (by omega)]⟩
      clear ht hA hS ih
      go_enter Tryd.func40, Tryd.ntmps40
      go_wp2
      go_ret
      exact ⟨_, rfl, by rw [HP.o]; exact OwnS.nil _ _, by rw [HP.o]; simp; omega, Below.refl _ _⟩
    · have h2 : 2 ≤ ls.length := by omega
      have hk := spl_lt ls.length h2
      have hk1 := spl_pos ls.length
      have hh := halves_any b o ls.length cap h2 hcap hc w
      have e1 : (ls.take (spl ls.length)).length = spl ls.length := by rw [List.length_take]; omega
      have e2 : (ls.drop (spl ls.length)).length = ls.length - spl ls.length := by rw [List.length_drop]
      have hge := ht.2.2
      have r1 : ∀ W, Below w.heap.size w W → Calls Tryd.prog 26 #[.slice (some ⟨b, o, none⟩) (spl ls.length) cap] W fun e w' => e = .returned (.string (rootB (ls.take (spl ls.length)))) ∧ Below W.heap.size W w' := fun W hW => by
        have := root_any (ls.take (spl ls.length)) b o cap W (by omega) (by omega) hc (hS.take _) (ht.below hW hge) ((hA.take _).below hW)
        rwa [e1] at this
      have r2 : ∀ W, Below w.heap.size w W → Calls Tryd.prog 26 #[.slice (some ⟨b, o + spl ls.length, none⟩) (ls.length - spl ls.length) (cap - spl ls.length)] W fun e w' => e = .returned (.string (rootB (ls.drop (spl ls.length)))) ∧ Below W.heap.size W w' := fun W hW => by
        have := root_any (ls.drop (spl ls.length)) b (o + spl ls.length) (cap - spl ls.length) W (by omega) (by omega) (by omega) (hS.drop _) (ht.below hW hge) ((hA.drop _).below hW)
        rwa [e2] at this
      obtain ⟨i0, hinf, hz0, hz1, hz2⟩ := info_parts infoStr
      by_cases hik : i < spl ls.length
      · have HP : Shut (pathR ls i = rootB (ls.drop (spl ls.length)) :: pathR (ls.take (spl ls.length)) i) := ⟨by rw [pathR, dif_neg (by omega), if_pos hik]⟩
        have c1 : ∀ W, Below w.heap.size w W → Calls Tryd.prog 40 #[.slice (some ⟨b, o, none⟩) (spl ls.length) cap, .int .i64 i] W fun e w' => ∃ v, e = .returned v ∧ OwnS w' W.heap.size v (pathR (ls.take (spl ls.length)) i).reverse ∧ (pathR (ls.take (spl ls.length)) i).length + 1 ≤ spl ls.length ∧ Below W.heap.size W w' := fun W hW => by
          have := ih (ls.take (spl ls.length)) i b o cap W (by omega) (by omega) (by omega) (by omega) hc (hS.take _) (ht.below hW hge) ((hA.take _).below hW)
          rwa [e1] at this
        clear ht hA hS ih e1 e2 r1
        generalize rootB (ls.drop (spl ls.length)) = rt at *
        generalize pathR (ls.take (spl ls.length)) i = pr at *
        generalize spl ls.length = k at *
        go_enter Tryd.func40, Tryd.ntmps40
        go_wp2_with (first | (go_at_call 44; refine hh.mono ?_; rintro e w1 ⟨rfl, m, rfl⟩) | (go_at_call 40; refine (c1 _ (below_drewN (Below.refl _ w) _)).mono ?_; rintro e w1 ⟨v, rfl, hO1, hpl, hB1⟩; have hB1' : Below w.heap.size w w1 := (below_drewN (Below.refl _ w) _).trans hB1) | (go_at_call 26; refine (r2 _ hB1').mono ?_; rintro e w2 ⟨rfl, hB2⟩; have hB2' := hB1'.trans (hB2.mono hB1'.size); have hO2 := hO1.below hB2) | (at_builtin; go_must (refine wpList_append_own _ rfl _ _ 26 rfl w.heap.size 9 i0 (.string ⟨#[]⟩) 1 16 Tryd.underlying26 hinf hz0 hz1 hz2 rfl (by decide) _ _ _ rfl (World.ownsRow.alloc hO2 _) ⟨w2.heap.size, 0, none⟩ 1 1 [.string rt] rfl rfl (cell_one_new _ _ _) (by simp [Value.oneCell']) (by unfold maxLen; simp; omega) (by simp; omega) (by have := hB2'.size; simp; omega) ?_); intro v' w3 hown' hgrow _))
        go_ret
        refine ⟨v', rfl, by rw [HP.o, List.reverse_cons]; exact OwnS.snoc hown', by rw [HP.o]; simp; omega, ?_⟩
        exact below_append (hB2'.alloc hB2'.size _) (Nat.le_refl _) (World.ownsRow.alloc hO2 _) hgrow
      · have HP : Shut (pathR ls i = rootB (ls.take (spl ls.length)) :: pathR (ls.drop (spl ls.length)) (i - spl ls.length)) := ⟨by rw [pathR, dif_neg (by omega), if_neg hik]⟩
        have c1 : ∀ W, Below w.heap.size w W → Calls Tryd.prog 40 #[.slice (some ⟨b, o + spl ls.length, none⟩) (ls.length - spl ls.length) (cap - spl ls.length), .int .i64 ((i : Int) - (spl ls.length : Int))] W fun e w' => ∃ v, e = .returned v ∧ OwnS w' W.heap.size v (pathR (ls.drop (spl ls.length)) (i - spl ls.length)).reverse ∧ (pathR (ls.drop (spl ls.length)) (i - spl ls.length)).length + 1 ≤ ls.length - spl ls.length ∧ Below W.heap.size W w' := fun W hW => by
          have := ih (ls.drop (spl ls.length)) (i - spl ls.length) b (o + spl ls.length) (cap - spl ls.length) W (by omega) (by omega) (by omega) (by omega) (by omega) (hS.drop _) (ht.below hW hge) ((hA.drop _).below hW)
          rwa [e2, show ((i - spl ls.length : Nat) : Int) = (i : Int) - (spl ls.length : Int) by omega] at this
        clear ht hA hS ih e1 e2 r2
        generalize rootB (ls.take (spl ls.length)) = rt at *
        generalize pathR (ls.drop (spl ls.length)) (i - spl ls.length) = pr at *
        generalize spl ls.length = k at *
        go_enter Tryd.func40, Tryd.ntmps40
        go_wp2_with (first | (go_at_call 44; refine hh.mono ?_; rintro e w1 ⟨rfl, m, rfl⟩) | (go_at_call 40; refine (c1 _ (below_drewN (Below.refl _ w) _)).mono ?_; rintro e w1 ⟨v, rfl, hO1, hpl, hB1⟩; have hB1' : Below w.heap.size w w1 := (below_drewN (Below.refl _ w) _).trans hB1) | (go_at_call 26; refine (r1 _ hB1').mono ?_; rintro e w2 ⟨rfl, hB2⟩; have hB2' := hB1'.trans (hB2.mono hB1'.size); have hO2 := hO1.below hB2) | (at_builtin; go_must (refine wpList_append_own _ rfl _ _ 26 rfl w.heap.size 9 i0 (.string ⟨#[]⟩) 1 16 Tryd.underlying26 hinf hz0 hz1 hz2 rfl (by decide) _ _ _ rfl (World.ownsRow.alloc hO2 _) ⟨w2.heap.size, 0, none⟩ 1 1 [.string rt] rfl rfl (cell_one_new _ _ _) (by simp [Value.oneCell']) (by unfold maxLen; simp; omega) (by simp; omega) (by have := hB2'.size; simp; omega) ?_); intro v' w3 hown' hgrow _))
        go_ret
        refine ⟨v', rfl, by rw [HP.o, List.reverse_cons]; exact OwnS.snoc hown', by rw [HP.o]; simp; omega, ?_⟩
        exact below_append (hB2'.alloc hB2'.size _) (Nat.le_refl _) (World.ownsRow.alloc hO2 _) hgrow

set_option maxHeartbeats 2000000 in
theorem part_ind : ∀ (N : Nat) (ls : List ByteArray) (mm : Nat) (whole : Bool) (b o cap : Nat) (w : World), ls.length ≤ N → 1 ≤ mm → mm ≤ ls.length → ls.length ≤ 1000 → ls.length ≤ cap → cap ≤ 9223372036854775807 → Small ls → Tab w → SA w b o ls →
    Calls Tryd.prog 42 #[.slice (some ⟨b, o, none⟩) ls.length cap, .int .i64 mm, .bool whole] w fun e w' => ∃ v, e = .returned v ∧ OwnS w' w.heap.size v (partR ls mm whole).reverse ∧ (partR ls mm whole).length ≤ ls.length ∧ Below w.heap.size w w' := by
  intro N
  induction N with
  | zero => intro ls mm whole b o cap w h1 h2; omega
  | succ N ih =>
    intro ls mm whole b o cap w hN h1 hml hth hcap hc hS ht hA
    by_cases hl : mm = ls.length
    · have hl' : ((mm : Int) = (ls.length : Int)) := by omega
      cases whole with
      | true =>
        have HP : Shut (partR ls mm true = []) := ⟨by rw [partR, dif_pos (by omega)]; rfl⟩
        clear ht hA hS ih
        go_enter Tryd.func42, Tryd.ntmps42
        go_wp2
        go_ret
        exact ⟨_, rfl, by rw [HP.o]; exact OwnS.nil _ _, by rw [HP.o]; simp, Below.refl _ _⟩
      | false =>
        have HP : Shut (partR ls mm false = [rootB ls]) := ⟨by rw [partR, dif_pos (by omega)]; rfl⟩
        have c := root_any ls b o cap w (by omega) hcap hc hS ht hA
        clear ht hA hS ih
        go_enter Tryd.func42, Tryd.ntmps42
        go_wp2_with (go_at_call 26; refine c.mono ?_; rintro e w1 ⟨rfl, hB1⟩)
        go_ret
        refine ⟨_, rfl, ?_, by rw [HP.o]; simp; omega, hB1.alloc hB1.size _⟩
        rw [HP.o]
        exact OwnS.one w1 _ _ hB1.size
    · have h2 : 2 ≤ ls.length := by omega
      have hne : ¬ ((mm : Int) = (ls.length : Int)) := by omega
      have hk := spl_lt ls.length h2
      have hk1 := spl_pos ls.length
      have hh := halves_any b o ls.length cap h2 hcap hc w
      have e1 : (ls.take (spl ls.length)).length = spl ls.length := by rw [List.length_take]; omega
      have e2 : (ls.drop (spl ls.length)).length = ls.length - spl ls.length := by rw [List.length_drop]
      have hge := ht.2.2
      have r1 : ∀ W, Below w.heap.size w W → Calls Tryd.prog 26 #[.slice (some ⟨b, o, none⟩) (spl ls.length) cap] W fun e w' => e = .returned (.string (rootB (ls.take (spl ls.length)))) ∧ Below W.heap.size W w' := fun W hW => by
        have := root_any (ls.take (spl ls.length)) b o cap W (by omega) (by omega) hc (hS.take _) (ht.below hW hge) ((hA.take _).below hW)
        rwa [e1] at this
      have r2 : ∀ W, Below w.heap.size w W → Calls Tryd.prog 26 #[.slice (some ⟨b, o + spl ls.length, none⟩) (ls.length - spl ls.length) (cap - spl ls.length)] W fun e w' => e = .returned (.string (rootB (ls.drop (spl ls.length)))) ∧ Below W.heap.size W w' := fun W hW => by
        have := root_any (ls.drop (spl ls.length)) b (o + spl ls.length) (cap - spl ls.length) W (by omega) (by omega) (by omega) (hS.drop _) (ht.below hW hge) ((hA.drop _).below hW)
        rwa [e2] at this
      obtain ⟨i0, hinf, hz0, hz1, hz2⟩ := info_parts infoStr
      by_cases hik : mm ≤ spl ls.length
      · have HP : Shut (partR ls mm whole = rootB (ls.drop (spl ls.length)) :: partR (ls.take (spl ls.length)) mm whole) := ⟨by rw [partR, dif_neg (by omega), if_pos hik]⟩
        have c1 : ∀ W, Below w.heap.size w W → Calls Tryd.prog 42 #[.slice (some ⟨b, o, none⟩) (spl ls.length) cap, .int .i64 mm, .bool whole] W fun e w' => ∃ v, e = .returned v ∧ OwnS w' W.heap.size v (partR (ls.take (spl ls.length)) mm whole).reverse ∧ (partR (ls.take (spl ls.length)) mm whole).length ≤ spl ls.length ∧ Below W.heap.size W w' := fun W hW => by
          have := ih (ls.take (spl ls.length)) mm whole b o cap W (by omega) h1 (by omega) (by omega) (by omega) hc (hS.take _) (ht.below hW hge) ((hA.take _).below hW)
          rwa [e1] at this
        clear ht hA hS ih e1 e2 r1
        generalize rootB (ls.drop (spl ls.length)) = rt at *
        generalize partR (ls.take (spl ls.length)) mm whole = pr at *
        generalize spl ls.length = k at *
        go_enter Tryd.func42, Tryd.ntmps42
        go_wp2_with (first | (go_at_call 44; refine hh.mono ?_; rintro e w1 ⟨rfl, m, rfl⟩) | (go_at_call 42; refine (c1 _ (below_drewN (Below.refl _ w) _)).mono ?_; rintro e w1 ⟨v, rfl, hO1, hpl, hB1⟩; have hB1' : Below w.heap.size w w1 := (below_drewN (Below.refl _ w) _).trans hB1) | (go_at_call 26; refine (r2 _ hB1').mono ?_; rintro e w2 ⟨rfl, hB2⟩; have hB2' := hB1'.trans (hB2.mono hB1'.size); have hO2 := hO1.below hB2) | (at_builtin; go_must (refine wpList_append_own _ rfl _ _ 26 rfl w.heap.size 9 i0 (.string ⟨#[]⟩) 1 16 Tryd.underlying26 hinf hz0 hz1 hz2 rfl (by decide) _ _ _ rfl (World.ownsRow.alloc hO2 _) ⟨w2.heap.size, 0, none⟩ 1 1 [.string rt] rfl rfl (cell_one_new _ _ _) (by simp [Value.oneCell']) (by unfold maxLen; simp; omega) (by simp; omega) (by have := hB2'.size; simp; omega) ?_); intro v' w3 hown' hgrow _))
        go_ret
        refine ⟨v', rfl, by rw [HP.o, List.reverse_cons]; exact OwnS.snoc hown', by rw [HP.o]; simp; omega, ?_⟩
        exact below_append (hB2'.alloc hB2'.size _) (Nat.le_refl _) (World.ownsRow.alloc hO2 _) hgrow
      · have HP : Shut (partR ls mm whole = rootB (ls.take (spl ls.length)) :: partR (ls.drop (spl ls.length)) (mm - spl ls.length) false) := ⟨by rw [partR, dif_neg (by omega), if_neg hik]⟩
        have c1 : ∀ W, Below w.heap.size w W → Calls Tryd.prog 42 #[.slice (some ⟨b, o + spl ls.length, none⟩) (ls.length - spl ls.length) (cap - spl ls.length), .int .i64 ((mm : Int) - (spl ls.length : Int)), .bool false] W fun e w' => ∃ v, e = .returned v ∧ OwnS w' W.heap.size v (partR (ls.drop (spl ls.length)) (mm - spl ls.length) false).reverse ∧ (partR (ls.drop (spl ls.length)) (mm - spl ls.length) false).length ≤ ls.length - spl ls.length ∧ Below W.heap.size W w' := fun W hW => by
          have := ih (ls.drop (spl ls.length)) (mm - spl ls.length) false b (o + spl ls.length) (cap - spl ls.length) W (by omega) (by omega) (by omega) (by omega) (by omega) (by omega) (hS.drop _) (ht.below hW hge) ((hA.drop _).below hW)
          rwa [e2, show ((mm - spl ls.length : Nat) : Int) = (mm : Int) - (spl ls.length : Int) by omega] at this
        clear ht hA hS ih e1 e2 r2
        generalize rootB (ls.take (spl ls.length)) = rt at *
        generalize partR (ls.drop (spl ls.length)) (mm - spl ls.length) false = pr at *
        generalize spl ls.length = k at *
        go_enter Tryd.func42, Tryd.ntmps42
        go_wp2_with (first | (go_at_call 44; refine hh.mono ?_; rintro e w1 ⟨rfl, m, rfl⟩) | (go_at_call 42; refine (c1 _ (below_drewN (Below.refl _ w) _)).mono ?_; rintro e w1 ⟨v, rfl, hO1, hpl, hB1⟩; have hB1' : Below w.heap.size w w1 := (below_drewN (Below.refl _ w) _).trans hB1) | (go_at_call 26; refine (r1 _ hB1').mono ?_; rintro e w2 ⟨rfl, hB2⟩; have hB2' := hB1'.trans (hB2.mono hB1'.size); have hO2 := hO1.below hB2) | (at_builtin; go_must (refine wpList_append_own _ rfl _ _ 26 rfl w.heap.size 9 i0 (.string ⟨#[]⟩) 1 16 Tryd.underlying26 hinf hz0 hz1 hz2 rfl (by decide) _ _ _ rfl (World.ownsRow.alloc hO2 _) ⟨w2.heap.size, 0, none⟩ 1 1 [.string rt] rfl rfl (cell_one_new _ _ _) (by simp [Value.oneCell']) (by unfold maxLen; simp; omega) (by simp; omega) (by have := hB2'.size; simp; omega) ?_); intro v' w3 hown' hgrow _))
        go_ret
        refine ⟨v', rfl, by rw [HP.o, List.reverse_cons]; exact OwnS.snoc hown', by rw [HP.o]; simp; omega, ?_⟩
        exact below_append (hB2'.alloc hB2'.size _) (Nat.le_refl _) (World.ownsRow.alloc hO2 _) hgrow

/-! Proof, Extension: outside and inside -/
set_option maxHeartbeats 400000 in
theorem proof_out (p : Option Addr) (n cap : Nat) (i : Int) (hi : i < 0 ∨ (n : Int) ≤ i) (w : World) :
    Calls Tryd.prog 21 #[.slice p n cap, .int .i64 i] w fun e w' => e = .returned (.tuple #[.slice none 0 0, .int .i64 2]) ∧ w = w' := by
  by_cases h0 : i < 0
  · clear hi
    go_enter Tryd.func21, Tryd.ntmps21
    go_wp2
    go_ret2
    exact ⟨rfl, rfl⟩
  · have h1 : (n : Int) ≤ i := by omega
    clear hi
    go_enter Tryd.func21, Tryd.ntmps21
    go_wp2
    go_ret2
    exact ⟨rfl, rfl⟩
set_option maxHeartbeats 400000 in
theorem proof_in (ls : List ByteArray) (i b o cap : Nat) (w : World) (hi : i < ls.length) (hth : ls.length ≤ 1000) (hcap : ls.length ≤ cap) (hc : cap ≤ 9223372036854775807) (hS : Small ls) (ht : Tab w) (hA : SA w b o ls) :
    Calls Tryd.prog 21 #[.slice (some ⟨b, o, none⟩) ls.length cap, .int .i64 i] w fun e w' => ∃ v, e = .returned (.tuple #[v, .int .i64 0]) ∧ OwnS w' w.heap.size v (pathR ls i).reverse ∧ Below w.heap.size w w' := by
  have c := path_ind ls.length ls i b o cap w (Nat.le_refl _) hi hth hcap hc hS ht hA
  clear ht hA hS
  go_enter Tryd.func21, Tryd.ntmps21
  go_wp2_with (go_at_call 40; refine c.mono ?_; rintro e w1 ⟨v, rfl, hO, _, hB⟩)
  go_ret2
  exact ⟨_, rfl, hO, hB⟩
set_option maxHeartbeats 400000 in
theorem ext_out (p : Option Addr) (n cap : Nat) (i : Int) (hi : i < 0 ∨ (n : Int) < i) (w : World) :
    Calls Tryd.prog 23 #[.slice p n cap, .int .i64 i] w fun e w' => e = .returned (.tuple #[.slice none 0 0, .int .i64 2]) ∧ w = w' := by
  by_cases h0 : i < 0
  · clear hi
    go_enter Tryd.func23, Tryd.ntmps23
    go_wp2
    go_ret2
    exact ⟨rfl, rfl⟩
  · have h1 : (n : Int) < i := by omega
    clear hi
    go_enter Tryd.func23, Tryd.ntmps23
    go_wp2
    go_ret2
    exact ⟨rfl, rfl⟩
set_option maxHeartbeats 400000 in
theorem ext_zero (p : Option Addr) (n cap : Nat) (w : World) :
    Calls Tryd.prog 23 #[.slice p n cap, .int .i64 0] w fun e w' => e = .returned (.tuple #[.slice none 0 0, .int .i64 0]) ∧ w = w' := by
  go_enter Tryd.func23, Tryd.ntmps23
  go_wp2
  go_ret2
  exact ⟨rfl, rfl⟩
/-- the extension, its last element first -/
def extR (ls : List ByteArray) (m : Nat) : List ByteArray := if m = 0 then [] else partR ls m true
set_option maxHeartbeats 400000 in
theorem ext_in (ls : List ByteArray) (mm b o cap : Nat) (p : Option Addr) (hp : 1 ≤ ls.length → p = some ⟨b, o, none⟩) (w : World) (hm : mm ≤ ls.length) (hth : ls.length ≤ 1000) (hcap : ls.length ≤ cap) (hc : cap ≤ 9223372036854775807) (hS : Small ls) (ht : Tab w) (hA : SA w b o ls) :
    Calls Tryd.prog 23 #[.slice p ls.length cap, .int .i64 mm] w fun e w' => ∃ v, e = .returned (.tuple #[v, .int .i64 0]) ∧ OwnS w' w.heap.size v (extR ls mm).reverse ∧ Below w.heap.size w w' := by
  by_cases h0 : mm = 0
  · subst h0
    exact (ext_zero p ls.length cap w).mono fun e w' ⟨he, hw⟩ => ⟨_, he, by rw [extR, if_pos rfl]; exact OwnS.nil _ _, by rw [← hw]; exact Below.refl _ _⟩
  · obtain rfl := hp (by omega)
    have c := part_ind ls.length ls mm true b o cap w (Nat.le_refl _) (by omega) hm hth hcap hc hS ht hA
    have hne : ¬ ((mm : Int) = 0) := by omega
    have HE : Shut (extR ls mm = partR ls mm true) := ⟨by rw [extR, if_neg h0]⟩
    clear ht hA hS
    go_enter Tryd.func23, Tryd.ntmps23
    go_wp2_with (go_at_call 42; refine c.mono ?_; rintro e w1 ⟨v, rfl, hO, _, hB⟩)
    go_ret2
    exact ⟨_, rfl, by rw [HE.o]; exact hO, hB⟩
end Go.Proofs.YtnceemdemjjhlaaDoor
