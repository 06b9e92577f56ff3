/-
  The contract of way.
-/
import Derived.Test.YtnceemdemjjhlaaDoorDigWay
import Derived.Laws.AppendOwnNone
namespace Go.Proofs.YtnceemdemjjhlaaDoor
open Go.RowKit

theorem SA.news {W : World} {b : Nat} {ls : List ByteArray} (h : SA W b 0 ls) (o : Obj) : ∀ j u, (ls.map Value.string)[j]? = some u → (W.alloc o).cell? ((⟨b, 0, none⟩ : Addr).add j) = some u := by
  intro j u hj
  rw [List.getElem?_map] at hj
  have hlt : j < ls.length := by
    rcases Nat.lt_or_ge j ls.length with h1 | h1
    · exact h1
    · rw [List.getElem?_eq_none h1] at hj; cases hj
  rw [List.getElem?_eq_getElem hlt] at hj
  cases hj
  rw [Addr.add_lit, Nat.zero_add]
  have h1 := h j hlt
  rw [Nat.zero_add] at h1
  exact (((Below.refl W.heap.size W).alloc (Nat.le_refl _) o).cell (p := ⟨b, j, none⟩) (World.block_lt_of_cell? W _ h1)).trans h1
theorem strs_one (ls : List ByteArray) : ∀ u ∈ ls.map Value.string, u.oneCell' = true := by
  intro u hu; simp only [List.mem_map] at hu; obtain ⟨x, _, rfl⟩ := hu; rfl
theorem OwnS.cons {W : World} {B : Nat} {v : Value} {x : ByteArray} {xs : List ByteArray} {n : Nat} (hn : xs.length = n) (h : W.ownsRow B 9 1 v (1 + n) ([.string x] ++ xs.map Value.string)) : OwnS W B v (x :: xs) := by
  unfold OwnS; rw [List.length_cons, hn, Nat.add_comm]; exact h
set_option maxRecDepth 100000 in
set_option maxHeartbeats 4000000 in
theorem way_ind (s : ByteArray) (hs : s.size ≤ 900) (ps : List ByteArray) (hps : ps.length ≤ 1000) (hP : ∀ x ∈ ps, x.size ≤ 900) (b o cap : Nat) (hcap : ps.length ≤ cap) :
    ∀ (m : Nat) (n i : Nat) (p : Option Addr) (w : World), m ≤ ps.length → 1 ≤ n → n ≤ 9223372036854775807 → i < n → (1 ≤ m → p = some ⟨b, o, none⟩) → Tab w → SA w b o ps → (valueR (ps.take m).reverse n i s).2 = true →
    Calls Tryd.prog 31 #[.int .i64 n, .int .i64 i, .string s, .slice p m cap] w fun e w' => ∃ v, e = .returned (.tuple #[v, .string (valueR (ps.take m).reverse n i s).1]) ∧ OwnS w' w.heap.size v (wayR (ps.take m).reverse n i s) ∧ Below w.heap.size w w' := by
  intro m
  induction m with
  | zero =>
    intro n i p w hm h1 hn hi hp ht hA hok
    have e : (ps.take 0).reverse = [] := rfl
    rw [e] at hok ⊢
    have hn1 : n = 1 := by
      rw [valueR] at hok; split at hok
      · assumption
      · cases hok
    have HV : Shut (valueR [] n i s = (leafB s, true)) := ⟨by rw [valueR, if_pos hn1]⟩
    have HW : Shut (wayR [] n i s = [⟨#[0]⟩ ++ s]) := ⟨by rw [wayR]⟩
    have c : ∀ W, Below w.heap.size w W → _ := fun W hW => leaf_any s (by omega) W (ht.below hW ht.2.2)
    have hn1' : ((n : Int) ≤ 1) := by omega
    clear ht hA hp hP hok e
    go_enter Tryd.func31, Tryd.ntmps31
    go_wp2_with (go_at_call 14; refine (c _ ((Below.refl _ w).alloc (Nat.le_refl _) _)).mono ?_; rintro e w1 ⟨rfl, hB⟩)
    go_ret2
    refine ⟨_, by rw [HV.o]; rfl, ?_, (((Below.refl _ w).alloc (Nat.le_refl _) _).trans (hB.mono (by rw [World.size_alloc]; omega)))⟩
    rw [HW.o]
    exact (OwnS.one w _ _ (Nat.le_refl _)).below hB
  | succ m ih =>
    intro n i p w hm h1 hn hi hp ht hA hok
    obtain rfl := hp (by omega)
    have hlt : m < ps.length := by omega
    have hre := rev_take ps m hlt
    rw [hre] at hok ⊢
    have hn1 : n ≠ 1 := by intro hn1; rw [valueR, if_pos hn1] at hok; cases hok
    have hn1' : ¬ ((n : Int) ≤ 1) := by omega
    have hm0 : (((m : Int) + 1) == 0) = false := by rw [beq_eq_false_iff_ne]; omega
    have hcell := hA m hlt
    have hxs : ps[m].size ≤ 900 := hP _ (List.getElem_mem hlt)
    have csp := lawleft_any n (by omega) hn
    have hk1 := spl_lt n (by omega)
    have hk0 := spl_pos n
    have hge := ht.2.2
    have HT : Shut _ := ⟨ht⟩
    have hl1 : ((ps.take m).reverse).length = m := by simp; omega
    obtain ⟨i0, hinf, hz0, hz1, hz2⟩ := info_parts infoStr
    rw [valueR, if_neg hn1] at hok
    rw [valueR, if_neg hn1, wayR]
    by_cases hik : i < spl n
    · rw [if_pos hik] at hok ⊢
      rw [if_pos hik]
      have cr : ∀ W, Below w.heap.size w W → _ := fun W hW => ih (spl n) i (some ⟨b, o, none⟩) W (by omega) hk0 (by omega) hik (fun _ => rfl) (ht.below hW hge) (hA.below hW) hok
      have hz := valueR_32 _ _ _ _ hok
      have hwl := wayR_len (ps.take m).reverse (spl n) i s
      rw [hl1] at hwl
      clear ht hA hP ih hre hok hl1
      generalize ps[m] = x at *
      generalize (valueR (ps.take m).reverse (spl n) i s).1 = v at *
      generalize wayR (ps.take m).reverse (spl n) i s = wl at *
      generalize spl n = k at *
      have h65 : (⟨#[1]⟩ ++ v : ByteArray).size ≤ 1000 := by rw [ByteArray.size_append, hz]; have : (⟨#[1]⟩ : ByteArray).size = 1 := rfl; omega
      have h1s : (⟨#[1]⟩ : ByteArray).size = 1 := rfl
      go_enter Tryd.func31, Tryd.ntmps31
      go_wp2_with (first | (go_at_call 35; refine (csp _).mono ?_; rintro e w1 ⟨rfl, rfl⟩) | (go_at_call 31; refine (cr _ (Below.refl _ w)).mono ?_; rintro e w1 ⟨vv, rfl, hO1, hB1⟩; obtain ⟨pw, cw, gw, rfl, hpw, hAw, hcw, hmw⟩ := hO1.open) | (at_builtin; obtain ⟨rfl, _⟩ := hpw (by omega); go_must (refine wpList_append_own _ rfl _ _ 26 rfl w.heap.size 9 i0 (.string ⟨#[]⟩) 1 16 Tryd.underlying26 hinf hz0 hz1 hz2 rfl (by decide) _ _ _ rfl (OwnS.one w1 w.heap.size _ hB1.size) ⟨gw, 0, none⟩ (m + 1) cw (wl.map Value.string) rfl (by rw [List.length_map, hwl, Nat.mul_one]) (SA.news hAw _) (strs_one wl) (by unfold maxLen; simp only [List.length_cons, List.length_nil]; omega) (by simp only [List.length_cons, List.length_nil]; omega) (by rw [World.size_alloc]; have := hB1.size; omega) ?_); intro v' w3 hown' hgrow _; have hB3 := below_append (hB1.alloc hB1.size _) (Nat.le_refl _) (OwnS.one w1 w.heap.size _ hB1.size) hgrow) | (go_at_call 16; refine (node_any v x (by omega) (by omega) _ (HT.o.below hB3 hge)).mono ?_; rintro e w4 ⟨rfl, hB4⟩))
      go_ret2
      exact ⟨_, rfl, (OwnS.cons hwl hown').below hB4, hB3.trans (hB4.mono hB3.size)⟩
    · rw [if_neg hik] at hok ⊢
      rw [if_neg hik]
      have cr : ∀ W, Below w.heap.size w W → _ := fun W hW => ih (n - spl n) (i - spl n) (some ⟨b, o, none⟩) W (by omega) (by omega) (by omega) (by omega) (fun _ => rfl) (ht.below hW hge) (hA.below hW) hok
      have hz := valueR_32 _ _ _ _ hok
      have hwl := wayR_len (ps.take m).reverse (n - spl n) (i - spl n) s
      rw [hl1] at hwl
      have en : ((n - spl n : Nat) : Int) = (n : Int) - (spl n : Int) := by omega
      have ei : ((i - spl n : Nat) : Int) = (i : Int) - (spl n : Int) := by omega
      rw [en, ei] at cr
      clear ht hA hP ih hre hok hl1 en ei
      generalize ps[m] = x at *
      generalize (valueR (ps.take m).reverse (n - spl n) (i - spl n) s).1 = v at *
      generalize wayR (ps.take m).reverse (n - spl n) (i - spl n) s = wl at *
      generalize spl n = k at *
      have h65 : (⟨#[1]⟩ ++ x : ByteArray).size ≤ 1000 := by rw [ByteArray.size_append]; have : (⟨#[1]⟩ : ByteArray).size = 1 := rfl; omega
      have h1s : (⟨#[1]⟩ : ByteArray).size = 1 := rfl
      go_enter Tryd.func31, Tryd.ntmps31
      go_wp2_with (first | (go_at_call 35; refine (csp _).mono ?_; rintro e w1 ⟨rfl, rfl⟩) | (go_at_call 31; refine (cr _ (Below.refl _ w)).mono ?_; rintro e w1 ⟨vv, rfl, hO1, hB1⟩; obtain ⟨pw, cw, gw, rfl, hpw, hAw, hcw, hmw⟩ := hO1.open) | (at_builtin; obtain ⟨rfl, _⟩ := hpw (by omega); go_must (refine wpList_append_own _ rfl _ _ 26 rfl w.heap.size 9 i0 (.string ⟨#[]⟩) 1 16 Tryd.underlying26 hinf hz0 hz1 hz2 rfl (by decide) _ _ _ rfl (OwnS.one w1 w.heap.size _ hB1.size) ⟨gw, 0, none⟩ (m + 1) cw (wl.map Value.string) rfl (by rw [List.length_map, hwl, Nat.mul_one]) (SA.news hAw _) (strs_one wl) (by unfold maxLen; simp only [List.length_cons, List.length_nil]; omega) (by simp only [List.length_cons, List.length_nil]; omega) (by rw [World.size_alloc]; have := hB1.size; omega) ?_); intro v' w3 hown' hgrow _; have hB3 := below_append (hB1.alloc hB1.size _) (Nat.le_refl _) (OwnS.one w1 w.heap.size _ hB1.size) hgrow) | (go_at_call 16; refine (node_any x v (by omega) (by omega) _ (HT.o.below hB3 hge)).mono ?_; rintro e w4 ⟨rfl, hB4⟩))
      go_ret2
      exact ⟨_, rfl, (OwnS.cons hwl hown').below hB4, hB3.trans (hB4.mono hB3.size)⟩
end Go.Proofs.YtnceemdemjjhlaaDoor
