/-
  The contract of sides.
-/
import Derived.Test.YtnceemdemjjhlaaDoorDigSides
namespace Go.Proofs.YtnceemdemjjhlaaDoor
open Go.RowKit

/-- a list of strings that a callee returns: nil where it is empty -/
def OwnN (W : World) (B : Nat) (v : Value) (xs : List ByteArray) : Prop := (xs = [] → v = .slice none 0 0) ∧ OwnS W B v xs
theorem OwnN.below {W W' : World} {B : Nat} {v : Value} {xs : List ByteArray} (h : OwnN W B v xs) (hb : Below W.heap.size W W') : OwnN W' B v xs := ⟨h.1, h.2.below hb⟩
theorem OwnN.nil (W : World) (B : Nat) : OwnN W B (.slice none 0 0) [] := ⟨fun _ => rfl, OwnS.nil W B⟩
theorem OwnN.of {W : World} {B : Nat} {v : Value} {x : ByteArray} {xs : List ByteArray} (h : OwnS W B v (x :: xs)) : OwnN W B v (x :: xs) := ⟨fun h => (by cases h), h⟩

set_option maxRecDepth 100000 in
set_option maxHeartbeats 4000000 in
theorem sides_ind (old : ByteArray) (ho : old.size = 32) (ps : List ByteArray) (hps : ps.length ≤ 1000) (hP : ∀ x ∈ ps, x.size = 32) (b o cap : Nat) (hcap : ps.length ≤ cap) :
    ∀ (c m n : Nat) (wh : Bool) (p : Option Addr) (w : World), c ≤ ps.length → 1 ≤ m → m ≤ n → n ≤ 9223372036854775807 → (1 ≤ c → p = some ⟨b, o, none⟩) → Tab w → SA w b o ps → (valuesR old (ps.take c).reverse m n wh).2.2 = true →
    Calls Tryd.prog 34 #[.string old, .int .i64 m, .int .i64 n, .slice p c cap, .bool wh] w fun e w' => ∃ v, e = .returned (.tuple #[v, .string (valuesR old (ps.take c).reverse m n wh).2.1]) ∧ OwnN w' w.heap.size v (sidesR old (ps.take c).reverse m n wh) ∧ Below w.heap.size w w' := by
  intro c
  induction c with
  | zero =>
    intro m n wh p w hm h1 hmn hn hp ht hA hok
    have e : (ps.take 0).reverse = [] := rfl
    rw [e] at hok ⊢
    have hw : m = n ∧ wh = true := by
      rw [valuesR] at hok; split at hok
      · assumption
      · cases hok
    rw [valuesR, if_pos hw, sidesR]
    obtain ⟨rfl, rfl⟩ := hw
    clear ht hA hp hP hok e
    go_enter Tryd.func34, Tryd.ntmps34
    go_wp2
    go_ret2
    exact ⟨_, rfl, OwnN.nil _ _, Below.refl _ _⟩
  | succ c ih =>
    intro m n wh p w hm h1 hmn hn hp ht hA hok
    obtain rfl := hp (by omega)
    have hlt : c < ps.length := by omega
    have hre := rev_take ps c hlt
    rw [hre] at hok ⊢
    have hc1 : ¬ (m = n ∧ wh = true) := by intro h; rw [valuesR, if_pos h] at hok; cases hok
    have hxs : ps[c].size = 32 := hP _ (List.getElem_mem hlt)
    have hcell := hA c hlt
    have hge := ht.2.2
    have hl1 : ((ps.take c).reverse).length = c := by simp; omega
    rw [valuesR, if_neg hc1] at hok
    rw [valuesR, if_neg hc1, sidesR]
    by_cases hq : m = n
    · rw [if_pos hq] at hok ⊢
      rw [if_pos hq]
      have hwf : wh = false := by
        cases wh with
        | false => rfl
        | true => exact absurd ⟨hq, rfl⟩ hc1
      have hc0 : c = 0 := by
        have : ((ps.take c).reverse) = [] := by simpa using hok
        rw [this] at hl1; exact hl1.symm
      subst hq; subst hwf; subst hc0
      clear ht hA hp hP ih hre hok hl1 hc1
      generalize ps[0] = x at *
      have hcell0 : w.cell? ⟨b, o, none⟩ = some (.string x) := hcell
      go_enter Tryd.func34, Tryd.ntmps34
      go_wp2
      go_region
      go_wp2
      go_ret2
      exact ⟨_, rfl, OwnN.nil _ _, below_drewN (Below.refl _ _) 1⟩
    · rw [if_neg hq] at hok ⊢
      rw [if_neg hq]
      have hge1 : ¬ ((n : Int) ≤ (m : Int)) := by omega
      have hm0 : (((c : Int) + 1) == 0) = false := by rw [beq_eq_false_iff_ne]; omega
      have csp := lawleft_any n (by omega) hn
      have hk1 := spl_lt n (by omega)
      have hk0 := spl_pos n
      have HT : Shut _ := ⟨ht⟩
      obtain ⟨i0, hinf, hz0, hz1, hz2⟩ := info_parts infoStr
      have hPr : ∀ x ∈ (ps.take c).reverse, x.size = 32 := fun x hx => hP x (List.mem_of_mem_take (List.mem_reverse.1 hx))
      by_cases hik : m ≤ spl n
      · rw [if_pos hik] at hok ⊢
        rw [if_pos hik]
        have cr : ∀ W, Below w.heap.size w W → _ := fun W hW => ih m (spl n) wh (some ⟨b, o, none⟩) W (by omega) (by omega) (by omega) (by omega) (fun _ => rfl) (ht.below hW hge) (hA.below hW) hok
        have hz := vals_32 old ho _ hPr _ _ _ hok
        have hwl := sidesR_len old (ps.take c).reverse m (spl n) wh
        rw [hl1] at hwl
        clear ht hA hP hPr ih hre hok hl1 hc1
        generalize ps[c] = x at *
        generalize (valuesR old (ps.take c).reverse m (spl n) wh).2.1 = v at *
        generalize sidesR old (ps.take c).reverse m (spl n) wh = wl at *
        generalize spl n = k at *
        have h1s : (⟨#[1]⟩ : ByteArray).size = 1 := rfl
        have h65 : (⟨#[1]⟩ ++ v : ByteArray).size ≤ 1000 := by rw [ByteArray.size_append]; omega
        have hwl' : 1 ≤ wl.length ∨ wl = [] := by
          cases wl with
          | nil => exact .inr rfl
          | cons a l => exact .inl (by simp)
        rcases hwl' with hne | rfl
        · obtain ⟨lw, hlw⟩ : ∃ lw, lw = wl.length := ⟨_, rfl⟩
          go_enter Tryd.func34, Tryd.ntmps34
          go_wp2_with (first | (go_at_call 35; refine (csp _).mono ?_; rintro e w1 ⟨rfl, rfl⟩) | (go_at_call 34; refine (cr _ (Below.refl _ w)).mono ?_; rintro e w1 ⟨vv, rfl, hO1, hB1⟩; obtain ⟨pw, cw, gw, rfl, hpw, hAw, hcw, hmw⟩ := hO1.2.open) | (at_builtin; obtain ⟨rfl, _⟩ := hpw (by omega); go_must (refine wpList_append_own _ rfl _ _ 26 rfl w.heap.size 9 i0 (.string ⟨#[]⟩) 1 16 Tryd.underlying26 hinf hz0 hz1 hz2 rfl (by decide) _ _ _ rfl (OwnS.one w1 w.heap.size _ hB1.size) ⟨gw, 0, none⟩ wl.length cw (wl.map Value.string) rfl (by rw [List.length_map, Nat.mul_one]) (SA.news hAw _) (strs_one wl) (by unfold maxLen; simp only [List.length_cons, List.length_nil]; omega) (by simp only [List.length_cons, List.length_nil]; omega) (by rw [World.size_alloc]; have := hB1.size; omega) ?_); intro v' w3 hown' hgrow _; have hB3 := below_append (hB1.alloc hB1.size _) (Nat.le_refl _) (OwnS.one w1 w.heap.size _ hB1.size) hgrow) | (go_at_call 16; refine (node_any v x (by omega) (by omega) _ (HT.o.below hB3 hge)).mono ?_; rintro e w4 ⟨rfl, hB4⟩))
          go_ret2
          exact ⟨_, rfl, OwnN.of ((OwnS.cons rfl hown').below hB4), hB3.trans (hB4.mono hB3.size)⟩
        · go_enter Tryd.func34, Tryd.ntmps34
          go_wp2_with (first | (go_at_call 35; refine (csp _).mono ?_; rintro e w1 ⟨rfl, rfl⟩) | (go_at_call 34; refine (cr _ (Below.refl _ w)).mono ?_; rintro e w1 ⟨vv, rfl, hO1, hB1⟩; obtain rfl := hO1.1 rfl) | (at_builtin; go_must (refine wpList_append_own_none rfl _ _ 26 rfl w.heap.size 9 i0 1 Tryd.underlying26 hinf _ _ _ rfl (OwnS.one w1 w.heap.size _ hB1.size) rfl ?_); have hB3 := hB1.alloc hB1.size (.cells #[.string (⟨#[1]⟩ ++ v ++ x)] 9)) | (go_at_call 16; refine (node_any v x (by omega) (by omega) _ (HT.o.below hB3 hge)).mono ?_; rintro e w4 ⟨rfl, hB4⟩))
          go_ret2
          exact ⟨_, rfl, OwnN.of ((OwnS.one w1 w.heap.size _ hB1.size).below hB4), hB3.trans (hB4.mono hB3.size)⟩
      · rw [if_neg hik] at hok ⊢
        rw [if_neg hik]
        have cr : ∀ W, Below w.heap.size w W → _ := fun W hW => ih (m - spl n) (n - spl n) false (some ⟨b, o, none⟩) W (by omega) (by omega) (by omega) (by omega) (fun _ => rfl) (ht.below hW hge) (hA.below hW) hok
        have hz := vals_32 old ho _ hPr _ _ _ hok
        have hwl := sidesR_len old (ps.take c).reverse (m - spl n) (n - spl n) false
        rw [hl1] at hwl
        have en : ((n - spl n : Nat) : Int) = (n : Int) - (spl n : Int) := by omega
        have ei : ((m - spl n : Nat) : Int) = (m : Int) - (spl n : Int) := by omega
        rw [en, ei] at cr
        clear en ei
        clear ht hA hP hPr ih hre hok hl1 hc1
        generalize ps[c] = x at *
        generalize (valuesR old (ps.take c).reverse (m - spl n) (n - spl n) false).2.1 = v at *
        generalize sidesR old (ps.take c).reverse (m - spl n) (n - spl n) false = wl at *
        generalize spl n = k at *
        have h1s : (⟨#[1]⟩ : ByteArray).size = 1 := rfl
        have h65 : (⟨#[1]⟩ ++ x : ByteArray).size ≤ 1000 := by rw [ByteArray.size_append]; omega
        have hwl' : 1 ≤ wl.length ∨ wl = [] := by
          cases wl with
          | nil => exact .inr rfl
          | cons a l => exact .inl (by simp)
        rcases hwl' with hne | rfl
        · obtain ⟨lw, hlw⟩ : ∃ lw, lw = wl.length := ⟨_, rfl⟩
          go_enter Tryd.func34, Tryd.ntmps34
          go_wp2_with (first | (go_at_call 35; refine (csp _).mono ?_; rintro e w1 ⟨rfl, rfl⟩) | (go_at_call 34; refine (cr _ (Below.refl _ w)).mono ?_; rintro e w1 ⟨vv, rfl, hO1, hB1⟩; obtain ⟨pw, cw, gw, rfl, hpw, hAw, hcw, hmw⟩ := hO1.2.open) | (at_builtin; obtain ⟨rfl, _⟩ := hpw (by omega); go_must (refine wpList_append_own _ rfl _ _ 26 rfl w.heap.size 9 i0 (.string ⟨#[]⟩) 1 16 Tryd.underlying26 hinf hz0 hz1 hz2 rfl (by decide) _ _ _ rfl (OwnS.one w1 w.heap.size _ hB1.size) ⟨gw, 0, none⟩ wl.length cw (wl.map Value.string) rfl (by rw [List.length_map, Nat.mul_one]) (SA.news hAw _) (strs_one wl) (by unfold maxLen; simp only [List.length_cons, List.length_nil]; omega) (by simp only [List.length_cons, List.length_nil]; omega) (by rw [World.size_alloc]; have := hB1.size; omega) ?_); intro v' w3 hown' hgrow _; have hB3 := below_append (hB1.alloc hB1.size _) (Nat.le_refl _) (OwnS.one w1 w.heap.size _ hB1.size) hgrow) | (go_at_call 16; refine (node_any x v (by omega) (by omega) _ (HT.o.below hB3 hge)).mono ?_; rintro e w4 ⟨rfl, hB4⟩))
          go_ret2
          exact ⟨_, rfl, OwnN.of ((OwnS.cons rfl hown').below hB4), hB3.trans (hB4.mono hB3.size)⟩
        · go_enter Tryd.func34, Tryd.ntmps34
          go_wp2_with (first | (go_at_call 35; refine (csp _).mono ?_; rintro e w1 ⟨rfl, rfl⟩) | (go_at_call 34; refine (cr _ (Below.refl _ w)).mono ?_; rintro e w1 ⟨vv, rfl, hO1, hB1⟩; obtain rfl := hO1.1 rfl) | (at_builtin; go_must (refine wpList_append_own_none rfl _ _ 26 rfl w.heap.size 9 i0 1 Tryd.underlying26 hinf _ _ _ rfl (OwnS.one w1 w.heap.size _ hB1.size) rfl ?_); have hB3 := hB1.alloc hB1.size (.cells #[.string (⟨#[1]⟩ ++ x ++ v)] 9)) | (go_at_call 16; refine (node_any x v (by omega) (by omega) _ (HT.o.below hB3 hge)).mono ?_; rintro e w4 ⟨rfl, hB4⟩))
          go_ret2
          exact ⟨_, rfl, OwnN.of ((OwnS.one w1 w.heap.size _ hB1.size).below hB4), hB3.trans (hB4.mono hB3.size)⟩
end Go.Proofs.YtnceemdemjjhlaaDoor
