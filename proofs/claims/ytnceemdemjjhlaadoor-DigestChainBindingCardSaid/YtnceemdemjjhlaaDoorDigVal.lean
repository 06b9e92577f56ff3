/-
  value and values.
-/
import Derived.Test.YtnceemdemjjhlaaDoorDigTree
namespace Go.Proofs.YtnceemdemjjhlaaDoor
open Go.RowKit

/-- the value of n, i and a proof (its last element first), and whether the proof has the right length -/
def valueR : List ByteArray → Nat → Nat → ByteArray → ByteArray × Bool
  | [], n, _, s => if n = 1 then (leafB s, true) else (⟨#[]⟩, false)
  | x :: q, n, i, s => if n = 1 then (leafB s, false) else if i < spl n then (nodeB (valueR q (spl n) i s).1 x, (valueR q (spl n) i s).2) else (nodeB x (valueR q (n - spl n) (i - spl n) s).1, (valueR q (n - spl n) (i - spl n) s).2)
theorem valueR_size (q : List ByteArray) : ∀ n i s, (valueR q n i s).1.size ≤ 32 := by
  cases q with
  | nil => intro n i s; rw [valueR]; split; simp [leaf_size]; exact Nat.zero_le _
  | cons x q => intro n i s; rw [valueR]; split <;> (try split) <;> simp [leaf_size, node_size]
theorem rev_take (ps : List ByteArray) (m : Nat) (h : m < ps.length) : (ps.take (m + 1)).reverse = ps[m] :: (ps.take m).reverse := by
  rw [List.take_succ_eq_append_getElem h, List.reverse_append]; rfl

set_option maxHeartbeats 2000000 in
theorem value_ind (s : ByteArray) (hs : s.size ≤ 100000) (ps : List ByteArray) (hP : Small ps) (b o cap : Nat) (hc : cap ≤ 9223372036854775807) (hcap : ps.length ≤ cap) :
    ∀ (m : Nat) (n i : Nat) (p : Option Addr) (w : World), m ≤ ps.length → 1 ≤ n → n ≤ 9223372036854775807 → i < n → (1 ≤ m → p = some ⟨b, o, none⟩) → Tab w → SA w b o ps →
    Calls Tryd.prog 46 #[.int .i64 n, .int .i64 i, .string s, .slice p m cap] w fun e w' => e = .returned (.tuple #[.string (valueR (ps.take m).reverse n i s).1, .bool (valueR (ps.take m).reverse n i s).2]) ∧ Below w.heap.size w w' := by
  intro m
  induction m with
  | zero =>
    intro n i p w hm h1 hn hi hp ht hA
    have c := leaf_any s hs w ht
    have HT : Shut _ := ⟨ht⟩
    clear ht hA hp hP
    by_cases hn1 : n = 1
    · have e : (ps.take 0).reverse = [] := rfl
      have HV : Shut (valueR (ps.take 0).reverse n i s = (leafB s, true)) := ⟨by rw [e, valueR, if_pos hn1]⟩
      go_enter Tryd.func46, Tryd.ntmps46
      go_wp2_with (go_at_call 14; refine c.mono ?_; rintro e w1 ⟨rfl, hB⟩)
      go_ret2
      exact ⟨by rw [HV.o]; rfl, hB⟩
    · have e : (ps.take 0).reverse = [] := rfl
      have HV : Shut (valueR (ps.take 0).reverse n i s = (⟨#[]⟩, false)) := ⟨by rw [e, valueR, if_neg hn1]⟩
      have hn1' : ¬ ((n : Int) = 1) := by omega
      go_enter Tryd.func46, Tryd.ntmps46
      go_wp2
      go_ret2
      exact ⟨by rw [HV.o]; rfl, Below.refl _ _⟩
  | succ m ih =>
    intro n i p w hm h1 hn hi hp ht hA
    obtain rfl := hp (by omega)
    have hlt : m < ps.length := by omega
    have hre := rev_take ps m hlt
    by_cases hn1 : n = 1
    · have c := leaf_any s hs w ht
      have HV : Shut (valueR (ps.take (m + 1)).reverse n i s = (leafB s, false)) := ⟨by rw [hre, valueR, if_pos hn1]⟩
      have HT : Shut _ := ⟨ht⟩
      clear ht hA hP ih hre
      go_enter Tryd.func46, Tryd.ntmps46
      go_wp2_with (go_at_call 14; refine c.mono ?_; rintro e w1 ⟨rfl, hB⟩)
      go_ret2
      exact ⟨by rw [HV.o]; rfl, hB⟩
    · have hn1' : ¬ ((n : Int) = 1) := by omega
      have hcell := hA m hlt
      have hxs : ps[m].size ≤ 1000 := hP _ (List.getElem_mem hlt)
      have csp := split_any n (by omega) hn
      have hk1 := spl_lt n (by omega)
      have hk0 := spl_pos n
      have hge := ht.2.2
      have HT : Shut _ := ⟨ht⟩
      by_cases hik : i < spl n
      · have HV : Shut (valueR (ps.take (m + 1)).reverse n i s = (nodeB (valueR (ps.take m).reverse (spl n) i s).1 ps[m], (valueR (ps.take m).reverse (spl n) i s).2)) := ⟨by rw [hre, valueR, if_neg hn1, if_pos hik]⟩
        have hz := valueR_size (ps.take m).reverse (spl n) i s
        have cr : ∀ W, Below w.heap.size w W → _ := fun W hW => ih (spl n) i (some ⟨b, o, none⟩) W (by omega) hk0 (by omega) hik (fun _ => rfl) (ht.below hW hge) (hA.below hW)
        clear ht hA hP ih hre
        generalize ps[m] = x at *
        generalize valueR (ps.take m).reverse (spl n) i s = r at *
        obtain ⟨v, ok⟩ := r
        simp only [] at hz cr HV
        generalize spl n = k at *
        go_enter Tryd.func46, Tryd.ntmps46
        go_wp2
        go_quiet ((go_at_call 52; refine Calls.quiet_of_same ((csp _).mono fun _ _ h => ⟨h.1, h.2.symm⟩)))
        go_wp2_with (first | (go_at_call 46; refine (cr _ (below_drewN (Below.refl _ w) _)).mono ?_; rintro e w1 ⟨rfl, hB1⟩; have hB1' : Below w.heap.size w w1 := (below_drewN (Below.refl _ w) _).trans hB1) | (go_at_call 16; refine (node_any v x (by omega) (by omega) _ (HT.o.below hB1' hge)).mono ?_; rintro e w3 ⟨rfl, hB3⟩))
        go_ret2
        exact ⟨by rw [HV.o]; rfl, hB1'.trans (hB3.mono hB1'.size)⟩
      · have HV : Shut (valueR (ps.take (m + 1)).reverse n i s = (nodeB ps[m] (valueR (ps.take m).reverse (n - spl n) (i - spl n) s).1, (valueR (ps.take m).reverse (n - spl n) (i - spl n) s).2)) := ⟨by rw [hre, valueR, if_neg hn1, if_neg hik]⟩
        have hz := valueR_size (ps.take m).reverse (n - spl n) (i - spl n) s
        have cr : ∀ W, Below w.heap.size w W → _ := fun W hW => ih (n - spl n) (i - spl n) (some ⟨b, o, none⟩) W (by omega) (by omega) (by omega) (by omega) (fun _ => rfl) (ht.below hW hge) (hA.below hW)
        have en : ((n - spl n : Nat) : Int) = (n : Int) - (spl n : Int) := by omega
        have ei : ((i - spl n : Nat) : Int) = (i : Int) - (spl n : Int) := by omega
        rw [en, ei] at cr
        clear ht hA hP ih hre en ei
        generalize ps[m] = x at *
        generalize valueR (ps.take m).reverse (n - spl n) (i - spl n) s = r at *
        obtain ⟨v, ok⟩ := r
        simp only [] at hz cr HV
        generalize spl n = k at *
        go_enter Tryd.func46, Tryd.ntmps46
        go_wp2
        go_quiet ((go_at_call 52; refine Calls.quiet_of_same ((csp _).mono fun _ _ h => ⟨h.1, h.2.symm⟩)))
        go_wp2_with (first | (go_at_call 46; refine (cr _ (below_drewN (Below.refl _ w) _)).mono ?_; rintro e w1 ⟨rfl, hB1⟩; have hB1' : Below w.heap.size w w1 := (below_drewN (Below.refl _ w) _).trans hB1) | (go_at_call 16; refine (node_any x v (by omega) (by omega) _ (HT.o.below hB1' hge)).mono ?_; rintro e w3 ⟨rfl, hB3⟩))
        go_ret2
        exact ⟨by rw [HV.o]; rfl, hB1'.trans (hB3.mono hB1'.size)⟩

/-- the two values of m, n, a proof (its last element first) and whole -/
def valuesR (old : ByteArray) : List ByteArray → Nat → Nat → Bool → ByteArray × ByteArray × Bool
  | [], m, n, whole => if m = n ∧ whole = true then (old, old, true) else (⟨#[]⟩, ⟨#[]⟩, false)
  | x :: q, m, n, whole => if m = n ∧ whole = true then (old, old, false) else if m = n then (x, x, q.isEmpty)
    else if m ≤ spl n then ((valuesR old q m (spl n) whole).1, nodeB (valuesR old q m (spl n) whole).2.1 x, (valuesR old q m (spl n) whole).2.2)
    else (nodeB x (valuesR old q (m - spl n) (n - spl n) false).1, nodeB x (valuesR old q (m - spl n) (n - spl n) false).2.1, (valuesR old q (m - spl n) (n - spl n) false).2.2)
theorem valuesR_size (old : ByteArray) (ho : old.size ≤ 1000) : ∀ (q : List ByteArray), Small q → ∀ m n whole, (valuesR old q m n whole).1.size ≤ 1000 ∧ (valuesR old q m n whole).2.1.size ≤ 1000 := by
  intro q
  induction q with
  | nil => intro _ m n w; rw [valuesR]; split; exact ⟨ho, ho⟩; exact ⟨Nat.zero_le _, Nat.zero_le _⟩
  | cons x q ih =>
    intro hS m n w
    have hx : x.size ≤ 1000 := hS x (by simp)
    have hq : Small q := fun s hs => hS s (by simp [hs])
    rw [valuesR]
    split
    · exact ⟨ho, ho⟩
    · split
      · exact ⟨hx, hx⟩
      · split
        · exact ⟨(ih hq _ _ _).1, by rw [node_size]; omega⟩
        · exact ⟨by rw [node_size]; omega, by rw [node_size]; omega⟩
theorem isEmpty_rev (ps : List ByteArray) (m : Nat) (h : m ≤ ps.length) : (ps.take m).reverse.isEmpty = decide (m = 0) := by
  rcases Nat.eq_zero_or_pos m with rfl | h0
  · rfl
  · have : (ps.take m).reverse ≠ [] := by intro e; have := congrArg List.length e; rw [List.length_reverse, List.length_take, List.length_nil] at this; omega
    rw [List.isEmpty_eq_false_iff.2 this]; simp; omega

set_option maxHeartbeats 2000000 in
theorem values_ind (old : ByteArray) (ho : old.size ≤ 1000) (ps : List ByteArray) (hP : Small ps) (b o cap : Nat) (hc : cap ≤ 9223372036854775807) (hcap : ps.length ≤ cap) :
    ∀ (l : Nat) (m n : Nat) (whole : Bool) (p : Option Addr) (w : World), l ≤ ps.length → 1 ≤ m → m ≤ n → n ≤ 9223372036854775807 → (1 ≤ l → p = some ⟨b, o, none⟩) → Tab w → SA w b o ps →
    Calls Tryd.prog 47 #[.int .i64 m, .int .i64 n, .string old, .slice p l cap, .bool whole] w fun e w' =>
      e = .returned (.tuple #[.string (valuesR old (ps.take l).reverse m n whole).1, .string (valuesR old (ps.take l).reverse m n whole).2.1, .bool (valuesR old (ps.take l).reverse m n whole).2.2]) ∧ Below w.heap.size w w' := by
  intro l
  induction l with
  | zero =>
    intro m n whole p w hl h1 hmn hn hp ht hA
    have e : (ps.take 0).reverse = [] := rfl
    clear ht hA hp hP
    by_cases hq : m = n ∧ whole = true
    · have HV : Shut (valuesR old (ps.take 0).reverse m n whole = (old, old, true)) := ⟨by rw [e, valuesR, if_pos hq]⟩
      obtain ⟨rfl, rfl⟩ := hq
      go_enter Tryd.func47, Tryd.ntmps47
      go_wp2
      go_ret3
      exact ⟨by rw [HV.o]; rfl, Below.refl _ _⟩
    · have HV : Shut (valuesR old (ps.take 0).reverse m n whole = (⟨#[]⟩, ⟨#[]⟩, false)) := ⟨by rw [e, valuesR, if_neg hq]⟩
      by_cases hmn' : m = n
      · obtain rfl : whole = false := by cases whole; rfl; exact absurd ⟨hmn', rfl⟩ hq
        subst hmn'
        clear hq
        go_enter Tryd.func47, Tryd.ntmps47
        go_wp2
        go_ret3
        exact ⟨by rw [HV.o]; rfl, Below.refl _ _⟩
      · have hne : ¬ ((m : Int) = (n : Int)) := by omega
        clear hq
        go_enter Tryd.func47, Tryd.ntmps47
        go_wp2
        go_ret3
        exact ⟨by rw [HV.o]; rfl, Below.refl _ _⟩
  | succ l ih =>
    intro m n whole p w hl h1 hmn hn hp ht hA
    obtain rfl := hp (by omega)
    have hlt : l < ps.length := by omega
    have hre := rev_take ps l hlt
    by_cases hq : m = n ∧ whole = true
    · have HV : Shut (valuesR old (ps.take (l + 1)).reverse m n whole = (old, old, false)) := ⟨by rw [hre, valuesR, if_pos hq]⟩
      obtain ⟨rfl, rfl⟩ := hq
      clear ht hA hp hP ih hre
      go_enter Tryd.func47, Tryd.ntmps47
      go_wp2
      go_ret3
      exact ⟨by rw [HV.o]; rfl, Below.refl _ _⟩
    · have hcell := hA l hlt
      have hxs : ps[l].size ≤ 1000 := hP _ (List.getElem_mem hlt)
      by_cases hmn' : m = n
      · obtain rfl : whole = false := by cases whole; rfl; exact absurd ⟨hmn', rfl⟩ hq
        subst hmn'
        have HV : Shut (valuesR old (ps.take (l + 1)).reverse m m false = (ps[l], ps[l], decide (l = 0))) := ⟨by rw [hre, valuesR, if_neg (by simp), if_pos rfl, isEmpty_rev ps l (by omega)]⟩
        clear ht hA hp hP ih hre hq
        generalize ps[l] = x at *
        have HBE : Shut (decide (l = 0) = ((l : Int) == 0)) := ⟨by rw [Bool.eq_iff_iff]; simp⟩
        go_enter Tryd.func47, Tryd.ntmps47
        go_wp2
        go_region
        go_wp2
        go_ret3
        exact ⟨by rw [HV.o, HBE.o]; rfl, below_drewN (Below.refl _ _) 1⟩
      · have hne : ¬ ((m : Int) = (n : Int)) := by omega
        have csp := split_any n (by omega) hn
        have hk1 := spl_lt n (by omega)
        have hk0 := spl_pos n
        have hge := ht.2.2
        have HT : Shut _ := ⟨ht⟩
        have hPt : Small (ps.take l).reverse := fun s hs => hP s (List.mem_of_mem_take (List.mem_reverse.1 hs))
        by_cases hik : m ≤ spl n
        · have HV : Shut (valuesR old (ps.take (l + 1)).reverse m n whole = ((valuesR old (ps.take l).reverse m (spl n) whole).1, nodeB (valuesR old (ps.take l).reverse m (spl n) whole).2.1 ps[l], (valuesR old (ps.take l).reverse m (spl n) whole).2.2)) :=
            ⟨by rw [hre, valuesR, if_neg hq, if_neg hmn', if_pos hik]⟩
          have hz := valuesR_size old ho (ps.take l).reverse hPt m (spl n) whole
          have cr : ∀ W, Below w.heap.size w W → _ := fun W hW => ih m (spl n) whole (some ⟨b, o, none⟩) W (by omega) h1 hik (by omega) (fun _ => rfl) (ht.below hW hge) (hA.below hW)
          clear ht hA hp hP ih hre hq hPt
          generalize ps[l] = x at *
          generalize valuesR old (ps.take l).reverse m (spl n) whole = r at *
          obtain ⟨v1, v2, ok⟩ := r
          simp only [] at hz cr HV
          obtain ⟨hz1, hz2⟩ := hz
          generalize spl n = k at *
          go_enter Tryd.func47, Tryd.ntmps47
          go_wp2
          go_region
          go_wp2_with (first | (go_at_call 52; refine (csp _).mono ?_; rintro e w1 ⟨rfl, rfl⟩) | (go_at_call 47; refine (cr _ (below_drewN (Below.refl _ w) 1)).mono ?_; rintro e w1 ⟨rfl, hB1⟩; have hB1' : Below w.heap.size w w1 := (below_drewN (Below.refl _ w) 1).trans hB1) | (go_at_call 16; refine (node_any v2 x (by omega) (by omega) _ (HT.o.below hB1' hge)).mono ?_; rintro e w3 ⟨rfl, hB3⟩))
          go_ret3
          exact ⟨by rw [HV.o]; rfl, hB1'.trans (hB3.mono hB1'.size)⟩
        · have HV : Shut (valuesR old (ps.take (l + 1)).reverse m n whole = (nodeB ps[l] (valuesR old (ps.take l).reverse (m - spl n) (n - spl n) false).1, nodeB ps[l] (valuesR old (ps.take l).reverse (m - spl n) (n - spl n) false).2.1, (valuesR old (ps.take l).reverse (m - spl n) (n - spl n) false).2.2)) :=
            ⟨by rw [hre, valuesR, if_neg hq, if_neg hmn', if_neg hik]⟩
          have hz := valuesR_size old ho (ps.take l).reverse hPt (m - spl n) (n - spl n) false
          have cr : ∀ W, Below w.heap.size w W → _ := fun W hW => ih (m - spl n) (n - spl n) false (some ⟨b, o, none⟩) W (by omega) (by omega) (by omega) (by omega) (fun _ => rfl) (ht.below hW hge) (hA.below hW)
          have en : ((n - spl n : Nat) : Int) = (n : Int) - (spl n : Int) := by omega
          have ei : ((m - spl n : Nat) : Int) = (m : Int) - (spl n : Int) := by omega
          rw [en, ei] at cr
          clear ht hA hp hP ih hre hq hPt en ei
          generalize ps[l] = x at *
          generalize valuesR old (ps.take l).reverse (m - spl n) (n - spl n) false = r at *
          obtain ⟨v1, v2, ok⟩ := r
          simp only [] at hz cr HV
          obtain ⟨hz1, hz2⟩ := hz
          generalize spl n = k at *
          go_enter Tryd.func47, Tryd.ntmps47
          go_wp2
          go_region
          go_wp2_with (first | (go_at_call 52; refine (csp _).mono ?_; rintro e w1 ⟨rfl, rfl⟩) | (go_at_call 47; refine (cr _ (below_drewN (Below.refl _ w) 1)).mono ?_; rintro e w1 ⟨rfl, hB1⟩; have hB1' : Below w.heap.size w w1 := (below_drewN (Below.refl _ w) 1).trans hB1) | (go_at_call_of 16 (Value.string x); (first | (refine (node_any x v1 (by omega) (by omega) _ (HT.o.below hB1' hge)).mono ?_; rintro e w3 ⟨rfl, hB3⟩; have hB3' := hB1'.trans (hB3.mono hB1'.size)) | (refine (node_any x v2 (by omega) (by omega) _ (HT.o.below hB3' hge)).mono ?_; rintro e w4 ⟨rfl, hB4⟩))))
          go_ret3
          exact ⟨by rw [HV.o]; rfl, hB3'.trans (hB4.mono hB3'.size)⟩
end Go.Proofs.YtnceemdemjjhlaaDoor
