/-
  Verify and VerifyExtension.
-/
import Derived.Test.YtnceemdemjjhlaaDoorDigPath
import Derived.Lib.Strings
namespace Go.Proofs.YtnceemdemjjhlaaDoor
open Go.RowKit

theorem str_eq (a b : ByteArray) : (a.toList == b.toList) = decide (a = b) := by
  rw [Bool.eq_iff_iff, beq_iff_eq, decide_eq_true_iff, ByteArray.toList_eq, ByteArray.toList_eq]
  constructor
  · intro h; cases a; cases b; congr; exact Array.toList_inj.1 h
  · rintro rfl; rfl
/-- what Verify answers -/
def verB (root : ByteArray) (n i : Int) (s : ByteArray) (ps : List ByteArray) : Bool :=
  if i < 0 ∨ n ≤ i then false else if digs ps = false then false else (valueR ps.reverse n.toNat i.toNat s).2 && decide ((valueR ps.reverse n.toNat i.toNat s).1 = root)

set_option maxHeartbeats 1000000 in
theorem ver_any (root s : ByteArray) (n i : Int) (hn : n ≤ 9223372036854775807) (hs : s.size ≤ 100000) (ps : List ByteArray) (hP : Small ps) (hl : ps.length ≤ 1000000) (p : Option Addr) (b o cap : Nat) (hc : cap ≤ 9223372036854775807) (hcap : ps.length ≤ cap)
    (hp : 1 ≤ ps.length → p = some ⟨b, o, none⟩) (w : World) (ht : Tab w) (hA : SA w b o ps) :
    Calls Tryd.prog 29 #[.string root, .int .i64 n, .int .i64 i, .string s, .slice p ps.length cap] w fun e w' => e = .returned (.bool (verB root n i s ps)) ∧ Below w.heap.size w w' := by
  by_cases h0 : i < 0
  · have HV : Shut (verB root n i s ps = false) := ⟨by rw [verB, if_pos (.inl h0)]⟩
    clear ht hA hp hP
    go_enter Tryd.func29, Tryd.ntmps29
    go_wp2
    go_ret
    exact ⟨by rw [HV.o]; rfl, Below.refl _ _⟩
  · by_cases h1 : n ≤ i
    · have HV : Shut (verB root n i s ps = false) := ⟨by rw [verB, if_pos (.inr h1)]⟩
      clear ht hA hp hP
      go_enter Tryd.func29, Tryd.ntmps29
      go_wp2
      go_ret
      exact ⟨by rw [HV.o]; rfl, Below.refl _ _⟩
    · have cd := digs_any ps b o cap w hl p hp hA
      by_cases hd : digs ps = false
      · have HV : Shut (verB root n i s ps = false) := ⟨by rw [verB, if_neg (by omega), if_pos hd]⟩
        rw [hd] at cd
        clear ht hA hp hP hd
        go_enter Tryd.func29, Tryd.ntmps29
        go_wp2_with (go_at_call 45; refine cd.mono ?_; rintro e w1 ⟨rfl, rfl⟩)
        go_ret
        exact ⟨by rw [HV.o]; rfl, Below.refl _ _⟩
      · have hdt : digs ps = true := by simpa using hd
        obtain ⟨N, rfl⟩ := Int.eq_ofNat_of_zero_le (show 0 ≤ n by omega)
        obtain ⟨I, rfl⟩ := Int.eq_ofNat_of_zero_le (show 0 ≤ i by omega)
        have cv := value_ind s hs ps hP b o cap hc hcap ps.length N I p w (Nat.le_refl _) (by omega) (by omega) (by omega) hp ht hA
        rw [List.take_length] at cv
        have HV : Shut (verB root N I s ps = ((valueR ps.reverse N I s).2 && decide ((valueR ps.reverse N I s).1 = root))) := ⟨by rw [verB, if_neg (by omega), if_neg hd]; rfl⟩
        rw [hdt] at cd
        clear ht hA hp hP hd hdt
        generalize valueR ps.reverse N I s = r at *
        obtain ⟨v, ok⟩ := r
        simp only [] at cv HV
        cases ok with
        | false =>
          go_enter Tryd.func29, Tryd.ntmps29
          go_wp2_with (first | (go_at_call 45; refine cd.mono ?_; rintro e w1 ⟨rfl, rfl⟩) | (go_at_call 46; refine cv.mono ?_; rintro e w2 ⟨rfl, hB⟩))
          go_ret
          exact ⟨by rw [HV.o]; rfl, hB⟩
        | true =>
          have HE : Shut _ := ⟨str_eq v root⟩
          go_enter Tryd.func29, Tryd.ntmps29
          go_wp2_with (first | (go_at_call 45; refine cd.mono ?_; rintro e w1 ⟨rfl, rfl⟩) | (go_at_call 46; refine cv.mono ?_; rintro e w2 ⟨rfl, hB⟩))
          go_ret
          exact ⟨by rw [HV.o, ← HE.o]; rfl, hB⟩

/-- what VerifyExtension answers -/
def verE (old : ByteArray) (m : Int) (root : ByteArray) (n : Int) (ps : List ByteArray) : Bool :=
  if m < 0 ∨ n < m then false else if digs [old, root] = false then false else if digs ps = false then false else if m = 0 then (decide (ps.length = 0) && decide (old = rootB []))
  else (valuesR old ps.reverse m.toNat n.toNat true).2.2 && decide ((valuesR old ps.reverse m.toNat n.toNat true).1 = old) && decide ((valuesR old ps.reverse m.toNat n.toNat true).2.1 = root)
theorem sa2 (w : World) (s r : ByteArray) (t : TypeId) : SA (w.alloc (.cells #[.string s, .string r] t)) w.heap.size 0 [s, r] := fun i h => by
  rw [Nat.zero_add]; exact parts2 w s r t i h

set_option maxHeartbeats 1000000 in
theorem verE_any (old root : ByteArray) (m n : Int) (hn : n ≤ 9223372036854775807) (ps : List ByteArray) (hP : Small ps) (hl : ps.length ≤ 1000000) (p : Option Addr) (b o cap : Nat) (hc : cap ≤ 9223372036854775807) (hcap : ps.length ≤ cap)
    (hp : 1 ≤ ps.length → p = some ⟨b, o, none⟩) (w : World) (ht : Tab w) (hA : SA w b o ps) :
    Calls Tryd.prog 30 #[.string old, .int .i64 m, .string root, .int .i64 n, .slice p ps.length cap] w fun e w' => e = .returned (.bool (verE old m root n ps)) ∧ Below w.heap.size w w' := by
  by_cases h0 : m < 0
  · have HV : Shut (verE old m root n ps = false) := ⟨by rw [verE, if_pos (.inl h0)]⟩
    clear ht hA hp hP
    go_enter Tryd.func30, Tryd.ntmps30
    go_wp2
    go_ret
    exact ⟨by rw [HV.o]; rfl, Below.refl _ _⟩
  · by_cases h1 : n < m
    · have HV : Shut (verE old m root n ps = false) := ⟨by rw [verE, if_pos (.inr h1)]⟩
      clear ht hA hp hP
      go_enter Tryd.func30, Tryd.ntmps30
      go_wp2
      go_ret
      exact ⟨by rw [HV.o]; rfl, Below.refl _ _⟩
    · have hb : Below w.heap.size w (w.alloc (.cells #[.string old, .string root] 9)) := (Below.refl _ w).alloc (Nat.le_refl _) _
      have c2 : Calls Tryd.prog 45 #[.slice (some ⟨w.heap.size, 0, none⟩) 2 2] (w.alloc (.cells #[.string old, .string root] 9)) (fun e w' => e = .returned (.bool (digs [old, root])) ∧ w.alloc (.cells #[.string old, .string root] 9) = w') := digs_any [old, root] w.heap.size 0 2 (w.alloc (.cells #[.string old, .string root] 9)) (by simp) (some ⟨w.heap.size, 0, none⟩) (fun _ => rfl) (sa2 w old root _)
      by_cases hd2 : digs [old, root] = false
      · have HV : Shut (verE old m root n ps = false) := ⟨by rw [verE, if_neg (by omega), if_pos hd2]⟩
        rw [hd2] at c2
        clear ht hA hp hP hd2
        go_enter Tryd.func30, Tryd.ntmps30
        go_wp2_with (go_at_call 45; refine c2.mono ?_; rintro e w1 ⟨rfl, rfl⟩)
        go_ret
        exact ⟨by rw [HV.o]; rfl, hb⟩
      · have ho32 : old.size ≤ 1000 ∧ root.size ≤ 1000 := by
          have : digs [old, root] = true := by simpa using hd2
          simp [digs] at this; omega
        have hd2t : digs [old, root] = true := by simpa using hd2
        rw [hd2t] at c2
        have cd := digs_any ps b o cap (w.alloc (.cells #[.string old, .string root] 9)) hl p hp (hA.below hb)
        by_cases hd : digs ps = false
        · have HV : Shut (verE old m root n ps = false) := ⟨by rw [verE, if_neg (by omega), if_neg hd2, if_pos hd]⟩
          rw [hd] at cd
          clear ht hA hp hP hd hd2 hd2t
          go_enter Tryd.func30, Tryd.ntmps30
          go_wp2_with (first | (go_at_call_of 45 (Value.slice (some ⟨w.heap.size, 0, none⟩) 2 2); refine c2.mono ?_; rintro e w1 ⟨rfl, rfl⟩) | (go_at_call 45; refine cd.mono ?_; rintro e w1 ⟨rfl, rfl⟩))
          go_ret
          exact ⟨by rw [HV.o]; rfl, hb⟩
        · have hdt : digs ps = true := by simpa using hd
          rw [hdt] at cd
          have ht2 := ht.below hb ht.2.2
          by_cases hm0 : m = 0
          · subst hm0
            have HV : Shut (verE old 0 root n ps = (decide (ps.length = 0) && decide (old = rootB []))) := ⟨by rw [verE, if_neg (by omega), if_neg hd2, if_neg hd, if_pos rfl]⟩
            have cr := root_none none 0 (w.alloc (.cells #[.string old, .string root] 9)) ht2
            clear ht hA hp hP hd hd2 hd2t hdt ht2
            by_cases hl0 : ps.length = 0
            · have HL : Shut _ := ⟨hl0⟩
              have hli : ((ps.length : Int) = 0) := by omega
              clear hl0
              go_enter Tryd.func30, Tryd.ntmps30
              go_wp2_with (first | (go_at_call_of 45 (Value.slice (some ⟨w.heap.size, 0, none⟩) 2 2); refine c2.mono ?_; rintro e w1 ⟨rfl, rfl⟩) | (go_at_call 45; refine cd.mono ?_; rintro e w1 ⟨rfl, rfl⟩) | (go_at_call 26; refine cr.mono ?_; rintro e w3 ⟨rfl, hB3⟩))
              go_ret
              exact ⟨by rw [HV.o, decide_eq_true HL.o, ← str_eq]; rfl, hb.trans (hB3.mono hb.size)⟩
            · have HL : Shut _ := ⟨decide_eq_false hl0⟩
              have hli : ((ps.length : Int) == 0) = false := by rw [beq_eq_false_iff_ne]; omega
              clear hl0
              go_enter Tryd.func30, Tryd.ntmps30
              go_wp2_with (first | (go_at_call_of 45 (Value.slice (some ⟨w.heap.size, 0, none⟩) 2 2); refine c2.mono ?_; rintro e w1 ⟨rfl, rfl⟩) | (go_at_call 45; refine cd.mono ?_; rintro e w1 ⟨rfl, rfl⟩) | (go_at_call 26; refine cr.mono ?_; rintro e w3 ⟨rfl, hB3⟩))
              go_ret
              exact ⟨by rw [HV.o, HL.o]; rfl, hb⟩
          · obtain ⟨N, rfl⟩ := Int.eq_ofNat_of_zero_le (show 0 ≤ n by omega)
            obtain ⟨M, rfl⟩ := Int.eq_ofNat_of_zero_le (show 0 ≤ m by omega)
            have hM : ¬ ((M : Int) = 0) := hm0
            have cv := values_ind old ho32.1 ps hP b o cap hc hcap ps.length M N true p (w.alloc (.cells #[.string old, .string root] 9)) (Nat.le_refl _) (by omega) (by omega) (by omega) hp ht2 (hA.below hb)
            rw [List.take_length] at cv
            have HV : Shut (verE old M root N ps = ((valuesR old ps.reverse M N true).2.2 && decide ((valuesR old ps.reverse M N true).1 = old) && decide ((valuesR old ps.reverse M N true).2.1 = root))) := ⟨by rw [verE, if_neg (by omega), if_neg hd2, if_neg hd, if_neg hm0]; rfl⟩
            clear ht hA hp hP hd hd2 hd2t hdt ht2 hm0
            generalize valuesR old ps.reverse M N true = r at *
            obtain ⟨v1, v2, ok⟩ := r
            simp only [] at cv HV
            cases ok with
            | false =>
              go_enter Tryd.func30, Tryd.ntmps30
              go_wp2_with (first | (go_at_call_of 45 (Value.slice (some ⟨w.heap.size, 0, none⟩) 2 2); refine c2.mono ?_; rintro e w1 ⟨rfl, rfl⟩) | (go_at_call 45; refine cd.mono ?_; rintro e w1 ⟨rfl, rfl⟩) | (go_at_call 47; refine cv.mono ?_; rintro e w3 ⟨rfl, hB3⟩))
              go_ret
              exact ⟨by rw [HV.o]; rfl, hb.trans (hB3.mono hb.size)⟩
            | true =>
              by_cases h12 : v1 = old
              · subst h12
                have hbe : (v1.toList == v1.toList) = true := beq_self_eq_true _
                have HE : Shut _ := ⟨str_eq v2 root⟩
                go_enter Tryd.func30, Tryd.ntmps30
                go_wp2_with (first | (go_at_call_of 45 (Value.slice (some ⟨w.heap.size, 0, none⟩) 2 2); refine c2.mono ?_; rintro e w1 ⟨rfl, rfl⟩) | (go_at_call 45; refine cd.mono ?_; rintro e w1 ⟨rfl, rfl⟩) | (go_at_call 47; refine cv.mono ?_; rintro e w3 ⟨rfl, hB3⟩))
                go_ret
                exact ⟨by rw [show verE v1 M root N ps = (v2.toList == root.toList) by rw [HV.o, HE.o]; simp]; rfl, hb.trans (hB3.mono hb.size)⟩
              · have hbe : (v1.toList == old.toList) = false := by rw [str_eq]; exact decide_eq_false h12
                go_enter Tryd.func30, Tryd.ntmps30
                go_wp2_with (first | (go_at_call_of 45 (Value.slice (some ⟨w.heap.size, 0, none⟩) 2 2); refine c2.mono ?_; rintro e w1 ⟨rfl, rfl⟩) | (go_at_call 45; refine cd.mono ?_; rintro e w1 ⟨rfl, rfl⟩) | (go_at_call 47; refine cv.mono ?_; rintro e w3 ⟨rfl, hB3⟩))
                go_ret
                exact ⟨by rw [HV.o, decide_eq_false h12]; rfl, hb.trans (hB3.mono hb.size)⟩
end Go.Proofs.YtnceemdemjjhlaaDoor
