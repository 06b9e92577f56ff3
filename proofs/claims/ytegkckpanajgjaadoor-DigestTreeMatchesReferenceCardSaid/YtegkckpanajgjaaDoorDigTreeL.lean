/-
  The law DigestTreeMatchesReference: its walk.
-/
import Derived.Test.YtegkckpanajgjaaDoorDigRefI
import Derived.Test.YtegkckpanajgjaaDoorDigHeads
import Derived.Lib.SmallJoins
namespace Go.Proofs.YtegkckpanajgjaaDoor
open Go.RowKit

theorem path_len2 : ∀ (N : Nat) (l : List ByteArray) (i : Nat), l.length ≤ N → (pathR l i).length ≤ l.length := by
  intro N
  induction N with
  | zero => intro l i h; rw [pathR, dif_pos (by omega)]; simp
  | succ N ih =>
    intro l i h
    by_cases h1 : l.length ≤ 1
    · rw [pathR, dif_pos h1]; simp
    · have hk := spl_lt l.length (by omega)
      have hk1 := spl_pos l.length
      rw [pathR, dif_neg h1]
      split
      · have := ih (l.take (spl l.length)) i (by rw [List.length_take]; omega)
        rw [List.length_take] at this
        rw [List.length_cons]; omega
      · have := ih (l.drop (spl l.length)) (i - spl l.length) (by rw [List.length_drop]; omega)
        rw [List.length_drop] at this
        rw [List.length_cons]; omega
theorem part_len2 : ∀ (N : Nat) (l : List ByteArray) (m : Nat) (b : Bool), l.length ≤ N → (partR l m b).length ≤ l.length + 1 := by
  intro N
  induction N with
  | zero => intro l m b h; rw [partR, dif_pos (by omega)]; split <;> simp
  | succ N ih =>
    intro l m b h
    by_cases h1 : l.length ≤ max m 1
    · rw [partR, dif_pos h1]; split <;> simp
    · have hk := spl_lt l.length (by omega)
      have hk1 := spl_pos l.length
      rw [partR, dif_neg h1]
      split
      · have := ih (l.take (spl l.length)) m b (by rw [List.length_take]; omega)
        rw [List.length_take] at this
        rw [List.length_cons]; omega
      · have := ih (l.drop (spl l.length)) (m - spl l.length) false (by rw [List.length_drop]; omega)
        rw [List.length_drop] at this
        rw [List.length_cons]; omega
/-- a call that answers a list of strings and a code -/
def Lst (f : Nat) (args : Array Value) (w : World) (xs : List ByteArray) (k : Int) : Prop :=
  ∀ W : World, Below w.heap.size w W → Calls Tryd.prog f args W fun e w' => ∃ v, e = .returned (.tuple #[v, .int .i64 k]) ∧ OwnS w' W.heap.size v xs ∧ Below W.heap.size W w'
theorem Lst.run {f : Nat} {args : Array Value} {w : World} {xs : List ByteArray} {k : Int} (h : Lst f args w xs k) (W : World) (hW : Below w.heap.size w W) : Calls Tryd.prog f args W fun e w' => ∃ v, e = .returned (.tuple #[v, .int .i64 k]) ∧ OwnS w' W.heap.size v xs ∧ Below W.heap.size W w' := h W hW
theorem proof_two (fs : List ByteArray) (p : Option Addr) (g cap : Nat) (i : Int) (w : World) (hp : 1 ≤ fs.length → p = some ⟨g, 0, none⟩) (hl : fs.length ≤ 40) (hcap : fs.length ≤ cap) (hc : cap ≤ 9223372036854775807) (hS : Small fs) (ht : Tab w) (hA : SA w g 0 fs) :
    ∃ (xs : List ByteArray) (k : Int), xs.length ≤ 1000 ∧ Lst 21 #[.slice p fs.length cap, .int .i64 i] w xs k ∧ Lst 22 #[.slice p fs.length cap, .int .i64 i] w xs k := by
  by_cases h : 0 ≤ i ∧ i < (fs.length : Int)
  · obtain ⟨n, rfl⟩ := Int.eq_ofNat_of_zero_le h.1
    have hn : n < fs.length := by omega
    obtain rfl := hp (by omega)
    refine ⟨(pathR fs n).reverse, 0, by rw [List.length_reverse]; have := path_len2 fs.length fs n (Nat.le_refl _); omega, fun W hW => ?_, fun W hW => ?_⟩
    · exact proof_in fs n g 0 cap W hn (by omega) hcap hc hS (ht.below hW ht.2.2) (hA.below hW)
    · exact (proofR_ind fs.length fs n g 0 cap W (Nat.le_refl _) hn (by omega) hcap hc hS (hA.below hW)).mono fun _ _ h => by
        obtain ⟨v, h1, h2, _, h4⟩ := h
        exact ⟨v, h1, h2, h4⟩
  · have ho : i < 0 ∨ (fs.length : Int) ≤ i := by omega
    refine ⟨[], 2, by simp, fun W _ => ?_, fun W _ => ?_⟩
    · exact (proof_out p fs.length cap i ho W).mono fun _ _ h => ⟨_, h.1, OwnS.nil _ _, by rw [← h.2]; exact Below.refl _ _⟩
    · exact (proof_outR p fs.length cap i ho W).mono fun _ _ h => ⟨_, h.1, OwnS.nil _ _, by rw [← h.2]; exact Below.refl _ _⟩
theorem ext_two (fs : List ByteArray) (p : Option Addr) (g cap : Nat) (i : Int) (w : World) (hp : 1 ≤ fs.length → p = some ⟨g, 0, none⟩) (hl : fs.length ≤ 40) (hcap : fs.length ≤ cap) (hc : cap ≤ 9223372036854775807) (hS : Small fs) (ht : Tab w) (hA : SA w g 0 fs) :
    ∃ (xs : List ByteArray) (k : Int), xs.length ≤ 1000 ∧ Lst 23 #[.slice p fs.length cap, .int .i64 i] w xs k ∧ Lst 24 #[.slice p fs.length cap, .int .i64 i] w xs k := by
  by_cases h : 0 ≤ i ∧ i ≤ (fs.length : Int)
  · obtain ⟨n, rfl⟩ := Int.eq_ofNat_of_zero_le h.1
    have hn : n ≤ fs.length := by omega
    refine ⟨(extR fs n).reverse, 0, ?_, fun W hW => ?_, fun W hW => ?_⟩
    · rw [List.length_reverse, extR]
      split
      · simp
      · have := part_len2 fs.length fs n true (Nat.le_refl _); omega
    · exact ext_in fs n g 0 cap p hp W hn (by omega) hcap hc hS (ht.below hW ht.2.2) (hA.below hW)
    · exact ext_inR fs n g 0 cap p hp W hn (by omega) hcap hc hS (hA.below hW)
  · have ho : i < 0 ∨ (fs.length : Int) < i := by omega
    refine ⟨[], 2, by simp, fun W _ => ?_, fun W _ => ?_⟩
    · exact (ext_out p fs.length cap i ho W).mono fun _ _ h => ⟨_, h.1, OwnS.nil _ _, by rw [← h.2]; exact Below.refl _ _⟩
    · exact (ext_outR p fs.length cap i ho W).mono fun _ _ h => ⟨_, h.1, OwnS.nil _ _, by rw [← h.2]; exact Below.refl _ _⟩
theorem root_two (fs : List ByteArray) (p : Option Addr) (g cap : Nat) (w : World) (hp : 1 ≤ fs.length → p = some ⟨g, 0, none⟩) (hcap : fs.length ≤ cap) (hc : cap ≤ 9223372036854775807) (hS : Small fs) (ht : Tab w) (hA : SA w g 0 fs) :
    (∀ W, Below w.heap.size w W → Calls Tryd.prog 26 #[.slice p fs.length cap] W fun e w' => e = .returned (.string (rootB fs)) ∧ Below W.heap.size W w') ∧
    (∀ W, Below w.heap.size w W → Calls Tryd.prog 27 #[.slice p fs.length cap] W fun e w' => e = .returned (.string (rootB fs)) ∧ Below W.heap.size W w') := by
  refine ⟨fun W hW => root_gen fs p g 0 cap hp W hcap hc hS (ht.below hW ht.2.2) (hA.below hW), fun W hW => ?_⟩
  rcases Nat.eq_zero_or_pos fs.length with h | h
  · obtain rfl := List.eq_nil_of_length_eq_zero h
    exact root_noneR p cap W
  · obtain rfl := hp h
    exact rootR_ind fs.length fs g 0 cap W (Nat.le_refl _) h hcap hc hS (hA.below hW)

set_option maxRecDepth 100000 in
set_option maxHeartbeats 4000000 in
theorem treeMatch_any (ls : List ByteArray) (b o cap : Nat) (p : Option Addr) (hp : 1 ≤ ls.length → p = some ⟨b, o, none⟩) (hl : ls.length ≤ 9223372036854775807) (hS : ∀ s ∈ ls, s.size ≤ 9223372036854775807) (i m : Int) (w : World) (hA : SA w b o ls) (ht : Tab w) :
    Calls Tryd.prog 4 #[.slice p ls.length cap, .int .i64 i, .int .i64 m] w fun e w' => e = .returned (.bool true) ∧ Below w.heap.size w w' := by
  have hge := ht.2.2
  have cs := sane_any w ht
  go_enter Tryd.func4, Tryd.ntmps4
  go_upto_region 2 with (go_at_call 11; refine cs.mono ?_; rintro e w1 ⟨rfl, hB1⟩)
  have cf := few_any ls b o cap 40 p hp hl (by omega) hS w1 (hA.below hB1)
  go_upto_region 3 with (go_at_call 20; refine cf.mono ?_; rintro e w2 ⟨v, rfl, hO, hB2⟩)
  have hB2' := hB1.trans (hB2.mono hB1.size)
  have ht2 := ht.below hB2' hge
  have hfl := few_len ls 40
  have hfs := few_small ls 40
  clear cf cs hp hA hS ht hB1 hB2
  generalize fewB ls 40 = fs at *
  obtain ⟨q, cp, g, rfl, hq, hAf, hcp, hcm⟩ := hO.open
  unfold maxLen at hcm
  obtain ⟨xs, k1, hx1, a1, a2⟩ := proof_two fs q g cp i w2 (fun h => (hq h).1) hfl hcp (by omega) hfs ht2 hAf
  obtain ⟨ys, k2, hy1, b1, b2⟩ := ext_two fs q g cp m w2 (fun h => (hq h).1) hfl hcp (by omega) hfs ht2 hAf
  obtain ⟨r1, r2⟩ := root_two fs q g cp w2 (fun h => (hq h).1) hcp (by omega) hfs ht2 hAf
  have HB2 : Shut _ := ⟨hB2'⟩
  have hz2 := hB2'.size
  clear hq hAf hO ht2 hB2' hfs
  generalize rootB fs = rt at *
  have hre : (rt.toList == rt.toList) = true := beq_self_eq_true _
  have h0 := Below.refl w2.heap.size w2
  go_wp2_with fail
  refine (Lst.run a1 _ h0).mono ?_
  rintro e w3 ⟨v3, rfl, hO3, hB3⟩
  have h3 := h0.trans hB3
  go_wp2_with fail
  refine (Lst.run a2 _ h3).mono ?_
  rintro e w4 ⟨v4, rfl, hO4, hB4⟩
  have h4 := h3.trans (hB4.mono h3.size)
  go_wp2_with fail
  refine (Lst.run b1 _ h4).mono ?_
  rintro e w5 ⟨v5, rfl, hO5, hB5⟩
  have h5 := h4.trans (hB5.mono h4.size)
  go_wp2_with fail
  refine (Lst.run b2 _ h5).mono ?_
  rintro e w6 ⟨v6, rfl, hO6, hB6⟩
  have h6 := h5.trans (hB6.mono h5.size)
  have hO3' := ((hO3.below hB4).below hB5).below hB6
  have hO4' := (hO4.below hB5).below hB6
  have hO5' := hO5.below hB6
  obtain ⟨p3, c3, g3, rfl, hp3, hA3, _, _⟩ := hO3'.open
  obtain ⟨p4, c4, g4, rfl, hp4, hA4, _, _⟩ := hO4'.open
  obtain ⟨p5, c5, g5, rfl, hp5, hA5, _, _⟩ := hO5'.open
  obtain ⟨p6, c6, g6, rfl, hp6, hA6, _, _⟩ := hO6.open
  have s1 := same_any xs xs g3 0 c3 g4 0 c4 p3 p4 (fun h => (hp3 h).1) (fun h => (hp4 h).1) (by omega) (by omega) w6 hA3 hA4
  have s2 := fun n => same_any ys ys g5 0 c5 g6 0 c6 p5 p6 (fun h => (hp5 h).1) (fun h => (hp6 h).1) (by omega) (by omega) (w6.drewN n) hA5 hA6
  rw [decide_eq_true rfl] at s1
  simp only [decide_true] at s2
  have HH : Shut _ := ⟨h6⟩
  clear hO3 hO4 hO5 hO6 hO3' hO4' hO5' hA3 hA4 hA5 hA6 hp3 hp4 hp5 hp6 a1 a2 b1 b2 h0 h3 h4 h5 hB3 hB4 hB5 hB6
  go_wp2_with (first | (go_at_call_of 25 (Value.slice p3 xs.length c3); refine s1.mono ?_; rintro e w7 ⟨rfl, n7, rfl⟩) | fail)
  refine (s2 n7).mono ?_
  rintro e w8 ⟨rfl, n8, rfl⟩
  have h8 : Below w2.heap.size w2 (w6.drewN (n7 + n8)) := below_drewN HH.o (n7 + n8)
  go_wp2_with fail
  refine (r1 _ h8).mono ?_
  rintro e w9 ⟨rfl, hB9⟩
  have h9 := h8.trans (hB9.mono h8.size)
  clear hB9 h8
  go_wp2_with fail
  refine (r2 _ h9).mono ?_
  rintro e wa ⟨rfl, hBa⟩
  have ha := h9.trans (hBa.mono h9.size)
  go_wp2
  go_ret
  exact ⟨rfl, HB2.o.trans (ha.mono hz2)⟩
end Go.Proofs.YtegkckpanajgjaaDoor
