/-
  The walk of DigestBinding.
-/
import Derived.Test.YtnceemdemjjhlaaDoorDigWayB
namespace Go.Proofs.YtnceemdemjjhlaaDoor
open Go.RowKit

theorem ver_parts {root s : ByteArray} {n i : Int} {ps : List ByteArray} (h : verB root n i s ps = true) : 0 ≤ i ∧ i < n ∧ digs ps = true ∧ (valueR ps.reverse n.toNat i.toNat s).2 = true ∧ (valueR ps.reverse n.toNat i.toNat s).1 = root := by
  rw [verB] at h
  split at h
  · cases h
  · rename_i h1
    split at h
    · cases h
    · rename_i h2
      simp only [Bool.and_eq_true, decide_eq_true_eq] at h
      exact ⟨by omega, by omega, by simpa using h2, h.1, h.2⟩
theorem digs_small {ps : List ByteArray} (h : digs ps = true) : ∀ x ∈ ps, x.size ≤ 900 := by
  intro x hx
  rw [digs, List.all_eq_true] at h
  have := h x hx
  simp at this; omega
theorem small_of {ps : List ByteArray} (h : ∀ x ∈ ps, x.size ≤ 900) : Small ps := fun x hx => by have := h x hx; omega

set_option maxRecDepth 100000 in
set_option maxHeartbeats 500000 in
theorem bind_any (root s t : ByteArray) (n i : Int) (hn : n ≤ 9223372036854775807) (hsz : s.size ≤ 9223372036854775807) (htz : t.size ≤ 9223372036854775807) (ls : List ByteArray) (b o cap : Nat) (p : Option Addr) (hp : 1 ≤ ls.length → p = some ⟨b, o, none⟩) (hl : ls.length ≤ 9223372036854775807) (hS : ∀ s ∈ ls, s.size ≤ 9223372036854775807)
    (ls' : List ByteArray) (b' o' cap' : Nat) (p' : Option Addr) (hp' : 1 ≤ ls'.length → p' = some ⟨b', o', none⟩) (hl' : ls'.length ≤ 9223372036854775807) (hS' : ∀ s ∈ ls', s.size ≤ 9223372036854775807) (w : World) (hA : SA w b o ls) (hA' : SA w b' o' ls') (ht : Tab w) :
    Calls Tryd.prog 7 #[.string root, .int .i64 n, .int .i64 i, .string s, .slice p ls.length cap, .string t, .slice p' ls'.length cap'] w fun e w' => e = .returned (.bool true) ∧ Below w.heap.size w w' := by
  have hge := ht.2.2
  have cs := sane_any w ht
  go_enter Tryd.func7, Tryd.ntmps7
  go_upto_region 2 with (go_at_call 11; refine cs.mono ?_; rintro e w1 ⟨rfl, hB1⟩)
  have cf := few_any ls b o cap 70 p hp hl (by omega) hS w1 (hA.below hB1)
  go_upto_region 3 with (go_at_call 20; refine cf.mono ?_; rintro e w2 ⟨v, rfl, hO, hB2⟩)
  have hB2' := hB1.trans (hB2.mono hB1.size)
  have cf' := few_any ls' b' o' cap' 70 p' hp' hl' (by omega) hS' w2 (hA'.below hB2')
  go_upto_region 4 with (go_at_call 20; refine cf'.mono ?_; rintro e w3 ⟨v', rfl, hO', hB3⟩)
  have hB3' := hB2'.trans (hB3.mono hB2'.size)
  have ht3 := ht.below hB3' hge
  have hO3 := hO.below hB3
  have hfl := few_len ls 70
  have hfs := few_small ls 70
  have hfl' := few_len ls' 70
  have hfs' := few_small ls' 70
  clear cf cf' cs hp hp' hA hA' hS hS' ht hO hB1 hB2 hB2' hB3
  generalize fewB ls 70 = f1 at *
  generalize fewB ls' 70 = f2 at *
  obtain ⟨q, cp, g, rfl, hq, hAf, hcp, hcm⟩ := hO3.open
  obtain ⟨q', cp', g', rfl, hq', hAf', hcp', hcm'⟩ := hO'.open
  unfold maxLen at hcm hcm'
  obtain ⟨ms, hms⟩ : ∃ ms, ms = min s.size 60 := ⟨_, rfl⟩
  have hmin : min ((s.size : Nat) : Int) 60 = (ms : Int) := by omega
  have hms2 : ms ≤ s.size := by omega
  have hmin2 : (if (60 : Int) < ((s.size : Nat) : Int) then (60 : Int) else ((s.size : Nat) : Int)) = (ms : Int) := by split <;> omega
  obtain ⟨mt, hmt⟩ : ∃ mt, mt = min t.size 60 := ⟨_, rfl⟩
  have hmin' : min ((t.size : Nat) : Int) 60 = (mt : Int) := by omega
  have hmt2 : mt ≤ t.size := by omega
  have hmin3 : (if (60 : Int) < ((t.size : Nat) : Int) then (60 : Int) else ((t.size : Nat) : Int)) = (mt : Int) := by split <;> omega
  have es : s.extract 0 ms = cut60 s := by rw [hms, cut60]
  have et : t.extract 0 mt = cut60 t := by rw [hmt, cut60]
  have hcs := cut60_size s
  have hct := cut60_size t
  clear hms hmt
  generalize cut60 s = s1 at *
  generalize cut60 t = t1 at *
  have hq1 : 1 ≤ f1.length → q = some ⟨g, 0, none⟩ := fun h => (hq h).1
  have hq1' : 1 ≤ f2.length → q' = some ⟨g', 0, none⟩ := fun h => (hq' h).1
  have c1 := ver_any root s1 n i hn (by omega) f1 hfs (by omega) q g 0 cp (by omega) hcp hq1 w3 ht3 hAf
  have c2 : ∀ W, Below w3.heap.size w3 W → _ := fun W hW => ver_any root t1 n i hn (by omega) f2 hfs' (by omega) q' g' 0 cp' (by omega) hcp' hq1' W (ht3.below hW (by have := hB3'.size; omega)) (hAf'.below hW)
  have HT3 : Shut _ := ⟨ht3⟩
  have HAF : Shut _ := ⟨hAf⟩
  have HAF' : Shut _ := ⟨hAf'⟩
  have HQ : Shut _ := ⟨hq1⟩
  have HQ' : Shut _ := ⟨hq1'⟩
  clear ht3 hAf hAf' hq hq' hq1 hq1' hO3 hO'
  go_upto_region 6 with fail
  go_upto_region 7 with (go_at_call 29; refine c1.mono ?_; rintro e w4 ⟨rfl, hB4⟩)
  go_upto_region 8 with (go_at_call 29; refine (c2 _ hB4).mono ?_; rintro e w5 ⟨rfl, hB5⟩)
  have hB5' : Below w3.heap.size w3 w5 := hB4.trans (hB5.mono hB4.size)
  have hF5 : Below w.heap.size w w5 := hB3'.trans (hB5'.mono hB3'.size)
  have hz3 := hB3'.size
  have HF5 : Shut _ := ⟨hF5⟩
  have HB5 : Shut _ := ⟨hB5'⟩
  clear c1 c2 hB4 hB5 hB3' hF5 hB5'
  generalize hV1 : verB root n i s1 f1 = r1 at *
  generalize hV2 : verB root n i t1 f2 = r2 at *
  have HV1 : Shut _ := ⟨hV1⟩
  have HV2 : Shut _ := ⟨hV2⟩
  clear hV1 hV2
  cases r1 with
  | false =>
    go_wp2
    go_ret
    exact ⟨rfl, HF5.o⟩
  | true =>
    cases r2 with
    | false =>
      go_wp2
      go_ret
      exact ⟨rfl, HF5.o⟩
    | true =>
      by_cases hst : s1 = t1
      · have hbe : (s1.toList == t1.toList) = true := by rw [str_eq]; exact decide_eq_true hst
        clear hst
        go_wp2
        go_ret
        exact ⟨rfl, HF5.o⟩
      · have hbe : (s1.toList == t1.toList) = false := by rw [str_eq]; exact decide_eq_false hst
        obtain ⟨hi0, hin, hd1, hok1, hv1⟩ := ver_parts HV1.o
        obtain ⟨_, _, hd2, hok2, hv2⟩ := ver_parts HV2.o
        obtain ⟨I, rfl⟩ := Int.eq_ofNat_of_zero_le hi0
        obtain ⟨N, rfl⟩ := Int.eq_ofNat_of_zero_le (show 0 ≤ n by omega)
        rw [Int.toNat_natCast, Int.toNat_natCast] at hok1 hv1 hok2 hv2
        have hcoll := binding f1.reverse f2.reverse N I s1 t1 hok1 hok2 (hv1.trans hv2.symm) hst
        have hw1 := HT3.o.below HB5.o (by omega)
        have cw1 := way_ind s1 (by omega) f1 (by omega) (digs_small hd1) g 0 cp hcp f1.length N I q w5 (Nat.le_refl _) (by omega) (by omega) (by omega) HQ.o hw1 (HAF.o.below HB5.o) (by rw [List.take_length]; exact hok1)
        have cw2 : ∀ W, Below w5.heap.size w5 W → _ := fun W hW => way_ind t1 (by omega) f2 (by omega) (digs_small hd2) g' 0 cp' hcp' f2.length N I q' W (Nat.le_refl _) (by omega) (by omega) (by omega) HQ'.o (hw1.below hW hw1.2.2) ((HAF'.o.below HB5.o).below hW) (by rw [List.take_length]; exact hok2)
        rw [List.take_length] at cw1 cw2
        have hs1 := wayR_size f1.reverse (fun x hx => digs_small hd1 x (List.mem_reverse.1 hx)) N I s1 (by omega)
        have hs2 := wayR_size f2.reverse (fun x hx => digs_small hd2 x (List.mem_reverse.1 hx)) N I t1 (by omega)
        have hl1 := wayR_len f1.reverse N I s1
        have hl2 := wayR_len f2.reverse N I t1
        rw [List.length_reverse] at hl1 hl2
        have HW1 : Shut _ := ⟨hw1⟩
        clear hd1 hd2 hok1 hok2 hv1 hv2 hst hw1 HV1 HV2
        generalize wayR f1.reverse N I s1 = x1 at *
        generalize wayR f2.reverse N I t1 = x2 at *
        have hx1 : x1.length ≤ 1000 := by omega
        have hx2 : x2.length ≤ 1000 := by omega
        clear hl1 hl2
        go_upto_region 11 with (go_at_call 31; refine cw1.mono ?_; rintro e w6 ⟨v6, rfl, hO6, hB6⟩)
        go_upto_region 12 with (go_at_call 31; refine (cw2 _ hB6).mono ?_; rintro e w7 ⟨v7, rfl, hO7, hB7⟩)
        have hO6' := hO6.below hB7
        have hB7' := hB6.trans (hB7.mono hB6.size)
        have ht7 := HW1.o.below hB7' HW1.o.2.2
        obtain ⟨pa, ca, ga, rfl, hpa, hAa, hca, hma⟩ := hO6'.open
        obtain ⟨pb, cb, gb, rfl, hpb, hAb, hcb, hmb⟩ := hO7.open
        have cc := collide_any x1 x2 ga ca gb cb pa pb (fun h => (hpa h).1) (fun h => (hpb h).1) (by omega) (by omega) hs1 hs2 w7 ht7 hAa hAb hcoll
        clear cw1 cw2 hO6 hO7 hO6' hpa hpb hAa hAb ht7 hcoll hs1 hs2
        go_wp2_with (go_at_call 32; refine cc.mono ?_; rintro e w8 ⟨rfl, hB8⟩)
        go_ret
        exact ⟨rfl, HF5.o.trans ((hB7'.trans (hB8.mono hB7'.size)).mono HF5.o.size)⟩
end Go.Proofs.YtnceemdemjjhlaaDoor
