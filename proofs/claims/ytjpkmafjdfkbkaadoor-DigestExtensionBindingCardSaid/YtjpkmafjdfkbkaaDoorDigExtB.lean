/-
  The walk of DigestExtensionBinding.
-/
import Derived.Test.YtjpkmafjdfkbkaaDoorDigSidesB
namespace Go.Proofs.YtjpkmafjdfkbkaaDoor
open Go.RowKit

theorem ext_parts {old root : ByteArray} {m n : Int} {ps : List ByteArray} (h : verE old m root n ps = true) : 0 ≤ m ∧ m ≤ n ∧ old.size = 32 ∧ digs ps = true ∧
    ((m = 0 ∧ old = rootB []) ∨ (m ≠ 0 ∧ (valuesR old ps.reverse m.toNat n.toNat true).2.2 = true ∧ (valuesR old ps.reverse m.toNat n.toNat true).1 = old ∧ (valuesR old ps.reverse m.toNat n.toNat true).2.1 = root)) := by
  rw [verE] at h
  split at h
  · cases h
  · rename_i h1
    split at h
    · cases h
    · rename_i h2
      split at h
      · cases h
      · rename_i h3
        have ho : old.size = 32 := by
          have h4 : digs [old, root] = true := by simpa using h2
          rw [digs, List.all_eq_true] at h4
          have := h4 old (by simp)
          simpa using this
        split at h
        · rename_i h5
          simp only [Bool.and_eq_true, decide_eq_true_eq] at h
          exact ⟨by omega, by omega, ho, by simpa using h3, .inl ⟨h5, h.2⟩⟩
        · rename_i h5
          simp only [Bool.and_eq_true, decide_eq_true_eq] at h
          exact ⟨by omega, by omega, ho, by simpa using h3, .inr ⟨h5, h.1.1, h.1.2, h.2⟩⟩
theorem digs_32 {ps : List ByteArray} (h : digs ps = true) : ∀ x ∈ ps, x.size = 32 := by
  intro x hx
  rw [digs, List.all_eq_true] at h
  have := h x hx
  simpa using this

set_option maxRecDepth 100000 in
set_option maxHeartbeats 500000 in
theorem extBind_any (a b root : ByteArray) (m n : Int) (hn : n ≤ 9223372036854775807) (ls : List ByteArray) (b0 o cap : Nat) (p : Option Addr) (hp : 1 ≤ ls.length → p = some ⟨b0, o, none⟩) (hl : ls.length ≤ 9223372036854775807) (hS : ∀ s ∈ ls, s.size ≤ 9223372036854775807)
    (ls' : List ByteArray) (b' o' cap' : Nat) (p' : Option Addr) (hp' : 1 ≤ ls'.length → p' = some ⟨b', o', none⟩) (hl' : ls'.length ≤ 9223372036854775807) (hS' : ∀ s ∈ ls', s.size ≤ 9223372036854775807) (w : World) (hA : SA w b0 o ls) (hA' : SA w b' o' ls') (ht : Tab w) :
    Calls Tryd.prog 9 #[.string a, .slice p ls.length cap, .string b, .slice p' ls'.length cap', .int .i64 m, .string root, .int .i64 n] w fun e w' => e = .returned (.bool true) ∧ Below w.heap.size w w' := by
  have hge := ht.2.2
  have cs := sane_any w ht
  go_enter Tryd.func9, Tryd.ntmps9
  go_upto_region 2 with (go_at_call 11; refine cs.mono ?_; rintro e w1 ⟨rfl, hB1⟩)
  have cf := few_any ls b0 o cap 70 p hp hl (by omega) hS w1 (hA.below hB1)
  go_upto_region 3 with (go_at_call 20; refine cf.mono ?_; rintro e w2 ⟨v, rfl, hO, hB2⟩)
  have hB2' := hB1.trans (hB2.mono hB1.size)
  have cf' := few_any ls' b' o' cap' 70 p' hp' hl' (by omega) hS' w2 (hA'.below hB2')
  go_upto_region 4 with (go_at_call 20; refine cf'.mono ?_; rintro e w3 ⟨v', rfl, hO', hB3⟩)
  have hB3' := hB2'.trans (hB3.mono hB2'.size)
  have ht3 := ht.below hB3' hge
  have hO3 := hO.below hB3
  have hfl := few_len ls 70
  have hfs := few_small ls 70
  have hfl' := few_len ls' 70
  have hfs' := few_small ls' 70
  clear cf cf' cs hp hp' hA hA' hS hS' ht hO hB1 hB2 hB2' hB3
  generalize fewB ls 70 = f1 at *
  generalize fewB ls' 70 = f2 at *
  obtain ⟨q, cp, g, rfl, hq, hAf, hcp, hcm⟩ := hO3.open
  obtain ⟨q', cp', g', rfl, hq', hAf', hcp', hcm'⟩ := hO'.open
  unfold maxLen at hcm hcm'
  have hq1 : 1 ≤ f1.length → q = some ⟨g, 0, none⟩ := fun h => (hq h).1
  have hq1' : 1 ≤ f2.length → q' = some ⟨g', 0, none⟩ := fun h => (hq' h).1
  have c1 := verE_any a root m n hn f1 hfs (by omega) q g 0 cp (by omega) hcp hq1 w3 ht3 hAf
  have c2 : ∀ W, Below w3.heap.size w3 W → _ := fun W hW => verE_any b root m n hn f2 hfs' (by omega) q' g' 0 cp' (by omega) hcp' hq1' W (ht3.below hW (by have := hB3'.size; omega)) (hAf'.below hW)
  have HT3 : Shut _ := ⟨ht3⟩
  have HAF : Shut _ := ⟨hAf⟩
  have HAF' : Shut _ := ⟨hAf'⟩
  have HQ : Shut _ := ⟨hq1⟩
  have HQ' : Shut _ := ⟨hq1'⟩
  clear ht3 hAf hAf' hq hq' hq1 hq1' hO3 hO'
  go_upto_region 5 with (go_at_call 30; refine c1.mono ?_; rintro e w4 ⟨rfl, hB4⟩)
  go_upto_region 6 with (go_at_call 30; refine (c2 _ hB4).mono ?_; rintro e w5 ⟨rfl, hB5⟩)
  have hB5' : Below w3.heap.size w3 w5 := hB4.trans (hB5.mono hB4.size)
  have hF5 : Below w.heap.size w w5 := hB3'.trans (hB5'.mono hB3'.size)
  have hz3 := hB3'.size
  have HF5 : Shut _ := ⟨hF5⟩
  have HB5 : Shut _ := ⟨hB5'⟩
  clear c1 c2 hB4 hB5 hB3' hF5 hB5'
  generalize hV1 : verE a m root n f1 = r1 at *
  generalize hV2 : verE b m root n f2 = r2 at *
  have HV1 : Shut _ := ⟨hV1⟩
  have HV2 : Shut _ := ⟨hV2⟩
  clear hV1 hV2
  cases r1 with
  | false =>
    go_wp2
    go_ret
    exact ⟨rfl, HF5.o⟩
  | true =>
    cases r2 with
    | false =>
      go_wp2
      go_ret
      exact ⟨rfl, HF5.o⟩
    | true =>
      by_cases hst : a = b
      · have hbe : (a.toList == b.toList) = true := by rw [str_eq]; exact decide_eq_true hst
        clear hst
        go_wp2
        go_ret
        exact ⟨rfl, HF5.o⟩
      · have hbe : (a.toList == b.toList) = false := by rw [str_eq]; exact decide_eq_false hst
        obtain ⟨hm0, hmn, ha, hd1, hor1⟩ := ext_parts HV1.o
        obtain ⟨_, _, hb, hd2, hor2⟩ := ext_parts HV2.o
        have hmz : m ≠ 0 := by
          intro h0
          rcases hor1 with ⟨_, e1⟩ | ⟨h1, _⟩
          · rcases hor2 with ⟨_, e2⟩ | ⟨h2, _⟩
            · exact hst (e1.trans e2.symm)
            · exact h2 h0
          · exact h1 h0
        obtain ⟨_, hok1, hu1, hv1⟩ := hor1.resolve_left (fun h => hmz h.1)
        obtain ⟨_, hok2, hu2, hv2⟩ := hor2.resolve_left (fun h => hmz h.1)
        obtain ⟨M, rfl⟩ := Int.eq_ofNat_of_zero_le hm0
        obtain ⟨N, rfl⟩ := Int.eq_ofNat_of_zero_le (show 0 ≤ n by omega)
        rw [Int.toNat_natCast, Int.toNat_natCast] at hok1 hu1 hv1 hok2 hu2 hv2
        have h321 : ∀ x ∈ f1.reverse, x.size = 32 := fun x hx => digs_32 hd1 x (List.mem_reverse.1 hx)
        have h322 : ∀ x ∈ f2.reverse, x.size = 32 := fun x hx => digs_32 hd2 x (List.mem_reverse.1 hx)
        have hcoll := ext_binding a b ha hb f1.reverse f2.reverse h321 h322 M N true hok1 hok2 (hv1.trans hv2.symm) (by rw [hu1, hu2]; exact hst)
        have hw1 := HT3.o.below HB5.o (by omega)
        have cw1 := sides_ind a ha f1 (by omega) (digs_32 hd1) g 0 cp hcp f1.length M N true q w5 (Nat.le_refl _) (by omega) (by omega) (by omega) HQ.o hw1 (HAF.o.below HB5.o) (by rw [List.take_length]; exact hok1)
        have cw2 : ∀ W, Below w5.heap.size w5 W → _ := fun W hW => sides_ind b hb f2 (by omega) (digs_32 hd2) g' 0 cp' hcp' f2.length M N true q' W (Nat.le_refl _) (by omega) (by omega) (by omega) HQ'.o (hw1.below hW hw1.2.2) ((HAF'.o.below HB5.o).below hW) (by rw [List.take_length]; exact hok2)
        rw [List.take_length] at cw1 cw2
        have hs1 := sidesR_size a ha f1.reverse h321 M N true hok1
        have hs2 := sidesR_size b hb f2.reverse h322 M N true hok2
        have hl1 := sidesR_len a f1.reverse M N true
        have hl2 := sidesR_len b f2.reverse M N true
        rw [List.length_reverse] at hl1 hl2
        have HW1 : Shut _ := ⟨hw1⟩
        clear hd1 hd2 hok1 hok2 hv1 hv2 hu1 hu2 hor1 hor2 h321 h322 hst hw1 HV1 HV2 ha hb
        generalize sidesR a f1.reverse M N true = x1 at *
        generalize sidesR b f2.reverse M N true = x2 at *
        have hx1 : x1.length ≤ 1000 := by omega
        have hx2 : x2.length ≤ 1000 := by omega
        clear hl1 hl2
        go_upto_region 9 with (go_at_call 34; refine cw1.mono ?_; rintro e w6 ⟨v6, rfl, hO6, hB6⟩)
        go_upto_region 10 with (go_at_call 34; refine (cw2 _ hB6).mono ?_; rintro e w7 ⟨v7, rfl, hO7, hB7⟩)
        have hO6' := hO6.below hB7
        have hB7' := hB6.trans (hB7.mono hB6.size)
        have ht7 := HW1.o.below hB7' HW1.o.2.2
        obtain ⟨pa, ca, ga, rfl, hpa, hAa, hca, hma⟩ := hO6'.2.open
        obtain ⟨pb, cb, gb, rfl, hpb, hAb, hcb, hmb⟩ := hO7.2.open
        have cc := collide_any x1 x2 ga ca gb cb pa pb (fun h => (hpa h).1) (fun h => (hpb h).1) (by omega) (by omega) hs1 hs2 w7 ht7 hAa hAb hcoll
        clear cw1 cw2 hO6 hO7 hO6' hpa hpb hAa hAb ht7 hcoll hs1 hs2
        go_wp2_with (go_at_call 32; refine cc.mono ?_; rintro e w8 ⟨rfl, hB8⟩)
        go_ret
        exact ⟨rfl, HF5.o.trans ((hB7'.trans (hB8.mono hB7'.size)).mono HF5.o.size)⟩
end Go.Proofs.YtjpkmafjdfkbkaaDoor
