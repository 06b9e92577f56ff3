/-
  The walk of DigestExtensionAccepted.
-/
import Derived.Test.YtjpkmafjdfkbkaaDoorDigAcc
namespace Go.Proofs.YtjpkmafjdfkbkaaDoor
open Go.RowKit

set_option maxRecDepth 100000 in
set_option maxHeartbeats 4000000 in
theorem extAcc_any (ls : List ByteArray) (b o cap : Nat) (p : Option Addr) (hp : 1 ≤ ls.length → p = some ⟨b, o, none⟩) (hl : ls.length ≤ 9223372036854775807) (hS : ∀ s ∈ ls, s.size ≤ 9223372036854775807) (m : Int) (w : World) (hA : SA w b o ls) (ht : Tab w) :
    Calls Tryd.prog 6 #[.slice p ls.length cap, .int .i64 m] w fun e w' => e = .returned (.bool true) ∧ Below w.heap.size w w' := by
  have hge := ht.2.2
  have cs := sane_any w ht
  go_enter Tryd.func6, Tryd.ntmps6
  go_upto_region 2 with (go_at_call 11; refine cs.mono ?_; rintro e w1 ⟨rfl, hB1⟩)
  have ht1 := ht.below hB1 hge
  have cf := few_any ls b o cap 25 p hp hl (by omega) hS w1 (hA.below hB1)
  go_upto_region 3 with (go_at_call 20; refine cf.mono ?_; rintro e w2 ⟨v, rfl, hO, hB2⟩)
  have hB2' := hB1.trans (hB2.mono hB1.size)
  have ht2 := ht.below hB2' hge
  have hfl := few_len ls 25
  have hfs := few_small ls 25
  clear cf cs hp hA hS ht ht1
  generalize fewB ls 25 = fs at *
  obtain ⟨q, cp, g, rfl, hq, hAf, hcp, hcm⟩ := hO.open
  have hcm' : cp ≤ 9223372036854775807 := by unfold maxLen at hcm; omega
  have hq' : 1 ≤ fs.length → q = some ⟨g, 0, none⟩ := fun h => (hq h).1
  have cR := root_gen fs q g 0 cp hq' w2 hcp hcm' hfs ht2 hAf
  have HQ : Shut _ := ⟨hq'⟩
  clear hO hq hq' hcm
  go_upto_region 4 with (go_at_call 26; refine cR.mono ?_; rintro e w3 ⟨rfl, hB3⟩)
  have hB3' := hB2'.trans (hB3.mono hB2'.size)
  have hAf3 := hAf.below hB3
  clear cR hB1 hB2
  have hcE : ∀ (k : Nat) (W : World), k ≤ fs.length → Below w3.heap.size w3 W → Calls Tryd.prog 23 #[.slice q fs.length cp, .int .i64 k] W fun e w' => ∃ v, e = .returned (.tuple #[v, .int .i64 0]) ∧ OwnS w' W.heap.size v (extR fs k).reverse ∧ Below W.heap.size W w' := fun k W hk hW =>
    ext_in fs k g 0 cp q HQ.o W hk (by omega) hcp hcm' hfs ((ht2.below hB3 (by have := hB2'.size; omega)).below hW (by have := hB3'.size; omega)) (hAf3.below hW)
  have hcR : ∀ (k : Nat) (W : World), k ≤ fs.length → Below w3.heap.size w3 W → Calls Tryd.prog 26 #[.slice q k cp] W fun e w' => e = .returned (.string (rootB (fs.take k))) ∧ Below W.heap.size W w' := fun k W hk hW => by
    have e : (fs.take k).length = k := by rw [List.length_take]; omega
    have := root_gen (fs.take k) q g 0 cp (fun h => HQ.o (by omega)) W (by omega) hcm' (hfs.take k) ((ht2.below hB3 (by have := hB2'.size; omega)).below hW (by have := hB3'.size; omega)) ((hAf3.take k).below hW)
    rwa [e] at this
  have hcV : ∀ (k : Nat) (W : World) (v : Value) (B : Nat), k ≤ fs.length → Below w3.heap.size w3 W → OwnS W B v (extR fs k).reverse → Calls Tryd.prog 30 #[.string (rootB (fs.take k)), .int .i64 k, .string (rootB fs), .int .i64 fs.length, v] W fun e w' => e = .returned (.bool true) ∧ Below W.heap.size W w' := fun k W v B hk hW hO => by
    obtain ⟨p2, cp2, g2, rfl, hp2, hA2, hc2, hm2⟩ := hO.open
    have hlen := ext_len fs k hk
    have hbin : bin fs.length ≤ 64 := by
      rw [bin]; split
      · omega
      · have := Nat.log2_lt (n := fs.length) (k := 20) (by omega) |>.2 (by omega); omega
    have := verE_any (rootB (fs.take k)) (rootB fs) k fs.length (by omega) (extR fs k).reverse (small_rev _ (ext_digs fs k)) (by rw [List.length_reverse]; omega) p2 g2 0 cp2 (by unfold maxLen at hm2; omega) hc2 (fun h => (hp2 h).1) W ((ht2.below hB3 (by have := hB2'.size; omega)).below hW (by have := hB3'.size; omega)) hA2
    rw [ext_ok fs k hk] at this
    exact this
  have hcB := fun W => binary_any fs.length (by omega) W
  have hLen := fun k hk => ext_len fs k hk
  have hcO : ∀ (W : World), Below w3.heap.size w3 W → (m < 0 ∨ (fs.length : Int) < m) → Calls Tryd.prog 30 #[.string (rootB fs), .int .i64 m, .string (rootB fs), .int .i64 fs.length, .slice none 0 0] W fun e w' => e = .returned (.bool false) ∧ Below W.heap.size W w' := fun W hW hm => by
    have := verE_any (rootB fs) (rootB fs) m fs.length (by omega) [] (by intro s hs; simp at hs) (by simp) none 0 0 0 (by omega) (by simp) (by simp) W ((ht2.below hB3 (by have := hB2'.size; omega)).below hW (by have := hB3'.size; omega)) (fun i hi => by simp at hi)
    rw [show verE (rootB fs) m (rootB fs) fs.length [] = false by rw [verE, if_pos hm]] at this
    exact this
  have HF : Shut (Small fs ∧ Tab w2 ∧ SA w2 g 0 fs ∧ SA w3 g 0 fs) := ⟨hfs, ht2, hAf, hAf3⟩
  have HB3 : Shut (Below w.heap.size w w3) := ⟨hB3'⟩
  have hz3 := hB3'.size
  clear hfs ht2 hAf hAf3 hB3 hB3' hB2'
  go_wp2
  go_loopw [7] (fun k5 wr => ∃ k : Nat, k ≤ fs.length + 1 ∧ k5 = .int .i64 k ∧ Shut (Below w3.heap.size w3 wr)) (fun k5 _ => fs.length + 1 - (intOf k5).toNat)
  case atStart => exact ⟨0, by omega, rfl, ⟨Below.refl _ _⟩⟩
  case round =>
    obtain ⟨k, hk, rfl, hBr⟩ := hrel
    by_cases hkn : k ≤ fs.length
    · have c1 := hcE k wr hkn hBr.o
      go_upto_region 8 with (go_at_call 23; refine c1.mono ?_; rintro e w4 ⟨x, rfl, hO4, hB4⟩)
      have hB4' := hBr.o.trans (hB4.mono hBr.o.size)
      obtain ⟨p2, cp2, g2, hx, hp2, hA2, hc2, hm2⟩ := hO4.open
      have hle := hLen k hkn
      have c2 := hcR k w4 hkn hB4'
      have c3 : ∀ W, Below w4.heap.size w4 W → _ := fun W hW => hcV k W x wr.heap.size hkn (hB4'.trans (hW.mono hB4'.size)) (hO4.below hW)
      rw [hx] at c3
      rw [List.length_reverse] at c3 hx
      subst hx
      clear c1 hcE hcR hcV hcO hO4 hA2 hp2
      generalize (extR fs k).length = xl at *
      generalize rootB (fs.take k) = rk at *
      have hxl : ¬ ((2 : Int) * (bin fs.length : Int) < (xl : Int)) := by omega
      have hbin : bin fs.length ≤ 1000000 := by
        rw [bin]; split
        · omega
        · have := Nat.log2_lt (n := fs.length) (k := 20) (by omega) |>.2 (by omega); omega
      generalize bin fs.length = bn at *
      have HB4 : Shut _ := ⟨hB4'⟩
      clear hB4' hB4
      go_wp2_with (first | (go_at_call 28; refine (hcB _).mono ?_; rintro e wb ⟨rfl, rfl⟩) | (go_at_call 26; refine c2.mono ?_; rintro e w5 ⟨rfl, hB5⟩) | (go_at_call 30; refine (c3 _ hB5).mono ?_; rintro e w6 ⟨rfl, hB6⟩))
      exact ⟨⟨k + 1, by omega, by go_num, ⟨HB4.o.trans ((hB5.trans (hB6.mono hB5.size)).mono HB4.o.size)⟩⟩, by simp [intOf]; omega⟩
    · have hfin : Below w.heap.size w wr := HB3.o.trans (hBr.o.mono hz3)
      have HFIN : Shut _ := ⟨hfin⟩
      clear hfin
      by_cases h0 : m < 0
      · have co := hcO
        have c1 := ext_out q fs.length cp m (.inl h0) wr
        have c2 := fun W hW => hcO W hW (.inl h0)
        have hd1 : decide (0 ≤ m) = false := decide_eq_false (by omega)
        clear hcE hcR hcV hcO co hLen hcB
        generalize rootB fs = rf at *
        go_wp2_with (first | (go_at_call 23; refine c1.mono ?_; rintro e w4 ⟨rfl, rfl⟩) | (go_at_call 30; refine (c2 _ hBr.o).mono ?_; rintro e w6 ⟨rfl, hB6⟩))
        go_ret
        exact ⟨rfl, HFIN.o.trans (hB6.mono HFIN.o.size)⟩
      · by_cases h1 : (fs.length : Int) < m
        · have c1 := ext_out q fs.length cp m (.inr h1) wr
          have c2 := fun W hW => hcO W hW (.inr h1)
          have hd1 : decide (0 ≤ m) = true := decide_eq_true (by omega)
          have hd2 : decide (m ≤ (fs.length : Int)) = false := decide_eq_false (by omega)
          clear hcE hcR hcV hcO hLen hcB
          generalize rootB fs = rf at *
          go_wp2_with (first | (go_at_call 23; refine c1.mono ?_; rintro e w4 ⟨rfl, rfl⟩) | (go_at_call 30; refine (c2 _ hBr.o).mono ?_; rintro e w6 ⟨rfl, hB6⟩))
          go_ret
          exact ⟨rfl, HFIN.o.trans (hB6.mono HFIN.o.size)⟩
        · obtain ⟨M, rfl⟩ := Int.eq_ofNat_of_zero_le (show 0 ≤ m by omega)
          have c1 := hcE M wr (by omega) hBr.o
          have hd1 : decide (0 ≤ (M : Int)) = true := decide_eq_true (by omega)
          have hd2 : decide ((M : Int) ≤ (fs.length : Int)) = true := decide_eq_true (by omega)
          clear hcE hcR hcV hcO hLen hcB
          generalize rootB fs = rf at *
          go_wp2_with (first | (go_at_call 23; refine c1.mono ?_; rintro e w4 ⟨x, rfl, hO4, hB4⟩))
          go_ret
          exact ⟨rfl, HFIN.o.trans (hB4.mono HFIN.o.size)⟩
end Go.Proofs.YtjpkmafjdfkbkaaDoor
