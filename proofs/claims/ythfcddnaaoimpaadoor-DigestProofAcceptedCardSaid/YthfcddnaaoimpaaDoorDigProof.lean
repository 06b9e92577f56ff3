/-
  The walk of DigestProofAccepted.
-/
import Derived.Test.YthfcddnaaoimpaaDoorDigPrM
import Derived.Test.YthfcddnaaoimpaaDoorDigSplit
import Derived.Deep.RegionHeld3
namespace Go.Proofs.YthfcddnaaoimpaaDoor
open Go.RowKit

theorem step_append_strs {w : World} {ops : Array Oper} {o : Oper} {a : Act} {K : Act → World → Prop} {Q : Exit → Act → World → Prop} {E : Prop}
    (hg : o.guard = none) (s x : Operand) (hop : o.op = .call { callee := .builtin .append, args := #[s, x], argTypes := #[26, 26] }) (base : Nat) (v : Value) (xs : List ByteArray) (hs : a.eval s = v) (hown : OwnS w base v xs)
    (Bx : Nat) (vx : Value) (ys zs : List ByteArray) (hx : a.eval x = vx) (hys : OwnS w Bx vx ys) (hz : zs = xs ++ ys) (hl : xs.length + ys.length ≤ 1000) (hb : base ≤ w.heap.size)
    (hK : ∀ v' w', OwnS w' base v' zs → Below base w w' → w.grownBy w' v.ownBlock → K (a.put o.dst v') w') : if Region.wanted o (yielded ops a.tmps) = true then Oper.wp Tryd.prog o a w K Q else E := by
  obtain ⟨i0, hinf, hz0, hz1, hz2⟩ := info_parts infoStr
  subst hz
  rcases hys.2 with ⟨rfl, hn⟩ | ⟨g, cap, cur, rfl, _⟩
  · obtain rfl := List.eq_nil_of_length_eq_zero hn
    have hw : Region.wanted o (yielded ops a.tmps) = true := by simp [Region.wanted, hg]
    rw [if_pos hw]
    have hrun := run_append_owned_none (P := Tryd.prog) (w := w) base 26 o.type 9 i0 1 Tryd.underlying26 hinf v xs.length _ hown
    unfold Oper.wp
    simp [execOp, hop, resolve, invoke, builtin, hs, hx, hrun, Result.andThen]
    exact hK _ _ (by rw [List.append_nil]; exact hown) (Below.refl _ _) ⟨rfl, rfl, rfl, Nat.le_refl _, fun _ _ _ => rfl⟩
  · obtain ⟨p, cap', g', he, hp, hA, hc, hm⟩ := hys.open
    have hA' : SA w g 0 ys := by
      intro i hi
      injection he with e1 e2 e3
      obtain ⟨hp1, _⟩ := hp (by omega)
      rw [hp1] at e1
      injection e1 with e1
      injection e1 with e1
      subst e1
      exact hA i hi
    refine step_append_own hg s x 26 hop base 9 i0 (.string ⟨#[]⟩) 1 16 Tryd.underlying26 hinf hz0 hz1 hz2 rfl (by decide) v xs.length _ hs hown ⟨g, 0, none⟩ ys.length cap (ys.map Value.string) hx (by rw [List.length_map, Nat.mul_one]) (SA.cells hA') (strs_one ys) (by unfold maxLen; omega) (by omega) hb ?_
    intro v' w' hown' hgrow
    refine hK v' w' ?_ (below_append (Below.refl _ _) hb hown hgrow) hgrow
    unfold OwnS
    rw [List.length_append, List.map_append]
    exact hown'
theorem step_append_at {w : World} {ops : Array Oper} {a : Act} {K : Act → World → Prop} {Q : Exit → Act → World → Prop} {E : Prop} {ty : TypeId} {pos : String} {after : Array Edge}
    (d s x : Nat) (base : Nat) (xs : List ByteArray) (Bx : Nat) (ys zs : List ByteArray) (hown : OwnS w base (a.eval (.tmp s)) xs)
    (hys : OwnS w Bx (a.eval (.tmp x)) ys) (hz : zs = xs ++ ys) (hl : xs.length + ys.length ≤ 1000) (hb : base ≤ w.heap.size)
    (hK : ∀ v' w', OwnS w' base v' zs → Below base w w' → w.grownBy w' (a.eval (.tmp s)).ownBlock → K (a.put (some d) v') w') : if Region.wanted { dst := some d, op := .call { callee := .builtin .append, args := #[.tmp s, .tmp x], argTypes := #[26, 26] }, type := ty, pos := pos, after := after, guard := none } (yielded ops a.tmps) = true then Oper.wp Tryd.prog { dst := some d, op := .call { callee := .builtin .append, args := #[.tmp s, .tmp x], argTypes := #[26, 26] }, type := ty, pos := pos, after := after, guard := none } a w K Q else E :=
  step_append_strs rfl (.tmp s) (.tmp x) rfl base _ xs rfl hown Bx _ ys zs rfl hys hz hl hb hK
theorem OwnS.grown {W W' : World} {B g n c : Nat} {xs : List ByteArray} {r : Option Nat} (h : OwnS W B (.slice (some ⟨g, 0, none⟩) n c) xs) (hg : W.grownBy W' r) (hne : some g ≠ r) : OwnS W' B (.slice (some ⟨g, 0, none⟩) n c) xs := by
  refine ⟨h.1, ?_⟩
  rcases h.2 with hn | ⟨g', cap, cur, e, hb, hgg, rest⟩
  · exact .inl hn
  · have e2 := e
    injection e2 with e3
    injection e3 with e3
    injection e3 with e3
    subst e3
    exact .inr ⟨g, cap, cur, e, hb, by rw [hg.block g (Array.getElem?_eq_some_iff.1 hgg).1 hne]; exact hgg, rest⟩
theorem OwnS.zero0 (W : World) (B : Nat) (h : B ≤ W.heap.size) : OwnS (W.alloc (.cells #[] 9)) B (.slice (some ⟨W.heap.size, 0, none⟩) 0 0) [] :=
  ⟨by simp, .inr ⟨W.heap.size, 0, #[], rfl, h, RowAt.new W _ _, by simp, by unfold maxLen; omega, by simp, by simp⟩⟩

set_option maxRecDepth 100000 in
set_option maxHeartbeats 20000000 in
theorem proofAcc_any (ls : List ByteArray) (b o cap : Nat) (p : Option Addr) (hp : 1 ≤ ls.length → p = some ⟨b, o, none⟩) (hl : ls.length ≤ 9223372036854775807) (hS : ∀ s ∈ ls, s.size ≤ 9223372036854775807) (m : Int) (hmi : m ≤ 9223372036854775807) (w : World) (hA : SA w b o ls) (ht : Tab w) :
    Calls Tryd.prog 5 #[.slice p ls.length cap, .int .i64 m] w fun e w' => e = .returned (.bool true) ∧ Below w.heap.size w w' := by
  have hge := ht.2.2
  have cs := sane_any w ht
  go_enter Tryd.func5, Tryd.ntmps5
  go_upto_region 2 with (go_at_call 11; refine cs.mono ?_; rintro e w1 ⟨rfl, hB1⟩)
  have ht1 := ht.below hB1 hge
  have cf := few_any ls b o cap  40 p hp hl (by omega) hS w1 (hA.below hB1)
  go_upto_region 3 with (go_at_call 20; refine cf.mono ?_; rintro e w2 ⟨v, rfl, hO, hB2⟩)
  have hB2' := hB1.trans (hB2.mono hB1.size)
  have ht2 := ht.below hB2' hge
  have hfl := few_len ls  40
  have hfs := few_small ls  40
  clear cf cs hp hA hS ht ht1
  generalize fewB ls  40 = fs at *
  obtain ⟨q, cp, g, rfl, hq, hAf, hcp, hcm⟩ := hO.open
  have hcm' : cp ≤ 9223372036854775807 := by unfold maxLen at hcm; omega
  have hq' : 1 ≤ fs.length → q = some ⟨g, 0, none⟩ := fun h => (hq h).1
  have cR := root_gen fs q g 0 cp hq' w2 hcp hcm' hfs ht2 hAf
  have HQ : Shut _ := ⟨hq'⟩
  clear hO hq hq' hcm
  go_upto_region 4 with (go_at_call 26; refine cR.mono ?_; rintro e w3 ⟨rfl, hB3⟩)
  have hB3' := hB2'.trans (hB3.mono hB2'.size)
  have hAf3 := hAf.below hB3
  clear cR hB1 hB2
  have hcP : ∀ (k : Nat) (W : World), k < fs.length → Below w3.heap.size w3 W → Calls Tryd.prog 21 #[.slice q fs.length cp, .int .i64 k] W fun e w' => ∃ v, e = .returned (.tuple #[v, .int .i64 0]) ∧ OwnS w' W.heap.size v (pathR fs k).reverse ∧ Below W.heap.size W w' := fun k W hk hW => by
    obtain rfl := HQ.o (by omega)
    exact proof_in fs k g 0 cp W hk (by omega) hcp hcm' hfs ((ht2.below hB3 (by have := hB2'.size; omega)).below hW (by have := hB3'.size; omega)) (hAf3.below hW)
  have hcV : ∀ (k : Nat) (hk : k < fs.length) (W : World) (v : Value) (B : Nat) (ps : List ByteArray), Below w3.heap.size w3 W → OwnS W B v ps → Small ps → ps.length ≤ 1000 → ∃ p2 cp2, v = .slice p2 ps.length cp2 ∧ Calls Tryd.prog 29 #[.string (rootB fs), .int .i64 fs.length, .int .i64 k, .string fs[k], .slice p2 ps.length cp2] W fun e w' => e = .returned (.bool (verB (rootB fs) fs.length k fs[k] ps)) ∧ Below W.heap.size W w' := fun k hk W v B ps hW hO hps hpl => by
    obtain ⟨p2, cp2, g2, rfl, hp2, hA2, hc2, hm2⟩ := hO.open
    exact ⟨p2, cp2, rfl, ver_any (rootB fs) fs[k] fs.length k (by omega) (by have := hfs fs[k] (List.getElem_mem hk); omega) ps hps (by omega) p2 g2 0 cp2 (by unfold maxLen at hm2; omega) hc2 (fun h => (hp2 h).1) W ((ht2.below hB3 (by have := hB2'.size; omega)).below hW (by have := hB3'.size; omega)) hA2⟩
  have hcB := fun W => binary_any fs.length (by omega) W
  have hcO : ∀ (W : World), Below w3.heap.size w3 W → (m < 0 ∨ (fs.length : Int) ≤ m) → Calls Tryd.prog 29 #[.string (rootB fs), .int .i64 fs.length, .int .i64 m, .string ⟨#[]⟩, .slice none 0 0] W fun e w' => e = .returned (.bool false) ∧ Below W.heap.size W w' := fun W hW hm => by
    have := ver_any (rootB fs) ⟨#[]⟩ fs.length m (by omega) (by decide) [] (by intro s hs; simp at hs) (by simp) none 0 0 0 (by omega) (by simp) (by simp) W ((ht2.below hB3 (by have := hB2'.size; omega)).below hW (by have := hB3'.size; omega)) (fun i hi => by simp at hi)
    rw [show verB (rootB fs) fs.length m ⟨#[]⟩ [] = false by rw [verB, if_pos hm]] at this
    exact this
  have HF : Shut (Small fs ∧ Tab w2 ∧ SA w2 g 0 fs ∧ SA w3 g 0 fs) := ⟨hfs, ht2, hAf, hAf3⟩
  have HB3 : Shut (Below w.heap.size w w3) := ⟨hB3'⟩
  have HB23 : Shut _ := ⟨hB3⟩
  have hz3 := hB3'.size
  clear hfs ht2 hAf hAf3 hB3 hB3' hB2'
  go_wp2
  go_loopw [7] (fun k5 wr => ∃ k : Nat, k ≤ fs.length ∧ k5 = .int .i64 k ∧ Shut (Below w3.heap.size w3 wr)) (fun k5 _ => fs.length + 1 - (intOf k5).toNat)
  case atStart => exact ⟨0, by omega, rfl, ⟨Below.refl _ _⟩⟩
  case round =>
    obtain ⟨k, hk, rfl, hBr⟩ := hrel
    by_cases hkn : k < fs.length
    · have c1 := hcP k wr hkn hBr.o
      have HQ2 := HQ.o (by omega)
      subst HQ2
      go_upto_region 8 with (go_at_call 21; refine c1.mono ?_; rintro e w4 ⟨x, rfl, hO4, hB4⟩)
      have hB4' := hBr.o.trans (hB4.mono hBr.o.size)
      have hsm4 := small_rev _ (path_digs fs.length fs k (Nat.le_refl _))
      have hpb := path_bin fs k hkn
      have hbin : bin fs.length ≤ 1000 := by
        rw [bin]; split
        · omega
        · have := Nat.log2_lt (n := fs.length) (k := 20) (by omega) |>.2 (by omega); omega
      have hpl : (pathR fs k).reverse.length ≤ 1000 := by rw [List.length_reverse]; omega
      obtain ⟨p2, cp2, rfl, c2⟩ := hcV k hkn w4 x _ _ hB4' hO4 hsm4 hpl
      rw [ver_path fs k hkn] at c2
      rw [List.length_reverse] at c2 ⊢
      have hcell := (HF.o.2.2.2.below hB4') k hkn
      rw [Nat.zero_add] at hcell
      have hki : (k : Int) < ((fs.length : Nat) : Int) := by omega
      have hk0 : (0 : Int) ≤ (k : Int) := by omega
      have hxl : ¬ ((bin fs.length : Int) < ((pathR fs k).length : Int)) := by omega
      clear c1 hcP hcV hcO hO4 hsm4 hpl hpb
      generalize (pathR fs k).length = xl at *
      generalize bin fs.length = bn at *
      generalize fs[k] = fk at *
      have HB4 : Shut _ := ⟨hB4'⟩
      clear hB4' hB4
      go_wp2_with (first | (go_at_call 28; refine (hcB _).mono ?_; rintro e wb ⟨rfl, rfl⟩) | (go_at_call 29; refine c2.mono ?_; rintro e w6 ⟨rfl, hB6⟩))
      exact ⟨⟨k + 1, by omega, by go_num, ⟨HB4.o.trans (hB6.mono HB4.o.size)⟩⟩, by simp [intOf]; omega⟩
    · have hfin : Below w.heap.size w wr := HB3.o.trans (hBr.o.mono hz3)
      have HFIN : Shut _ := ⟨hfin⟩
      clear hfin
      obtain rfl : k = fs.length := by omega
      by_cases h0 : m < 0
      · have c1 := proof_out q fs.length cp m (.inl h0) wr
        have c2 := fun W hW => hcO W hW (.inl h0)
        have hd1 : decide (0 ≤ m) = false := decide_eq_false (by omega)
        clear hcP hcV hcO hcB
        generalize rootB fs = rf at *
        go_wp2_with (first | (go_at_call 21; refine c1.mono ?_; rintro e w4 ⟨rfl, rfl⟩) | (go_at_call 29; refine (c2 _ hBr.o).mono ?_; rintro e w6 ⟨rfl, hB6⟩))
        go_ret
        exact ⟨rfl, HFIN.o.trans (hB6.mono HFIN.o.size)⟩
      · by_cases h1 : (fs.length : Int) ≤ m
        · have c1 := proof_out q fs.length cp m (.inr h1) wr
          have c2 := fun W hW => hcO W hW (.inr h1)
          have hd1 : decide (0 ≤ m) = true := decide_eq_true (by omega)
          have hd2 : decide (m < (fs.length : Int)) = false := decide_eq_false (by omega)
          clear hcP hcV hcO hcB
          generalize rootB fs = rf at *
          go_wp2_with (first | (go_at_call 21; refine c1.mono ?_; rintro e w4 ⟨rfl, rfl⟩) | (go_at_call 29; refine (c2 _ hBr.o).mono ?_; rintro e w6 ⟨rfl, hB6⟩))
          go_ret
          exact ⟨rfl, HFIN.o.trans (hB6.mono HFIN.o.size)⟩
        · obtain ⟨M, rfl⟩ := Int.eq_ofNat_of_zero_le (show 0 ≤ m by omega)
          have hM : M < fs.length := by omega
          have c1 := hcP M wr hM hBr.o
          have hd1 : decide (0 ≤ (M : Int)) = true := decide_eq_true (by omega)
          have hd2 : decide ((M : Int) < (fs.length : Int)) = true := decide_eq_true (by omega)
          clear hcP hcO hcB
          go_upto_region 16 with (go_at_call 21; refine c1.mono ?_; rintro e w4 ⟨x, rfl, hO4, hB4⟩)
          have hB4' := hBr.o.trans (hB4.mono hBr.o.size)
          have HQ2 := HQ.o (by omega)
          subst HQ2
          have hdg := path_digs fs.length fs M (Nat.le_refl _)
          have hpl := path_bin fs M hM
          have hbin : bin fs.length ≤ 100 := by
            rw [bin]; split
            · omega
            · have := Nat.log2_lt (n := fs.length) (k := 20) (by omega) |>.2 (by omega); omega
          have hcell : ∀ W, Below w4.heap.size w4 W → W.cell? ⟨g, M, none⟩ = some (.string fs[M]) := fun W hW => by
            have h9 := (HF.o.2.2.2.below hB4').below hW
            have := h9 M hM
            rwa [Nat.zero_add] at this
          have HV : Shut _ := ⟨hcV M hM⟩
          have HO4 : Shut _ := ⟨hO4⟩
          have hMi : (M : Int) < ((fs.length : Nat) : Int) := by omega
          have hM0 : (0 : Int) ≤ (M : Int) := by omega
          have HC : Shut _ := ⟨hcell⟩
          have hd4 : Below w4.heap.size w4 w4.drew := (Below.refl _ _).drew
          have hc4 := HC.o _ hd4
          have HB4 : Shut _ := ⟨hB4'⟩
          clear hcell hcV hO4 hB4 hB4' c1
          have hc5 := HC.o _ (Below.refl _ w4)
          have hne4 : w4.heap.size ≠ g := World.new_ne w4 ⟨g, M, none⟩ hc5
          have hL1 : ([] : List ByteArray).length + (pathR fs M).reverse.length ≤ 1000 := by rw [List.length_reverse, List.length_nil, Nat.zero_add]; omega
          have hL2 : (pathR fs M).reverse.length + [rootB fs].length ≤ 1000 := by rw [List.length_reverse, List.length_singleton]; omega
          have hsmz : Small ((pathR fs M).reverse ++ [rootB fs]) := by
            intro y hy
            rcases List.mem_append.1 hy with hy | hy
            · exact small_rev _ hdg y hy
            · rw [List.mem_singleton.1 hy, root_size]; omega
          have hlz : ((pathR fs M).reverse ++ [rootB fs]).length ≤ 1000 := by rw [List.length_append]; exact hL2
          have hbad : verB (rootB fs) fs.length M fs[M] ((pathR fs M).reverse ++ [rootB fs]) = false := ver_wrong fs M hM _ (by rw [List.length_append, List.length_reverse]; simp)
          have HBAD : Shut _ := ⟨And.intro hbad (And.intro hsmz hlz)⟩
          have hz : Below w4.heap.size w4 (w4.drew.alloc (.cells #[] 9)) := hd4.alloc hd4.size _
          have hzr : Below w4.heap.size w4 (w4.drew.alloc (.cells #[.string (rootB fs)] 9)) := hd4.alloc hd4.size _
          have hz2 : Below w4.heap.size w4 ((w4.drew.alloc (.cells #[] 9)).alloc (.cells #[.string (rootB fs)] 9)) := hz.alloc hz.size _
          have hzr2 : Below w4.heap.size w4 ((w4.drew.alloc (.cells #[.string (rootB fs)] 9)).alloc (.cells #[] 9)) := hzr.alloc hzr.size _
          have HZ : Shut _ := ⟨And.intro hz (And.intro hzr (And.intro hz2 hzr2))⟩
          have HL : Shut _ := ⟨And.intro hL1 hL2⟩
          have HX : Shut (∀ W v B, Below w4.heap.size w4 W → OwnS W B v ((pathR fs M).reverse ++ [rootB fs]) → ∃ p2 n2 cp2, v = .slice p2 n2 cp2 ∧ Calls Tryd.prog 29 #[.string (rootB fs), .int .i64 fs.length, .int .i64 M, .string fs[M], .slice p2 n2 cp2] W fun e w' => e = .returned (.bool false) ∧ Below W.heap.size W w') := ⟨fun W v B hW hO => by
            obtain ⟨p2, cp2, e, c2⟩ := HV.o W v B _ (HB4.o.trans (hW.mono HB4.o.size)) hO hsmz hlz
            rw [hbad] at c2
            exact ⟨p2, _, cp2, e, c2⟩⟩
          have HSM : Shut (Small (pathR fs M).reverse) := ⟨small_rev _ hdg⟩
          clear hz hzr hz2 hzr2 hL1 hL2 hsmz hlz hbad hpl hbin hdg
          have HSZ : Shut (w4.heap.size ≤ w4.drew.heap.size) := ⟨hd4.size⟩
          have HAL : Shut (Below (w4.drew.alloc (.cells #[] 9)).heap.size (w4.drew.alloc (.cells #[] 9)) ((w4.drew.alloc (.cells #[] 9)).alloc (.cells #[.string (rootB fs)] 9))) := ⟨(Below.refl _ _).alloc (Nat.le_refl _) _⟩
          have hsz1 : (w4.drew.alloc (.cells #[] 9)).heap.size = w4.heap.size + 1 := World.size_alloc _ _
          have hsz2 : (w4.drew.alloc (.cells #[.string (rootB fs)] 9)).heap.size = w4.heap.size + 1 := World.size_alloc _ _
          have ho1 := OwnS.one (w4.drew.alloc (.cells #[] 9)) w4.heap.size (rootB fs) HZ.o.1.size
          rw [hsz1] at ho1
          have ho2 := OwnS.zero0 (w4.drew.alloc (.cells #[.string (rootB fs)] 9)) w4.heap.size HZ.o.2.1.size
          rw [hsz2] at ho2
          have HR1 : Shut (∀ W, ((w4.drew.alloc (.cells #[] 9)).alloc (.cells #[.string (rootB fs)] 9)).grownBy W (some w4.heap.size) → OwnS W w4.heap.size (.slice (some ⟨w4.heap.size + 1, 0, none⟩) 1 1) [rootB fs]) := ⟨fun W hW => ho1.grown hW (by intro h; injection h with h; omega)⟩
          have HC0 : Shut _ := ⟨ho2⟩
          have HR2 : Shut (∀ W, ((w4.drew.alloc (.cells #[.string (rootB fs)] 9)).alloc (.cells #[] 9)).grownBy W (some (w4.heap.size + 1)) → OwnS W w4.heap.size (.slice (some ⟨w4.heap.size, 0, none⟩) 1 1) [rootB fs]) := ⟨fun W hW => ((OwnS.one w4.drew w4.heap.size (rootB fs) HSZ.o).below ((Below.refl _ _).alloc (Nat.le_refl _) _)).grown hW (by intro h; injection h with h; exact absurd h (by show ¬ w4.heap.size = w4.heap.size + 1; omega))⟩
          clear ho1 ho2 hsz1 hsz2
          go_region_held3 (fun w' => w'.cell? ⟨g, M, none⟩ = some (.string fs[M])) (go_keep) (first | (go_at_call 29; refine hv7.mono ?_; rintro e w8 ⟨rfl, hB8⟩; have h8 : Below w4.heap.size w4 w8 := h7.trans (hB8.mono h7.size); have kc8 := HC.o w8 h8) | ((with_reducible refine step_append_at 110 107 109 w4.heap.size (pathR fs M).reverse w4.heap.size [rootB fs] ((pathR fs M).reverse ++ [rootB fs]) ?_ ?_ rfl ?_ ?_ ?_); (next => exact hO5); (next => exact hro); (next => exact HL.o.2); (next => exact h5.size); intro v7 w7 hO7 hB7 _; have h7 : Below w4.heap.size w4 w7 := h5.trans hB7; have kc7 := HC.o w7 h7; obtain ⟨p7, n7, c7, rfl, hv7⟩ := HX.o w7 v7 _ h7 hO7) | ((with_reducible refine step_append_at 110 107 109 w4.heap.size (pathR fs M).reverse w5.heap.size [rootB fs] ((pathR fs M).reverse ++ [rootB fs]) ?_ ?_ rfl ?_ ?_ ?_); (next => exact hO5.below ((Below.refl w5.heap.size w5).alloc (Nat.le_refl w5.heap.size) _)); (next => exact OwnS.one w5 w5.heap.size _ (Nat.le_refl w5.heap.size)); (next => exact HL.o.2); (next => exact (h5.alloc h5.size _).size); intro v7 w7 hO7 hB7 _; have h7 : Below w4.heap.size w4 w7 := (h5.alloc h5.size _).trans hB7; have kc7 := HC.o w7 h7; obtain ⟨p7, n7, c7, rfl, hv7⟩ := HX.o w7 v7 _ h7 hO7) | ((with_reducible refine step_append_at 107 105 106 w4.heap.size ([] : List ByteArray) wr.heap.size (pathR fs M).reverse (([] : List ByteArray) ++ (pathR fs M).reverse) ?_ ?_ rfl ?_ ?_ ?_); (next => exact OwnS.zero0 w4.drew w4.heap.size HSZ.o); (next => exact HO4.o.below HZ.o.1); (next => exact HL.o.1); (next => exact HZ.o.1.size); intro v5 w5 hO5 hB5 hgr5; rw [List.nil_append] at hO5; have h5 : Below w4.heap.size w4 w5 := HZ.o.1.trans hB5; have kc := HC.o w5 h5) | ((with_reducible refine step_append_at 107 105 106 w4.heap.size ([] : List ByteArray) wr.heap.size (pathR fs M).reverse (([] : List ByteArray) ++ (pathR fs M).reverse) ?_ ?_ rfl ?_ ?_ ?_); (next => exact (OwnS.zero0 w4.drew w4.heap.size HSZ.o).below HAL.o); (next => exact HO4.o.below HZ.o.2.2.1); (next => exact HL.o.1); (next => exact HZ.o.2.2.1.size); intro v5 w5 hO5 hB5 hgr5; rw [List.nil_append] at hO5; have h5 : Below w4.heap.size w4 w5 := HZ.o.2.2.1.trans hB5; have kc := HC.o w5 h5; have hro := HR1.o w5 hgr5) | ((with_reducible refine step_append_at 107 105 106 w4.heap.size ([] : List ByteArray) wr.heap.size (pathR fs M).reverse (([] : List ByteArray) ++ (pathR fs M).reverse) ?_ ?_ rfl ?_ ?_ ?_); (next => exact HC0.o); (next => exact HO4.o.below HZ.o.2.2.2); (next => exact HL.o.1); (next => exact HZ.o.2.2.2.size); intro v5 w5 hO5 hB5 hgr5; rw [List.nil_append] at hO5; have h5 : Below w4.heap.size w4 w5 := HZ.o.2.2.2.trans hB5; have kc := HC.o w5 h5; have hro := HR2.o w5 hgr5))
          all_goals
            have hF8 : Below w.heap.size w w8 := (HB3.o.trans (HB4.o.mono hz3)).trans (h8.mono (HB3.o.trans (HB4.o.mono hz3)).size)
            have HF8 : Shut _ := ⟨hF8⟩
            have hO8 := HO4.o.below h8
            obtain ⟨p4, cp4, g4, rfl, hp4, hA4, hcc4, hmm4⟩ := hO8.open
            rw [List.length_reverse]
            rw [List.length_reverse] at hp4 hcc4
            have hlw : ((pathR fs M).reverse.drop 1).length = (pathR fs M).length - 1 := by rw [List.length_drop, List.length_reverse]
            have hsd : Small ((pathR fs M).reverse.drop 1) := (HSM.o).drop 1
            have hA4' := hA4.drop 1
            have ht8 : Tab w8 := HF.o.2.1.below ((HB23.o.trans (HB4.o.mono HB23.o.size)).trans (h8.mono (HB23.o.trans (HB4.o.mono HB23.o.size)).size)) HF.o.2.1.2.2
            have hpl8 : (pathR fs M).length ≤ 1000 := by have := HL.o.1; rw [List.length_reverse, List.length_nil, Nat.zero_add] at this; exact this
            have hVg : ∀ pp : Option Addr, (1 ≤ (pathR fs M).length - 1 → pp = some ⟨g4, 0 + 1, none⟩) → Calls Tryd.prog 29 #[.string (rootB fs), .int .i64 fs.length, .int .i64 M, .string fs[M], .slice pp ((pathR fs M).length - 1) (cp4 - 1)] w8.drew fun e w' => e = .returned (.bool (verB (rootB fs) fs.length M fs[M] ((pathR fs M).reverse.drop 1))) ∧ Below w8.drew.heap.size w8.drew w' := fun pp hpp => by
              have := ver_any (rootB fs) fs[M] fs.length M (by omega) (by have := HF.o.1 fs[M] (List.getElem_mem hM); omega) ((pathR fs M).reverse.drop 1) hsd (by omega) pp g4 (0 + 1) (cp4 - 1) (by unfold maxLen at hmm4; omega) (by rw [hlw]; omega) (by rw [hlw]; exact hpp) w8.drew (ht8.below (Below.refl _ _).drew ht8.2.2) (hA4'.below (Below.refl _ _).drew)
              rwa [hlw] at this
            have hd8 : Below w8.heap.size w8 w8.drew := (Below.refl _ _).drew
            by_cases hp0 : (pathR fs M).length = 0
            · have hnp : ¬ (0 : Int) < ((pathR fs M).length : Int) := by omega
              have hnb : decide ((0 : Int) < ((pathR fs M).length : Int)) = false := decide_eq_false hnp
              clear hVg hA4' hsd hp4 hA4 hcc4
              generalize (pathR fs M).length = pn at *
              go_wp2
              go_quiet (fail)
              go_wp2
              go_ret
              exact ⟨rfl, below_drewN HF8.o _⟩
            · obtain ⟨hp4', _⟩ := hp4 (by omega)
              subst hp4'
              have hnb : decide ((0 : Int) < ((pathR fs M).length : Int)) = true := decide_eq_true (by omega)
              have hnb2 : decide (0 < (pathR fs M).length) = true := decide_eq_true (by omega)
              have hnn : 0 < (pathR fs M).length := by omega
              have hw := ver_wrong fs M hM ((pathR fs M).reverse.drop 1) (by rw [hlw]; omega)
              rw [hw] at hVg
              have i1 : (1 : Int) ≤ ((pathR fs M).length : Int) := by omega
              have i2 : ((pathR fs M).length : Int) ≤ (cp4 : Int) := by omega
              have i4 : (pathR fs M).length ≤ cp4 := hcc4
              clear hA4' hsd hp4 hA4 hcc4 hw hlw
              generalize (pathR fs M).length = pn at *
              by_cases hc1 : cp4 = 1
              · subst hc1
                obtain rfl : pn = 1 := by omega
                have hV8 : Calls Tryd.prog 29 #[.string (rootB fs), .int .i64 fs.length, .int .i64 M, .string fs[M], .slice (some ⟨g4, 0, none⟩) 0 0] w8.drew _ := hVg (some ⟨g4, 0, none⟩) (fun h => by omega)
                clear hVg
                go_wp2
                go_region_held3 (fun w' => w'.cell? ⟨g, M, none⟩ = some (.string fs[M])) (go_keep) (first | (go_at_call 29; refine hV8.mono ?_; rintro e w9 ⟨rfl, hB9⟩; have kc9 := HC.o w9 (h8.trans ((hd8.trans (hB9.mono hd8.size)).mono h8.size))))
                all_goals go_wp2
                all_goals go_ret
                all_goals exact ⟨rfl, HF8.o.trans ((hd8.trans (hB9.mono hd8.size)).mono HF8.o.size)⟩
              · have hV8 := hVg (some ⟨g4, 0 + 1, none⟩) (fun _ => rfl)
                rw [Nat.zero_add] at hV8
                clear hVg
                go_wp2
                go_region_held3 (fun w' => w'.cell? ⟨g, M, none⟩ = some (.string fs[M])) (go_keep) (first | (go_at_call 29; refine hV8.mono ?_; rintro e w9 ⟨rfl, hB9⟩; have kc9 := HC.o w9 (h8.trans ((hd8.trans (hB9.mono hd8.size)).mono h8.size))))
                all_goals go_wp2
                all_goals go_ret
                all_goals exact ⟨rfl, HF8.o.trans ((hd8.trans (hB9.mono hd8.size)).mono HF8.o.size)⟩
end Go.Proofs.YthfcddnaaoimpaaDoor
