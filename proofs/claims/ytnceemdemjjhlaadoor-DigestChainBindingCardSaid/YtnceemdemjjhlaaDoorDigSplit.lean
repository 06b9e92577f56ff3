/-
  The walk of DigestSplit.
-/
import Derived.Test.YtnceemdemjjhlaaDoorDigSidesB
namespace Go.Proofs.YtnceemdemjjhlaaDoor
open Go.RowKit

theorem OwnS.zero (W : World) (B : Nat) (h : B ≤ W.heap.size) : OwnS (W.alloc (.cells #[] 9)) B (.slice (some ⟨W.heap.size, 0, none⟩) 0 0) [] :=
  ⟨by simp, .inr ⟨W.heap.size, 0, #[], rfl, h, RowAt.new W _ _, by simp, by unfold maxLen; omega, by simp, by simp⟩⟩
theorem SA.cells {W : World} {b : Nat} {ls : List ByteArray} (h : SA W b 0 ls) : ∀ j u, (ls.map Value.string)[j]? = some u → W.cell? ((⟨b, 0, none⟩ : Addr).add j) = some u := by
  intro j u hj
  rw [List.getElem?_map] at hj
  have hlt : j < ls.length := by
    rcases Nat.lt_or_ge j ls.length with h1 | h1
    · exact h1
    · rw [List.getElem?_eq_none h1] at hj; cases hj
  rw [List.getElem?_eq_getElem hlt] at hj
  cases hj
  rw [Addr.add_lit, Nat.zero_add]
  have h1 := h j hlt
  rw [Nat.zero_add] at h1
  exact h1
/-- append of a list of strings, nil or not -/
theorem append_strs {w : World} {ops : Array Oper} {rest : List Oper} {o : Oper} {a : Act} {Q : Exit → Act → World → Prop} (hgd : o.guard = none) (s x : Operand)
    (ho : o.op = .call { callee := .builtin .append, args := #[s, x], argTypes := #[26, 26] }) (base : Nat) (v : Value) (xs : List ByteArray) (hs : a.eval s = v) (hown : OwnS w base v xs)
    (Bx : Nat) (vx : Value) (ys zs : List ByteArray) (hx : a.eval x = vx) (hys : OwnS w Bx vx ys) (hz : zs = xs ++ ys) (hl : xs.length + ys.length ≤ 1000) (hb : base ≤ w.heap.size)
    (h : ∀ v' w', OwnS w' base v' zs → Below base w w' → wpList Tryd.prog ops Q rest (a.put o.dst v') w') : wpList Tryd.prog ops Q (o :: rest) a w := by
  obtain ⟨i0, hinf, hz0, hz1, hz2⟩ := info_parts infoStr
  subst hz
  rcases hys.2 with ⟨rfl, hn⟩ | ⟨g, cap, cur, rfl, _⟩
  · obtain rfl := List.eq_nil_of_length_eq_zero hn
    exact wpList_append_own_none hgd s x 26 ho base 9 i0 1 Tryd.underlying26 hinf v xs.length _ hs hown hx (h v w (by rw [List.append_nil]; exact hown) (Below.refl _ _))
  · obtain ⟨p, cap', g', he, hp, hA, hc, hm⟩ := hys.open
    have hA' : SA w g 0 ys := by
      intro i hi
      injection he with e1 e2 e3
      obtain ⟨hp1, _⟩ := hp (by omega)
      rw [hp1] at e1
      injection e1 with e1
      injection e1 with e1
      subst e1
      exact hA i hi
    refine wpList_append_own w hgd s x 26 ho base 9 i0 (.string ⟨#[]⟩) 1 16 Tryd.underlying26 hinf hz0 hz1 hz2 rfl (by decide) v xs.length _ hs hown ⟨g, 0, none⟩ ys.length cap (ys.map Value.string) hx (by rw [List.length_map, Nat.mul_one]) (SA.cells hA') (strs_one ys) (by unfold maxLen; omega) (by omega) hb ?_
    intro v' w' hown' hgrow _
    refine h v' w' ?_ (below_append (Below.refl _ _) hb hown hgrow)
    unfold OwnS
    rw [List.length_append, List.map_append]
    exact hown'

set_option maxRecDepth 100000 in
set_option maxHeartbeats 1000000 in
theorem split_law (ls : List ByteArray) (b o cap : Nat) (p : Option Addr) (hp : 1 ≤ ls.length → p = some ⟨b, o, none⟩) (hl : ls.length ≤ 9223372036854775807) (hS : ∀ s ∈ ls, s.size ≤ 9223372036854775807) (s : ByteArray) (hsz : s.size ≤ 9223372036854775807) (w : World) (hA : SA w b o ls) (ht : Tab w) :
    Calls Tryd.prog 10 #[.slice p ls.length cap, .string s] w fun e w' => e = .returned (.bool true) ∧ Below w.heap.size w w' := by
  have hge := ht.2.2
  have cs := sane_any w ht
  go_enter Tryd.func10, Tryd.ntmps10
  go_upto_region 2 with (go_at_call 11; refine cs.mono ?_; rintro e w1 ⟨rfl, hB1⟩)
  have cf := few_any ls b o cap 40 p hp hl (by omega) hS w1 (hA.below hB1)
  go_upto_region 3 with (go_at_call 20; refine cf.mono ?_; rintro e w2 ⟨v, rfl, hO, hB2⟩)
  have hB2' := hB1.trans (hB2.mono hB1.size)
  have ht2 := ht.below hB2' hge
  have hfl := few_len ls 40
  have hfs := few_small ls 40
  clear cf cs hp hA hS ht hB2
  generalize fewB ls 40 = fs at *
  obtain ⟨q, cp, g, rfl, hq, hAf, hcp, hcm⟩ := hO.open
  have hcm' : cp ≤ 9223372036854775807 := by unfold maxLen at hcm; omega
  have hq' : 1 ≤ fs.length → q = some ⟨g, 0, none⟩ := fun h => (hq h).1
  obtain ⟨ms, hms⟩ : ∃ ms, ms = min s.size 60 := ⟨_, rfl⟩
  have hmin : min ((s.size : Nat) : Int) 60 = (ms : Int) := by omega
  have hms2 : ms ≤ s.size := by omega
  have hmin2 : (if (60 : Int) < ((s.size : Nat) : Int) then (60 : Int) else ((s.size : Nat) : Int)) = (ms : Int) := by split <;> omega
  have es : s.extract 0 ms = cut60 s := by rw [hms, cut60]
  have hcs := cut60_size s
  clear hms hq hcm
  generalize cut60 s = s1 at *
  go_upto_region 4 with fail
  obtain ⟨more, hmore⟩ : ∃ m, m = fs ++ [s1] := ⟨_, rfl⟩
  have hB2s := hB2'.size
  have HML : Shut _ := ⟨hmore⟩
  go_upto_region 5 with (first | (at_builtin; refine append_strs rfl _ _ rfl w2.heap.size _ fs rfl (World.ownsRow.alloc hO4 _) w4.heap.size _ [s1] more rfl (OwnS.one w4 _ s1 (Nat.le_refl _)) HML.o (by simp; omega) (by have h4 := hB4.size; rw [World.size_alloc] at h4 ⊢; omega) ?_; intro v5 w5 hO5 hB5) | (at_builtin; refine append_strs rfl _ _ rfl w2.heap.size _ [] rfl (OwnS.zero w2 w2.heap.size (Nat.le_refl _)) w1.heap.size _ fs fs rfl (hO.below ((Below.refl _ _).alloc (Nat.le_refl _) _)) rfl (by simp; omega) (by rw [World.size_alloc]; omega) ?_; intro v4 w4 hO4 hB4))
  have h4 : Below w2.heap.size w2 w4 := ((Below.refl _ w2).alloc (Nat.le_refl _) _).trans hB4
  have h5 : Below w2.heap.size w2 w5 := (h4.alloc h4.size _).trans hB5
  obtain ⟨p5, c5, g5, rfl, hp5, hA5, hc5, hm5⟩ := hO5.open
  have hAf5 := hAf.below h5
  have ht5 := ht2.below h5 ht2.2.2
  have hF5 : Below w.heap.size w w5 := hB2'.trans (h5.mono hB2s)
  have hml : more.length = fs.length + 1 := by rw [hmore]; simp
  have hmsm : Small more := by
    intro x hx
    rw [hmore] at hx
    rcases List.mem_append.1 hx with hx | hx
    · exact hfs x hx
    · rw [List.mem_singleton.1 hx]; omega
  have hc5' : c5 ≤ 9223372036854775807 := by unfold maxLen at hm5; omega
  obtain ⟨rfl, _⟩ := hp5 (by omega)
  have htake : more.take fs.length = fs := by rw [hmore]; simp
  have cE := ext_in more fs.length g5 0 c5 (some ⟨g5, 0, none⟩) (fun _ => rfl) w5 (by omega) (by omega) hc5 hc5' hmsm ht5 hA5
  have cRf : ∀ W, Below w5.heap.size w5 W → _ := fun W hW => root_gen fs q g 0 cp hq' W hcp hcm' hfs (ht5.below hW ht5.2.2) (hAf5.below hW)
  have cRm : ∀ W, Below w5.heap.size w5 W → _ := fun W hW => root_gen more (some ⟨g5, 0, none⟩) g5 0 c5 (fun _ => rfl) W hc5 hc5' hmsm (ht5.below hW ht5.2.2) (hA5.below hW)
  have cV : ∀ (W : World) (v : Value) (B : Nat), Below w5.heap.size w5 W → OwnS W B v (extR more fs.length).reverse → Calls Tryd.prog 30 #[.string (rootB fs), .int .i64 fs.length, .string (rootB more), .int .i64 more.length, v] W fun e w' => e = .returned (.bool true) ∧ Below W.heap.size W w' := fun W v B hW hO => by
    obtain ⟨p2, cp2, g2, rfl, hp2, hA2, hc2, hm2⟩ := hO.open
    have hlen := ext_len more fs.length (by omega)
    have hbin : bin more.length ≤ 64 := by
      rw [bin]; split
      · omega
      · have := Nat.log2_lt (n := more.length) (k := 20) (by omega) |>.2 (by omega); omega
    have := verE_any (rootB (more.take fs.length)) (rootB more) fs.length more.length (by omega) (extR more fs.length).reverse (small_rev _ (ext_digs more fs.length)) (by rw [List.length_reverse]; omega) p2 g2 0 cp2 (by unfold maxLen at hm2; omega) hc2 (fun h => (hp2 h).1) W (ht5.below hW ht5.2.2) hA2
    rw [ext_ok more fs.length (by omega), htake] at this
    exact this
  have HF5 : Shut _ := ⟨hF5⟩
  have HT5 : Shut _ := ⟨ht5⟩
  have HA5 : Shut _ := ⟨hA5⟩
  have HMS : Shut _ := ⟨hmsm⟩
  have HTK : Shut _ := ⟨htake⟩
  have hz5 := hF5.size
  clear hF5 ht5 hA5 hmsm htake hmore hO5 hp5 hm5 hO hO4 hB4 hB5 h4 h5 hAf hAf5 ht2 hB1 hB2' hfs hq' hml
  go_upto_region 6 with (go_at_call 23; refine cE.mono ?_; rintro e w6 ⟨x, rfl, hO6, hB6⟩)
  have c1 := cRf w6 hB6
  go_upto_region 8 with (first | (go_at_call_of 26 (Value.slice q fs.length cp); refine c1.mono ?_; rintro e w7 ⟨rfl, hB7⟩; have hB7' := hB6.trans (hB7.mono hB6.size)) | (go_at_call_of 26 (Value.slice (some ⟨g5, 0, none⟩) more.length c5); refine (cRm w7 hB7').mono ?_; rintro e w8 ⟨rfl, hB8⟩; have hB8' := hB7'.trans (hB8.mono hB7'.size)) | (go_at_call 30; refine (cV w8 x _ hB8' (hO6.below (hB7.trans (hB8.mono hB7.size)))).mono ?_; rintro e w9 ⟨rfl, hB9⟩; have hB9' := hB8'.trans (hB9.mono hB8'.size)))
  have hF9 : Below w.heap.size w w9 := HF5.o.trans (hB9'.mono hz5)
  have HF9 : Shut _ := ⟨hF9⟩
  have HB9 : Shut _ := ⟨hB9'⟩
  have hz9 := hF9.size
  have ht9 := HT5.o.below hB9' HT5.o.2.2
  clear c1 cE cV hO6 hB6 hB7 hB8 hB7' hB8' hB9 hF9
  by_cases h0 : fs.length = 0
  · have hnil := List.eq_nil_of_length_eq_zero h0
    have e1 : rootB fs = Sh.sha ⟨#[]⟩ := by rw [hnil, root_nil]
    have e2 : rootB more = leafB s1 := by rw [HML.o, hnil, List.nil_append, root_one]
    have cF : ∀ W, Below w5.heap.size w5 W → Calls Tryd.prog 26 #[.slice q fs.length cp] W fun e w' => e = .returned (.string (Sh.sha ⟨#[]⟩)) ∧ Below W.heap.size W w' := fun W hW => by rw [← e1]; exact cRf W hW
    have cM : ∀ W, Below w5.heap.size w5 W → Calls Tryd.prog 26 #[.slice (some ⟨g5, 0, none⟩) more.length c5] W fun e w' => e = .returned (.string (leafB s1)) ∧ Below W.heap.size W w' := fun W hW => by rw [← e2]; exact cRm W hW
    have cL : ∀ W, Below w9.heap.size w9 W → _ := fun W hW => leaf_any s1 (by omega) W (ht9.below hW ht9.2.2)
    have cS : ∀ W, Below w9.heap.size w9 W → _ := fun W hW => sum_any ⟨#[]⟩ (by show 0 ≤ 100000; omega) W (ht9.below hW ht9.2.2)
    rw [h0] at cF
    clear cRf cRm e1 e2 hnil ht9 hB9'
    generalize leafB s1 = A at *
    generalize rootB fs = Rf at *
    generalize rootB more = Rm at *
    go_wp2_with (first | (go_at_call_of 26 (Value.slice (some ⟨g5, 0, none⟩) more.length c5); refine (cM w9 HB9.o).mono ?_; rintro e wa ⟨rfl, hBa⟩) | (go_at_call 14; refine (cL wa hBa).mono ?_; rintro e wb ⟨rfl, hBb⟩; have hBb' := hBa.trans (hBb.mono hBa.size)) | (go_at_call_of 26 (Value.slice q 0 cp); refine (cF wb (HB9.o.trans (hBb'.mono HB9.o.size))).mono ?_; rintro e wc ⟨rfl, hBc⟩; have hBc' := hBb'.trans (hBc.mono hBb'.size)) | (go_at_call 12; refine (cS wc hBc').mono ?_; rintro e wd ⟨rfl, hBd⟩))
    go_ret
    exact ⟨rfl, HF9.o.trans ((hBc'.trans (hBd.mono hBc'.size)).mono hz9)⟩
  · have hml : more.length = fs.length + 1 := by rw [HML.o]; simp
    have hm2 : 2 ≤ more.length := by omega
    have csp := lawleft_any more.length hm2 (by omega)
    have hk1 := spl_lt more.length hm2
    have hk0 := spl_pos more.length
    have eR : rootB more = nodeB (rootB (more.take (spl more.length))) (rootB (more.drop (spl more.length))) := root_many more hm2
    have ek : (more.take (spl more.length)).length = spl more.length := by rw [List.length_take]; omega
    have ed : (more.drop (spl more.length)).length = more.length - spl more.length := by rw [List.length_drop]
    have cT : ∀ W, Below w5.heap.size w5 W → Calls Tryd.prog 26 #[.slice (some ⟨g5, 0, none⟩) (spl more.length) c5] W fun e w' => e = .returned (.string (rootB (more.take (spl more.length)))) ∧ Below W.heap.size W w' := fun W hW => by
      have := root_gen (more.take (spl more.length)) (some ⟨g5, 0, none⟩) g5 0 c5 (fun _ => rfl) W (by omega) hc5' (HMS.o.take _) (HT5.o.below hW HT5.o.2.2) ((HA5.o.take _).below hW)
      rwa [ek] at this
    have cD : ∀ W, Below w5.heap.size w5 W → Calls Tryd.prog 26 #[.slice (some ⟨g5, spl more.length, none⟩) (more.length - spl more.length) (c5 - spl more.length)] W fun e w' => e = .returned (.string (rootB (more.drop (spl more.length)))) ∧ Below W.heap.size W w' := fun W hW => by
      have h1 := (HA5.o.drop (spl more.length)).below hW
      rw [Nat.zero_add] at h1
      have := root_gen (more.drop (spl more.length)) (some ⟨g5, spl more.length, none⟩) g5 (spl more.length) (c5 - spl more.length) (fun _ => rfl) W (by omega) (by omega) (HMS.o.drop _) (HT5.o.below hW HT5.o.2.2) h1
      rwa [ed] at this
    have hs1 := root_size (more.take (spl more.length))
    have hs2 := root_size (more.drop (spl more.length))
    have cN : ∀ W, Below w9.heap.size w9 W → _ := fun W hW => node_any (rootB (more.take (spl more.length))) (rootB (more.drop (spl more.length))) (by omega) (by omega) W (ht9.below hW ht9.2.2)
    rw [← eR] at cN
    clear ek ed hml ht9 hB9' cRf eR hs1 hs2
    generalize rootB (more.take (spl more.length)) = R1 at *
    generalize rootB (more.drop (spl more.length)) = R2 at *
    generalize rootB more = Rm at *
    generalize rootB fs = Rf at *
    generalize spl more.length = k at *
    go_upto_region 11 with (go_at_call 35; refine (csp _).mono ?_; rintro e wl ⟨rfl, rfl⟩)
    have hd9 : Below w9.heap.size w9 w9.drew := (Below.refl _ _).drew
    have i1 : (0 : Int) ≤ (k : Int) := by omega
    have i2 : (k : Int) ≤ (c5 : Int) := by omega
    have i3 : (k : Int) ≤ (more.length : Int) := by omega
    have i4 : (more.length : Int) ≤ (c5 : Int) := by omega
    have i5 : k ≤ c5 := by omega
    have i6 : k ≤ more.length := by omega
    go_region_held3 (fun _ => True) (exact trivial) (first | (go_at_call_of 26 (Value.slice (some ⟨g5, 0, none⟩) more.length c5); refine (cRm _ (HB9.o.trans (hd9.mono HB9.o.size))).mono ?_; rintro e wa ⟨rfl, hBa⟩; have hBa' := hd9.trans hBa) | (go_at_call_of 26 (Value.slice (some ⟨g5, 0, none⟩) k c5); refine (cT wa (HB9.o.trans (hBa'.mono HB9.o.size))).mono ?_; rintro e wb ⟨rfl, hBb⟩; have hBb' := hBa'.trans (hBb.mono hBa'.size)) | (go_at_call_of 26 (Value.slice (some ⟨g5, k, none⟩) (more.length - k) (c5 - k)); refine (cD wb (HB9.o.trans (hBb'.mono HB9.o.size))).mono ?_; rintro e wc ⟨rfl, hBc⟩; have hBc' := hBb'.trans (hBc.mono hBb'.size)) | (go_at_call 16; refine (cN wc hBc').mono ?_; rintro e wd ⟨rfl, hBd⟩))
    all_goals go_wp2
    all_goals go_ret
    all_goals exact ⟨rfl, HF9.o.trans ((hBc'.trans (hBd.mono hBc'.size)).mono hz9)⟩
end Go.Proofs.YtnceemdemjjhlaaDoor
