/-
  Contracts: plus, minus.
-/
import Derived.Test.YteaecpmdooolkaaIntAdd
import Derived.Test.YteaecpmdooolkaaIntWord
namespace Go.Proofs.Yteaecpmdooolkaa
open Go.RowKit Nm

theorem infoU1 : (Try.prog.info? 84).map (·.size) = some 1 := by kernel_rfl
/-- copy of a natural to the head of a row -/
theorem copy_u32 {w : World} {ops : Array Oper} {rest : List Oper} {o : Oper} {a : Act} {Q : Exit → Act → World → Prop} (hgd : o.guard = none) (d s : Operand)
    (ho : o.op = .call { callee := .builtin .copy, args := #[d, s], argTypes := #[52, 52] }) (g dLen dCap : Nat) (hd : a.eval d = .slice (some ⟨g, 0, none⟩) dLen dCap) (L : List Nat) (hL : UR w g L) (hdl : dLen ≤ L.length)
    (vx : Value) (ys : List Nat) (hx : a.eval s = vx) (hys : NA w vx ys) (hle : ys.length ≤ dLen) (B : Nat) (w0 : World) (hb : Below B w0 w) (hBg : B ≤ g)
    (h : ∀ w', UR w' g (ys ++ L.drop ys.length) → Below B w0 w' → wpList Try.prog ops Q rest (a.put o.dst (goInt ys.length)) w') : wpList Try.prog ops Q (o :: rest) a w := by
  obtain ⟨X, hX⟩ := hL
  have hlen : (ys.map fun n : Nat => Value.int .u32 (n : Int)).length = ys.length := List.length_map _
  obtain ⟨p, cap, rfl, h1, h2, h3⟩ := hys
  have key := @wpList_copy_splice Try.prog w ops rest o a Q hgd d s 52 52 ho 84 Try.underlying52 infoU1 (some ⟨g, 0, none⟩) p dLen dCap ys.length cap hd hx g 0 (u32s L ++ X).toList 84 (by rw [Array.toArray_toList]; exact hX) (ys.map fun n : Nat => Value.int .u32 (n : Int)) (by rw [hlen]; exact (Nat.min_eq_left hle).symm) (fun hp => by
      rw [hlen] at hp
      refine ⟨rfl, ?_⟩
      rcases h3 with ⟨_, e, _⟩ | ⟨g', o', rfl, hg', hu⟩
      · rw [e] at hp; simp at hp
      · exact ⟨_, rfl, UA.cells hu⟩) (by rw [hlen]; simp [u32s_size]; omega) (u32_one ys) B w0 hb hBg (fun w' hrow hB => ?_)
  · exact key
  · rw [hlen]
    refine h w' ⟨X, ?_⟩ hB
    have hr := hrow.out
    have e : (splice (u32s L ++ X).toList 0 (ys.map fun n : Nat => Value.int .u32 (n : Int))).toArray = u32s (ys ++ L.drop ys.length) ++ X := by
      apply Array.ext'
      simp only [splice, hlen, Nat.zero_add, List.take_zero, List.nil_append, Array.toList_append, u32s, List.map_append, List.map_drop]
      rw [List.drop_append_of_le_length (by rw [List.length_map]; omega), List.append_assoc]
    rw [e] at hr
    exact hr

theorem na_trim {W : World} {g o cap : Nat} {l : List Nat} (hd : Dig l) (hu : UA W g o l) (hg : g < W.heap.size) (hc : l.length ≤ cap) (hm : cap ≤ maxLen) : NA W (.slice (some ⟨g, o, none⟩) (natL (nv l)).length cap) (natL (nv l)) := by
  refine ⟨_, cap, rfl, Nat.le_trans (trim_len hd) hc, hm, .inr ⟨g, o, rfl, hg, ?_⟩⟩
  have := hu.take (natL (nv l)).length
  rwa [trim_take hd] at this
theorem NA.lt {W : World} {p : Option Addr} {n cap g o : Nat} {l : List Nat} (h : NA W (.slice p n cap) l) (hp : p = some ⟨g, o, none⟩) : g < W.heap.size := by
  obtain ⟨p', cap', e, h1, h2, ⟨rfl, _, _⟩ | ⟨g', o', rfl, hg, _⟩⟩ := h
  · injection e with e1; rw [e1] at hp; cases hp
  · injection e with e1; rw [e1] at hp; injection hp with hp; injection hp with hp; omega
theorem pow_max {la lb : Nat} {x y : Nat} (hx : x < 10000 ^ la) (hy : y < 10000 ^ lb) : x + y < 10000 ^ (max la lb + 1) := by
  have h1 : 10000 ^ la ≤ 10000 ^ (max la lb) := Nat.pow_le_pow_right (by decide) (Nat.le_max_left _ _)
  have h2 : 10000 ^ lb ≤ 10000 ^ (max la lb) := Nat.pow_le_pow_right (by decide) (Nat.le_max_right _ _)
  rw [Nat.pow_succ]; omega
set_option maxHeartbeats 2000000 in
theorem plus_any (x y : Nat) (va vb : Value) (w : World) (ha : NA w va (natL x)) (hb : NA w vb (natL y)) (hla : (natL x).length ≤ 1000) (hlb : (natL y).length ≤ 1000) :
    Calls Try.prog 63 #[va, vb] w fun e w' => ∃ v, e = .returned v ∧ NA w' v (natL (x + y)) ∧ Below w.heap.size w w' := by
  obtain ⟨pb, cb, gb, ob, rfl, hlb2, hcb, hpb, hub⟩ := hb.open
  obtain ⟨pa, ca, ga, oa, rfl, hla2, hca, hpa, hua⟩ := ha.open
  go_enter Try.func63, Try.ntmps63
  obtain ⟨n, hn⟩ : ∃ n, n = max (natL x).length (natL y).length + 1 := ⟨_, rfl⟩
  have hx := natL_lt x
  have hy := natL_lt y
  have hroom : x + y < 10000 ^ n := by rw [hn]; exact pow_max hx hy
  have HX : Shut _ := ⟨hroom⟩
  have HA : Shut _ := ⟨ha⟩
  have HB : Shut _ := ⟨And.intro hub hpb⟩
  obtain ⟨k, rfl⟩ : ∃ k, n = k + 1 := ⟨n - 1, by omega⟩
  have hmax : max (((natL x).length : Nat) : Int) (((natL y).length : Nat) : Int) = (k : Int) := by omega
  have hmax2 : (if (natL x).length < (natL y).length then (((natL y).length : Nat) : Int) else (((natL x).length : Nat) : Int)) = (k : Int) := by split <;> omega
  have HN1 : Shut (((k : Int) + 1) = ((k + 1 : Nat) : Int)) := ⟨by omega⟩
  have hnb : k ≤ 1000 := by omega
  have hnl : (natL x).length ≤ k + 1 ∧ (natL y).length ≤ k + 1 := by omega
  have HN : Shut _ := ⟨hnl⟩
  clear hx hy hroom ha hub hpb hua hpa hn hnl
  obtain ⟨L, hLe⟩ : ∃ L, L = natL x ++ (List.replicate (k + 1) 0).drop (natL x).length := ⟨_, rfl⟩
  have hLl : L.length = k + 1 := by rw [hLe]; simp; omega
  have hLd : Dig L := by rw [hLe]; exact (natL_dig x).append ((dig_rep _).drop _)
  have hLv : nv L = x := by
    rw [hLe, nv_append, natL_nv, List.drop_replicate, nv_rep]; omega
  have hseg : (L.drop 0).take (k + 1) = L := by rw [List.drop_zero, List.take_of_length_le (by omega)]
  have hpv : nv (padL (k + 1) (x + y)) = x + y := padL_nv _ _ HX.o
  have hrs : ((rowR L 0 (k + 1) (x + y)).drop 0).take (k + 1) = padL (k + 1) (x + y) := rowR_seg L 0 (k + 1) (x + y) (by omega)
  have cA : ∀ (W : World) (g9 c9 : Nat), UR W g9 L → (1 ≤ (natL y).length → gb ≠ g9) → UA W gb ob (natL y) → Calls Try.prog 77 #[.slice (some ⟨g9, 0, none⟩) (k + 1) c9, .slice pb (natL y).length cb, .int .u32 1] W fun e w' => e = .returned (.tuple #[]) ∧ Only g9 W w' ∧ UR w' g9 (rowR L 0 (k + 1) (x + y)) := fun W g9 c9 h1 h2 h3 => by
    have := add_any g9 0 (k + 1) c9 L pb gb ob cb (natL y) 1 W h1 (by omega) h2 h3 (fun h => (HB.o.2 h).1) HN.o.2 (by omega) hLd (natL_dig y) (by decide) (by rw [hseg, hLv, natL_nv, Nat.mul_one]; exact HX.o)
    rw [hseg, hLv, natL_nv, Nat.mul_one] at this
    exact this
  have cT : ∀ (W : World) (g9 c9 : Nat), UR W g9 (rowR L 0 (k + 1) (x + y)) → k + 1 ≤ c9 → c9 ≤ maxLen → Calls Try.prog 78 #[.slice (some ⟨g9, 0, none⟩) (k + 1) c9] W fun e w' => (∃ v, e = .returned v ∧ NA w' v (natL (x + y))) ∧ w' = W := fun W g9 c9 h1 h2 h3 => by
    have hu := h1.uaSeg 0 (k + 1)
    rw [hrs] at hu
    have hl := padL_len (k + 1) (x + y)
    have := trimmed_any (padL (k + 1) (x + y)) (some ⟨g9, 0, none⟩) c9 g9 0 W (fun _ => rfl) hu (padL_dig _ _) (by omega) (by omega) h3
    rw [hl] at this
    refine this.mono ?_
    rintro e w' ⟨rfl, rfl⟩
    refine ⟨⟨_, rfl, ?_⟩, rfl⟩
    have h4 := na_trim (padL_dig (k + 1) (x + y)) hu h1.lt (by omega) h3
    rwa [hpv] at h4 ⊢
  have HLE : Shut _ := ⟨hLe⟩
  have HCA : Shut _ := ⟨cA⟩
  have HCT : Shut _ := ⟨cT⟩
  clear hLe hLd hLv hseg hpv hrs cA cT hLl
  go_wp2_with (first | (at_make; refine make_u32 rfl _ _ rfl w.heap.size (k + 1) (congrArg (Value.int .i64) HN1.o) (congrArg (Value.int .i64) HN1.o) (by omega) (Nat.le_refl _) ?_; intro w1 hO1 hB1; obtain ⟨h9, _⟩ | ⟨c9, g9, h9, hg9, hu9, hc9, hm9⟩ := hO1.open; cases h9) | (refine copy_u32 rfl _ _ rfl g9 (k + 1) c9 rfl (List.replicate (k + 1) 0) hu9 (by simp) _ (natL x) rfl (HA.o.below hB1 (Nat.le_refl _)) HN.o.1 w.heap.size w hB1 hg9 ?_; intro w2 hu2 hB2; rw [← HLE.o] at hu2) | (go_at_call 77; refine (HCA.o w2 g9 c9 hu2 (fun h => by have := (HB.o.2 h).2; omega) (HB.o.1.below1 hB2 (fun h => (HB.o.2 h).2))).mono ?_; rintro e w3 ⟨rfl, hO3, hu3⟩) | (go_at_call 78; refine (HCT.o w3 g9 c9 hu3 (by simpa using hc9) hm9).mono ?_; rintro e w4 ⟨⟨v4, rfl, hv4⟩, rfl⟩))
  go_ret
  exact ⟨_, rfl, hv4, hB2.trans (hO3.below hg9)⟩

set_option maxHeartbeats 2000000 in
theorem minus_any (x y : Nat) (hxy : y ≤ x) (va vb : Value) (w : World) (ha : NA w va (natL x)) (hb : NA w vb (natL y)) (hla : (natL x).length ≤ 1000) :
    Calls Try.prog 65 #[va, vb] w fun e w' => ∃ v, e = .returned v ∧ NA w' v (natL (x - y)) ∧ Below w.heap.size w w' := by
  obtain ⟨pb, cb, gb, ob, rfl, hlb2, hcb, hpb, hub⟩ := hb.open
  have hlb := natL_len_mono hxy
  have HB : Shut _ := ⟨And.intro hub hpb⟩
  obtain ⟨n, hn⟩ : ∃ n, n = (natL x).length := ⟨_, rfl⟩
  have hseg : ((natL x).drop 0).take n = natL x := by rw [List.drop_zero, List.take_of_length_le (by omega)]
  have hlt := natL_lt x
  have hpv : nv (padL n (x - y)) = x - y := padL_nv _ _ (by rw [hn]; omega)
  have hrs : ((rowR (natL x) 0 n (x - y)).drop 0).take n = padL n (x - y) := rowR_seg (natL x) 0 n (x - y) (by omega)
  have cS := fun W (h : NA W va (natL x)) => shifted_any (natL x) va 0 W h (by omega)
  have cA : ∀ (W : World) (g9 c9 : Nat), UR W g9 (natL x) → (1 ≤ (natL y).length → gb ≠ g9) → UA W gb ob (natL y) → Calls Try.prog 79 #[.slice (some ⟨g9, 0, none⟩) n c9, .slice pb (natL y).length cb, .int .u32 1] W fun e w' => e = .returned (.tuple #[]) ∧ Only g9 W w' ∧ UR w' g9 (rowR (natL x) 0 n (x - y)) := fun W g9 c9 h1 h2 h3 => by
    have := take_any g9 0 n c9 (natL x) pb gb ob cb (natL y) 1 W h1 (by omega) h2 h3 (fun h => (HB.o.2 h).1) (by omega) (by omega) (natL_dig x) (natL_dig y) (by decide) (by rw [hseg, natL_nv, natL_nv, Nat.mul_one]; exact hxy)
    rw [hseg, natL_nv, natL_nv, Nat.mul_one] at this
    exact this
  have cT : ∀ (W : World) (g9 c9 : Nat), UR W g9 (rowR (natL x) 0 n (x - y)) → n ≤ c9 → c9 ≤ maxLen → Calls Try.prog 78 #[.slice (some ⟨g9, 0, none⟩) n c9] W fun e w' => (∃ v, e = .returned v ∧ NA w' v (natL (x - y))) ∧ w' = W := fun W g9 c9 h1 h2 h3 => by
    have hu := h1.uaSeg 0 n
    rw [hrs] at hu
    have hl := padL_len n (x - y)
    have := trimmed_any (padL n (x - y)) (some ⟨g9, 0, none⟩) c9 g9 0 W (fun _ => rfl) hu (padL_dig _ _) (by omega) (by omega) h3
    rw [hl] at this
    refine this.mono ?_
    rintro e w' ⟨rfl, rfl⟩
    refine ⟨⟨_, rfl, ?_⟩, rfl⟩
    have h4 := na_trim (padL_dig n (x - y)) hu h1.lt (by omega) h3
    rwa [hpv] at h4 ⊢
  have HN : Shut _ := ⟨hn⟩
  have HA : Shut _ := ⟨ha⟩
  have HCA : Shut _ := ⟨cA⟩
  have HCT : Shut _ := ⟨cT⟩
  go_enter Try.func65, Try.ntmps65
  clear hn hseg hlt hpv hrs cA cT hub hpb ha hb
  go_wp2_with (first | (go_at_call 74; refine (cS w HA.o).mono ?_; rintro e w1 ⟨u1, rfl, hO1, hn1, hB1⟩; rw [List.replicate_zero, List.nil_append] at hO1; obtain ⟨h9, _⟩ | ⟨c9, g9, h9, hg9, hu9, hc9, hm9⟩ := hO1.open; exact absurd h9 hn1; rw [← HN.o] at h9 hc9; subst h9) | (go_at_call 79; refine (HCA.o w1 g9 c9 hu9 (fun h => by have := (HB.o.2 h).2; omega) (HB.o.1.below1 hB1 (fun h => (HB.o.2 h).2))).mono ?_; rintro e w3 ⟨rfl, hO3, hu3⟩) | (go_at_call 78; refine (HCT.o w3 g9 c9 hu3 hc9 hm9).mono ?_; rintro e w4 ⟨⟨v4, rfl, hv4⟩, rfl⟩))
  go_ret
  exact ⟨_, rfl, hv4, hB1.trans (hO3.below hg9)⟩
end Go.Proofs.Yteaecpmdooolkaa
