/-
  Contracts: word, ofWord, shifted.
-/
import Derived.Test.YteaecpmdooolkaaIntSmall
namespace Go.Proofs.Yteaecpmdooolkaa
open Go.RowKit Nm

theorem nv_drop_le (l : List Nat) (k : Nat) (hk : k ≤ l.length) : nv (l.drop k) ≤ nv l := by
  rw [nv_take_drop l k hk]
  have : 1 * nv (l.drop k) ≤ 10000 ^ k * nv (l.drop k) := Nat.mul_le_mul_right _ (Nat.pow_pos (by decide))
  omega
theorem nv_drop_succ (l : List Nat) (k : Nat) (hk : k < l.length) : nv (l.drop k) = l.getD k 0 + 10000 * nv (l.drop (k + 1)) := by
  rw [List.drop_eq_getElem_cons hk, nv]; simp [List.getD, hk]

set_option maxHeartbeats 1000000 in
theorem word_any (l : List Nat) (p : Option Addr) (cap g o : Nat) (w : World) (hp : 1 ≤ l.length → p = some ⟨g, o, none⟩) (hu : UA w g o l) (hd : Dig l) (hl : l.length ≤ 1000000) (hv : nv l < 18446744073709551616) :
    Calls Try.prog 60 #[.slice p l.length cap] w fun e w' => e = .returned (.int .u64 (nv l : Nat)) ∧ w' = w := by
  go_enter Try.func60, Try.ntmps60
  have HU : Shut _ := ⟨hu⟩
  have HP : Shut _ := ⟨hp⟩
  have HD : Shut _ := ⟨hd⟩
  have HV : Shut _ := ⟨hv⟩
  clear hu hp hd hv
  go_wp2
  go_loopw [3, 4] (fun x i wr => ∃ k : Nat, k ≤ l.length ∧ i = .int .i64 ((k : Int) - 1) ∧ wr = w ∧ x = .int .u64 (nv (l.drop k) : Nat)) (fun _ i _ => (intOf i + 1).toNat)
  case atStart => exact ⟨l.length, Nat.le_refl _, rfl, rfl, by rw [List.drop_eq_nil_iff.2 (Nat.le_refl _)]; rfl⟩
  case round =>
    obtain ⟨k, hk, rfl, rfl, rfl⟩ := hrel
    by_cases hk0 : k = 0
    · subst hk0
      rw [List.drop_zero]
      have hx := HV.o
      go_wp2
      go_ret
      exact ⟨rfl, rfl⟩
    · obtain ⟨k, rfl⟩ : ∃ k', k = k' + 1 := ⟨k - 1, by omega⟩
      obtain rfl := HP.o (by omega)
      have hcl := HU.o k (by omega)
      have hi : (((k + 1 : Nat) : Int) - 1) = (k : Int) := by omega
      rw [hi]
      have h1 := nv_drop_succ l k (by omega)
      have h2 := nv_drop_le l k (by omega)
      have h3 := HV.o
      have HE : Shut _ := ⟨h1⟩
      have hx : 10000 * nv (l.drop (k + 1)) + l.getD k 0 < 18446744073709551616 := by omega
      have hx2 := HD.o.getD k
      clear h1 h2 h3
      generalize nv (l.drop (k + 1)) = x at *
      generalize l.getD k 0 = d at *
      go_wp2
      exact ⟨⟨k, by omega, rfl, trivial, by rw [HE.o]; congr 1; omega⟩, by simp [intOf]⟩

set_option maxHeartbeats 1000000 in
theorem ofWord_any (x : Nat) (hx : x < 18446744073709551616) (w : World) :
    Calls Try.prog 59 #[.int .u64 x] w fun e w' => ∃ v, e = .returned v ∧ OwnU w' w.heap.size v (natL x) ∧ Below w.heap.size w w' := by
  go_enter Try.func59, Try.ntmps59
  go_wp2
  go_loopw [0, 3] (fun xv v wr => ∃ (l : List Nat) (y : Nat), xv = .int .u64 y ∧ y < 18446744073709551616 ∧ l.length + (natL y).length ≤ 5 ∧ Shut (natL x = l ++ natL y) ∧ OwnU wr w.heap.size v l ∧ Below w.heap.size w wr) (fun xv _ _ => (intOf xv).toNat)
  case atStart => exact ⟨[], x, rfl, hx, by rw [List.length_nil, Nat.zero_add]; exact natL_len_le (by omega), ⟨rfl⟩, OwnU.nil _ _, Below.refl _ _⟩
  case round =>
    rename_i v0 _
    obtain ⟨l, y, rfl, hy, hlen, hE, hO, hB⟩ := hrel
    by_cases hy0 : y = 0
    · subst hy0
      have HF : Shut (natL x = l) := ⟨by rw [hE.o, natL_zero, List.append_nil]⟩
      clear hE
      go_wp2
      go_ret
      exact ⟨_, rfl, by rw [HF.o]; exact hO, hB⟩
    · have hne := natL_pos hy0
      have HE : Shut (natL x = (l ++ [y % 10000]) ++ natL (y / 10000)) := ⟨by rw [hE.o, hne]; simp⟩
      have hl5 : l.length + 1 + (natL (y / 10000)).length ≤ 5 := by rw [hne, List.length_cons] at hlen; omega
      obtain ⟨i0, hinf, hz0, hz1, hz2⟩ := info_parts infoU
      clear hE hne hlen
      go_wp2_with (first | (at_builtin; go_must (refine wpList_append_own _ rfl _ _ 52 rfl w.heap.size 84 i0 (.int .u32 0) 1 4 Try.underlying52 hinf hz0 hz1 hz2 rfl (by decide) _ _ _ rfl (World.ownsRow.alloc hO _) ⟨wr.heap.size, 0, none⟩ 1 1 [.int .u32 ((y % 10000 : Nat) : Int)] rfl rfl (cell_one_new _ _ _) (by simp [Value.oneCell']) (by unfold maxLen; omega) (by omega) (by rw [World.size_alloc]; have := hB.size; omega) ?_); intro v' w' hown' hgrow _; have hB' := below_grown (hB.alloc hB.size _) (Nat.le_refl _) (World.ownsRow.alloc hO _) hgrow))
      have e1 : ((y : Int) / 10000) = ((y / 10000 : Nat) : Int) := by omega
      rw [e1]
      exact ⟨⟨l ++ [y % 10000], y / 10000, rfl, by omega, by rw [List.length_append]; exact hl5, HE, OwnU.snoc hown', hB'⟩, by simp [intOf]; omega⟩

set_option maxHeartbeats 1000000 in
theorem shifted_any (l : List Nat) (v : Value) (k : Nat) (w : World) (hv : NA w v l) (hl : l.length + k ≤ 1000000) :
    Calls Try.prog 74 #[v, .int .i64 k] w fun e w' => ∃ u, e = .returned u ∧ OwnU w' w.heap.size u (List.replicate k 0 ++ l) ∧ u ≠ .slice none 0 0 ∧ Below w.heap.size w w' := by
  go_enter Try.func74, Try.ntmps74
  have HV : Shut _ := ⟨hv⟩
  have hpow : ((k : Int)) ≤ 1000000 := by omega
  clear hv
  go_wp2_with (first | (at_make; refine make_u32 rfl _ _ rfl w.heap.size k rfl rfl (by omega) (Nat.le_refl _) ?_; intro w1 hO1 hB1) | (at_builtin; refine append_u32 rfl _ _ rfl w.heap.size _ (List.replicate k 0) rfl hO1 v l rfl (HV.o.below hB1 (Nat.le_refl _)) (by rw [List.length_replicate]; omega) hB1.size ?_; intro v2 w2 hO2 hn2 hB2))
  go_ret
  exact ⟨_, rfl, hO2, hn2 (show Value.slice (some ⟨w.heap.size, 0, none⟩) k k ≠ Value.slice none 0 0 by simp), hB1.trans hB2⟩
end Go.Proofs.Yteaecpmdooolkaa
