/-
  Contracts: the reference's pick; strings of digits.
-/
import Derived.Test.YtofcihnihpfljaaGreatRlA
import Derived.Test.YtofcihnihpfljaaGreatRatPk
namespace Go.Proofs.YtofcihnihpfljaaGreat
set_option maxRecDepth 1000000
namespace Rt
open Go.RowKit Go.Proofs.YtofcihnihpfljaaGreat.Nm

set_option maxHeartbeats 1000000 in
theorem pickR_any (c n : Int) (h1 : -9223372036854775808 ≤ c) (h2 : c ≤ 9223372036854775807) (n1 : 1 ≤ n) (n2 : n ≤ 9223372036854775807) (w : World) :
    Calls Tryz.prog 45 #[.int .i64 c, .int .i64 n] w fun e w' => ∃ k : Nat, (k : Int) < n ∧ e = .returned (.int .i64 (k : Int)) ∧ w' = w := by
  have hw : ∀ x : Int, -9223372036854775808 ≤ x → x ≤ 9223372036854775807 → IntKind.i64.wrap x = x := fun x a b => by simp [IntKind.wrap, IntKind.signed, IntKind.bits]; omega
  have hn0 : ¬ n = 0 := by omega
  by_cases hc : c < 0
  · have e1 := hw (c + 1) (by omega) (by omega)
    have e2 := hw (-(c + 1)) (by omega) (by omega)
    obtain ⟨k, hk⟩ : ∃ k : Nat, -(c + 1) = (k : Int) := ⟨(-(c + 1)).toNat, by omega⟩
    obtain ⟨m, rfl⟩ := Int.eq_ofNat_of_zero_le (show 0 ≤ n by omega)
    have hm : k % m < m := Nat.mod_lt _ (by omega)
    go_enter Tryz.func45, Tryz.ntmps45
    go_wp2
    go_ret
    exact ⟨k % m, by omega, by congr 2, rfl⟩
  · obtain ⟨k, rfl⟩ := Int.eq_ofNat_of_zero_le (show 0 ≤ c by omega)
    obtain ⟨m, rfl⟩ := Int.eq_ofNat_of_zero_le (show 0 ≤ n by omega)
    have hm : k % m < m := Nat.mod_lt _ (by omega)
    go_enter Tryz.func45, Tryz.ntmps45
    go_wp2
    go_ret
    exact ⟨k % m, by omega, by congr 2, rfl⟩
/-- a string of digits -/
structure Dg (s : ByteArray) : Prop where
  dig : ∀ y ∈ bl s, 48 ≤ y ∧ y < 58
theorem Dg.nil : Dg ⟨#[]⟩ := ⟨fun y hy => by simp [bl] at hy⟩
theorem Dg.snoc {s : ByteArray} {d : Nat} (h : Dg s) (hd : d < 10) : Dg (s ++ ba [48 + d]) ∧ (s ++ ba [48 + d]).size = s.size + 1 := by
  refine ⟨⟨fun y hy => ?_⟩, by rw [ByteArray.size_append, ba_size]; rfl⟩
  rw [bl_append, bl_ba _ (by simp; omega)] at hy
  rcases List.mem_append.1 hy with h1 | h1
  · exact h.dig y h1
  · simp at h1; omega
theorem bl_extract (s : ByteArray) (i : Nat) : bl (s.extract i s.size) = (bl s).drop i := by
  simp [bl]
  exact List.take_of_length_le (l := (bl s).drop i) (by rw [List.length_drop, bl_len]; exact Nat.le_refl _)
theorem Dg.tail {s : ByteArray} (h : Dg s) : Dg (s.extract 1 s.size) ∧ (s.extract 1 s.size).size = s.size - 1 := by
  refine ⟨⟨fun y hy => ?_⟩, by simp⟩
  rw [bl_extract] at hy
  exact h.dig y (List.mem_of_mem_drop hy)
theorem Dg.ends {s : ByteArray} (h : Dg s) (h1 : 1 ≤ s.size) (h2 : s.size = 1 ∨ s[0].toNat ≠ 48) : ∃ z : Nat, s = txt (z : Int) ∧ z < 10 ^ s.size := by
  refine ⟨dvl (bl s), ?_, by have := dvl_lt (bl s) h.dig; rwa [bl_len] at this⟩
  have hg := bl_get s 0 h1
  by_cases hz : s[0].toNat = 48
  · have hs : s.size = 1 := h2.resolve_right (fun hc => hc hz)
    have hl : bl s = [48] := by
      have hlen : (bl s).length = 1 := by rw [bl_len, hs]
      match hb : bl s, hlen with
      | [a], _ =>
        rw [hb, hz] at hg
        simp at hg
        rw [hg]
    apply bl_inj
    rw [hl, txt_bl]
    simp [dvl]
  · have he := decN_eq (bl s) h.dig (.inr (by rw [hg]; exact hz))
    apply bl_inj
    rw [txt_bl]
    by_cases h0 : dvl (bl s) = 0
    · rw [h0, decN_zero] at he
      have : s.size = 0 := by rw [← bl_len, he]; rfl
      omega
    · rw [if_neg (by omega), if_neg (by omega), Int.natAbs_natCast]
      exact he
theorem txt_minus {z : Nat} (h : z ≠ 0) : ⟨#[45]⟩ ++ txt (z : Int) = txt (-(z : Int)) := by
  apply bl_inj
  rw [bl_append, txt_bl, txt_bl, if_neg (by omega), if_neg (by omega), if_neg (by omega), if_pos (by omega), Int.natAbs_neg]
  rfl
theorem small_fits {z : Nat} (h : z < 10 ^ 100) : Fits (z : Int) := fits_small (by rw [Int.natAbs_natCast]; exact Nat.lt_trans h (by decide))
/-- a fraction of at most 100 digits above and below -/
structure LongQ (q : Rat) : Prop where
  num : q.num.natAbs < 10 ^ 100
  den : q.den < 10 ^ 100
theorem LongQ.fit {q : Rat} (h : LongQ q) : FitQ q := ⟨fits_small (Nat.lt_trans h.num (by decide)), fits_small (by rw [Int.natAbs_natCast]; exact Nat.lt_trans h.den (by decide))⟩
theorem longQ_div {a : Int} {b : Nat} (ha : a.natAbs < 10 ^ 100) (hb : b < 10 ^ 100) (h0 : b ≠ 0) : LongQ (Rat.divInt a b) := by
  have hb0 : (b : Int) ≠ 0 := by omega
  rw [show LongQ (Rat.divInt a b) ↔ ((Rat.divInt a b).num.natAbs < 10 ^ 100 ∧ (Rat.divInt a b).den < 10 ^ 100) from ⟨fun h => ⟨h.1, h.2⟩, fun h => ⟨h.1, h.2⟩⟩, Rat.num_divInt, Rat.den_divInt, if_neg hb0]
  refine ⟨Nat.lt_of_le_of_lt (Int.natAbs_ediv_le_natAbs _ _) ?_, Nat.lt_of_le_of_lt (Nat.div_le_self _ _) ?_⟩
  · rw [Int.natAbs_mul, Int.sign_eq_one_of_pos (by omega)]; simpa using ha
  · simpa using hb
end Rt
end Go.Proofs.YtofcihnihpfljaaGreat
