/-
  What is proved is accepted.
-/
import Derived.Test.YtnceemdemjjhlaaDoorDigSane
namespace Go.Proofs.YtnceemdemjjhlaaDoor
open Go.RowKit

theorem spl_take (m n : Nat) (h : spl n < m) (hm : m ≤ n) (h2 : 2 ≤ n) : spl m = spl n := by
  have h3 := spl_ge n h2
  have h4 := spl_pos n
  have := spl_of m (Nat.log2 (n - 1)) (by omega) (by show spl n < m; exact h) (by show m ≤ 2 * spl n; omega)
  exact this.symm
theorem spl_le_pow (n d : Nat) (h : n ≤ 2 ^ (d + 1)) (h2 : 2 ≤ n) : spl n ≤ 2 ^ d := by
  have h1 := spl_lt n h2
  have hlt : 2 ^ Nat.log2 (n - 1) < 2 ^ (d + 1) := Nat.lt_of_lt_of_le h1 h
  have : Nat.log2 (n - 1) < d + 1 := (Nat.pow_lt_pow_iff_right (by omega)).1 hlt
  exact Nat.pow_le_pow_right (by omega) (by omega)

theorem part_vals : ∀ (N : Nat) (l : List ByteArray) (m : Nat) (whole : Bool) (old : ByteArray), l.length ≤ N → 1 ≤ m → m ≤ l.length → (whole = true → old = rootB (l.take m)) →
    valuesR old (partR l m whole) m l.length whole = (rootB (l.take m), rootB l, true) := by
  intro N
  induction N with
  | zero => intro l m w old h1 h2 h3; omega
  | succ N ih =>
    intro l m w old hN h1 hm ho
    by_cases he : m = l.length
    · have ht : l.take m = l := List.take_of_length_le (by omega)
      rw [partR, dif_pos (by omega)]
      cases w with
      | true => rw [if_pos rfl, valuesR, if_pos ⟨he, rfl⟩, ho rfl, ht]
      | false => rw [if_neg (by simp), valuesR, if_neg (by simp), if_pos he, ht]; rfl
    · have h2 : 2 ≤ l.length := by omega
      have hk := spl_lt l.length h2
      have hk0 := spl_pos l.length
      have e1 : (l.take (spl l.length)).length = spl l.length := by rw [List.length_take]; omega
      have e2 : (l.drop (spl l.length)).length = l.length - spl l.length := by rw [List.length_drop]
      rw [partR, dif_neg (by omega)]
      by_cases hmk : m ≤ spl l.length
      · have et : (l.take (spl l.length)).take m = l.take m := by rw [List.take_take, Nat.min_eq_left hmk]
        have := ih (l.take (spl l.length)) m w old (by omega) h1 (by omega) (by rw [et]; exact ho)
        rw [e1, et] at this
        rw [if_pos hmk, valuesR, if_neg (by intro h; exact he h.1), if_neg he, if_pos hmk, this, root_many l h2]
      · have := ih (l.drop (spl l.length)) (m - spl l.length) false old (by omega) (by omega) (by omega) (by intro h; cases h)
        rw [e2] at this
        have hsm := spl_take m l.length (by omega) hm h2
        have hl : (l.take m).length = m := by rw [List.length_take]; omega
        have hr : rootB (l.take m) = nodeB (rootB (l.take (spl l.length))) (rootB ((l.drop (spl l.length)).take (m - spl l.length))) := by
          rw [root_many _ (by omega), hl, hsm, List.take_take, Nat.min_eq_left (by omega), List.drop_take]
        rw [if_neg hmk, valuesR, if_neg (by intro h; exact he h.1), if_neg he, if_neg hmk, this, hr]
        congr 2
        rw [root_many l h2]
theorem part_len : ∀ (d : Nat) (l : List ByteArray) (m : Nat) (w : Bool), l.length ≤ 2 ^ d → 1 ≤ m → m ≤ l.length → (partR l m w).length ≤ d + 1 := by
  intro d
  induction d with
  | zero =>
    intro l m w h h1 hm
    rw [partR, dif_pos (by omega)]
    cases w <;> simp
  | succ d ih =>
    intro l m w h h1 hm
    rw [partR]
    split
    · cases w <;> simp
    · have h2 : 2 ≤ l.length := by omega
      have hk := spl_lt l.length h2
      have hk0 := spl_pos l.length
      have hp := spl_le_pow l.length d h h2
      have hge := spl_ge l.length h2
      have e1 : (l.take (spl l.length)).length = spl l.length := by rw [List.length_take]; omega
      have e2 : (l.drop (spl l.length)).length = l.length - spl l.length := by rw [List.length_drop]
      split
      · have := ih (l.take (spl l.length)) m w (by omega) h1 (by omega)
        simp; omega
      · have := ih (l.drop (spl l.length)) (m - spl l.length) false (by omega) (by omega) (by omega)
        simp; omega
theorem part_digs : ∀ (N : Nat) (l : List ByteArray) (m : Nat) (w : Bool), l.length ≤ N → ∀ x ∈ partR l m w, x.size = 32 := by
  intro N
  induction N with
  | zero =>
    intro l m w h x hx
    rw [partR, dif_pos (by omega)] at hx
    cases w <;> simp at hx
    rw [hx]; exact root_size _
  | succ N ih =>
    intro l m w h x hx
    rw [partR] at hx
    split at hx
    · cases w <;> simp at hx
      rw [hx]; exact root_size _
    · have h2 : 2 ≤ l.length := by omega
      have hk := spl_lt l.length h2
      have hk0 := spl_pos l.length
      split at hx
      · rcases List.mem_cons.1 hx with rfl | hx
        · exact root_size _
        · exact ih _ _ _ (by rw [List.length_take]; omega) x hx
      · rcases List.mem_cons.1 hx with rfl | hx
        · exact root_size _
        · exact ih _ _ _ (by rw [List.length_drop]; omega) x hx
theorem digs_rev (ls : List ByteArray) (h : ∀ x ∈ ls, x.size = 32) : digs ls.reverse = true := by
  rw [digs, List.all_eq_true]; intro x hx; simp [h x (List.mem_reverse.1 hx)]
theorem small_rev (ls : List ByteArray) (h : ∀ x ∈ ls, x.size = 32) : Small ls.reverse := fun x hx => by rw [h x (List.mem_reverse.1 hx)]; omega
theorem ext_digs (l : List ByteArray) (m : Nat) : ∀ x ∈ extR l m, x.size = 32 := by
  intro x hx
  rw [extR] at hx
  split at hx
  · simp at hx
  · exact part_digs l.length l m true (Nat.le_refl _) x hx
/-- what Extension returns is accepted -/
theorem ext_ok (l : List ByteArray) (m : Nat) (hm : m ≤ l.length) : verE (rootB (l.take m)) m (rootB l) l.length (extR l m).reverse = true := by
  rw [verE, if_neg (by omega), if_neg (by rw [show digs [rootB (l.take m), rootB l] = true by simp [digs, root_size]]; simp), if_neg (by rw [digs_rev _ (ext_digs l m)]; simp)]
  by_cases h0 : m = 0
  · subst h0
    rw [if_pos (show ((0 : Nat) : Int) = 0 by omega), extR, if_pos rfl]; simp
  · rw [if_neg (by omega), List.reverse_reverse, extR, if_neg h0]
    show ((valuesR _ _ (m : Int).toNat (l.length : Int).toNat true).2.2 && decide ((valuesR _ _ (m : Int).toNat (l.length : Int).toNat true).1 = _) && decide ((valuesR _ _ (m : Int).toNat (l.length : Int).toNat true).2.1 = _)) = true
    rw [Int.toNat_natCast, Int.toNat_natCast, part_vals l.length l m true (rootB (l.take m)) (Nat.le_refl _) (by omega) hm (fun _ => rfl)]
    simp
/-- the number of binary digits -/
def bin (n : Nat) : Nat := if n = 0 then 0 else Nat.log2 n + 1
theorem lt_bin (n : Nat) : n < 2 ^ bin n := by
  rw [bin]; split
  · rename_i h; subst h; decide
  · exact Nat.lt_log2_self
theorem bin_half (n : Nat) (h : 0 < n) : bin n = bin (n / 2) + 1 := by
  rw [bin, if_neg (by omega), bin]
  split
  · rename_i h2
    have : n = 1 := by omega
    subst this; decide +kernel
  · rw [Nat.log2_def, if_pos (by omega)]
theorem ext_len (l : List ByteArray) (m : Nat) (hm : m ≤ l.length) : (extR l m).length ≤ 2 * bin l.length := by
  rw [extR]
  split
  · simp
  · have := part_len (bin l.length) l m true (Nat.le_of_lt (lt_bin _)) (by omega) hm
    have h1 : 1 ≤ bin l.length := by rw [bin, if_neg (by omega)]; omega
    omega

set_option maxHeartbeats 400000 in
theorem binary_any (n : Nat) (hn : n ≤ 1000000) (w : World) :
    Calls Tryd.prog 28 #[.int .i64 n] w fun e w' => e = .returned (.int .i64 (bin n : Nat)) ∧ w = w' := by
  have hb : bin n ≤ 1000000 := by
    rw [bin]; split
    · omega
    · have := Nat.log2_lt (n := n) (k := 20) (by omega) |>.2 (by omega); omega
  go_enter Tryd.func28, Tryd.ntmps28
  go_wp2
  go_loop [0, 3] (fun r i => ∃ k x : Nat, k + bin x = bin n ∧ x ≤ 1000000 ∧ r = .int .i64 x ∧ i = .int .i64 k) (fun r _ => (intOf r).toNat)
  case atStart => exact ⟨0, n, by omega, hn, rfl, rfl⟩
  case round =>
    obtain ⟨k, x, hk, hx, rfl, rfl⟩ := hrel
    by_cases h0 : 0 < x
    · have HB : Shut _ := ⟨bin_half x h0⟩
      have HK : Shut _ := ⟨hk⟩
      have hkb : k ≤ 1000000 := by omega
      clear hk
      go_wp2
      go_round
      case rel => exact ⟨k + 1, x / 2, by have := HB.o; have := HK.o; omega, by omega, by go_num, by go_num⟩
      case measure => simp [intOf]; omega
    · have hx0 : x = 0 := by omega
      have HK : Shut (k = bin n) := ⟨by rw [hx0] at hk; have : bin 0 = 0 := rfl; omega⟩
      clear hk
      go_wp2
      go_ret
      exact ⟨ret_i64 (by rw [← HK.o]), rfl⟩

theorem root_gen (ls : List ByteArray) (p : Option Addr) (b o cap : Nat) (hp : 1 ≤ ls.length → p = some ⟨b, o, none⟩) (w : World) (hcap : ls.length ≤ cap) (hc : cap ≤ 9223372036854775807) (hS : Small ls) (ht : Tab w) (hA : SA w b o ls) :
    Calls Tryd.prog 26 #[.slice p ls.length cap] w fun e w' => e = .returned (.string (rootB ls)) ∧ Below w.heap.size w w' := by
  rcases Nat.eq_zero_or_pos ls.length with h | h
  · obtain rfl := List.eq_nil_of_length_eq_zero h
    exact root_none p cap w ht
  · obtain rfl := hp h
    exact root_any ls b o cap w h hcap hc hS ht hA
end Go.Proofs.YtnceemdemjjhlaaDoor
