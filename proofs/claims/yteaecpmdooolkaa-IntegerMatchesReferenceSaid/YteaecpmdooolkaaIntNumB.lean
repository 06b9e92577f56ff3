/-
  Contracts of number: text, compare.
-/
import Derived.Test.YteaecpmdooolkaaIntNum
namespace Go.Proofs.Yteaecpmdooolkaa
open Go.RowKit Nm

/-- the integer z, as a string -/
def txt (z : Int) : ByteArray := if z = 0 then ba [48] else if z < 0 then ba (45 :: decN z.natAbs) else ba (decN z.natAbs)

set_option maxHeartbeats 2000000 in
theorem text_any (z : Int) (u : Value) (w : World) (h : IsN w u z) (hl : (natL z.natAbs).length ≤ 1000) :
    Calls Try.prog 49 #[u] w fun e w' => e = .returned (.string (txt z)) ∧ Below w.heap.size w w' := by
  have hi := fun W (hW : IsN W u z) => isZero_any z u W hW
  have HI := h
  obtain ⟨p, cap, rfl, hN⟩ := h
  have hB0 : Below w.heap.size w (w.alloc (.cells #[.bool (decide (z < 0)), .slice p (natL z.natAbs).length cap] 54)) := (Below.refl _ w).alloc (Nat.le_refl _) _
  have HR : Shut _ := ⟨RowAt.new w #[.bool (decide (z < 0)), .slice p (natL z.natAbs).length cap] 54⟩
  have HN : Shut _ := ⟨hN⟩
  have HB0 : Shut _ := ⟨hB0⟩
  have c1 := hi _ (HI.below hB0 (Nat.le_refl _))
  have HD : Shut (∀ W, Below w.heap.size w W → z ≠ 0 → Calls Try.prog 69 #[.slice p (natL z.natAbs).length cap] W fun e w' => e = .returned (.string (ba (decN z.natAbs))) ∧ Below W.heap.size W w') := ⟨fun W hW hz => digits_any z.natAbs (by omega) _ W (HN.o.below hW (Nat.le_refl _)) hl⟩
  go_enter Try.func49, Try.ntmps49
  clear hN hB0 hi HI
  by_cases h0 : z = 0
  · have HT : Shut (txt z = ⟨#[48]⟩) := ⟨by rw [txt, if_pos h0]; rfl⟩
    have hd : decide (z = 0) = true := decide_eq_true h0
    rw [hd] at c1
    clear h0 hd
    go_wp2_with (go_at_call 47; refine c1.mono ?_; rintro e w1 ⟨rfl, hB1⟩)
    go_ret
    exact ⟨by rw [HT.o]; rfl, HB0.o.trans (hB1.mono HB0.o.size)⟩
  · have hd : decide (z = 0) = false := decide_eq_false h0
    rw [hd] at c1
    by_cases hn : z < 0
    · have HT : Shut (txt z = ⟨#[45]⟩ ++ ba (decN z.natAbs)) := ⟨by rw [txt, if_neg h0, if_pos hn, show (45 :: decN z.natAbs) = [45] ++ decN z.natAbs from rfl, ba_append]; rfl⟩
      have hdn : decide (z < 0) = true := decide_eq_true hn
      have hsz : (ba (decN z.natAbs)).size ≤ 100000 := by
        rw [ba_size]
        have := decN_len_le (n := z.natAbs) (t := 4 * (natL z.natAbs).length) (by have := natL_lt z.natAbs; rw [Nat.pow_mul]; exact this)
        omega
      have h1s : (⟨#[45]⟩ : ByteArray).size = 1 := rfl
      rw [hdn] at c1 HR HB0 ⊢
      have HZ : Shut _ := ⟨h0⟩
      clear h0 hd hn hdn
      generalize ba (decN z.natAbs) = ds at *
      go_wp2_with (first | (go_at_call 47; refine c1.mono ?_; rintro e w1 ⟨rfl, hB1⟩; obtain ⟨k1, k2, k3, k4⟩ := keepNum HR.o hB1) | (go_at_call 69; refine (HD.o w1 (HB0.o.trans (hB1.mono HB0.o.size)) HZ.o).mono ?_; rintro e w2 ⟨rfl, hB2⟩))
      go_ret
      exact ⟨by rw [HT.o]; rfl, (HB0.o.trans (hB1.mono HB0.o.size)).trans (hB2.mono (HB0.o.trans (hB1.mono HB0.o.size)).size)⟩
    · have HT : Shut (txt z = ba (decN z.natAbs)) := ⟨by rw [txt, if_neg h0, if_neg hn]⟩
      have hdn : decide (z < 0) = false := decide_eq_false hn
      rw [hdn] at c1 HR HB0 ⊢
      have HZ : Shut _ := ⟨h0⟩
      clear h0 hd hn hdn
      generalize ba (decN z.natAbs) = ds at *
      go_wp2_with (first | (go_at_call 47; refine c1.mono ?_; rintro e w1 ⟨rfl, hB1⟩; obtain ⟨k1, k2, k3, k4⟩ := keepNum HR.o hB1) | (go_at_call 69; refine (HD.o w1 (HB0.o.trans (hB1.mono HB0.o.size)) HZ.o).mono ?_; rintro e w2 ⟨rfl, hB2⟩))
      go_ret
      exact ⟨by rw [HT.o]; rfl, (HB0.o.trans (hB1.mono HB0.o.size)).trans (hB2.mono (HB0.o.trans (hB1.mono HB0.o.size)).size)⟩

def cmpZ (x y : Int) : Int := if x < y then -1 else if x = y then 0 else 1
set_option maxHeartbeats 2000000 in
theorem numCompare_any (x y : Int) (u v : Value) (w : World) (hx : IsN w u x) (hy : IsN w v y) (hl : (natL x.natAbs).length ≤ 1000) (hl2 : (natL y.natAbs).length ≤ 1000) :
    Calls Try.prog 62 #[u, v] w fun e w' => e = .returned (.int .i64 (cmpZ x y)) ∧ Below w.heap.size w w' := by
  obtain ⟨p, cap, rfl, hN⟩ := hx
  obtain ⟨q, cap', rfl, hN'⟩ := hy
  have hB0 : Below w.heap.size w ((w.alloc (.cells #[.bool (decide (x < 0)), .slice p (natL x.natAbs).length cap] 54)).alloc (.cells #[.bool (decide (y < 0)), .slice q (natL y.natAbs).length cap'] 54)) := ((Below.refl _ w).alloc (Nat.le_refl _) _).alloc (by rw [World.size_alloc]; omega) _
  have cmp : ∀ (a b : Nat) (pa pb : Option Addr) (ca cb : Nat) (W : World), Below w.heap.size w W → NA w (.slice pa (natL a).length ca) (natL a) → NA w (.slice pb (natL b).length cb) (natL b) → (natL a).length ≤ 1000 → (natL b).length ≤ 1000 → Calls Try.prog 58 #[.slice pa (natL a).length ca, .slice pb (natL b).length cb] W fun e w' => e = .returned (.int .i64 (cmpN a b)) ∧ Below W.heap.size W w' := fun a b pa pb ca cb W hW h1 h2 h3 h4 => by
    obtain ⟨p1, c1, g1, o1, e1, _, _, hp1, hu1⟩ := (h1.below hW (Nat.le_refl _)).open
    obtain ⟨p2, c2, g2, o2, e2, _, _, hp2, hu2⟩ := (h2.below hW (Nat.le_refl _)).open
    injection e1 with e11 e12 e13
    injection e2 with e21 e22 e23
    subst e11; subst e13; subst e21; subst e23
    refine (compare_any a b pa ca g1 o1 pb cb g2 o2 W (fun h => (hp1 h).1) hu1 (fun h => (hp2 h).1) hu2 (by omega) (by omega)).mono ?_
    rintro e w' ⟨rfl, m, rfl⟩
    exact ⟨rfl, below_drewN (Below.refl _ _) m⟩
  have HB0 : Shut _ := ⟨hB0⟩
  go_enter Try.func62, Try.ntmps62
  by_cases hx0 : x < 0
  · have hdx : decide (x < 0) = true := decide_eq_true hx0
    by_cases hy0 : y < 0
    · have hdy : decide (y < 0) = true := decide_eq_true hy0
      have HC : Shut (cmpN y.natAbs x.natAbs = cmpZ x y) := ⟨by unfold cmpN cmpZ; (repeat' split) <;> omega⟩
      rw [hdx, hdy] at HB0 ⊢
      have c1 := cmp y.natAbs x.natAbs q p cap' cap _ HB0.o hN' hN hl2 hl
      rw [HC.o] at c1
      clear cmp hN hN' hB0 hdx hdy hx0 hy0
      go_wp2_with (go_at_call 58; refine c1.mono ?_; rintro e w1 ⟨rfl, hB1⟩)
      go_ret
      exact ⟨rfl, HB0.o.trans (hB1.mono HB0.o.size)⟩
    · have hdy : decide (y < 0) = false := decide_eq_false hy0
      have HC : Shut (cmpZ x y = -1) := ⟨by rw [cmpZ, if_pos (by omega)]⟩
      rw [hdx, hdy] at HB0 ⊢
      clear cmp hN hN' hB0 hdx hdy hx0 hy0
      go_wp2
      go_ret
      exact ⟨by rw [HC.o]; rfl, HB0.o⟩
  · have hdx : decide (x < 0) = false := decide_eq_false hx0
    by_cases hy0 : y < 0
    · have hdy : decide (y < 0) = true := decide_eq_true hy0
      have HC : Shut (cmpZ x y = 1) := ⟨by rw [cmpZ, if_neg (by omega), if_neg (by omega)]⟩
      rw [hdx, hdy] at HB0 ⊢
      clear cmp hN hN' hB0 hdx hdy hx0 hy0
      go_wp2
      go_ret
      exact ⟨by rw [HC.o]; rfl, HB0.o⟩
    · have hdy : decide (y < 0) = false := decide_eq_false hy0
      have HC : Shut (cmpN x.natAbs y.natAbs = cmpZ x y) := ⟨by unfold cmpN cmpZ; (repeat' split) <;> omega⟩
      rw [hdx, hdy] at HB0 ⊢
      have c1 := cmp x.natAbs y.natAbs p q cap cap' _ HB0.o hN hN' hl hl2
      rw [HC.o] at c1
      clear cmp hN hN' hB0 hdx hdy hx0 hy0
      go_wp2_with (go_at_call 58; refine c1.mono ?_; rintro e w1 ⟨rfl, hB1⟩)
      go_ret
      exact ⟨rfl, HB0.o.trans (hB1.mono HB0.o.size)⟩
end Go.Proofs.Yteaecpmdooolkaa
