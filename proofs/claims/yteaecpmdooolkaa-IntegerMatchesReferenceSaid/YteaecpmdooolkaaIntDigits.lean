/-
  The contract of digits.
-/
import Derived.Test.YteaecpmdooolkaaIntByte
namespace Go.Proofs.Yteaecpmdooolkaa
open Go.RowKit Nm

/-- m places, the last t of which are digits of x -/
def rowD (m t x : Nat) : List Nat := List.replicate (m - t) 0 ++ dg t x
theorem rowD_len (m t x : Nat) (h : t ≤ m) : (rowD m t x).length = m := by simp [rowD, dg_len]; omega
theorem rowD_set (m t x : Nat) (h : t < m) : (rowD m t x).set (m - t - 1) (48 + x / 10 ^ t % 10) = rowD m (t + 1) x := by
  obtain ⟨k, hk⟩ : ∃ k, m - t = k + 1 := ⟨m - t - 1, by omega⟩
  rw [rowD, rowD, hk, show m - (t + 1) = k by omega, Nat.add_sub_cancel, List.replicate_succ', List.append_assoc, List.set_append_right _ _ (by simp), List.length_replicate, Nat.sub_self, List.singleton_append, List.set_cons_zero, dg]
theorem rowD_full (m x : Nat) (h : x < 10 ^ m) : rowD m m x = List.replicate (m - (decN x).length) 48 ++ decN x := by
  rw [rowD, Nat.sub_self, List.replicate_zero, List.nil_append, dg_decN m x h]
theorem getD_right (l r : List Nat) (i : Nat) : (l ++ r).getD (l.length + i) 0 = r.getD i 0 := by
  simp only [List.getD_eq_getElem?_getD]
  rw [List.getElem?_append_right (by omega), Nat.add_sub_cancel_left]
theorem getD_rep (n i y : Nat) (r : List Nat) (h : i < n) : (List.replicate n y ++ r).getD i 0 = y := by
  simp only [List.getD_eq_getElem?_getD]
  rw [List.getElem?_append_left (by simpa using h), List.getElem?_replicate, if_pos h]; rfl

set_option maxRecDepth 100000 in
set_option maxHeartbeats 4000000 in
theorem digits_any (x : Nat) (hx : x ≠ 0) (va : Value) (w : World) (ha : NA w va (natL x)) (hla : (natL x).length ≤ 1000) :
    Calls Try.prog 69 #[va] w fun e w' => e = .returned (.string (ba (decN x))) ∧ Below w.heap.size w w' := by
  obtain ⟨pa, ca, ga, oa, rfl, hla2, hca, hpa, hua⟩ := ha.open
  obtain ⟨m, hm⟩ : ∃ m, m = 4 * (natL x).length := ⟨_, rfl⟩
  have hxm : x < 10 ^ m := by have := natL_lt x; rw [hm, Nat.pow_mul]; exact this
  have hdl := decN_len_le hxm
  have hd0 : 1 ≤ (decN x).length := by
    rcases Nat.eq_zero_or_pos (decN x).length with h | h
    · exact absurd (decN_nil.1 (List.eq_nil_of_length_eq_zero h)) hx
    · exact h
  have HM1 : Shut ((4 : Int) * (((natL x).length : Nat) : Int) = (m : Int)) := ⟨by omega⟩
  have hm4 : m ≤ 4000 := by omega
  have HM : Shut _ := ⟨hm⟩
  have HA : Shut _ := ⟨And.intro hua hpa⟩
  have HFULL : Shut _ := ⟨rowD_full m x hxm⟩
  have HHEAD : Shut _ := ⟨decN_head x hx⟩
  obtain ⟨dl, hdle⟩ : ∃ dl, dl = (decN x).length := ⟨_, rfl⟩
  rw [← hdle] at hdl hd0
  have HDL : Shut _ := ⟨hdle⟩
  have HX : Shut _ := ⟨hx⟩
  clear hm hua hpa ha hxm hdle hx
  go_enter Try.func69, Try.ntmps69
  go_wp2_with (first | (at_make; refine make_u8 rfl _ _ rfl w.heap.size m (congrArg (Value.int .i64) HM1.o) (congrArg (Value.int .i64) HM1.o) (by omega) (Nat.le_refl _) ?_; intro w1 hu1 hB1))
  have HU1 : Shut (BR w1 w.heap.size (rowD m (4 * 0) x)) := ⟨by rw [rowD, dg, Nat.mul_zero, Nat.sub_zero, List.append_nil]; exact hu1⟩
  clear hu1
  go_loopw [4, 15] (fun ev iv wr => ∃ i e : Nat, i ≤ (natL x).length ∧ e + 4 * i = m ∧ ev = .int .i64 e ∧ iv = .int .i64 i ∧ Shut (BR wr w.heap.size (rowD m (4 * i) x)) ∧ Shut (Below w.heap.size w wr)) (fun _ iv _ => (natL x).length - (intOf iv).toNat)
  case atStart => exact ⟨0, m, Nat.zero_le _, rfl, rfl, rfl, HU1, ⟨hB1⟩⟩
  case round =>
    obtain ⟨i, e0, hi, he0, rfl, rfl, hu, hB⟩ := hrel
    by_cases hlt : i < (natL x).length
    · obtain ⟨hp, hg⟩ := HA.o.2 (by omega)
      subst hp
      have hcl := HA.o.1.below hB.o hg i hlt
      have hd1 : decide ((i : Int) < (((natL x).length : Nat) : Int)) = true := decide_eq_true (by omega)
      have HDG : Shut (∀ j, j < 4 → x / 10 ^ (4 * i + j) % 10 = (natL x).getD i 0 / 10 ^ j % 10) := ⟨fun j hj => by
        have := nv_digit (natL x) (natL_dig x) i hlt j hj
        rwa [natL_nv] at this⟩
      have hd := (natL_dig x).getD i
      have hmi : 4 * i + 4 ≤ m := by have := HM.o; omega
      generalize (natL x).getD i 0 = d at *
      go_wp2
      go_loopw [4, 6, 19] (fun ev gv jv wr' => ∃ j e : Nat, j ≤ 4 ∧ e + (4 * i + j) = m ∧ ev = .int .i64 e ∧ gv = .int .u32 ((d / 10 ^ j : Nat) : Int) ∧ jv = .int .i64 j ∧ Shut (BR wr' w.heap.size (rowD m (4 * i + j) x)) ∧ Shut (Below w.heap.size w wr')) (fun _ _ jv _ => 4 - (intOf jv).toNat)
      case atStart => exact ⟨0, e0, by omega, by omega, rfl, by simp, rfl, hu, hB⟩
      case round =>
        obtain ⟨j, e1, hj, he1, rfl, rfl, rfl, hu2, hB2⟩ := hrel
        by_cases hj4 : j < 4
        · obtain ⟨e, rfl⟩ : ∃ e, e1 = e + 1 := ⟨e1 - 1, by omega⟩
          have HG : Shut (d / 10 ^ j / 10 = d / 10 ^ (j + 1)) := ⟨by rw [Nat.div_div_eq_div_mul, Nat.pow_succ]⟩
          have hfr := hu2.o.frozen e
          have hce := hu2.o.u8 e (by rw [rowD_len m _ x (by omega)]; omega)
          have hgj : d / 10 ^ j < 10000 := Nat.lt_of_le_of_lt (Nat.div_le_self _ _) hd
          have HC : Shut (BR (wr.setCell ⟨w.heap.size, e, none⟩ (.int .u8 ((48 + d / 10 ^ j % 10 : Nat) : Int))) w.heap.size (rowD m (4 * i + (j + 1)) x)) := ⟨by
            have h1 := hu2.o.set8 e (48 + d / 10 ^ j % 10)
            have h2 := rowD_set m (4 * i + j) x (by omega)
            rw [HDG.o j hj4, show m - (4 * i + j) - 1 = e by omega] at h2
            rw [h2] at h1
            exact h1⟩
          have HB2 : Shut (∀ v, Below w.heap.size w (wr.setCell ⟨w.heap.size, e, none⟩ v)) := ⟨fun v => hB2.o.trans ((Only.setCell (Only.refl w.heap.size wr) e v).below (Nat.le_refl _))⟩
          clear hu2 hB2
          generalize (rowD m (4 * i + j) x).getD e 0 = old at *
          generalize d / 10 ^ j = gj at *
          go_wp2
          have e1 : (48 + (gj : Int) % 10) = ((48 + gj % 10 : Nat) : Int) := by omega
          have e2 : ((gj : Int) / 10) = ((gj / 10 : Nat) : Int) := by omega
          rw [e1, e2]
          exact ⟨⟨j + 1, e, by omega, by omega, by go_num, by rw [HG.o], by go_num, HC, ⟨HB2.o _⟩⟩, by simp [intOf]; omega⟩
        · obtain rfl : j = 4 := by omega
          go_wp2
          exact ⟨⟨i + 1, e1, by omega, by omega, rfl, by go_num, hu2, hB2⟩, by simp [intOf]; omega⟩
    · obtain rfl : i = (natL x).length := by omega
      obtain rfl : e0 = 0 := by have := HM.o; omega
      have HR : Shut (BR wr w.heap.size (List.replicate (m - dl) 48 ++ decN x)) := ⟨by
        have h1 := hu.o
        rw [show 4 * (natL x).length = m by omega, HFULL.o, ← HDL.o] at h1
        exact h1⟩
      clear hu
      go_wp2
      go_loopw [3] (fun sv wr' => ∃ o r : Nat, o + r = m ∧ dl ≤ r ∧ sv = .slice (some ⟨w.heap.size, o, none⟩) r r ∧ wr' = wr) (fun sv _ => match sv with | .slice _ k _ => k | _ => 0)
      case atStart => exact ⟨0, m, by omega, by omega, rfl, rfl⟩
      case round =>
        obtain ⟨o, r, hor, hr, rfl, rfl⟩ := hrel
        by_cases ho2 : dl < r
        · obtain ⟨r, rfl⟩ : ∃ r', r = r' + 1 := ⟨r - 1, by omega⟩
          have hc := HR.o.u8 o (by rw [List.length_append, List.length_replicate]; omega)
          rw [getD_rep (m - dl) o 48 _ (by omega)] at hc
          have hr1 : ¬ r + 1 = 1 := by omega
          have hr2 : r ≠ 0 := by omega
          go_wp2
          exact ⟨⟨o + 1, r, by omega, by omega, rfl, trivial⟩, Nat.lt_succ_self r⟩
        · obtain rfl : r = dl := by omega
          have hc := HR.o.u8 o (by rw [List.length_append, List.length_replicate, ← HDL.o]; omega)
          have hcv := back_string wr w.heap.size o r (decN x) (fun y hy => by have := decN_dig x y hy; omega) (fun i hi => by
            have h1 := HR.o.u8 (o + i) (by rw [List.length_append, List.length_replicate]; omega)
            have h2 := getD_right (List.replicate (m - r) 48) (decN x) i
            rw [List.length_replicate, show m - r = o by omega] at h2
            rw [show m - r = o by omega, h2] at h1
            exact h1)
          rw [← HDL.o] at hcv
          have h2 := getD_right (List.replicate (m - r) 48) (decN x) 0
          rw [List.length_replicate, show m - r = o by omega, Nat.add_zero] at h2
          rw [show m - r = o by omega, h2] at hc
          have h48 := HHEAD.o
          have h48i : (((decN x).getD 0 0 : Nat) : Int) ≠ 48 := by omega
          have hr0 : 0 < r := by omega
          clear h2 hor hr hdl hi
          generalize (decN x).getD 0 0 = hd at *
          obtain ⟨str, hstr⟩ : ∃ str, str = ba (decN x) := ⟨_, rfl⟩
          rw [← hstr] at hcv
          have HSTR : Shut _ := ⟨hstr⟩
          clear hstr he0 hlt ho2
          go_wp2
          go_ret
          exact ⟨by rw [← HSTR.o]; rfl, hB.o⟩
end Go.Proofs.Yteaecpmdooolkaa
