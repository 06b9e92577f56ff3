/-
  Contracts: cutSign, Valid.
-/
import Derived.Test.YteaecpmdooolkaaIntNumE
import Derived.Deep.Cut
namespace Go.Proofs.Yteaecpmdooolkaa
open Go.RowKit Nm

theorem str_eq (a b : ByteArray) : (a.toList == b.toList) = decide (a = b) := by
  rw [Bool.eq_iff_iff, beq_iff_eq, decide_eq_true_iff, ByteArray.toList_eq, ByteArray.toList_eq]
  constructor
  · intro h; cases a; cases b; congr; exact Array.toList_inj.1 h
  · rintro rfl; rfl
def hd0 (s : ByteArray) : Nat := (bl s).getD 0 0
def cutB (s : ByteArray) : Bool × ByteArray := if hd0 s = 45 then (true, s.extract 1 s.size) else (false, s)
theorem hd0_nil {s : ByteArray} (h : s.size = 0) : hd0 s = 0 := by
  have : bl s = [] := List.eq_nil_of_length_eq_zero (by rw [bl_len]; exact h)
  rw [hd0, this]; rfl

set_option maxHeartbeats 1000000 in
theorem cutSign_any (s : ByteArray) (hs : s.size ≤ 1000000) (w : World) :
    Calls Try.prog 61 #[.string s] w fun e w' => e = .returned (.tuple #[.bool (cutB s).1, .string (cutB s).2]) ∧ ∃ m, w' = w.drewN m := by
  go_enter Try.func61, Try.ntmps61
  by_cases h0 : s.size = 0
  · have HC : Shut (cutB s = (false, s)) := ⟨by rw [cutB, hd0_nil h0]; rfl⟩
    go_wp2
    go_ret2
    exact ⟨by rw [HC.o]; rfl, 0, rfl⟩
  · have hp : 0 < s.size := by omega
    have hg := bl_get s 0 hp
    by_cases h45 : hd0 s = 45
    · have HC : Shut (cutB s = (true, s.extract 1 s.size)) := ⟨by rw [cutB, if_pos h45]⟩
      have hb : s[0].toNat = 45 := by rw [← hg]; exact h45
      have hi1 : (1 : Int) ≤ (s.size : Int) := by omega
      clear h45 hg
      go_wp2
      go_quiet (fail)
      go_wp2
      go_ret2
      exact ⟨by rw [HC.o]; rfl, _, rfl⟩
    · have HC : Shut (cutB s = (false, s)) := ⟨by rw [cutB, if_neg h45]⟩
      have hb : s[0].toNat ≠ 45 := by rw [← hg]; exact h45
      have hb2 : ((s[0].toNat : Nat) : Int) ≠ 45 := by omega
      clear h45 hg
      go_wp2
      go_ret2
      exact ⟨by rw [HC.o]; rfl, 0, rfl⟩

def okC (y : Nat) : Bool := decide (48 ≤ y) && decide (y < 58)
def validB (s : ByteArray) : Bool := if (cutB s).2.size = 0 ∨ 200 < (cutB s).2.size then false else if hd0 (cutB s).2 = 48 then decide (s = ba [48]) else (bl (cutB s).2).all okC
theorem cutB_size (s : ByteArray) : (cutB s).2.size ≤ s.size := by
  rw [cutB]; split
  · rw [ByteArray.size_extract]; omega
  · exact Nat.le_refl _

set_option maxHeartbeats 2000000 in
theorem Valid_any (s : ByteArray) (hs : s.size ≤ 1000000) (w : World) :
    Calls Try.prog 29 #[.string s] w fun e w' => e = .returned (.bool (validB s)) ∧ ∃ m, w' = w.drewN m := by
  have cc := cutSign_any s hs w
  have hcs := cutB_size s
  have HV : Shut (validB s = if (cutB s).2.size = 0 ∨ 200 < (cutB s).2.size then false else if hd0 (cutB s).2 = 48 then decide (s = ba [48]) else (bl (cutB s).2).all okC) := ⟨rfl⟩
  generalize (cutB s).1 = neg at *
  generalize (cutB s).2 = d at *
  obtain ⟨vr, hvr⟩ : ∃ vr, vr = validB s := ⟨_, rfl⟩
  have HVR : Shut _ := ⟨hvr⟩
  rw [← hvr] at HV ⊢
  clear hvr
  go_enter Try.func29, Try.ntmps29
  go_upto_region 2 with (go_at_call 61; refine cc.mono ?_; rintro e w1 ⟨rfl, m0, rfl⟩)
  by_cases h0 : d.size = 0
  · have HC : Shut (vr = false) := ⟨by rw [HV.o, if_pos (.inl h0)]⟩
    clear HV
    go_wp2
    go_ret
    exact ⟨by rw [HC.o]; rfl, m0, rfl⟩
  · by_cases h200 : 200 < d.size
    · have HC : Shut (vr = false) := ⟨by rw [HV.o, if_pos (.inr h200)]⟩
      have hz : ((d.size : Int) == 0) = false := by rw [beq_eq_false_iff_ne]; omega
      have hd2 : decide ((200 : Int) < (d.size : Int)) = true := decide_eq_true (by omega)
      clear HV
      go_wp2
      go_ret
      exact ⟨by rw [HC.o]; rfl, m0, rfl⟩
    · have hp : 0 < d.size := by omega
      have hz : ((d.size : Int) == 0) = false := by rw [beq_eq_false_iff_ne]; omega
      have hd2 : decide ((200 : Int) < (d.size : Int)) = false := decide_eq_false (by omega)
      have hg := bl_get d 0 hp
      by_cases h48 : hd0 d = 48
      · have HC : Shut (vr = decide (s = ba [48])) := ⟨by rw [HV.o, if_neg (by omega), if_pos h48]⟩
        have hb : d[0].toNat = 48 := by rw [← hg]; exact h48
        have hse : (s.toList == [48]) = decide (s = ba [48]) := by rw [← str_eq, show (ba [48]).toList = [48] by rw [ByteArray.toList_eq]; rfl]
        have HSE : Shut _ := ⟨hse⟩
        clear hse
        clear hg h48 HV
        go_wp2
        go_ret
        exact ⟨by rw [HC.o, ← HSE.o]; rfl, m0, rfl⟩
      · have HC : Shut (vr = (bl d).all okC) := ⟨by rw [HV.o, if_neg (by omega), if_neg h48]⟩
        have hb : d[0].toNat ≠ 48 := by rw [← hg]; exact h48
        have hb2 : (((d[0].toNat : Nat) : Int) == 48) = false := by rw [beq_eq_false_iff_ne]; omega
        clear hg h48 HV
        go_wp2
        go_loopw [26] (fun iv wr => ∃ k : Nat, k ≤ d.size ∧ iv = .int .i64 k ∧ (∃ m, wr = w.drewN m) ∧ Shut (∀ j, j < k → okC ((bl d).getD j 0) = true)) (fun iv _ => d.size - (intOf iv).toNat)
        case atStart => exact ⟨0, by omega, rfl, ⟨m0, rfl⟩, ⟨fun j hj => by omega⟩⟩
        case round =>
          obtain ⟨k, hk, rfl, ⟨m, hw⟩, hall⟩ := hrel
          have HW : Shut _ := ⟨hw⟩
          clear hw
          by_cases hlt : k < d.size
          · have hgk := bl_get d k hlt
            by_cases hok : okC ((bl d).getD k 0) = true
            · have hall2 : Shut (∀ j, j < k + 1 → okC ((bl d).getD j 0) = true) := ⟨fun j hj => by
                by_cases e : j = k
                · rw [e]; exact hok
                · exact hall.o j (by omega)⟩
              rw [hgk, okC, Bool.and_eq_true, decide_eq_true_eq, decide_eq_true_eq] at hok
              obtain ⟨h1, h2⟩ := hok
              clear hgk hall
              go_wp2
              exact ⟨⟨k + 1, by omega, by go_num, ⟨m, HW.o⟩, hall2⟩, by simp [intOf]; omega⟩
            · have HF : Shut (vr = false) := ⟨by
                rw [HC.o, List.all_eq_false]
                refine ⟨(bl d).getD k 0, ?_, hok⟩
                have hkl : k < (bl d).length := by rw [bl_len]; exact hlt
                rw [List.getD_eq_getElem?_getD, List.getElem?_eq_getElem hkl]
                exact List.getElem_mem hkl⟩
              rw [hgk, okC, Bool.and_eq_true, decide_eq_true_eq, decide_eq_true_eq] at hok
              clear hgk hall
              by_cases h1 : d[k].toNat < 48
              · go_wp2
                go_ret
                exact ⟨by rw [HF.o]; rfl, m, HW.o⟩
              · have h2 : 57 < d[k].toNat := by omega
                go_wp2
                go_ret
                exact ⟨by rw [HF.o]; rfl, m, HW.o⟩
          · obtain rfl : k = d.size := by omega
            have HT : Shut (vr = true) := ⟨by
              rw [HC.o, List.all_eq_true]
              intro y hy
              obtain ⟨j, hj, rfl⟩ := List.getElem_of_mem hy
              have := hall.o j (by rw [← bl_len]; exact hj)
              rwa [List.getD_eq_getElem?_getD, List.getElem?_eq_getElem hj] at this⟩
            clear hall
            go_wp2
            go_ret
            exact ⟨by rw [HT.o]; rfl, m, HW.o⟩

/-! ### what is valid is the text of an integer -/
theorem okC_iff (y : Nat) : okC y = true ↔ 48 ≤ y ∧ y < 58 := by rw [okC, Bool.and_eq_true, decide_eq_true_eq, decide_eq_true_eq]
theorem txt_bl (z : Int) : bl (txt z) = if z = 0 then [48] else if z < 0 then 45 :: decN z.natAbs else decN z.natAbs := by
  rw [txt]
  split
  · rfl
  · split
    · rw [bl_ba]; intro y hy
      rcases List.mem_cons.1 hy with rfl | hy
      · decide
      · have := decN_dig _ y hy; omega
    · rw [bl_ba]; intro y hy; have := decN_dig _ y hy; omega
theorem decN_ne (n : Nat) (h : n ≠ 0) : decN n ≠ [] := fun e => h (decN_nil.1 e)
theorem decN_hd (n : Nat) (h : n ≠ 0) : 49 ≤ (decN n).getD 0 0 ∧ (decN n).getD 0 0 < 58 := by
  have h1 := decN_head n h
  cases hd : decN n with
  | nil => exact absurd hd (decN_ne n h)
  | cons a r =>
    rw [hd] at h1
    have h2 := decN_dig n a (by rw [hd]; simp)
    simp at h1 ⊢; omega
/-- the sign and the digits of a text -/
theorem cut_txt (z : Int) : cutB (txt z) = (decide (z < 0), ba (if z = 0 then [48] else decN z.natAbs)) := by
  have hb := txt_bl z
  rw [cutB, hd0, hb]
  by_cases h0 : z = 0
  · rw [if_pos h0, if_pos h0, if_neg (by decide), decide_eq_false (by omega), txt, if_pos h0]
  · rw [if_neg h0, if_neg h0]
    by_cases hn : z < 0
    · rw [if_pos hn, if_pos (by rfl), decide_eq_true hn]
      congr 1
      apply bl_inj
      rw [bl_extract, hb, if_neg h0, if_pos hn, ← bl_len, hb, if_neg h0, if_pos hn, List.take_length, bl_ba _ (fun y hy => by have := decN_dig _ y hy; omega)]
      rfl
    · have := decN_hd z.natAbs (by omega)
      rw [if_neg hn, if_neg (by omega), decide_eq_false hn, txt, if_neg h0, if_neg hn]
/-- 200 digits -/
def Fits (z : Int) : Prop := (decN z.natAbs).length ≤ 200
instance fits_dec (z : Int) : Decidable (Fits z) := by unfold Fits; infer_instance
theorem fits_len {z : Int} (h : Fits z) : (natL z.natAbs).length ≤ 50 := by
  refine natL_len_le ?_
  have h1 := decN_lt z.natAbs
  have h2 : 10 ^ (decN z.natAbs).length ≤ 10 ^ 200 := Nat.pow_le_pow_right (by decide) h
  rw [show (10000 : Nat) ^ 50 = 10 ^ 200 by rw [show (10000 : Nat) = 10 ^ 4 from rfl, ← Nat.pow_mul]]
  omega
theorem valid_txt (z : Int) (h : Fits z) : validB (txt z) = true := by
  rw [validB, cut_txt]
  by_cases h0 : z = 0
  · subst h0; rfl
  · have hne := decN_ne z.natAbs (by omega)
    have hl : (decN z.natAbs).length ≠ 0 := fun e => hne (List.eq_nil_of_length_eq_zero e)
    have hhd := decN_hd z.natAbs (by omega)
    have hb : bl (ba (decN z.natAbs)) = decN z.natAbs := bl_ba _ (fun y hy => by have := decN_dig _ y hy; omega)
    unfold Fits at h
    simp only [if_neg h0]
    rw [if_neg (by rw [ba_size]; omega), hd0, hb, if_neg (by omega), List.all_eq_true]
    intro y hy
    exact (okC_iff y).2 (decN_dig _ y hy)
theorem valid_is {s : ByteArray} (h : validB s = true) : ∃ z : Int, s = txt z ∧ Fits z := by
  rw [validB] at h
  split at h
  · cases h
  · rename_i hsz
    split at h
    · rename_i h48
      rw [decide_eq_true_eq] at h
      exact ⟨0, h, by unfold Fits; rw [show (0 : Int).natAbs = 0 from rfl, decN_zero]; simp⟩
    · rename_i h48
      have hd : ∀ y ∈ bl (cutB s).2, 48 ≤ y ∧ y < 58 := fun y hy => (okC_iff y).1 (List.all_eq_true.1 h y hy)
      have hne : (bl (cutB s).2).length ≠ 0 := by rw [bl_len]; omega
      have hz : bl (cutB s).2 = [] ∨ (bl (cutB s).2).getD 0 0 ≠ 48 := .inr h48
      have he := decN_eq _ hd hz
      have hv0 : dvl (bl (cutB s).2) ≠ 0 := by
        intro e; rw [e, decN_zero] at he; rw [he] at hne; simp at hne
      by_cases hs : hd0 s = 45
      · have hc : (cutB s).2 = s.extract 1 s.size := by rw [cutB, if_pos hs]
        have hbs : bl s = 45 :: bl (cutB s).2 := by
          rw [hc, bl_extract, ← bl_len, List.take_length]
          cases hb : bl s with
          | nil => rw [hd0, hb] at hs; simp at hs
          | cons a r => rw [hd0, hb] at hs; simp at hs; rw [hs]; rfl
        refine ⟨-(dvl (bl (cutB s).2) : Int), ?_, ?_⟩
        · apply bl_inj
          rw [txt_bl, if_neg (by omega), if_pos (by omega), Int.natAbs_neg, Int.natAbs_natCast, ← he, hbs]
        · unfold Fits
          rw [Int.natAbs_neg, Int.natAbs_natCast, ← he, bl_len]; omega
      · have hc : (cutB s).2 = s := by rw [cutB, if_neg hs]
        rw [hc] at he hv0 hsz
        refine ⟨(dvl (bl s) : Int), ?_, ?_⟩
        · apply bl_inj
          rw [txt_bl, if_neg (by omega), if_neg (by omega), Int.natAbs_natCast, ← he]
        · unfold Fits
          rw [Int.natAbs_natCast, ← he, bl_len]; omega
theorem valid_iff (z : Int) : validB (txt z) = decide (Fits z) := by
  by_cases h : Fits z
  · rw [valid_txt z h, decide_eq_true h]
  · rw [decide_eq_false h]
    rw [validB, cut_txt]
    by_cases h0 : z = 0
    · subst h0; exact absurd (by unfold Fits; rw [show (0 : Int).natAbs = 0 from rfl, decN_zero]; simp) h
    · simp only [if_neg h0]
      unfold Fits at h
      rw [if_pos (.inr (by rw [ba_size]; omega))]
theorem txt_inj {x y : Int} (h : txt x = txt y) : x = y := by
  have h1 : cutB (txt x) = cutB (txt y) := by rw [h]
  rw [cut_txt, cut_txt] at h1
  injection h1 with h2 h3
  rw [decide_eq_decide] at h2
  have hlt : ∀ z : Int, ∀ y ∈ (if z = 0 then [48] else decN z.natAbs), y < 256 := by
    intro z y hy
    split at hy
    · simp at hy; omega
    · have := decN_dig _ y hy; omega
  have h4 := ba_inj (hlt x) (hlt y) h3
  have h5 : ∀ z : Int, dvl (if z = 0 then [48] else decN z.natAbs) = z.natAbs := by
    intro z
    split
    · rename_i h0; subst h0; rfl
    · exact decN_dvl _
  have h6 := h5 x
  rw [h4, h5 y] at h6
  omega
end Go.Proofs.Yteaecpmdooolkaa
