/-
  The contracts of add and take.
-/
import Derived.Test.YteaecpmdooolkaaIntRow
import Derived.Test.YteaecpmdooolkaaIntAddM
namespace Go.Proofs.Yteaecpmdooolkaa
open Go.RowKit Nm

set_option maxHeartbeats 2000000 in
theorem add_any (g o n cap : Nat) (L : List Nat) (p' : Option Addr) (g' o' cap' : Nat) (t : List Nat) (f : Nat) (w : World)
    (hL : UR w g (L)) (hon : o + n ≤ L.length) (hg : 1 ≤ t.length → g' ≠ g) (hu : UA w g' o' t) (hp : 1 ≤ t.length → p' = some ⟨g', o', none⟩) (htn : t.length ≤ n) (hn : n ≤ 1000000) (hdL : Dig L) (hdt : Dig t) (hf : f ≤ 10000)
    (hroom : nv ((L.drop o).take n) + nv t * f < 10000 ^ n) :
    Calls Try.prog 77 #[.slice (some ⟨g, o, none⟩) n cap, .slice p' t.length cap', .int .u32 f] w fun e w' => e = .returned (.tuple #[]) ∧ Only g w w' ∧ UR w' g ((rowR L o n (nv ((L.drop o).take n) + nv t * f))) := by
  go_enter Try.func77, Try.ntmps77
  have HL : Shut _ := ⟨hL⟩
  have HU : Shut _ := ⟨hu⟩
  have HP : Shut _ := ⟨hp⟩
  have HR : Shut _ := ⟨hroom⟩
  have HD : Shut _ := ⟨And.intro hdL hdt⟩
  clear hL hu hp hroom hdL hdt
  obtain ⟨tn, htl⟩ : ∃ tn, tn = t.length := ⟨_, rfl⟩
  have HTL : Shut _ := ⟨htl⟩
  have htn' : tn ≤ n := by omega
  rw [← htl]
  clear htl htn
  go_wp2
  go_loopw [6, 7] (fun cv iv wr => ∃ (i c r : Nat), i ≤ n ∧ c ≤ 10000 ∧ cv = .int .u32 c ∧ iv = .int .i64 i ∧ Shut (Only g w wr) ∧ Shut (UR wr g ((rowR L o i r))) ∧ Shut (r < 10000 ^ i ∧ nv (((L.drop o).take n).take i) + nv (t.take i) * f = r + 10000 ^ i * c)) (fun _ iv _ => n - (intOf iv).toNat)
  case atStart => exact ⟨0, 0, 0, by omega, by omega, rfl, rfl, ⟨Only.refl _ _⟩, ⟨by rw [rowR_zero]; exact HL.o⟩, ⟨by decide, by simp [nv]⟩⟩
  case round =>
    obtain ⟨i, c, r, hin, hc, rfl, rfl, hO, hR, hE⟩ := hrel
    have hcell : i < n → wr.cell? ⟨g, o + i, none⟩ = some (.int .u32 ((L.getD (o + i) 0 : Nat) : Int)) := fun h => by
      have := hR.o.u32 (o + i) (by rw [rowR_len L o i r (by omega)]; omega)
      rwa [rowR_get L o i r (by omega)] at this
    have hfr := hR.o.frozen (o + i)
    have hs : L.getD (o + i) 0 < 10000 := HD.o.1.getD _
    have HS : Shut (∀ x : Nat, i < n → x = c + (if i < t.length then t.getD i 0 * f else 0) + L.getD (o + i) 0 → Only g w (wr.setCell ⟨g, o + i, none⟩ (.int .u32 ((x % 10000 : Nat) : Int))) ∧ UR (wr.setCell ⟨g, o + i, none⟩ (.int .u32 ((x % 10000 : Nat) : Int))) g ((rowR L o (i + 1) (r + 10000 ^ i * (x % 10000)))) ∧ r + 10000 ^ i * (x % 10000) < 10000 ^ (i + 1) ∧ nv (((L.drop o).take n).take (i + 1)) + nv (t.take (i + 1)) * f = (r + 10000 ^ i * (x % 10000)) + 10000 ^ (i + 1) * (x / 10000) ∧ x / 10000 ≤ 10000) := ⟨fun x hi hx => by
      have h1 := add_round o n i r c f x hi hon hE.o.2 hx
      refine ⟨hO.o.setCell _ _, ?_, pow_gt i r _ hE.o.1 (by omega), h1, add_carry HD.o.1 HD.o.2 o n (i + 1) _ _ f (by omega) hon hf h1⟩
      have h2 := hR.o.set32 (o + i) (x % 10000) (by rw [rowR_len L o i r (by omega)]; omega)
      rwa [rowR_set L o i r _ (by omega) hE.o.1 (by omega)] at h2⟩
    by_cases hit : i < tn
    · have hin2 : i < n := by omega
      have ht1 : i < t.length := by have := HTL.o; omega
      obtain rfl := HP.o (by omega)
      have hct := HU.o.only hO.o (hg (by omega)) i ht1
      have hti : t.getD i 0 < 10000 := HD.o.2.getD _
      have hc2 := hcell hin2
      have HS2 := HS.o
      rw [if_pos ht1] at HS2
      have hS3 := HS2 _ hin2 rfl
      have HS3 : Shut _ := ⟨hS3⟩
      clear hcell HS HS2 hS3 hE hR hO ht1
      generalize t.getD i 0 = ti at *
      generalize L.getD (o + i) 0 = s at *
      have hm : ti * f ≤ 9999 * 10000 := Nat.mul_le_mul (by omega) (by omega)
      obtain ⟨m, hmm⟩ : ∃ m, m = ti * f := ⟨_, rfl⟩
      have hmi : ((ti : Int) * (f : Int)) = (m : Int) := by rw [hmm, Int.natCast_mul]
      rw [← hmm] at HS3 hm
      clear hmm
      go_wp2
      have e1 : (((c : Int) + m + s) % 10000) = (((c + m + s) % 10000 : Nat) : Int) := by omega
      have e2 : (((c : Int) + m + s) / 10000) = (((c + m + s) / 10000 : Nat) : Int) := by omega
      rw [e1, e2]
      obtain ⟨k1, k2, k3, k4, k5⟩ := HS3.o
      exact ⟨⟨i + 1, _, _, by omega, k5, rfl, by go_num, ⟨k1⟩, ⟨k2⟩, ⟨k3, k4⟩⟩, by simp [intOf]; omega⟩
    · have ht1 : ¬ i < t.length := by have := HTL.o; omega
      by_cases hc0 : 0 < c
      · have hin2 : i < n := by
          rcases Nat.lt_or_ge i n with h | h
          · exact h
          · exfalso
            obtain rfl : i = n := by omega
            have h1 := hE.o.2
            have h2 := HR.o
            rw [List.take_of_length_le (show t.length ≤ i by omega), List.take_of_length_le (show ((L.drop o).take i).length ≤ i by rw [List.length_take]; omega)] at h1
            have : 10000 ^ i * 1 ≤ 10000 ^ i * c := Nat.mul_le_mul_left _ hc0
            omega
        have hc2 := hcell hin2
        have HS2 := HS.o
        rw [if_neg ht1, Nat.add_zero] at HS2
        have hS3 := HS2 _ hin2 rfl
        have HS3 : Shut _ := ⟨hS3⟩
        clear hcell HS HS2 hS3 hE hR hO ht1
        generalize L.getD (o + i) 0 = s at *
        go_wp2
        have e1 : (((c : Int) + s) % 10000) = (((c + s) % 10000 : Nat) : Int) := by omega
        have e2 : (((c : Int) + s) / 10000) = (((c + s) / 10000 : Nat) : Int) := by omega
        rw [e1, e2]
        obtain ⟨k1, k2, k3, k4, k5⟩ := HS3.o
        exact ⟨⟨i + 1, _, _, by omega, k5, rfl, by go_num, ⟨k1⟩, ⟨k2⟩, ⟨k3, k4⟩⟩, by simp [intOf]; omega⟩
      · obtain rfl : c = 0 := by omega
        have HF : Shut (rowR L o i r = rowR L o n (nv ((L.drop o).take n) + nv t * f)) := ⟨by
          rw [rowR_end HD.o.1 o n i r hin hon hE.o.1]
          have h1 := hE.o.2
          rw [List.take_of_length_le (show t.length ≤ i by omega), Nat.mul_zero, Nat.add_zero] at h1
          have h2 := nv_take_drop ((L.drop o).take n) i (by rw [seg_len L o n hon]; exact hin)
          congr 1
          omega⟩
        clear HS hcell hE ht1
        go_wp2
        go_end0
        exact ⟨rfl, hO.o, by rw [← HF.o]; exact hR.o⟩

set_option maxHeartbeats 2000000 in
theorem take_any (g o n cap : Nat) (L : List Nat) (p' : Option Addr) (g' o' cap' : Nat) (t : List Nat) (f : Nat) (w : World)
    (hL : UR w g (L)) (hon : o + n ≤ L.length) (hg : 1 ≤ t.length → g' ≠ g) (hu : UA w g' o' t) (hp : 1 ≤ t.length → p' = some ⟨g', o', none⟩) (htn : t.length ≤ n) (hn : n ≤ 1000000) (hdL : Dig L) (hdt : Dig t) (hf : f < 10000)
    (hroom : nv t * f ≤ nv ((L.drop o).take n)) :
    Calls Try.prog 79 #[.slice (some ⟨g, o, none⟩) n cap, .slice p' t.length cap', .int .u32 f] w fun e w' => e = .returned (.tuple #[]) ∧ Only g w w' ∧ UR w' g ((rowR L o n (nv ((L.drop o).take n) - nv t * f))) := by
  go_enter Try.func79, Try.ntmps79
  have HL : Shut _ := ⟨hL⟩
  have HU : Shut _ := ⟨hu⟩
  have HP : Shut _ := ⟨hp⟩
  have HR : Shut _ := ⟨hroom⟩
  have HD : Shut _ := ⟨And.intro hdL hdt⟩
  clear hL hu hp hroom hdL hdt
  obtain ⟨tn, htl⟩ : ∃ tn, tn = t.length := ⟨_, rfl⟩
  have HTL : Shut _ := ⟨htl⟩
  have htn' : tn ≤ n := by omega
  rw [← htl]
  clear htl htn
  go_wp2
  go_loopw [6, 7] (fun cv iv wr => ∃ (i c r : Nat), i ≤ n ∧ c < 10000 ∧ cv = .int .u32 c ∧ iv = .int .i64 i ∧ Shut (Only g w wr) ∧ Shut (UR wr g ((rowR L o i r))) ∧ Shut (r < 10000 ^ i ∧ nv (((L.drop o).take n).take i) + 10000 ^ i * c = r + nv (t.take i) * f)) (fun _ iv _ => n - (intOf iv).toNat)
  case atStart => exact ⟨0, 0, 0, by omega, by omega, rfl, rfl, ⟨Only.refl _ _⟩, ⟨by rw [rowR_zero]; exact HL.o⟩, ⟨by decide, by simp [nv]⟩⟩
  case round =>
    obtain ⟨i, c, r, hin, hc, rfl, rfl, hO, hR, hE⟩ := hrel
    have hcell : i < n → wr.cell? ⟨g, o + i, none⟩ = some (.int .u32 ((L.getD (o + i) 0 : Nat) : Int)) := fun h => by
      have := hR.o.u32 (o + i) (by rw [rowR_len L o i r (by omega)]; omega)
      rwa [rowR_get L o i r (by omega)] at this
    have hfr := hR.o.frozen (o + i)
    have hs : L.getD (o + i) 0 < 10000 := HD.o.1.getD _
    have HS : Shut (∀ x c' d : Nat, i < n → x = c + (if i < t.length then t.getD i 0 * f else 0) → L.getD (o + i) 0 + 10000 * c' = x + d → d < 10000 → UR (wr.setCell ⟨g, o + i, none⟩ (.int .u32 (d : Int))) g ((rowR L o (i + 1) (r + 10000 ^ i * d))) ∧ r + 10000 ^ i * d < 10000 ^ (i + 1) ∧ nv (((L.drop o).take n).take (i + 1)) + 10000 ^ (i + 1) * c' = (r + 10000 ^ i * d) + nv (t.take (i + 1)) * f ∧ c' < 10000) := ⟨fun x c' d hi hx he hd => by
      have h1 := take_round o n i r c f x c' d hi hon hE.o.2 hx he
      have h3 := pow_gt i r d hE.o.1 hd
      refine ⟨?_, h3, h1, take_carry HD.o.2 o n (i + 1) _ _ f hf h3 h1⟩
      have h2 := hR.o.set32 (o + i) d (by rw [rowR_len L o i r (by omega)]; omega)
      rwa [rowR_set L o i r _ (by omega) hE.o.1 hd] at h2⟩
    have HS9 : Shut (∀ a d : Nat, i < n → UR ((wr.setCell ⟨g, o + i, none⟩ (.int .u32 (a : Int))).setCell ⟨g, o + i, none⟩ (.int .u32 (d : Int))) g (((rowR L o i r).set (o + i) d))) := ⟨fun a d hi => by
      have h2 := (hR.o.set32 (o + i) a (by rw [rowR_len L o i r (by omega)]; omega)).set32 (o + i) d (by rw [List.length_set, rowR_len L o i r (by omega)]; omega)
      rwa [List.set_set] at h2⟩
    by_cases hit : i < tn
    · have hin2 : i < n := by omega
      have ht1 : i < t.length := by have := HTL.o; omega
      obtain rfl := HP.o (by omega)
      have hct := HU.o.only hO.o (hg (by omega)) i ht1
      have hti : t.getD i 0 < 10000 := HD.o.2.getD _
      have hc2 := hcell hin2
      have HS2 := HS.o
      rw [if_pos ht1] at HS2
      have HS3 : Shut _ := ⟨HS2⟩
      clear hcell HS HS2 ht1
      generalize t.getD i 0 = ti at *
      generalize L.getD (o + i) 0 = s at *
      have hm : ti * f ≤ 9999 * 9999 := Nat.mul_le_mul (by omega) (by omega)
      obtain ⟨m, hmm⟩ : ∃ m, m = ti * f := ⟨_, rfl⟩
      have hmi : ((ti : Int) * (f : Int)) = (m : Int) := by rw [hmm, Int.natCast_mul]
      rw [← hmm] at HS3 hm
      clear hmm
      by_cases hsg : s < (c + m) % 10000
      · go_wp2
        have e1 : ((s : Int) + 10000 - ((c : Int) + m) % 10000) = ((s + 10000 - (c + m) % 10000 : Nat) : Int) := by omega
        have e2 : (((c : Int) + m) / 10000 + 1) = (((c + m) / 10000 + 1 : Nat) : Int) := by omega
        obtain ⟨k2, k3, k4, k5⟩ := HS3.o (c + m) ((c + m) / 10000 + 1) (s + 10000 - (c + m) % 10000) hin2 rfl (by omega) (by omega)
        rw [e1, e2]
        have k6 := HS9.o (s + 10000) (s + 10000 - (c + m) % 10000) hin2
        rw [rowR_set L o i r _ (by omega) hE.o.1 (by omega)] at k6
        have e3 : ((s : Int) + 10000) = ((s + 10000 : Nat) : Int) := by omega
        rw [e3]
        exact ⟨⟨i + 1, _, _, by omega, k5, rfl, by go_num, ⟨(hO.o.setCell _ _).setCell _ _⟩, ⟨k6⟩, ⟨k3, k4⟩⟩, by simp [intOf]; omega⟩
      · go_wp2
        have e1 : ((s : Int) - ((c : Int) + m) % 10000) = ((s - (c + m) % 10000 : Nat) : Int) := by omega
        have e2 : (((c : Int) + m) / 10000) = (((c + m) / 10000 : Nat) : Int) := by omega
        obtain ⟨k2, k3, k4, k5⟩ := HS3.o (c + m) ((c + m) / 10000) (s - (c + m) % 10000) hin2 rfl (by omega) (by omega)
        rw [e1, e2]
        exact ⟨⟨i + 1, _, _, by omega, k5, rfl, by go_num, ⟨hO.o.setCell _ _⟩, ⟨k2⟩, ⟨k3, k4⟩⟩, by simp [intOf]; omega⟩
    · have ht1 : ¬ i < t.length := by have := HTL.o; omega
      by_cases hc0 : 0 < c
      · have hin2 : i < n := by
          rcases Nat.lt_or_ge i n with h | h
          · exact h
          · exfalso
            obtain rfl : i = n := by omega
            have h1 := hE.o.2
            have h2 := HR.o
            have h3 := hE.o.1
            rw [List.take_of_length_le (show t.length ≤ i by omega), List.take_of_length_le (show ((L.drop o).take i).length ≤ i by rw [List.length_take]; omega)] at h1
            have : 10000 ^ i * 1 ≤ 10000 ^ i * c := Nat.mul_le_mul_left _ hc0
            omega
        have hc2 := hcell hin2
        have HS2 := HS.o
        rw [if_neg ht1, Nat.add_zero] at HS2
        have HS3 : Shut _ := ⟨HS2⟩
        clear hcell HS HS2 ht1
        generalize L.getD (o + i) 0 = s at *
        by_cases hsg : s < c % 10000
        · go_wp2
          have e1 : ((s : Int) + 10000 - ((c : Int)) % 10000) = ((s + 10000 - (c) % 10000 : Nat) : Int) := by omega
          have e2 : (((c : Int)) / 10000 + 1) = (((c) / 10000 + 1 : Nat) : Int) := by omega
          obtain ⟨k2, k3, k4, k5⟩ := HS3.o (c) ((c) / 10000 + 1) (s + 10000 - (c) % 10000) hin2 rfl (by omega) (by omega)
          rw [e1, e2]
          have k6 := HS9.o (s + 10000) (s + 10000 - (c) % 10000) hin2
          rw [rowR_set L o i r _ (by omega) hE.o.1 (by omega)] at k6
          have e3 : ((s : Int) + 10000) = ((s + 10000 : Nat) : Int) := by omega
          rw [e3]
          exact ⟨⟨i + 1, _, _, by omega, k5, rfl, by go_num, ⟨(hO.o.setCell _ _).setCell _ _⟩, ⟨k6⟩, ⟨k3, k4⟩⟩, by simp [intOf]; omega⟩
        · go_wp2
          have e1 : ((s : Int) - ((c : Int)) % 10000) = ((s - (c) % 10000 : Nat) : Int) := by omega
          have e2 : (((c : Int)) / 10000) = (((c) / 10000 : Nat) : Int) := by omega
          obtain ⟨k2, k3, k4, k5⟩ := HS3.o (c) ((c) / 10000) (s - (c) % 10000) hin2 rfl (by omega) (by omega)
          rw [e1, e2]
          exact ⟨⟨i + 1, _, _, by omega, k5, rfl, by go_num, ⟨hO.o.setCell _ _⟩, ⟨k2⟩, ⟨k3, k4⟩⟩, by simp [intOf]; omega⟩
      · obtain rfl : c = 0 := by omega
        have HF : Shut (rowR L o i r = rowR L o n (nv ((L.drop o).take n) - nv t * f)) := ⟨by
          rw [rowR_end HD.o.1 o n i r hin hon hE.o.1]
          have h1 := hE.o.2
          rw [List.take_of_length_le (show t.length ≤ i by omega), Nat.mul_zero, Nat.add_zero] at h1
          have h2 := nv_take_drop ((L.drop o).take n) i (by rw [seg_len L o n hon]; exact hin)
          congr 1
          omega⟩
        clear HS HS9 hcell hE ht1
        go_wp2
        go_end0
        exact ⟨rfl, hO.o, by rw [← HF.o]; exact hR.o⟩
end Go.Proofs.Yteaecpmdooolkaa
