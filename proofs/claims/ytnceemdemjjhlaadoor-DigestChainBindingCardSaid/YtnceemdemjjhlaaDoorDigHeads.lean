/-
  Contracts of heads and of the reference's Same.
-/
import Derived.Test.YtnceemdemjjhlaaDoorDigChain
namespace Go.Proofs.YtnceemdemjjhlaaDoor
open Go.RowKit

set_option maxHeartbeats 2000000 in
theorem same_any (a b : List ByteArray) (ga oa ca gb ob cb : Nat) (pa pb : Option Addr) (hpa : 1 ≤ a.length → pa = some ⟨ga, oa, none⟩) (hpb : 1 ≤ b.length → pb = some ⟨gb, ob, none⟩) (_ : a.length ≤ 1000000) (_ : b.length ≤ 1000000)
    (w : World) (hA : SA w ga oa a) (hB : SA w gb ob b) :
    Calls Tryd.prog 25 #[.slice pa a.length ca, .slice pb b.length cb] w fun e w' => e = .returned (.bool (decide (a = b))) ∧ ∃ m, w' = w.drewN m := by
  go_enter Tryd.func25, Tryd.ntmps25
  have HA : Shut _ := ⟨hA⟩
  have HB : Shut _ := ⟨hB⟩
  have HPa : Shut _ := ⟨hpa⟩
  have HPb : Shut _ := ⟨hpb⟩
  clear hA hB hpa hpb
  by_cases hl : a.length = b.length
  · have hd : decide ((a.length : Int) = (b.length : Int)) = true := decide_eq_true (by omega)
    have HL : Shut _ := ⟨hl⟩
    obtain ⟨n, hn⟩ : ∃ n, n = a.length := ⟨_, rfl⟩
    have HN : Shut _ := ⟨hn⟩
    have hla : n ≤ 1000000 := by omega
    rw [← hl, ← hn]
    clear hd hn hl
    go_wp2
    go_loopw [5] (fun i5 wr => ∃ k : Nat, k ≤ n ∧ i5 = .int .i64 k ∧ (∃ m, wr = w.drewN m) ∧ Shut (∀ j (ha : j < a.length) (hb : j < b.length), j < k → a[j] = b[j])) (fun i5 _ => n - (intOf i5).toNat)
    case atStart => exact ⟨0, Nat.zero_le _, rfl, ⟨0, rfl⟩, ⟨fun j _ _ h => by omega⟩⟩
    case round =>
      obtain ⟨k, hk, rfl, ⟨m, hw⟩, hno⟩ := hrel
      have HW : Shut _ := ⟨hw⟩
      clear hw
      by_cases h1 : k < n
      · have ha1 : k < a.length := by rw [← HN.o]; exact h1
        have hb1 : k < b.length := by rw [← HL.o, ← HN.o]; exact h1
        obtain rfl := HPa.o (by omega)
        obtain rfl := HPb.o (by omega)
        have ca1 : wr.cell? ⟨ga, oa + k, none⟩ = some (.string a[k]) := by rw [HW.o]; exact HA.o k ha1
        have cb1 : wr.cell? ⟨gb, ob + k, none⟩ = some (.string b[k]) := by rw [HW.o]; exact HB.o k hb1
        have hd1 : decide ((k : Int) < (n : Int)) = true := decide_eq_true (by omega)
        by_cases he : a[k] = b[k]
        · have hn2 : Shut (∀ j (ha : j < a.length) (hb : j < b.length), j < k + 1 → a[j] = b[j]) := ⟨fun j ha hb hj => by
            by_cases e : j = k
            · subst e; exact he
            · exact hno.o j ha hb (by omega)⟩
          rw [← he] at cb1
          clear hno he
          generalize a[k] = x at *
          have hne : (!(x.toList == x.toList)) = false := by simp
          have hbe : (x.toList == x.toList) = true := beq_self_eq_true _
          go_wp2
          go_quiet (fail)
          go_wp2
          exact ⟨⟨k + 1, by omega, by go_num, ⟨_, by rw [HW.o, World.drewN_drewN]⟩, hn2⟩, by simp [intOf]; omega⟩
        · have hf : Shut (decide (a = b) = false) := ⟨decide_eq_false (fun e => he (by subst e; rfl))⟩
          have hbe : (a[k].toList == b[k].toList) = false := by rw [str_eq]; exact decide_eq_false he
          clear hno
          generalize a[k] = x at *
          generalize b[k] = y at *
          go_wp2
          go_quiet (fail)
          go_wp2
          go_ret
          exact ⟨by rw [hf.o]; rfl, _, by rw [HW.o, World.drewN_drewN]⟩
      · have hd1 : decide ((k : Int) < (n : Int)) = false := decide_eq_false (by omega)
        have hf : Shut (decide (a = b) = true) := ⟨decide_eq_true (List.ext_getElem HL.o (fun j ha hb => hno.o j ha hb (by have := HN.o; omega)))⟩
        go_wp2
        go_ret
        exact ⟨by rw [hf.o]; rfl, _, HW.o⟩
  · have hf : Shut (decide (a = b) = false) := ⟨decide_eq_false (fun e => hl (by rw [e]))⟩
    have hd : ((a.length : Int) == (b.length : Int)) = false := by rw [beq_eq_false_iff_ne]; omega
    clear HA HB HPa HPb
    generalize a.length = n at *
    generalize b.length = n' at *
    go_wp2
    go_ret
    exact ⟨by rw [hf.o]; rfl, 0, rfl⟩

theorem few_in60 (ls : List ByteArray) (n : Nat) : ∀ s ∈ fewB ls n, s.size ≤ 60 := fun s hs => by
  simp only [fewB, List.mem_map] at hs
  obtain ⟨x, _, rfl⟩ := hs
  exact cut60_size x
theorem infoB8 : (Tryd.prog.info? 5).map (fun i => (i.zero, i.size, i.bytes)) = some (some (.int .u8 0), 1, 1) := by kernel_rfl
theorem cells8_rep (n : Nat) : (madeCells (Value.int .u8 0).cells (n * 1)).toList = List.replicate n (Value.int .u8 0) := by
  rw [Nat.mul_one]
  simp [madeCells, Value.cells]
  rw [List.eq_replicate_iff]
  refine ⟨by simp, fun b hb => ?_⟩
  simp only [List.mem_map, Nat.mod_one] at hb
  obtain ⟨_, _, rfl⟩ := hb
  rfl
/-- 32 zero bytes, made and converted -/
theorem zeros_make (w : World) : ∃ w1, Sem.run Tryd.prog (Instr.makeSlice 42 (.int .i64 32) (.int .i64 32)) w = .ok (.slice (some ⟨w.heap.size, 0, none⟩) 32 32) w1 ∧ (∀ w2, Below w1.heap.size w1 w2 → Sem.run Tryd.prog (convert 42 9 (.slice (some ⟨w.heap.size, 0, none⟩) 32 32)) w2 = .ok (.string zeros32) w2) ∧ Below w.heap.size w w1 := by
  obtain ⟨i0, hinf, hz0, hz1, hz2⟩ := info_parts infoB8
  obtain ⟨w1, hrun, hown, hgr⟩ := run_make_full (P := Tryd.prog) w w.heap.size 42 5 i0 (.int .u8 0) 1 Tryd.underlying42 hinf hz0 hz1 .i64 .i64 32 (by rw [hz2]; omega) (by unfold maxLen; omega) (Nat.le_refl _)
  refine ⟨w1, hrun, fun w2 hb2 => ?_, ⟨hgr.os, hgr.tape, hgr.output, hgr.size, fun k hk => hgr.block k (by omega) (by simp)⟩⟩
  have := Go.run_convert_bytes_back (P := Tryd.prog) w2 42 9 5 ⟨w.heap.size, 0, none⟩ 32 (List.replicate 32 (0 : UInt8)) Tryd.underlying42 Tryd.underlying5 Tryd.underlying9 (fun i hi => by
    rw [List.length_replicate] at hi
    rw [cells8_rep] at hown
    have hc := World.ownsRow.cells (g := w.heap.size) hown rfl i (.int .u8 0) (by rw [List.getElem?_replicate, if_pos hi])
    rw [hb2.cell (World.block_lt_of_cell? w1 _ hc), hc, List.getElem_replicate]
    rfl)
  rwa [List.length_replicate] at this
set_option maxHeartbeats 2000000 in
theorem heads_any (ls : List ByteArray) (b o cap : Nat) (p : Option Addr) (hp : 1 ≤ ls.length → p = some ⟨b, o, none⟩) (hl : ls.length ≤ 100) (hS : ∀ s ∈ ls, s.size ≤ 900) (w : World) (hA : SA w b o ls) (ht : Tab w) :
    Calls Tryd.prog 33 #[.slice p ls.length cap] w fun e w' => ∃ v, e = .returned (.tuple #[v, .string (headR ls.reverse)]) ∧ OwnS w' w.heap.size v (outR ls.reverse) ∧ Below w.heap.size w w' := by
  go_enter Tryd.func33, Tryd.ntmps33
  have HA : Shut _ := ⟨hA⟩
  have HP : Shut _ := ⟨hp⟩
  have HS : Shut _ := ⟨hS⟩
  have HT : Shut _ := ⟨ht⟩
  clear hA hp hS ht
  obtain ⟨w1, hmk, hcw, hB1⟩ := zeros_make w
  have hcv := hcw w1 (Below.refl _ _)
  clear hcw
  go_wp2
  go_loopw [4, 5, 6] (fun h v i wr => ∃ k : Nat, k ≤ ls.length ∧ h = .string (headR (ls.take k).reverse) ∧ i = .int .i64 k ∧ OwnS wr w.heap.size v (outR (ls.take k).reverse) ∧ Below w.heap.size w wr) (fun _ _ i _ => ls.length - (intOf i).toNat)
  case atStart => exact ⟨0, Nat.zero_le _, rfl, rfl, OwnS.nil _ _, hB1⟩
  case round =>
    obtain ⟨k, hk, rfl, rfl, hO, hB⟩ := hrel
    by_cases hlt : k < ls.length
    · obtain rfl := HP.o (by omega)
      have hc := (HA.o.below (hB.mono (Nat.le_refl _))) k hlt
      have hcw := HA.o k hlt
      have hb := World.block_lt_of_cell? w _ hcw
      have HCW : Shut _ := ⟨And.intro hcw hb⟩
      have hsz := HS.o _ (List.getElem_mem hlt)
      clear hcw hb
      have hre := rev_take ls k hlt
      have HH : Shut (headR (ls.take (k + 1)).reverse = chainB (headR (ls.take k).reverse) ls[k]) := ⟨by rw [hre, headR]⟩
      have HX : Shut (outR (ls.take (k + 1)).reverse = (⟨#[2]⟩ ++ headR (ls.take k).reverse ++ ls[k]) :: outR (ls.take k).reverse) := ⟨by rw [hre, outR]⟩
      have hlen := outR_len (ls.take k).reverse
      rw [List.length_reverse, List.length_take, Nat.min_eq_left hk] at hlen
      have hhs := headR_size (ls.take k).reverse
      have h1s : (⟨#[2]⟩ : ByteArray).size = 1 := rfl
      have ht1 := HT.o.below hB HT.o.2.2
      have HT1 : Shut _ := ⟨ht1⟩
      have hge : 2 ≤ wr.heap.size := ht1.2.2
      clear hre ht1
      generalize headR (ls.take k).reverse = hd at *
      generalize outR (ls.take k).reverse = ol at *
      generalize ls[k] = x at *
      have h2s : (⟨#[2]⟩ ++ hd : ByteArray).size = 33 := by rw [ByteArray.size_append]; omega
      go_wp2_with (first | (at_builtin; go_must (refine append_strs rfl _ _ rfl w.heap.size _ [⟨#[2]⟩ ++ hd ++ x] rfl (OwnS.one wr w.heap.size _ hB.size) w.heap.size _ ol _ rfl (hO.below ((Below.refl _ wr).alloc (Nat.le_refl _) _)) rfl (by simp; omega) (by rw [World.size_alloc]; have := hB.size; omega) ?_); intro v3 w3 hO3 hB3; have hB3' := (hB.alloc hB.size _).trans hB3; have hc3 : w3.cell? ⟨b, o + k, none⟩ = some (.string x) := (hB3'.cell (p := ⟨b, o + k, none⟩) HCW.o.2).trans HCW.o.1) | (go_at_call 18; refine (chain_any hd x (by omega) (by omega) _ (HT.o.below hB3' HT.o.2.2)).mono ?_; rintro e w4 ⟨rfl, hB4⟩))
      exact ⟨⟨k + 1, by omega, by rw [HH.o], by go_num, by rw [HX.o]; exact hO3.below hB4, hB3'.trans (hB4.mono hB3'.size)⟩, by simp [intOf]; omega⟩
    · obtain rfl : k = ls.length := by omega
      rw [List.take_length] at hO ⊢
      go_wp2
      go_ret2
      exact ⟨_, rfl, hO, hB⟩
end Go.Proofs.YtnceemdemjjhlaaDoor
