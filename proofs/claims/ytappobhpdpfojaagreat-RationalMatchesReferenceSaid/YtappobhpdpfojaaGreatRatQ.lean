/-
  Contracts: valid.
-/
import Derived.Test.YtappobhpdpfojaaGreatRatP
namespace Go.Proofs.YtappobhpdpfojaaGreat
set_option maxRecDepth 1000000
namespace Rt
open Go.RowKit Nm

theorem valid_any (l : Value) (n : Nat) (p : Option Addr) (c : Nat) (W : World) (hl : l = .slice p n c) : Calls Tryz.prog 67 #[l] W fun e W' => e = .returned (.func (.func 93) #[] #[.pointer (some ⟨W.heap.size, 0, none⟩)]) ∧ W' = W.alloc (.cells #[l] 30) := by
  subst hl
  have hmf : ∀ (fn : Fn) (first cap : Array Value) (w : World), (Instr.makeFunc fn first cap).run Tryz.prog w = .ok (.func fn first cap) w := fun _ _ _ _ => rfl
  go_enter Tryz.func67, Tryz.ntmps67
  go_wp2
  go_ret
  exact ⟨rfl, rfl⟩

/-- the fractions of a row -/
noncomputable def qsOk (l : List (ByteArray × ByteArray)) : Bool := l.all fun x => (qOf x.1 x.2).isSome
def vR (b : Bool) : Int := if b then 0 else 40
set_option maxHeartbeats 2000000 in
theorem validC_any (b g cap : Nat) (l : List (ByteArray × ByteArray)) (W : World) (hb : Boxed W b 30 (.slice (some ⟨g, 0, none⟩) l.length cap)) (hl : l.length ≤ 1000)
    (hg : ∀ (i : Nat) (h : i < l.length), W.cell? ⟨g, i * 2, none⟩ = some (.string l[i].1) ∧ W.cell? ⟨g, i * 2 + 1, none⟩ = some (.string l[i].2) ∧ l[i].1.size ≤ 1000000 ∧ l[i].2.size ≤ 1000000) :
    Calls Tryz.prog 93 #[.pointer (some ⟨b, 0, none⟩)] W fun e W' => e = .returned (.int .i64 (vR (qsOk l))) ∧ Below W.heap.size W W' := by
  have cb := hb.cell
  have hblt := hb.lt
  have HG : Shut _ := ⟨hg⟩
  clear hg hb
  go_enter Tryz.func93, Tryz.ntmps93
  go_wp2
  go_loopw [6] (fun iv wr => ∃ k : Nat, iv = .int .i64 k ∧ k ≤ l.length ∧ Shut (qsOk (l.take k) = true) ∧ Below W.heap.size W wr) (fun iv _ => l.length - (intOf iv).toNat)
  case atStart => exact ⟨0, rfl, by omega, ⟨rfl⟩, Below.refl _ _⟩
  case round =>
    obtain ⟨k, rfl, hk, hq, hB⟩ := hrel
    by_cases hlt : k < l.length
    · obtain ⟨c1, c2, hs, ht⟩ := HG.o k hlt
      have k1 : wr.cell? ⟨g, k * 2, none⟩ = some (.string l[k].1) := (hB.cell (p := ⟨g, k * 2, none⟩) (World.block_lt_of_cell? W _ c1)).trans c1
      have k2 : wr.cell? ⟨g, k * 2 + 1, none⟩ = some (.string l[k].2) := (hB.cell (p := ⟨g, k * 2 + 1, none⟩) (World.block_lt_of_cell? W _ c2)).trans c2
      have hV := fun W => Valid_all l[k].1 l[k].2 hs ht W
      rw [rv] at hV
      have hX : Shut (qsOk (l.take (k + 1)) = (qOf l[k].1 l[k].2).isSome) := ⟨by
        rw [List.take_succ_eq_append_getElem hlt, qsOk, List.all_append, show (l.take k).all _ = true from hq.o]; simp⟩
      have hN : Shut ((qOf l[k].1 l[k].2).isSome = false → qsOk l = false) := ⟨fun h => by
        rw [qsOk, List.all_eq_false]
        exact ⟨l[k], List.getElem_mem hlt, by rw [h]; simp⟩⟩
      clear c1 c2 hs ht hq
      generalize l[k] = x at *
      obtain ⟨s, t⟩ := x
      cases hv : (qOf s t).isSome with
      | true =>
        simp only [hv] at hV
        have hX' : Shut _ := ⟨hX.o.trans hv⟩
        clear hX hN hv
        go_wp2_with (go_at_call 28; refine (hV _).mono ?_; rintro e w1 ⟨rfl, hB1⟩)
        go_roundw
        case rel => exact ⟨k + 1, rfl, by omega, hX', (hB.alloc hB.size _).trans (hB1.mono (by rw [World.size_alloc]; have := hB.size; omega))⟩
        case measure => simp [intOf]; omega
      | false =>
        simp only [hv] at hV
        have hN' : Shut _ := ⟨hN.o hv⟩
        clear hX hN hv
        go_wp2_with (go_at_call 28; refine (hV _).mono ?_; rintro e w1 ⟨rfl, hB1⟩)
        go_ret
        exact ⟨by rw [hN'.o]; rfl, (hB.alloc hB.size _).trans (hB1.mono (by rw [World.size_alloc]; have := hB.size; omega))⟩
    · have hkl : k = l.length := by omega
      have hq' : Shut (qsOk l = true) := ⟨by have := hq.o; rwa [hkl, List.take_length] at this⟩
      clear hq
      go_wp2
      go_ret
      exact ⟨by rw [hq'.o]; rfl, hB⟩
end Rt
end Go.Proofs.YtappobhpdpfojaaGreat
