/-
  Leaf, Node, Chain; Root; areDigests.
-/
import Derived.Test.YtnceemdemjjhlaaDoorDigSum
import Derived.RegionTactic
namespace Go.Proofs.YtnceemdemjjhlaaDoor
open Go.RowKit

set_option maxHeartbeats 400000 in
theorem leaf_any (s : ByteArray) (hs : s.size ≤ 100000) (w : World) (ht : Tab w) :
    Calls Tryd.prog 14 #[.string s] w fun e w' => e = .returned (.string (leafB s)) ∧ Below w.heap.size w w' := by
  have hb : Below w.heap.size w (w.alloc (.cells #[.string ⟨#[0]⟩, .string s] 9)) := (Below.refl _ w).alloc (Nat.le_refl _) _
  have hl : (allB [⟨#[0]⟩, s]).length ≤ 1048576 := by simp [allB, Sh.bl_len]; have : (⟨#[0]⟩ : ByteArray).size = 1 := rfl; omega
  have c := sumOf_any w.heap.size [⟨#[0]⟩, s] 2 hl (by simp) (w.alloc (.cells #[.string ⟨#[0]⟩, .string s] 9)) (ht.below hb ht.2.2) (by rw [World.size_alloc]; omega) (parts2 w _ _ _)
  have he : Shut (Sh.ba (Sh.shaN (allB [⟨#[0]⟩, s])) = leafB s) := ⟨by rw [leafB, Sh.sha, Sh.bl_append, allB]; simp⟩
  have HT : Shut _ := ⟨ht⟩
  clear ht hl
  go_enter Tryd.func14, Tryd.ntmps14
  go_wp2_with (go_at_call 37; refine c.mono ?_; rintro e w1 ⟨rfl, hB⟩)
  go_ret
  exact ⟨by rw [he.o]; rfl, hb.trans (hB.mono (by rw [World.size_alloc]; omega))⟩
set_option maxHeartbeats 400000 in
theorem node_any (s r : ByteArray) (hs : s.size ≤ 100000) (hr : r.size ≤ 100000) (w : World) (ht : Tab w) :
    Calls Tryd.prog 16 #[.string s, .string r] w fun e w' => e = .returned (.string (nodeB s r)) ∧ Below w.heap.size w w' := by
  have hb : Below w.heap.size w (w.alloc (.cells #[.string ⟨#[1]⟩, .string s, .string r] 9)) := (Below.refl _ w).alloc (Nat.le_refl _) _
  have hl : (allB [⟨#[1]⟩, s, r]).length ≤ 1048576 := by simp [allB, Sh.bl_len]; have : (⟨#[1]⟩ : ByteArray).size = 1 := rfl; omega
  have c := sumOf_any w.heap.size [⟨#[1]⟩, s, r] 3 hl (by simp) (w.alloc (.cells #[.string ⟨#[1]⟩, .string s, .string r] 9)) (ht.below hb ht.2.2) (by rw [World.size_alloc]; omega) (parts3 w _ _ _ _)
  have he : Shut (Sh.ba (Sh.shaN (allB [⟨#[1]⟩, s, r])) = nodeB s r) := ⟨by rw [nodeB, Sh.sha, Sh.bl_append, Sh.bl_append, allB]; simp⟩
  have HT : Shut _ := ⟨ht⟩
  clear ht hl
  go_enter Tryd.func16, Tryd.ntmps16
  go_wp2_with (go_at_call 37; refine c.mono ?_; rintro e w1 ⟨rfl, hB⟩)
  go_ret
  exact ⟨by rw [he.o]; rfl, hb.trans (hB.mono (by rw [World.size_alloc]; omega))⟩
set_option maxHeartbeats 400000 in
theorem chain_any (s r : ByteArray) (hs : s.size ≤ 100000) (hr : r.size ≤ 100000) (w : World) (ht : Tab w) :
    Calls Tryd.prog 18 #[.string s, .string r] w fun e w' => e = .returned (.string (chainB s r)) ∧ Below w.heap.size w w' := by
  have hb : Below w.heap.size w (w.alloc (.cells #[.string ⟨#[2]⟩, .string s, .string r] 9)) := (Below.refl _ w).alloc (Nat.le_refl _) _
  have hl : (allB [⟨#[2]⟩, s, r]).length ≤ 1048576 := by simp [allB, Sh.bl_len]; have : (⟨#[2]⟩ : ByteArray).size = 1 := rfl; omega
  have c := sumOf_any w.heap.size [⟨#[2]⟩, s, r] 3 hl (by simp) (w.alloc (.cells #[.string ⟨#[2]⟩, .string s, .string r] 9)) (ht.below hb ht.2.2) (by rw [World.size_alloc]; omega) (parts3 w _ _ _ _)
  have he : Shut (Sh.ba (Sh.shaN (allB [⟨#[2]⟩, s, r])) = chainB s r) := ⟨by rw [chainB, Sh.sha, Sh.bl_append, Sh.bl_append, allB]; simp⟩
  have HT : Shut _ := ⟨ht⟩
  clear ht hl
  go_enter Tryd.func18, Tryd.ntmps18
  go_wp2_with (go_at_call 37; refine c.mono ?_; rintro e w1 ⟨rfl, hB⟩)
  go_ret
  exact ⟨by rw [he.o]; rfl, hb.trans (hB.mono (by rw [World.size_alloc]; omega))⟩

theorem leaf_size (s : ByteArray) : (leafB s).size = 32 := Sh.sha_size _
theorem node_size (s r : ByteArray) : (nodeB s r).size = 32 := Sh.sha_size _
theorem chain_size (s r : ByteArray) : (chainB s r).size = 32 := Sh.sha_size _

/-- the strings of a slice -/
def SA (W : World) (b o : Nat) (ls : List ByteArray) : Prop := ∀ i (h : i < ls.length), W.cell? ⟨b, o + i, none⟩ = some (.string ls[i])
theorem SA.below {W W' : World} {b o : Nat} {ls : List ByteArray} (h : SA W b o ls) (hB : Below W.heap.size W W') : SA W' b o ls := fun i hi =>
  (hB.cell (p := ⟨b, o + i, none⟩) (World.block_lt_of_cell? W _ (h i hi))).trans (h i hi)
theorem SA.take {W : World} {b o : Nat} {ls : List ByteArray} (h : SA W b o ls) (k : Nat) : SA W b o (ls.take k) := fun i hi => by
  rw [List.getElem_take]; exact h i (by rw [List.length_take] at hi; omega)
theorem SA.drop {W : World} {b o : Nat} {ls : List ByteArray} (h : SA W b o ls) (k : Nat) : SA W b (o + k) (ls.drop k) := fun i hi => by
  rw [List.getElem_drop, Nat.add_assoc]; exact h (k + i) (by rw [List.length_drop] at hi; omega)
def Small (ls : List ByteArray) : Prop := ∀ s ∈ ls, s.size ≤ 1000
theorem Small.take {ls : List ByteArray} (h : Small ls) (k : Nat) : Small (ls.take k) := fun s hs => h s (List.mem_of_mem_take hs)
theorem Small.drop {ls : List ByteArray} (h : Small ls) (k : Nat) : Small (ls.drop k) := fun s hs => h s (List.mem_of_mem_drop hs)

set_option maxHeartbeats 400000 in
theorem halves_any (b o n cap : Nat) (h2 : 2 ≤ n) (hn : n ≤ cap) (hc : cap ≤ 9223372036854775807) (w : World) :
    Calls Tryd.prog 44 #[.slice (some ⟨b, o, none⟩) n cap] w fun e w' => e = .returned (.tuple #[.slice (some ⟨b, o, none⟩) (spl n) cap, .slice (some ⟨b, o + spl n, none⟩) (n - spl n) (cap - spl n)]) ∧ ∃ m, w' = w.drewN m := by
  have c := split_any n h2 (by omega)
  have h1 := spl_lt n h2
  generalize spl n = k at *
  go_enter Tryd.func44, Tryd.ntmps44
  go_wp2_with (go_at_call 52; refine (c _).mono ?_; rintro e w1 ⟨rfl, rfl⟩)
  go_region
  go_wp2
  go_ret2
  exact ⟨rfl, 1, rfl⟩

/-- the root of a list -/
def rootB (l : List ByteArray) : ByteArray :=
  if _h : l.length ≤ 1 then (match l with | [] => Sh.sha ⟨#[]⟩ | s :: _ => leafB s)
  else nodeB (rootB (l.take (spl l.length))) (rootB (l.drop (spl l.length)))
termination_by l.length
decreasing_by
  · have := spl_lt l.length (by omega); rw [List.length_take]; omega
  · have := spl_pos l.length; rw [List.length_drop]; omega
theorem root_one (s : ByteArray) : rootB [s] = leafB s := by rw [rootB]; simp
theorem root_nil : rootB [] = Sh.sha ⟨#[]⟩ := by rw [rootB]; simp
theorem root_many (l : List ByteArray) (h : 2 ≤ l.length) : rootB l = nodeB (rootB (l.take (spl l.length))) (rootB (l.drop (spl l.length))) := by
  rw [rootB, dif_neg (by omega)]
theorem root_size (l : List ByteArray) : (rootB l).size = 32 := by
  rw [rootB]
  split
  · split
    · exact Sh.sha_size _
    · exact leaf_size _
  · exact node_size _ _

set_option maxHeartbeats 1000000 in
theorem root_ind : ∀ (N : Nat) (ls : List ByteArray) (b o cap : Nat) (w : World), ls.length ≤ N → 1 ≤ ls.length → ls.length ≤ cap → cap ≤ 9223372036854775807 → Small ls → Tab w → SA w b o ls →
    Calls Tryd.prog 26 #[.slice (some ⟨b, o, none⟩) ls.length cap] w fun e w' => e = .returned (.string (rootB ls)) ∧ Below w.heap.size w w' := by
  intro N
  induction N with
  | zero => intro ls b o cap w h1 h2; omega
  | succ N ih =>
    intro ls b o cap w hN h1 hcap hc hS ht hA
    by_cases hl : ls.length = 1
    · obtain ⟨s, rfl⟩ : ∃ s, ls = [s] := List.length_eq_one_iff.1 hl
      have h0 : w.cell? ⟨b, o, none⟩ = some (.string s) := hA 0 (by simp)
      have hsz : s.size ≤ 100000 := by have := hS s (by simp); omega
      have c := leaf_any s hsz w ht
      have HR : Shut _ := ⟨root_one s⟩
      have HT : Shut _ := ⟨ht⟩
      clear ht hA hS ih
      go_enter Tryd.func26, Tryd.ntmps26
      go_wp2_with (go_at_call 14; refine c.mono ?_; rintro e w1 ⟨rfl, hB⟩)
      go_ret
      exact ⟨by rw [HR.o]; rfl, hB⟩
    · have h2 : 2 ≤ ls.length := by omega
      have hk := spl_lt ls.length h2
      have hk1 := spl_pos ls.length
      have hh := halves_any b o ls.length cap h2 hcap hc w
      have e1 : (ls.take (spl ls.length)).length = spl ls.length := by rw [List.length_take]; omega
      have e2 : (ls.drop (spl ls.length)).length = ls.length - spl ls.length := by rw [List.length_drop]
      have c1 : ∀ W, Below w.heap.size w W → Calls Tryd.prog 26 #[.slice (some ⟨b, o, none⟩) (spl ls.length) cap] W fun e w' => e = .returned (.string (rootB (ls.take (spl ls.length)))) ∧ Below W.heap.size W w' := fun W hW => by
        have := ih (ls.take (spl ls.length)) b o cap W (by omega) (by omega) (by omega) hc (hS.take _) (ht.below hW ht.2.2) ((hA.take _).below hW)
        rwa [e1] at this
      have c2 : ∀ W, Below w.heap.size w W → Calls Tryd.prog 26 #[.slice (some ⟨b, o + spl ls.length, none⟩) (ls.length - spl ls.length) (cap - spl ls.length)] W fun e w' => e = .returned (.string (rootB (ls.drop (spl ls.length)))) ∧ Below W.heap.size W w' := fun W hW => by
        have := ih (ls.drop (spl ls.length)) b (o + spl ls.length) (cap - spl ls.length) W (by omega) (by omega) (by omega) (by omega) (hS.drop _) (ht.below hW ht.2.2) ((hA.drop _).below hW)
        rwa [e2] at this
      have HR : Shut _ := ⟨root_many ls h2⟩
      have z1 := root_size (ls.take (spl ls.length))
      have z2 := root_size (ls.drop (spl ls.length))
      have HT : Shut _ := ⟨ht⟩
      have hge := ht.2.2
      clear ht hA hS ih e1 e2
      generalize rootB (ls.take (spl ls.length)) = r1 at *
      generalize rootB (ls.drop (spl ls.length)) = r2 at *
      generalize spl ls.length = k at *
      go_enter Tryd.func26, Tryd.ntmps26
      go_wp2_with (first | (go_at_call 44; refine hh.mono ?_; rintro e w1 ⟨rfl, m, rfl⟩) | (go_at_call_of 26 (Value.slice (some ⟨b, o, none⟩) k cap); refine (c1 _ (below_drewN (Below.refl _ w) _)).mono ?_; rintro e w1 ⟨rfl, hB1⟩; have hB1' : Below w.heap.size w w1 := (below_drewN (Below.refl _ w) _).trans hB1) | (go_at_call_of 26 (Value.slice (some ⟨b, o + k, none⟩) (ls.length - k) (cap - k)); refine (c2 _ hB1').mono ?_; rintro e w2 ⟨rfl, hB2⟩; have hB2' := hB1'.trans (hB2.mono hB1'.size)) | (go_at_call 16; refine (node_any r1 r2 (by omega) (by omega) _ (HT.o.below hB2' hge)).mono ?_; rintro e w3 ⟨rfl, hB3⟩))
      go_ret
      exact ⟨by rw [HR.o]; rfl, hB2'.trans (hB3.mono hB2'.size)⟩
theorem root_any (ls : List ByteArray) (b o cap : Nat) (w : World) (h1 : 1 ≤ ls.length) (hcap : ls.length ≤ cap) (hc : cap ≤ 9223372036854775807) (hS : Small ls) (ht : Tab w) (hA : SA w b o ls) :
    Calls Tryd.prog 26 #[.slice (some ⟨b, o, none⟩) ls.length cap] w fun e w' => e = .returned (.string (rootB ls)) ∧ Below w.heap.size w w' :=
  root_ind ls.length ls b o cap w (Nat.le_refl _) h1 hcap hc hS ht hA
set_option maxHeartbeats 400000 in
theorem root_none (p : Option Addr) (cap : Nat) (w : World) (ht : Tab w) :
    Calls Tryd.prog 26 #[.slice p 0 cap] w fun e w' => e = .returned (.string (rootB [])) ∧ Below w.heap.size w w' := by
  have c := sum_any ⟨#[]⟩ (by show 0 ≤ _; omega) w ht
  have HR : Shut _ := ⟨root_nil⟩
  have HT : Shut _ := ⟨ht⟩
  clear ht
  go_enter Tryd.func26, Tryd.ntmps26
  go_wp2_with (go_at_call 12; refine c.mono ?_; rintro e w1 ⟨rfl, hB⟩)
  go_ret
  exact ⟨by rw [HR.o]; rfl, hB⟩

/-- all of them are digests -/
def digs (ls : List ByteArray) : Bool := ls.all fun s => s.size == 32
theorem digs_take_succ (ls : List ByteArray) (k : Nat) (h : k < ls.length) : digs (ls.take (k + 1)) = (digs (ls.take k) && (ls[k].size == 32)) := by
  rw [digs, digs, List.take_succ_eq_append_getElem h, List.all_append]; simp
set_option maxHeartbeats 400000 in
theorem digs_any (ls : List ByteArray) (b o cap : Nat) (w : World) (hl : ls.length ≤ 1000000) (p : Option Addr) (hp : 1 ≤ ls.length → p = some ⟨b, o, none⟩) (hA : SA w b o ls) :
    Calls Tryd.prog 45 #[.slice p ls.length cap] w fun e w' => e = .returned (.bool (digs ls)) ∧ w = w' := by
  go_enter Tryd.func45, Tryd.ntmps45
  have HA : Shut _ := ⟨hA⟩
  have HP : Shut _ := ⟨hp⟩
  clear hA hp
  go_wp2
  go_loop [7] (fun i => ∃ k : Nat, k ≤ ls.length ∧ i = .int .i64 k ∧ Shut (digs (ls.take k) = true)) (fun i => ls.length - (intOf i).toNat)
  case atStart => exact ⟨0, Nat.zero_le _, rfl, ⟨rfl⟩⟩
  case round =>
    obtain ⟨k, hk, rfl, hd⟩ := hrel
    by_cases hlt : k < ls.length
    · have hc := HA.o k hlt
      obtain rfl := HP.o (by omega)
      have hs := digs_take_succ ls k hlt
      rw [hd.o, Bool.true_and] at hs
      by_cases h32 : ls[k].size = 32
      · have hs' : Shut (digs (ls.take (k + 1)) = true) := ⟨by rw [hs, h32]; rfl⟩
        clear hs
        generalize ls[k] = s at *
        have hz : s.size ≤ 1000 := by omega
        go_wp2
        go_round
        case rel => exact ⟨k + 1, by omega, by go_num, hs'⟩
        case measure => simp [intOf]; omega
      · have hf : Shut (digs ls = false) := ⟨by
          have e : digs ls = (digs (ls.take (k + 1)) && digs (ls.drop (k + 1))) := by rw [digs, digs, digs, ← List.all_append, List.take_append_drop]
          rw [e, hs]; simp [h32]⟩
        clear hs
        generalize ls[k] = s at *
        have hne : ¬ ((s.size : Int) = 32) := by omega
        go_wp2
        go_ret
        exact ⟨by rw [hf.o]; rfl, rfl⟩
    · have e : Shut (digs ls = true) := ⟨by have := hd.o; rwa [List.take_of_length_le (by omega)] at this⟩
      go_wp2
      go_ret
      exact ⟨by rw [e.o]; rfl, rfl⟩
end Go.Proofs.YtnceemdemjjhlaaDoor
