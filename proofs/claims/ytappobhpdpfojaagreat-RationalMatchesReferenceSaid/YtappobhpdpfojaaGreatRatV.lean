/-
  Contracts: the closure that into makes.
-/
import Derived.Test.YtappobhpdpfojaaGreatRatT
import Derived.Shelf.Abstract
namespace Go.Proofs.YtappobhpdpfojaaGreat
set_option maxRecDepth 1000000
namespace Rt
open Go.RowKit Nm
set_option maxHeartbeats 20000000 in
theorem clo_near (op : ByteArray → ByteArray → Option ByteArray) (k B : Nat) (res y : Addr) (s t : ByteArray) (W : World) (hk : Enters Tryz.prog k) (hop : OpC k op) (hI : IntoAt W B res (.func (.func k) #[] #[]) res y) (hy : Box W y t) (hr : Box W res s) (hs : s.size ≤ 1000000) (ht : t.size ≤ 1000000) (ny : y ≠ res) (n0 : res.block ≠ B) (n1 : res.block ≠ B + 1) (n2 : res.block ≠ B + 1 + 1) (n3 : res.block ≠ B + 1 + 1 + 1) :
    Calls Tryz.prog 94 #[.pointer (some ⟨B + 1, 0, none⟩), .pointer (some ⟨B + 1 + 1, 0, none⟩), .pointer (some ⟨B + 1 + 1 + 1, 0, none⟩), .pointer (some ⟨B, 0, none⟩)] W fun e W' => ∃ (v : ByteArray) (n : Int) (w1 : World), e = .returned (.int .i64 n) ∧ (∀ u, op s t = some u → v = u ∧ n = 0) ∧ (op s t = none → n ≠ 0) ∧ Below W.heap.size W w1 ∧ W' = w1.setCell res (.string v) := by
  have ho := hop s t
  have hen := fun a w => hk a w
  have cy := hy.cell
  have cr := hr.cell
  have fr := hr.free
  have b0 := hI.r.cell
  have b1 := hI.f.cell
  have b2 := hI.x.cell
  have b3 := hI.y.cell
  have q0 : ∀ (w' : World) (v : Value), (w'.setCell res v).cell? ⟨B, 0, none⟩ = w'.cell? ⟨B, 0, none⟩ := fun w' v => World.cell?_setCell_other w' res ⟨B, 0, none⟩ v (fun e => n0 (by rw [e]))
  have q1 : ∀ (w' : World) (v : Value), (w'.setCell res v).cell? ⟨B + 1, 0, none⟩ = w'.cell? ⟨B + 1, 0, none⟩ := fun w' v => World.cell?_setCell_other w' res ⟨B + 1, 0, none⟩ v (fun e => n1 (by rw [e]))
  have q2 : ∀ (w' : World) (v : Value), (w'.setCell res v).cell? ⟨B + 1 + 1, 0, none⟩ = w'.cell? ⟨B + 1 + 1, 0, none⟩ := fun w' v => World.cell?_setCell_other w' res ⟨B + 1 + 1, 0, none⟩ v (fun e => n2 (by rw [e]))
  have q3 : ∀ (w' : World) (v : Value), (w'.setCell res v).cell? ⟨B + 1 + 1 + 1, 0, none⟩ = w'.cell? ⟨B + 1 + 1 + 1, 0, none⟩ := fun w' v => World.cell?_setCell_other w' res ⟨B + 1 + 1 + 1, 0, none⟩ v (fun e => n3 (by rw [e]))
  have q5 : ∀ (w' : World) (v : Value), (w'.setCell res v).cell? y = w'.cell? y := fun w' v => World.cell?_setCell_other w' res y v (fun e => ny e.symm)
  go_enter Tryz.func94, Tryz.ntmps94
  go_wp2
  refine wp_region_held_drew (S := fun w' => w'.cell? ⟨B, 0, none⟩ = some (.pointer (some res)) ∧ w'.cell? ⟨B + 1, 0, none⟩ = some (.func (.func k) #[] #[]) ∧ w'.cell? ⟨B + 1 + 1, 0, none⟩ = some (.pointer (some res)) ∧ w'.cell? ⟨B + 1 + 1 + 1, 0, none⟩ = some (.pointer (some y)) ∧ w'.cell? y = some (.string t)) (by kernel_rfl) ?_ (fun hHeld => ?_)
  · go_keep
  refine wpAnyH_take (i := 0) (v := ?_) rfl (by kernel_rfl) (by kernel_rfl) (by kernel_rfl) (fun _ _ _ h => h) (Or.inl ⟨by rfl, ?_⟩) (by assumption) ?_
  rotate_left
  · intro w hSw
    try dsimp only at hSw
    go_simp
    first | done | with_reducible rfl
  refine wpAnyH_take (i := 1) (v := ?_) rfl (by kernel_rfl) (by kernel_rfl) (by kernel_rfl) (fun _ _ _ h => h) (Or.inl ⟨by rfl, ?_⟩) (by assumption) ?_
  rotate_left
  · intro w hSw
    try dsimp only at hSw
    go_simp
    first | done | with_reducible rfl
  refine wpAnyH_take (i := 2) (v := ?_) rfl (by kernel_rfl) (by kernel_rfl) (by kernel_rfl) (fun _ _ _ h => h) (Or.inl ⟨by rfl, ?_⟩) (by assumption) ?_
  rotate_left
  · intro w hSw
    try dsimp only at hSw
    go_simp
    first | done | with_reducible rfl
  refine wpAnyH_take (i := 3) (v := ?_) rfl (by kernel_rfl) (by kernel_rfl) (by kernel_rfl) (fun _ _ _ h => h) (Or.inl ⟨by rfl, ?_⟩) (by assumption) ?_
  rotate_left
  · intro w hSw
    try dsimp only at hSw
    go_simp
    first | done | with_reducible rfl
  refine wpAnyH_take (i := 5) (v := ?_) rfl (by kernel_rfl) (by kernel_rfl) (by kernel_rfl) (fun _ _ _ h => h) (Or.inl ⟨by rfl, ?_⟩) (by assumption) ?_
  rotate_left
  · intro w hSw
    try dsimp only at hSw
    go_simp
    first | done | with_reducible rfl
  refine wpAnyH_take (i := 6) (v := ?_) rfl (by kernel_rfl) (by kernel_rfl) (by kernel_rfl) (fun _ _ _ h => h) (Or.inl ⟨by rfl, ?_⟩) (by assumption) ?_
  rotate_left
  · intro w hSw
    try dsimp only at hSw
    go_simp
    first | done | with_reducible rfl
  refine wpAnyH_take (i := 7) (v := ?_) rfl (by kernel_rfl) (by kernel_rfl) (by kernel_rfl) (fun _ _ _ h => h) (Or.inl ⟨by rfl, ?_⟩) (by assumption) ?_
  rotate_left
  · intro w hSw
    try dsimp only at hSw
    go_simp
    first | done | with_reducible rfl
  refine wpAnyH_ready (rs := [4]) (by kernel_rfl) (by simp) ?_
  refine AllReadyH.cons rfl (fun K hK => ?_) AllReadyH.nil
  go_simp
  refine hK.out _ _ ?_ (fun hHeld => ?_)
  · go_keep
  clear hK K
  refine wpAnyH_ready (rs := [8]) (by kernel_rfl) (by simp) ?_
  refine AllReadyH.cons rfl (fun K hK => ?_) AllReadyH.nil
  go_simp
  refine (ho _ hs ht).mono ?_
  rintro e w1 ⟨v, n, rfl, h1, h2, hB⟩
  have k0 : w1.cell? ⟨B, 0, none⟩ = some (.pointer (some res)) := (hB.cell (p := ⟨B, 0, none⟩) hI.r.lt).trans b0
  have k1 : w1.cell? ⟨B + 1, 0, none⟩ = some (.func (.func k) #[] #[]) := (hB.cell (p := ⟨B + 1, 0, none⟩) hI.f.lt).trans b1
  have k2 : w1.cell? ⟨B + 1 + 1, 0, none⟩ = some (.pointer (some res)) := (hB.cell (p := ⟨B + 1 + 1, 0, none⟩) hI.x.lt).trans b2
  have k3 : w1.cell? ⟨B + 1 + 1 + 1, 0, none⟩ = some (.pointer (some y)) := (hB.cell (p := ⟨B + 1 + 1 + 1, 0, none⟩) hI.y.lt).trans b3
  have k5 : w1.cell? y = some (.string t) := (hB.cell (p := y) hy.lt).trans cy
  have k6 : w1.cell? res = some (.string s) := (hB.cell (p := res) hr.lt).trans cr
  have k8 : w1.frozen? res = false := (hB.frozen (p := res) hr.lt).trans fr
  go_wp2_with fail
  refine hK.out _ _ ?_ (fun hHeld => ?_)
  · go_keep
  clear hK K
  refine wpAnyH_take (i := 9) (v := ?_) rfl (by kernel_rfl) (by kernel_rfl) (by kernel_rfl) (fun _ _ _ h => h) (Or.inl ⟨by rfl, ?_⟩) (by assumption) ?_
  rotate_left
  · intro w hSw
    try dsimp only at hSw
    go_simp
    first | done | with_reducible rfl
  refine wpAnyH_take (i := 10) (v := ?_) rfl (by kernel_rfl) (by kernel_rfl) (by kernel_rfl) (fun _ _ _ h => h) (Or.inl ⟨by rfl, ?_⟩) (by assumption) ?_
  rotate_left
  · intro w hSw
    try dsimp only at hSw
    go_simp
    first | done | with_reducible rfl
  refine wpAnyH_take (i := 11) (v := ?_) rfl (by kernel_rfl) (by kernel_rfl) (by kernel_rfl) (fun _ _ _ h => h) (Or.inl ⟨by rfl, ?_⟩) (by assumption) ?_
  rotate_left
  · intro w hSw
    try dsimp only at hSw
    go_simp
    first | done | with_reducible rfl
  refine wpAnyH_take (i := 12) (v := ?_) rfl (by kernel_rfl) (by kernel_rfl) (by kernel_rfl) (fun _ _ _ h => h) (Or.inl ⟨by rfl, ?_⟩) (by assumption) ?_
  rotate_left
  · intro w hSw
    try dsimp only at hSw
    go_simp
    first | done | with_reducible rfl
  refine wpAnyH_ready (rs := [13]) (by kernel_rfl) (by simp) ?_
  refine AllReadyH.cons rfl (fun K hK => ?_) AllReadyH.nil
  go_simp
  refine hK.out _ _ ?_ (fun hHeld => ?_)
  · go_keep
  clear hK K
  refine wpAnyH_take (i := 14) (v := ?_) rfl (by kernel_rfl) (by kernel_rfl) (by kernel_rfl) (fun _ _ _ h => h) (Or.inl ⟨by rfl, ?_⟩) (by assumption) ?_
  rotate_left
  · intro w hSw
    try dsimp only at hSw
    go_simp
    first | done | with_reducible rfl
  refine wpAnyH_done (by kernel_rfl) ?_ _
  go_wp2
  go_ret
  exact ⟨v, n, w1, rfl, h1, h2, ((Below.refl W.heap.size W).drew).trans hB, rfl⟩
end Rt
end Go.Proofs.YtappobhpdpfojaaGreat
