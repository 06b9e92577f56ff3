/-
  Contracts: Make, Mul.
-/
import Derived.Test.YtappobhpdpfojaaGreatRatB
namespace Go.Proofs.YtappobhpdpfojaaGreat
set_option maxRecDepth 1000000
namespace Rt
open Go.RowKit Nm

def st2 (s t : ByteArray) : St := fun i => if i = 0 then s else if i = 1 then t else ⟨#[]⟩
theorem boxes2 (W : World) (s t : ByteArray) (T : TypeId) : Box (W.alloc (.cells #[.string s, .string t] T)) ⟨W.heap.size, 0, none⟩ s ∧ Box (W.alloc (.cells #[.string s, .string t] T)) ⟨W.heap.size, 1, none⟩ t := by
  have h : (W.alloc (.cells #[.string s, .string t] T)).heap[W.heap.size]? = some (.cells #[.string s, .string t] T (0, 0)) := World.alloc_heap_new W _
  generalize W.alloc (.cells #[.string s, .string t] T) = w at *
  exact ⟨⟨cell_of_row w _ 0 _ _ _ h, by simp [World.frozen?, h]⟩, ⟨cell_of_row w _ 1 _ _ _ h, by simp [World.frozen?, h]⟩⟩
theorem bR_form (o : Option (ByteArray × ByteArray)) : ∃ (n d : ByteArray) (c : Int), bR o = .tuple #[.agg #[.string n, .string d], .int .i64 c] := by
  cases o with
  | none => exact ⟨_, _, _, rfl⟩
  | some p => exact ⟨_, _, _, rfl⟩
theorem res_old (w : World) (r o : Obj) : ((w.alloc r).alloc o).heap[w.heap.size]? = some r := (Below.heap_alloc (w.alloc r) o w.heap.size (by simp)).trans (World.alloc_heap_new w r)
theorem res_in {w1 : World} (w : World) (T : TypeId) {a b : Value} (h : w1.heap[w.heap.size]? = some (.cells #[a, b] T (0, 0))) : w1.cell? ⟨w.heap.size, 0, none⟩ = some a ∧ w1.cell? ⟨w.heap.size, 1, none⟩ = some b ∧ w1.frozen? ⟨w.heap.size, 0, none⟩ = false ∧ w1.frozen? ⟨w.heap.size, 1, none⟩ = false :=
  ⟨cell_of_row w1 _ 0 _ _ _ h, cell_of_row w1 _ 1 _ _ _ h, by simp [World.frozen?, h], by simp [World.frozen?, h]⟩
set_option maxHeartbeats 1000000 in
theorem Make_all (s t : ByteArray) (hs : s.size ≤ 1000000) (ht : t.size ≤ 1000000) (w : World) :
    Calls Tryz.prog 26 #[.string s, .string t] w fun e w' => e = .returned (bR (redR s t)) ∧ Below w.heap.size w w' := by
  have hR : ∀ W : World, Ready W.heap.size W.heap.size [] (.slice none 0 0) [] (st2 s t) (W.alloc (.cells #[.string s, .string t] 23)) := fun W => by
    obtain ⟨b0, b1⟩ := boxes2 W s t 23
    refine ⟨by simp, World.ownsRow_nil _ _ _ _, by simp, ⟨fun i hi => ?_, fun i _ => ?_⟩, by simp, rfl, ?_, fun k hk => by simp [Value.ownBlock] at hk, fun d _ p hp => by cases hp⟩
    · match i, hi with
      | 0, _ => exact b0
      | 1, _ => exact b1
    · unfold st2
      split
      · exact hs
      · split
        · exact ht
        · decide
    · intro a ha
      have hh : (W.alloc (.cells #[.string s, .string t] 23)).heap[W.heap.size]? = some (.cells #[.string s, .string t] 23 (0, 0)) := World.alloc_heap_new W _
      simp only [List.mem_cons, List.not_mem_nil, or_false] at ha
      rcases ha with rfl | rfl <;> exact ⟨Nat.le_refl _, _, _, hh, by decide⟩
  have hC : ∀ (W : World) (b : Nat), b = W.heap.size → Calls Tryz.prog 59 #[.pointer (some ⟨b, 0, none⟩), .slice none 0 0] (W.alloc (.cells #[.string s, .string t] 23)) fun e w' => e = .returned (bR (redR s t)) ∧ Below W.heap.size (W.alloc (.cells #[.string s, .string t] 23)) w' := fun W b hb => by
    subst hb
    exact (build_any W.heap.size W.heap.size [] (.slice none 0 0) [] (st2 s t) _ (hR W)).mono fun e w' h => ⟨h.1, h.2.1⟩
  obtain ⟨n, d, c, ho⟩ := bR_form (redR s t)
  rw [ho] at hC ⊢
  clear hR ho
  go_enter Tryz.func26, Tryz.ntmps26
  go_wp2_with (go_at_call 59; refine (hC _ _ (by simp)).mono ?_; rintro e w1 ⟨rfl, hB⟩; obtain ⟨c0, c1, z0, z1⟩ := res_in w _ ((hB.block w.heap.size (by simp)).trans (res_old w _ _)))
  have k0 := cell_two w1 w.heap.size (.string n) (.string d) _ _ c0 c1
  have hB5 : Below w.heap.size w w1 := (((Below.refl w.heap.size w).alloc (Nat.le_refl _) _).alloc (by simp) _).trans (hB.mono (by simp))
  refine bodyPost_ret (v := .tuple #[.agg #[.string n, .string d], .int .i64 c]) (by simp [results, Tryz.results26, go_sem, k0.1, k0.2]) rfl ⟨rfl, (hB5.setCell (Nat.le_refl _) _).setCell (Nat.le_refl _) _⟩
theorem cell_box {w1 : World} {b : Nat} {T : TypeId} {x y : Value} (h : w1.heap[b]? = some (.cells #[x, y] T (0, 0))) : w1.cell? ⟨b, 0, none⟩ = some x ∧ w1.cell? ⟨b, 1, none⟩ = some y ∧ w1.frozen? ⟨b, 0, none⟩ = false ∧ w1.frozen? ⟨b, 1, none⟩ = false :=
  ⟨cell_of_row w1 _ 0 _ _ _ h, cell_of_row w1 _ 1 _ _ _ h, by simp [World.frozen?, h], by simp [World.frozen?, h]⟩
end Rt
end Go.Proofs.YtappobhpdpfojaaGreat
