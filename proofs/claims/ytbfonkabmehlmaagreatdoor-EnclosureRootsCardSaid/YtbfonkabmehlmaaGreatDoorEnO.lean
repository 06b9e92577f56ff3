/-
  Package enclosure: first.
-/
import Derived.Test.YtbfonkabmehlmaaGreatDoorEnN
namespace Go.Proofs.YtbfonkabmehlmaaGreatDoor
set_option maxRecDepth 1000000
namespace En
open Go.RowKit Go.Extern.Stop Go.Stop Go.Extern
abbrev P2 := ByteArray × ByteArray
/-- the one that stands first, of v and the first n of L -/
def pickN (A : P2 → P2 → Bool) (v : P2) (L : Nat → P2) : Nat → P2
  | 0 => v
  | n + 1 => if A (L n) (pickN A v L n) then L n else pickN A v L n
theorem pickN_in (A : P2 → P2 → Bool) (P : P2 → Prop) (v : P2) (L : Nat → P2) (hv : P v) : ∀ n, (∀ i, i < n → P (L i)) → P (pickN A v L n)
  | 0, _ => hv
  | n + 1, h => by
    rw [pickN]
    split
    · exact h n (by omega)
    · exact pickN_in A P v L hv n (fun i hi => h i (by omega))
theorem box2_setx {W : World} {b : Nat} {a0 a1 x y : Value} {T : TypeId} (h : W.heap[b]? = some (.cells #[a0, a1] T (0, 0))) : ((W.setCell ⟨b, 0, none⟩ x).setCell ⟨b, 1, none⟩ y).heap[b]? = some (.cells #[x, y] T (0, 0)) := by
  obtain ⟨hl, hg⟩ := Array.getElem?_eq_some_iff.1 h
  simp [World.setCell, hl, Array.getElem_modify, hg]
set_option maxHeartbeats 4000000 in
theorem first_any (k : Nat) (hk : Enters Tryz.prog k) (P : P2 → Prop) (A : P2 → P2 → Bool) (hA : ∀ p q, P p → P q → Ret k #[frc p.1 p.2, frc q.1 q.2] (.bool (A p q))) (L : Nat → P2) (v : P2) (hv : P v) (m bi off cap : Nat) (hm : m ≤ 1000) (hL : ∀ i, i < m → P (L i)) (w : World)
    (hcs : ∀ W, Below w.heap.size w W → ∀ j, j < m → W.cell? ⟨bi, off + j * 2, none⟩ = some (.string (L j).1) ∧ W.cell? ⟨bi, off + j * 2 + 1, none⟩ = some (.string (L j).2)) :
    Calls Tryz.prog 142 #[.func (.func k) #[] #[], frc v.1 v.2, .slice (some ⟨bi, off, none⟩) m cap] w fun e w' => e = .returned (frc (pickN A v L m).1 (pickN A v L m).2) ∧ Below w.heap.size w w' := by
  unfold frc at *
  obtain ⟨n_v, n_r⟩ := news2 w (.cells #[.string v.1, .string v.2] 23) (.cells #[.string ⟨#[]⟩, .string ⟨#[]⟩] 23)
  have u := below2 w (.cells #[.string v.1, .string v.2] 23) (.cells #[.string ⟨#[]⟩, .string ⟨#[]⟩] 23)
  have CC : Shut _ := ⟨hA⟩
  have HCS : Shut _ := ⟨hcs⟩
  clear hA hcs
  go_enter Tryz.func142, Tryz.ntmps142
  go_wp2_with fail
  generalize ((w.alloc (.cells #[.string v.1, .string v.2] 23)).alloc (.cells #[.string ⟨#[]⟩, .string ⟨#[]⟩] 23)) = W0 at *
  have NV : Shut _ := ⟨n_v⟩
  have NR : Shut _ := ⟨n_r⟩
  have U0 : Shut _ := ⟨u⟩
  clear n_v n_r u
  go_loopw [11] (fun jv wr => ∃ j : Nat, j ≤ m ∧ jv = .int .i64 (j : Int) ∧ Shut (wr.heap[w.heap.size]? = some (.cells #[.string (pickN A v L j).1, .string (pickN A v L j).2] 23 (0, 0)) ∧ wr.heap[w.heap.size + 1]? = some (.cells #[.string ⟨#[]⟩, .string ⟨#[]⟩] 23 (0, 0)) ∧ Below w.heap.size w wr)) (fun jv _ => m - (intOf jv).toNat)
  case atStart => exact ⟨0, Nat.zero_le _, rfl, ⟨NV.o, NR.o, U0.o⟩⟩
  case round =>
    obtain ⟨j, hj, rfl, H⟩ := hrel
    clear NV NR U0
    obtain ⟨n_v, n_r, u⟩ := H.o
    clear H
    have hen := fun a w => hk a w
    by_cases hjn : j = m
    · subst hjn
      have c0 := lcell n_v 0 (v := .string (pickN A v L j).1) rfl
      have c1 := lcell n_v 1 (v := .string (pickN A v L j).2) rfl
      have d0 := lcell n_r 0 (v := .string ⟨#[]⟩) rfl
      have d1 := lcell n_r 1 (v := .string ⟨#[]⟩) rfl
      have h0 := lfree n_r 0
      have h1 := lfree n_r 1
      have s_r := box2_setx (x := .string (pickN A v L j).1) (y := .string (pickN A v L j).2) n_r
      have z0 := lcell s_r 0 (v := .string (pickN A v L j).1) rfl
      have z1 := lcell s_r 1 (v := .string (pickN A v L j).2) rfl
      go_wp2_with fail
      exact bodyPost_ret (v := .agg #[.string (pickN A v L j).1, .string (pickN A v L j).2]) (by simp [results, Tryz.results142, go_sem, z0, z1]) rfl ⟨rfl, (u.setCell (show w.heap.size ≤ (⟨w.heap.size + 1, 0, none⟩ : Addr).block from Nat.le_succ _) _).setCell (show w.heap.size ≤ (⟨w.heap.size + 1, 1, none⟩ : Addr).block from Nat.le_succ _) _⟩
    · have hj2 : (j : Int) < (m : Int) := by omega
      have hj3 : (0 : Int) ≤ (j : Int) := by omega
      obtain ⟨y0, y1⟩ := HCS.o wr u j (by omega)
      have cK := CC.o (L j) (pickN A v L j) (hL j (by omega)) (pickN_in A P v L hv j (fun i hi => hL i (by omega)))
      have hp : pickN A v L (j + 1) = if A (L j) (pickN A v L j) then L j else pickN A v L j := rfl
      generalize pickN A v L j = pj at *
      generalize L j = lj at *
      have c0 := lcell n_v 0 (v := .string pj.1) rfl
      have c1 := lcell n_v 1 (v := .string pj.2) rfl
      have f0 := lfree n_v 0
      have f1 := lfree n_v 1
      have m_v : (wr.alloc (.cells #[.string lj.1, .string lj.2] 23)).heap[w.heap.size]? = _ := (Below.heap_alloc wr _ _ (Array.getElem?_eq_some_iff.1 n_v).1).trans n_v
      have m_r : (wr.alloc (.cells #[.string lj.1, .string lj.2] 23)).heap[w.heap.size + 1]? = _ := (Below.heap_alloc wr _ _ (Array.getElem?_eq_some_iff.1 n_r).1).trans n_r
      have m_o : (wr.alloc (.cells #[.string lj.1, .string lj.2] 23)).heap[wr.heap.size]? = _ := World.alloc_heap_new wr _
      have a0 := lcell m_v 0 (v := .string pj.1) rfl
      have a1 := lcell m_v 1 (v := .string pj.2) rfl
      go_wp2_with fail
      refine (cK _).mono ?_
      rintro e v1 ⟨rfl, g⟩
      have hq := u
      replace u := u.trans (((Below.refl wr.heap.size wr).alloc (Nat.le_refl _) (.cells #[.string lj.1, .string lj.2] 23)).trans (g.mono (by simp)) |>.mono u.size)
      replace n_v := lkeep m_v g
      replace n_r := lkeep m_r g
      replace m_o := lkeep m_o g
      clear g m_v m_r a0 a1 c0 c1 f0 f1 cK y0 y1
      have hw1 : IntKind.i64.wrap ((j : Int) + 1) = (j : Int) + 1 := by simp [IntKind.wrap, IntKind.signed, IntKind.bits]; omega
      have o0 := lcell m_o 0 (v := .string lj.1) rfl
      have o1 := lcell m_o 1 (v := .string lj.2) rfl
      have c0 := lcell n_v 0 (v := .string pj.1) rfl
      have c1 := lcell n_v 1 (v := .string pj.2) rfl
      have f0 := lfree n_v 0
      have f1 := lfree n_v 1
      cases hA : A lj pj with
      | true =>
        rw [hA, if_pos rfl] at hp
        go_wp2_with fail
        have s_v := box2_setx (x := .string lj.1) (y := .string lj.2) n_v
        have s_r : ((v1.setCell ⟨w.heap.size, 0, none⟩ (.string lj.1)).setCell ⟨w.heap.size, 1, none⟩ (.string lj.2)).heap[w.heap.size + 1]? = _ := (Below.heap_setCell _ _ _ _ (by simp)).trans ((Below.heap_setCell _ _ _ _ (by simp)).trans n_r)
        have us := (u.setCell (show w.heap.size ≤ (⟨w.heap.size, 0, none⟩ : Addr).block from Nat.le_refl _) (.string lj.1)).setCell (show w.heap.size ≤ (⟨w.heap.size, 1, none⟩ : Addr).block from Nat.le_refl _) (.string lj.2)
        go_roundw
        case rel => exact ⟨j + 1, by omega, by first | rfl | go_num | simp, ⟨by rw [hp]; exact s_v, s_r, us⟩⟩
        case measure => simp [intOf]; omega
      | false =>
        rw [hA, if_neg (by decide)] at hp
        go_wp2_with fail
        go_roundw
        case rel => exact ⟨j + 1, by omega, by first | rfl | go_num | simp, ⟨by rw [hp]; exact n_v, n_r, u⟩⟩
        case measure => simp [intOf]; omega
end En
end Go.Proofs.YtbfonkabmehlmaaGreatDoor
