/-
  Package enclosure: attempt, for a calculation that answers a fraction.
-/
import Derived.Test.YtbfonkabmehlmaaGreatDoorEnF
import Derived.Shelf.Abstract
import Derived.IntWalk
import Derived.LoopIn
import Derived.RowKit
namespace Go.Proofs.YtbfonkabmehlmaaGreatDoor
set_option maxRecDepth 1000000
namespace En
open Go.RowKit Go.Extern.Stop Go.Stop Go.Extern
/-- a fraction's two strings -/
abbrev frc (a b : ByteArray) : Value := .agg #[.string a, .string b]
abbrev frc0 : Value := frc ⟨#[]⟩ ⟨#[]⟩
theorem box2_set {W : World} {b : Nat} {a0 a1 x y : Value} {T : TypeId} (h : W.heap[b]? = some (.cells #[a0, a1] T (0, 0))) : ((W.setCell ⟨b, 0, none⟩ x).setCell ⟨b, 1, none⟩ y).heap[b]? = some (.cells #[x, y] T (0, 0)) := by
  obtain ⟨hl, hg⟩ := Array.getElem?_eq_some_iff.1 h
  simp [World.setCell, hl, Array.getElem_modify, hg]
set_option maxHeartbeats 4000000 in
theorem attemptR (k : Nat) (caps : Array Value) (hk : Enters Tryz.prog k) (a : Addr) (I : World → Prop) (hI : ∀ W W', I W → Below W.heap.size W W' → I W')
    (x y : ByteArray) (bad : Bool)
    (n bi cap : Nat) (G : Nat → ByteArray) (ok : Nat → Bool) (hn : n ≤ 9223372036854775807)
    (hC : (∀ j, j < n → ok j = true) → ∀ W, Ref a W → I W → Calls Tryz.prog k caps W fun e W' => e = (if bad then .panicked (refP a) else .returned (frc x y)) ∧ Below W.heap.size W W')
    (hV : ∀ j, j < n → ∀ W, Calls Tryz.prog 20 #[ivl (G (j * 4)) (G (j * 4 + 1)) (G (j * 4 + 2)) (G (j * 4 + 3))] W fun e W' => e = .returned (.bool (ok j)) ∧ Below W.heap.size W W')
    (w : World) (hR : Ref a w) (hIw : I w) (hcs : ∀ W, Below w.heap.size w W → ∀ j, j < n * 4 → W.cell? ⟨bi, j, none⟩ = some (.string (G j))) :
    Calls Tryz.prog 63 #[.func (.func k) #[] caps, .slice (some ⟨bi, 0, none⟩) n cap] w fun e w' => e = .returned (if (∀ j, j < n → ok j = true) ∧ bad = false then .tuple #[frc x y, .int .i64 0] else .tuple #[frc0, .int .i64 50]) ∧ Below w.heap.size w w' := by
  have hmf : ∀ (fn : Fn) (first cap : Array Value) (w : World), (Instr.makeFunc fn first cap).run Tryz.prog w = .ok (.func fn first cap) w := fun _ _ _ _ => rfl
  have CC : Shut _ := ⟨hC⟩
  have CV : Shut _ := ⟨hV⟩
  have HCS : Shut _ := ⟨hcs⟩
  have HR : Shut _ := ⟨hR⟩
  have HI : Shut _ := ⟨hI⟩
  have HW : Shut _ := ⟨hIw⟩
  clear hC hV hcs hR hI hIw
  go_enter_defers Tryz.func63, Tryz.ntmps63
  go_wp2_with fail
  have n_r : ((w.alloc (.cells #[.string ⟨#[]⟩, .string ⟨#[]⟩] 23)).alloc (.cells #[.int .i64 0] 30)).heap[w.heap.size]? = _ := (Below.heap_alloc (w.alloc (.cells #[.string ⟨#[]⟩, .string ⟨#[]⟩] 23)) _ w.heap.size (by simp)).trans (World.alloc_heap_new w _)
  have n_e := res_two w (.cells #[.string ⟨#[]⟩, .string ⟨#[]⟩] 23) (.cells #[.int .i64 0] 30)
  have u := ((Below.refl w.heap.size w).alloc (Nat.le_refl _) (.cells #[.string ⟨#[]⟩, .string ⟨#[]⟩] 23)).alloc (by simp) (.cells #[.int .i64 0] 30)
  generalize ((w.alloc (.cells #[.string ⟨#[]⟩, .string ⟨#[]⟩] 23)).alloc (.cells #[.int .i64 0] 30)) = W0 at *
  have NR : Shut _ := ⟨n_r⟩
  have NE : Shut _ := ⟨n_e⟩
  have U0 : Shut _ := ⟨u⟩
  clear n_r n_e u
  go_loopw [11] (fun jv wr => ∃ j : Nat, j ≤ n ∧ jv = .int .i64 (j : Int) ∧ Shut (wr.heap[w.heap.size]? = some (.cells #[.string ⟨#[]⟩, .string ⟨#[]⟩] 23 (0, 0)) ∧ wr.heap[w.heap.size + 1]? = some (.cells #[.int .i64 0] 30 (0, 0)) ∧ Below w.heap.size w wr) ∧ Shut (∀ i, i < j → ok i = true)) (fun jv _ => n - (intOf jv).toNat)
  case atStart => exact ⟨0, Nat.zero_le _, rfl, ⟨NR.o, NE.o, U0.o⟩, ⟨fun i h => by omega⟩⟩
  case round =>
    obtain ⟨j, hj, rfl, H, HO⟩ := hrel
    clear NR NE U0
    obtain ⟨n_r, n_e, u⟩ := H.o
    clear H
    have hen := fun a w => hk a w
    by_cases hjn : j = n
    · subst hjn
      have cC := CC.o (fun i hi => HO.o i hi) wr (HR.o.keep u) (HI.o _ _ HW.o u)
      cases bad with
      | true =>
        rw [if_pos rfl] at cC
        go_wp2_with fail
        refine cC.mono ?_
        rintro e v1 ⟨rfl, g⟩
        replace u := u.trans (g.mono u.size)
        replace n_r := lkeep n_r g
        replace n_e := lkeep n_e g
        clear g cC
        have c0 := lcell n_e 0 (v := .int .i64 0) rfl
        have f0 := lfree n_e 0
        dsimp +zetaDelta only [Exit.then, Exit.inBlock]
        refine leaves_cons (f := 116) (args := #[.pointer (some ⟨w.heap.size + 1, 0, none⟩)]) (by simp) (by simp [go_sem]) ?_
        refine (caughtR a ⟨w.heap.size + 1, 0, none⟩ (.int .i64 0) [] _ (HR.o.keep u) c0 f0).mono ?_
        rintro e u' w'' ⟨rfl, rfl, rfl⟩
        have r0 : (v1.setCell ⟨w.heap.size + 1, 0, none⟩ (.int .i64 50)).cell? ⟨w.heap.size, 0, none⟩ = some (.string ⟨#[]⟩) := (World.cell?_setCell_other v1 ⟨w.heap.size + 1, 0, none⟩ ⟨w.heap.size, 0, none⟩ _ (by simp)).trans (lcell n_r 0 rfl)
        have r1 : (v1.setCell ⟨w.heap.size + 1, 0, none⟩ (.int .i64 50)).cell? ⟨w.heap.size, 1, none⟩ = some (.string ⟨#[]⟩) := (World.cell?_setCell_other v1 ⟨w.heap.size + 1, 0, none⟩ ⟨w.heap.size, 1, none⟩ _ (by simp)).trans (lcell n_r 1 rfl)
        have r4 := World.cell?_setCell_same v1 ⟨w.heap.size + 1, 0, none⟩ (.int .i64 50) c0
        show ∃ v, (results _ _).run _ _ = .ok v _ ∧ (_ ∧ _)
        refine ⟨.tuple #[frc0, .int .i64 50], by simp [results, Tryz.results63, go_sem, r0, r1, r4], ?_, u.setCell (show w.heap.size ≤ (⟨w.heap.size + 1, 0, none⟩ : Addr).block from Nat.le_succ _) _⟩
        rw [if_neg (fun h => by cases h.2)]
      | false =>
        rw [if_neg (by decide)] at cC
        go_wp2_with fail
        refine cC.mono ?_
        rintro e v1 ⟨rfl, g⟩
        replace u := u.trans (g.mono u.size)
        replace n_r := lkeep n_r g
        replace n_e := lkeep n_e g
        clear g cC
        have c0 := lcell n_e 0 (v := .int .i64 0) rfl
        have f0 := lfree n_e 0
        have d0 := lcell n_r 0 (v := .string ⟨#[]⟩) rfl
        have d1 := lcell n_r 1 (v := .string ⟨#[]⟩) rfl
        have h0 := lfree n_r 0
        have h1 := lfree n_r 1
        dsimp only
        unfold frc
        go_wp
        have s_r := box2_set (x := .string x) (y := .string y) n_r
        have s_e : ((v1.setCell ⟨w.heap.size, 0, none⟩ (.string x)).setCell ⟨w.heap.size, 1, none⟩ (.string y)).heap[w.heap.size + 1]? = _ := (Below.heap_setCell _ _ _ _ (by simp)).trans ((Below.heap_setCell _ _ _ _ (by simp)).trans n_e)
        have m_e := box1_set (x := .int .i64 0) s_e
        have m_r : (((v1.setCell ⟨w.heap.size, 0, none⟩ (.string x)).setCell ⟨w.heap.size, 1, none⟩ (.string y)).setCell ⟨w.heap.size + 1, 0, none⟩ (.int .i64 0)).heap[w.heap.size]? = _ := (Below.heap_setCell _ _ _ _ (by simp)).trans s_r
        have hb : ∀ i, w.heap.size ≤ (⟨w.heap.size, i, none⟩ : Addr).block := fun _ => Nat.le_refl _
        replace u := ((u.setCell (hb 0) (.string x)).setCell (hb 1) (.string y)).setCell (show w.heap.size ≤ (⟨w.heap.size + 1, 0, none⟩ : Addr).block from Nat.le_succ _) (.int .i64 0)
        clear s_r s_e n_r n_e c0 f0 d0 d1 h0 h1
        generalize (((v1.setCell ⟨w.heap.size, 0, none⟩ (.string x)).setCell ⟨w.heap.size, 1, none⟩ (.string y)).setCell ⟨w.heap.size + 1, 0, none⟩ (.int .i64 0)) = W5 at *
        have c0 := lcell m_e 0 (v := .int .i64 0) rfl
        have f0 := lfree m_e 0
        refine leaves_cons (f := 116) (args := #[.pointer (some ⟨w.heap.size + 1, 0, none⟩)]) (by simp) (by simp [go_sem]) ?_
        refine (idleR ⟨w.heap.size + 1, 0, none⟩ (.int .i64 0) _ c0 f0).mono ?_
        rintro e u' w'' ⟨rfl, rfl, rfl⟩
        have r0 : (W5.setCell ⟨w.heap.size + 1, 0, none⟩ (.int .i64 0)).cell? ⟨w.heap.size, 0, none⟩ = some (.string x) := (World.cell?_setCell_other W5 ⟨w.heap.size + 1, 0, none⟩ ⟨w.heap.size, 0, none⟩ _ (by simp)).trans (lcell m_r 0 rfl)
        have r1 : (W5.setCell ⟨w.heap.size + 1, 0, none⟩ (.int .i64 0)).cell? ⟨w.heap.size, 1, none⟩ = some (.string y) := (World.cell?_setCell_other W5 ⟨w.heap.size + 1, 0, none⟩ ⟨w.heap.size, 1, none⟩ _ (by simp)).trans (lcell m_r 1 rfl)
        have r4 := World.cell?_setCell_same W5 ⟨w.heap.size + 1, 0, none⟩ (.int .i64 0) c0
        show ∃ v, (results _ _).run _ _ = .ok v _ ∧ (_ ∧ _)
        refine ⟨.tuple #[frc x y, .int .i64 0], by simp [results, Tryz.results63, go_sem, r0, r1, r4], ?_, u.setCell (show w.heap.size ≤ (⟨w.heap.size + 1, 0, none⟩ : Addr).block from Nat.le_succ _) _⟩
        rw [if_pos ⟨fun i hi => HO.o i hi, rfl⟩]
    · have hj2 : (j : Int) < (n : Int) := by omega
      have hj3 : (0 : Int) ≤ (j : Int) := by omega
      have hcs := HCS.o wr u
      have y0 := hcs (j * 4) (by omega)
      have y1 := hcs (j * 4 + 1) (by omega)
      have y2 := hcs (j * 4 + 2) (by omega)
      have y3 := hcs (j * 4 + 3) (by omega)
      have cV := CV.o j (by omega)
      clear hcs
      generalize G (j * 4) = g0 at *
      generalize G (j * 4 + 1) = g1 at *
      generalize G (j * 4 + 2) = g2 at *
      generalize G (j * 4 + 3) = g3 at *
      go_wp2_with fail
      refine (cV _).mono ?_
      rintro e v1 ⟨rfl, g⟩
      have q : Below wr.heap.size wr v1 := ((Below.refl wr.heap.size wr).alloc (Nat.le_refl _) (.cells #[.string g0, .string g1, .string g2, .string g3] 25)).trans (g.mono (by simp))
      replace u := u.trans (q.mono u.size)
      replace n_r := lkeep n_r q
      replace n_e := lkeep n_e q
      clear q g y0 y1 y2 y3 cV
      cases hok : ok j with
      | true =>
        have hr := refuse_no v1
        have hw1 : IntKind.i64.wrap ((j : Int) + 1) = (j : Int) + 1 := by simp [IntKind.wrap, IntKind.signed, IntKind.bits]; omega
        go_wp2_with fail
        refine hr.mono ?_
        rintro e w' ⟨rfl, rfl⟩
        clear hr
        go_wp2_with fail
        go_roundw
        case rel => exact ⟨j + 1, by omega, by first | rfl | go_num | simp, ⟨n_r, n_e, u⟩, ⟨fun i hi => by
          rcases Nat.lt_or_ge i j with h | h
          · exact HO.o i h
          · obtain rfl : i = j := by omega
            exact hok⟩⟩
        case measure => simp [intOf]; omega
      | false =>
        have hr := refuse_yes a v1 (HR.o.keep u)
        go_wp2_with fail
        refine hr.mono ?_
        rintro e w' ⟨rfl, rfl⟩
        have c0 := lcell n_e 0 (v := .int .i64 0) rfl
        have f0 := lfree n_e 0
        clear hr
        dsimp +zetaDelta only [Exit.then, Exit.inBlock]
        refine leaves_cons (f := 116) (args := #[.pointer (some ⟨w.heap.size + 1, 0, none⟩)]) (by simp) (by simp [go_sem]) ?_
        refine (caughtR a ⟨w.heap.size + 1, 0, none⟩ (.int .i64 0) [] _ (HR.o.keep u) c0 f0).mono ?_
        rintro e u' w'' ⟨rfl, rfl, rfl⟩
        have r0 : (w'.setCell ⟨w.heap.size + 1, 0, none⟩ (.int .i64 50)).cell? ⟨w.heap.size, 0, none⟩ = some (.string ⟨#[]⟩) := (World.cell?_setCell_other w' ⟨w.heap.size + 1, 0, none⟩ ⟨w.heap.size, 0, none⟩ _ (by simp)).trans (lcell n_r 0 rfl)
        have r1 : (w'.setCell ⟨w.heap.size + 1, 0, none⟩ (.int .i64 50)).cell? ⟨w.heap.size, 1, none⟩ = some (.string ⟨#[]⟩) := (World.cell?_setCell_other w' ⟨w.heap.size + 1, 0, none⟩ ⟨w.heap.size, 1, none⟩ _ (by simp)).trans (lcell n_r 1 rfl)
        have r4 := World.cell?_setCell_same w' ⟨w.heap.size + 1, 0, none⟩ (.int .i64 50) c0
        show ∃ v, (results _ _).run _ _ = .ok v _ ∧ (_ ∧ _)
        refine ⟨.tuple #[frc0, .int .i64 50], by simp [results, Tryz.results63, go_sem, r0, r1, r4], ?_, u.setCell (show w.heap.size ≤ (⟨w.heap.size + 1, 0, none⟩ : Addr).block from Nat.le_succ _) _⟩
        rw [if_neg (fun h => by rw [h.1 j (by omega)] at hok; cases hok)]
end En
end Go.Proofs.YtbfonkabmehlmaaGreatDoor
