/-
  Contracts: the reference's fraction of up to 100 digits.
-/
import Derived.Test.YtofcihnihpfljaaGreatRlB
namespace Go.Proofs.YtofcihnihpfljaaGreat
set_option maxRecDepth 1000000
namespace Rt
open Go.RowKit Go.Proofs.YtofcihnihpfljaaGreat.Nm
/-- the boxes of Long: its argument, its result, two strings -/
structure LgM (b : Nat) (w V : World) (x0 x1 x2 x3 : Int) (o : Nat → Value) : Prop where
  x : V.heap[b]? = some (.cells #[.int .i64 x0, .int .i64 x1, .int .i64 x2, .int .i64 x3] 24 (0, 0))
  r : V.heap[b + 1]? = some (.cells #[.string ⟨#[]⟩, .string ⟨#[]⟩] 23 (0, 0))
  o : Cs (b + 1 + 1) 2 V o
  e : b = w.heap.size
  u : Below w.heap.size w V
theorem LgM.keep {b : Nat} {w V V' : World} {x0 x1 x2 x3 : Int} {o : Nat → Value} (h : LgM b w V x0 x1 x2 x3 o) (hB : Below V.heap.size V V') : LgM b w V' x0 x1 x2 x3 o :=
  ⟨lkeep h.x hB, lkeep h.r hB, h.o.keep hB (by decide), h.e, h.u.trans (hB.mono h.u.size)⟩
theorem LgM.set {b : Nat} {w V : World} {x0 x1 x2 x3 : Int} {o : Nat → Value} (h : LgM b w V x0 x1 x2 x3 o) (i : Nat) (v : Value) (hi : i < 2) : LgM b w (V.setCell ⟨b + 1 + 1, i, none⟩ v) x0 x1 x2 x3 (updV o i v) :=
  ⟨(Below.heap_setCell _ _ _ _ (by show b ≠ b + 1 + 1; omega)).trans h.x, (Below.heap_setCell _ _ _ _ (by show b + 1 ≠ b + 1 + 1; omega)).trans h.r, h.o.set i v hi, h.e, h.u.setCell (by show _ ≤ b + 1 + 1; have := h.e; omega) _⟩
theorem lcell {W : World} {b : Nat} {cs : Array Value} {T : TypeId} (h : W.heap[b]? = some (.cells cs T (0, 0))) (i : Nat) {v : Value} (hv : cs[i]? = some v) : W.cell? ⟨b, i, none⟩ = some v := by simp [World.cell?, h, hv]
theorem lfree {W : World} {b : Nat} {cs : Array Value} {T : TypeId} (h : W.heap[b]? = some (.cells cs T (0, 0))) (i : Nat) : W.frozen? ⟨b, i, none⟩ = false := by simp [World.frozen?, h]
theorem up_one {o : Nat → Value} {s : ByteArray} {z : Nat} (h : s = txt (z : Int)) (hz : z < 10 ^ 100) : ∀ i, i < 1 → ∃ z : Nat, updV o 0 (.string s) i = .string (txt (z : Int)) ∧ z < 10 ^ 100 := fun i hi =>
  ⟨z, by rw [updV, if_pos (by omega), h], hz⟩
theorem up_two {o : Nat → Value} {s : ByteArray} {z : Nat} (h0 : ∀ i, i < 1 → ∃ z : Nat, o i = .string (txt (z : Int)) ∧ z < 10 ^ 100) (h : s = txt (z : Int)) (hz : z < 10 ^ 100) : ∀ i, i < 2 → ∃ z : Nat, updV o 1 (.string s) i = .string (txt (z : Int)) ∧ z < 10 ^ 100 := fun i hi => by
  by_cases hi1 : i = 1
  · exact ⟨z, by rw [updV, if_pos hi1, h], hz⟩
  · rw [updV, if_neg hi1]; exact h0 i (by omega)
theorem cell_past (w : World) (b : Nat) (u v x y : Value) (h0 : w.cell? ⟨b, 0, none⟩ = some x) (h1 : w.cell? ⟨b, 1, none⟩ = some y) (o : Obj) :
    (((w.setCell ⟨b, 0, none⟩ u).setCell ⟨b, 1, none⟩ v).alloc o).cell? ⟨b, 0, none⟩ = some u ∧ (((w.setCell ⟨b, 0, none⟩ u).setCell ⟨b, 1, none⟩ v).alloc o).cell? ⟨b, 1, none⟩ = some v := by
  have k := cell_two w b u v x y h0 h1
  have hB := (Below.refl ((w.setCell ⟨b, 0, none⟩ u).setCell ⟨b, 1, none⟩ v).heap.size ((w.setCell ⟨b, 0, none⟩ u).setCell ⟨b, 1, none⟩ v)).alloc (Nat.le_refl _) o
  have hl : b < ((w.setCell ⟨b, 0, none⟩ u).setCell ⟨b, 1, none⟩ v).heap.size := World.block_lt_of_cell? _ ⟨b, 0, none⟩ k.1
  exact ⟨(hB.cell (p := ⟨b, 0, none⟩) hl).trans k.1, (hB.cell (p := ⟨b, 1, none⟩) hl).trans k.2⟩
theorem i64_ok {z : Int} (h : -9000000000000000000 ≤ z) (h2 : z ≤ 9000000000000000000) : IntKind.i64.wrap z = z := by simp [IntKind.wrap, IntKind.signed, IntKind.bits]; omega
theorem lcg (c : Nat) : ((c : Int) * 48271 + 11) % 2147483647 = (((c * 48271 + 11) % 2147483647 : Nat) : Int) := by omega
theorem u8_ok {z : Int} (h : 0 ≤ z) (h2 : z < 256) : IntKind.u8.wrap z = z := by simp [IntKind.wrap, IntKind.signed, IntKind.bits]; omega

set_option maxHeartbeats 4000000 in
theorem Long_any (x0 x1 x2 x3 : Int) (h0 : -9223372036854775808 ≤ x0 ∧ x0 ≤ 9223372036854775807) (h1 : -9223372036854775808 ≤ x1 ∧ x1 ≤ 9223372036854775807) (h2 : -9223372036854775808 ≤ x2 ∧ x2 ≤ 9223372036854775807) (h3 : -9223372036854775808 ≤ x3 ∧ x3 ≤ 9223372036854775807) (w : World) :
    Calls Tryz.prog 12 #[.agg #[.int .i64 x0, .int .i64 x1, .int .i64 x2, .int .i64 x3]] w fun e w' => ∃ q : Rat, LongQ q ∧ e = .returned (rq q) ∧ Below w.heap.size w w' := by
  have P0 : Shut _ := ⟨fun W => pickR_any x0 1000000007 h0.1 h0.2 (by decide) (by decide) W⟩
  have P1 : Shut _ := ⟨fun W => pickR_any x1 100 h1.1 h1.2 (by decide) (by decide) W⟩
  have P2 : Shut _ := ⟨fun W => pickR_any x2 1000000007 h2.1 h2.2 (by decide) (by decide) W⟩
  have P3 : Shut _ := ⟨fun W => pickR_any x3 100 h3.1 h3.2 (by decide) (by decide) W⟩
  have P4 : Shut _ := ⟨fun W => pickR_any x0 2 h0.1 h0.2 (by decide) (by decide) W⟩
  clear h0 h1 h2 h3
  go_enter Tryz.func12, Tryz.ntmps12
  go_wp2_with fail
  have hM : LgM w.heap.size w (((w.alloc (.cells #[.int .i64 x0, .int .i64 x1, .int .i64 x2, .int .i64 x3] 24)).alloc (.cells #[.string ⟨#[]⟩, .string ⟨#[]⟩] 23)).alloc (.cells #[.string ⟨#[]⟩, .string ⟨#[]⟩] 63)) x0 x1 x2 x3 (fun _ => .string ⟨#[]⟩) := by
    have q1 := (Below.refl w.heap.size w).alloc (Nat.le_refl _) (.cells #[.int .i64 x0, .int .i64 x1, .int .i64 x2, .int .i64 x3] 24)
    have q2 := q1.alloc (by simp) (.cells #[.string ⟨#[]⟩, .string ⟨#[]⟩] 23)
    have q3 := q2.alloc (by simp; omega) (.cells #[.string ⟨#[]⟩, .string ⟨#[]⟩] 63)
    exact ⟨(Below.heap_alloc _ _ _ (by simp; omega)).trans ((Below.heap_alloc _ _ _ (by simp)).trans (World.alloc_heap_new _ _)), (Below.heap_alloc _ _ _ (by simp)).trans (res_two _ _ _), Cs.of (res_three w _ _ _) (fun i hi => match i, hi with | 0, _ => rfl | 1, _ => rfl), rfl, q3⟩
  generalize (((w.alloc (.cells #[.int .i64 x0, .int .i64 x1, .int .i64 x2, .int .i64 x3] 24)).alloc (.cells #[.string ⟨#[]⟩, .string ⟨#[]⟩] 23)).alloc (.cells #[.string ⟨#[]⟩, .string ⟨#[]⟩] 63)) = V0 at *
  obtain ⟨b, hb⟩ : ∃ b, b = w.heap.size := ⟨_, rfl⟩
  rw [← hb] at hM
  rw [← hb]
  clear hb
  have HM : Shut _ := ⟨hM⟩
  clear hM
  go_loopw [4] (fun iv wr => ∃ k : Nat, k ≤ 2 ∧ iv = .int .i64 (k : Int) ∧ ∃ o : Nat → Value, Shut (LgM b w wr x0 x1 x2 x3 o) ∧ Shut (∀ i, i < k → ∃ z : Nat, o i = .string (txt (z : Int)) ∧ z < 10 ^ 100)) (fun iv _ => 2 - (intOf iv).toNat)
  case atStart => exact ⟨0, by omega, rfl, _, HM, ⟨fun i hi => by omega⟩⟩
  case round =>
    obtain ⟨k, hk, rfl, o, hM, hO⟩ := hrel
    clear HM
    rcases (show k = 0 ∨ k = 1 ∨ k = 2 by omega) with rfl | rfl | rfl
    · have c1 := lcell hM.o.x 1 (v := .int .i64 x1) rfl
      go_wp2_with fail
      refine (P1.o _).mono ?_
      rintro e w1 ⟨i, hi, rfl, rfl⟩
      clear c1
      have c1 := lcell hM.o.x 0 (v := .int .i64 x0) rfl
      go_wp2_with fail
      refine (P0.o _).mono ?_
      rintro e w2 ⟨c0, hc0, rfl, rfl⟩
      rename World => v0
      clear c1
      go_wp2_with fail
      go_loopw [6, 7] (fun sv cv wr => ∃ (s : ByteArray) (c : Nat), sv = .string s ∧ cv = .int .i64 (c : Int) ∧ Shut (Dg s) ∧ (s.size : Int) ≤ 1 + (i : Int) ∧ (c : Int) < 2147483647 ∧ Shut (LgM b w wr x0 x1 x2 x3 o)) (fun sv _ _ => 1 + i - (match sv with | .string s => s.size | _ => 0))
      case atStart => exact ⟨_, c0, rfl, rfl, ⟨Dg.nil⟩, by show ((0 : Nat) : Int) ≤ _; omega, by omega, hM⟩
      case round =>
        clear hM hc0
        obtain ⟨s, c, rfl, rfl, hD, hs, hc, hM⟩ := hrel
        by_cases hlt : (s.size : Int) < 1 + (i : Int)
        · obtain ⟨c', hc'⟩ : ∃ c', c' = (c * 48271 + 11) % 2147483647 := ⟨_, rfl⟩
          obtain ⟨d, hd⟩ : ∃ d, d = c' / 65536 % 10 := ⟨_, rfl⟩
          have hd10 : d < 10 := by omega
          have hcl : (c' : Int) < 2147483647 := by omega
          have hcv := back_string (wr.alloc (.cells #[.int .u8 (48 + (d : Int))] 5)) wr.heap.size 0 1 [48 + d] (by simp; omega) (fun i hi => by have hi0 : i = 0 := (by simpa using hi); subst hi0; exact cell_one_new _ _ _ 0 _ rfl)
          rw [List.length_singleton] at hcv
          have HCV : Shut _ := ⟨hcv⟩
          have HC : Shut (((c : Int) * 48271 + 11) % 2147483647 = (c' : Int)) := ⟨by rw [hc']; exact lcg c⟩
          have HER : Shut (48 + ((c : Int) * 48271 + 11) % 2147483647 / 65536 % 10 = 48 + (d : Int)) := ⟨by rw [HC.o, hd]; omega⟩
          have hsn := hD.o.snoc hd10
          have HSZ : Shut _ := ⟨hsn.2⟩
          have h1s : (ba [48 + d]).size = 1 := ba_size _
          have HSn : Shut _ := ⟨hsn.1⟩
          have HM2 : Shut _ := ⟨hM.o.keep ((Below.refl wr.heap.size wr).alloc (Nat.le_refl _) (.cells #[.int .u8 (48 + (d : Int))] 5))⟩
          clear hcv hd hc' hsn hd10 hM hD
          generalize ba [48 + d] = bd at *
          go_wp2_with fail
          rw [HER.o, HCV.o]
          go_wp2_with fail
          go_roundw
          case rel => exact ⟨_, c', rfl, by rw [HC.o], HSn, by rw [HSZ.o]; omega, hcl, HM2⟩
          case measure => have := HSZ.o; simp; omega
        · have b1 : 1 ≤ s.size := by omega
          have b2 : s.size ≤ 100 := by omega
          clear hs hc
          rename World => wo
          have cc0 := hM.o.o.cell 0 (by decide)
          have ff0 := hM.o.o.free 0 (by decide)
          go_wp2_with fail
          go_loopw [6] (fun sv wr2 => ∃ s : ByteArray, sv = .string s ∧ Shut (Dg s) ∧ 1 ≤ s.size ∧ s.size ≤ 100 ∧ wr2 = wo) (fun sv _ => match sv with | .string s => s.size | _ => 0)
          case atStart => exact ⟨s, rfl, hD, b1, b2, rfl⟩
          case round =>
            clear hD b1 b2 hlt
            obtain ⟨s, rfl, hD, b1, b2, rfl⟩ := hrel
            by_cases hgo : 1 < s.size
            · by_cases h48 : (s[0]'(by omega)).toNat = 48
              · have hi1 : (1 : Int) ≤ (s.size : Int) := by omega
                have hT := hD.o.tail
                have HT : Shut _ := ⟨hT.1⟩
                have HZ : Shut _ := ⟨hT.2⟩
                obtain ⟨t1, ht1⟩ : ∃ t1, s.extract 1 s.size = t1 := ⟨_, rfl⟩
                rw [ht1] at HT HZ
                clear hT
                go_wp2_with fail
                go_roundw
                case rel => exact ⟨_, rfl, HT, by rw [HZ.o]; omega, by rw [HZ.o]; omega, trivial⟩
                case measure => have := HZ.o; simp; omega
              · have h48b : ((((s[0]'(by omega)).toNat : Nat) : Int) == 48) = false := by rw [beq_eq_false_iff_ne]; omega
                have hE := hD.o.ends b1 (.inr h48)
                clear h48
                go_wp2_with fail
                go_roundw
                case rel =>
                  obtain ⟨z, hz1, hz2⟩ := hE
                  exact ⟨1, by omega, rfl, _, ⟨hM.o.set 0 (.string s) (by decide)⟩, ⟨fun i hi => up_one hz1 (Nat.lt_of_lt_of_le hz2 (Nat.pow_le_pow_right (by decide) b2)) i hi⟩⟩
                case measure => simp [intOf]
            · have h1s : s.size = 1 := by omega
              have hE := hD.o.ends b1 (.inl h1s)
              clear h1s
              go_wp2_with fail
              go_roundw
              case rel =>
                obtain ⟨z, hz1, hz2⟩ := hE
                exact ⟨1, by omega, rfl, _, ⟨hM.o.set 0 (.string s) (by decide)⟩, ⟨fun i hi => up_one hz1 (Nat.lt_of_lt_of_le hz2 (Nat.pow_le_pow_right (by decide) b2)) i hi⟩⟩
              case measure => simp [intOf]
    · have c1 := lcell hM.o.x 3 (v := .int .i64 x3) rfl
      go_wp2_with fail
      refine (P3.o _).mono ?_
      rintro e w1 ⟨i, hi, rfl, rfl⟩
      clear c1
      have c1 := lcell hM.o.x 2 (v := .int .i64 x2) rfl
      go_wp2_with fail
      refine (P2.o _).mono ?_
      rintro e w2 ⟨c0, hc0, rfl, rfl⟩
      rename World => v0
      clear c1
      go_wp2_with fail
      go_loopw [6, 7] (fun sv cv wr => ∃ (s : ByteArray) (c : Nat), sv = .string s ∧ cv = .int .i64 (c : Int) ∧ Shut (Dg s) ∧ (s.size : Int) ≤ 1 + (i : Int) ∧ (c : Int) < 2147483647 ∧ Shut (LgM b w wr x0 x1 x2 x3 o)) (fun sv _ _ => 1 + i - (match sv with | .string s => s.size | _ => 0))
      case atStart => exact ⟨_, c0, rfl, rfl, ⟨Dg.nil⟩, by show ((0 : Nat) : Int) ≤ _; omega, by omega, hM⟩
      case round =>
        clear hM hc0
        obtain ⟨s, c, rfl, rfl, hD, hs, hc, hM⟩ := hrel
        by_cases hlt : (s.size : Int) < 1 + (i : Int)
        · obtain ⟨c', hc'⟩ : ∃ c', c' = (c * 48271 + 11) % 2147483647 := ⟨_, rfl⟩
          obtain ⟨d, hd⟩ : ∃ d, d = c' / 65536 % 10 := ⟨_, rfl⟩
          have hd10 : d < 10 := by omega
          have hcl : (c' : Int) < 2147483647 := by omega
          have hcv := back_string (wr.alloc (.cells #[.int .u8 (48 + (d : Int))] 5)) wr.heap.size 0 1 [48 + d] (by simp; omega) (fun i hi => by have hi0 : i = 0 := (by simpa using hi); subst hi0; exact cell_one_new _ _ _ 0 _ rfl)
          rw [List.length_singleton] at hcv
          have HCV : Shut _ := ⟨hcv⟩
          have HC : Shut (((c : Int) * 48271 + 11) % 2147483647 = (c' : Int)) := ⟨by rw [hc']; exact lcg c⟩
          have HER : Shut (48 + ((c : Int) * 48271 + 11) % 2147483647 / 65536 % 10 = 48 + (d : Int)) := ⟨by rw [HC.o, hd]; omega⟩
          have hsn := hD.o.snoc hd10
          have HSZ : Shut _ := ⟨hsn.2⟩
          have h1s : (ba [48 + d]).size = 1 := ba_size _
          have HSn : Shut _ := ⟨hsn.1⟩
          have HM2 : Shut _ := ⟨hM.o.keep ((Below.refl wr.heap.size wr).alloc (Nat.le_refl _) (.cells #[.int .u8 (48 + (d : Int))] 5))⟩
          clear hcv hd hc' hsn hd10 hM hD
          generalize ba [48 + d] = bd at *
          go_wp2_with fail
          rw [HER.o, HCV.o]
          go_wp2_with fail
          go_roundw
          case rel => exact ⟨_, c', rfl, by rw [HC.o], HSn, by rw [HSZ.o]; omega, hcl, HM2⟩
          case measure => have := HSZ.o; simp; omega
        · have b1 : 1 ≤ s.size := by omega
          have b2 : s.size ≤ 100 := by omega
          clear hs hc
          rename World => wo
          have cc0 := hM.o.o.cell 1 (by decide)
          have ff0 := hM.o.o.free 1 (by decide)
          go_wp2_with fail
          go_loopw [6] (fun sv wr2 => ∃ s : ByteArray, sv = .string s ∧ Shut (Dg s) ∧ 1 ≤ s.size ∧ s.size ≤ 100 ∧ wr2 = wo) (fun sv _ => match sv with | .string s => s.size | _ => 0)
          case atStart => exact ⟨s, rfl, hD, b1, b2, rfl⟩
          case round =>
            clear hD b1 b2 hlt
            obtain ⟨s, rfl, hD, b1, b2, rfl⟩ := hrel
            by_cases hgo : 1 < s.size
            · by_cases h48 : (s[0]'(by omega)).toNat = 48
              · have hi1 : (1 : Int) ≤ (s.size : Int) := by omega
                have hT := hD.o.tail
                have HT : Shut _ := ⟨hT.1⟩
                have HZ : Shut _ := ⟨hT.2⟩
                obtain ⟨t1, ht1⟩ : ∃ t1, s.extract 1 s.size = t1 := ⟨_, rfl⟩
                rw [ht1] at HT HZ
                clear hT
                go_wp2_with fail
                go_roundw
                case rel => exact ⟨_, rfl, HT, by rw [HZ.o]; omega, by rw [HZ.o]; omega, trivial⟩
                case measure => have := HZ.o; simp; omega
              · have h48b : ((((s[0]'(by omega)).toNat : Nat) : Int) == 48) = false := by rw [beq_eq_false_iff_ne]; omega
                have hE := hD.o.ends b1 (.inr h48)
                clear h48
                go_wp2_with fail
                go_roundw
                case rel =>
                  obtain ⟨z, hz1, hz2⟩ := hE
                  exact ⟨2, by omega, rfl, _, ⟨hM.o.set 1 (.string s) (by decide)⟩, ⟨fun i hi => up_two hO.o hz1 (Nat.lt_of_lt_of_le hz2 (Nat.pow_le_pow_right (by decide) b2)) i hi⟩⟩
                case measure => simp [intOf]
            · have h1s : s.size = 1 := by omega
              have hE := hD.o.ends b1 (.inl h1s)
              clear h1s
              go_wp2_with fail
              go_roundw
              case rel =>
                obtain ⟨z, hz1, hz2⟩ := hE
                exact ⟨2, by omega, rfl, _, ⟨hM.o.set 1 (.string s) (by decide)⟩, ⟨fun i hi => up_two hO.o hz1 (Nat.lt_of_lt_of_le hz2 (Nat.pow_le_pow_right (by decide) b2)) i hi⟩⟩
              case measure => simp [intOf]
    · obtain ⟨z0, ho0, hz0⟩ := hO.o 0 (by decide)
      obtain ⟨z1, ho1, hz1⟩ := hO.o 1 (by decide)
      have cc0 := hM.o.o.cell 0 (by decide)
      have cc1 := hM.o.o.cell 1 (by decide)
      have ff0 := hM.o.o.free 0 (by decide)
      have ff1 := hM.o.o.free 1 (by decide)
      have cx0 := lcell hM.o.x 0 (v := .int .i64 x0) rfl
      rw [ho0] at cc0
      rw [ho1] at cc1
      clear hO
      by_cases hz : z1 = 0
      · have hq1 : ((txt (z1 : Int)).toList == [48]) = true := by rw [txt_eq0]; simpa using hz
        have hM2 := hM.o.set 1 (.string ⟨#[55]⟩) (by decide)
        clear hz hz1 ho1
        generalize txt (z1 : Int) = sz at *
        go_wp2_with fail
        clear cc0 cc1 ff0 ff1 cx0 hM hq1
        obtain ⟨Z1, hZ⟩ : ∃ Z1 : Nat, Z1 = 7 := ⟨_, rfl⟩
        have hZ1 : Z1 < 10 ^ 100 := by rw [hZ]; decide
        have hZ0 : Z1 ≠ 0 := by omega
        have hZt : (⟨#[55]⟩ : ByteArray) = txt (Z1 : Int) := by rw [hZ]; decide +kernel
        have cc0 := hM2.o.cell 0 (by decide)
        have cc1 := hM2.o.cell 1 (by decide)
        have ff0 := hM2.o.free 0 (by decide)
        have cx0 := lcell hM2.x 0 (v := .int .i64 x0) rfl
        have hM : Shut _ := ⟨hM2⟩
        rw [updV, if_neg (by decide), ho0] at cc0
        rw [updV, if_pos rfl] at cc1
        generalize wr.setCell ⟨b + 1 + 1, 1, none⟩ (.string ⟨#[55]⟩) = wr2 at *
        rw [hZt] at cc1
        clear hM2 hZ hZt ho0
        refine (P4.o _).mono ?_
        rintro e w4 ⟨j, hj, rfl, rfl⟩
        by_cases hj0 : j = 0
        · subst hj0
          clear hj
          by_cases hz : z0 = 0
          · have hq0 : ((txt (z0 : Int)).toList == [48]) = true := by rw [txt_eq0]; simpa using hz
            have hL : LongQ (Rat.divInt (z0 : Int) Z1) := longQ_div (by omega) hZ1 hZ0
            have fA : Fits (z0 : Int) := fits_small (Nat.lt_trans (show ((z0 : Int) : Int).natAbs < 10 ^ 100 by omega) (by decide))
            have hMk : ∀ W : World, Calls Tryz.prog 27 #[.string (txt (z0 : Int)), .string (txt (Z1 : Int))] W fun e w' => e = .returned (.tuple #[.agg #[.string (txt (Rat.divInt (z0 : Int) Z1).num), .string (txt ((Rat.divInt (z0 : Int) Z1).den : Int))], .int .i64 0]) ∧ Below W.heap.size W w' := fun W => by
              have := MakeR_all (txt (z0 : Int)) (txt (Z1 : Int)) (txt_size6 fA) (txt_size6 (small_fits hZ1)) W
              rw [red_q fA (small_fits hZ1) (by omega)] at this
              exact this
            have HQ : Shut (∀ n d : ByteArray, n = txt (Rat.divInt (z0 : Int) Z1).num → d = txt ((Rat.divInt (z0 : Int) Z1).den : Int) → Value.agg #[.string n, .string d] = rq (Rat.divInt (z0 : Int) Z1)) := ⟨fun n d h1 h2 => by rw [h1, h2]; rfl⟩
            obtain ⟨nn, hnn⟩ : ∃ nn, nn = txt (Rat.divInt (z0 : Int) Z1).num := ⟨_, rfl⟩
            obtain ⟨dd, hdd⟩ : ∃ dd, dd = txt ((Rat.divInt (z0 : Int) Z1).den : Int) := ⟨_, rfl⟩
            rw [← hnn, ← hdd] at hMk
            have HN : Shut _ := ⟨hnn⟩
            have HD : Shut _ := ⟨hdd⟩
            have HL : Shut _ := ⟨hL⟩
            clear hnn hdd hL fA
            clear hz hz0 hZ0 hZ1
            generalize txt (z0 : Int) = s0 at *
            generalize txt (Z1 : Int) = s1 at *
            have HM4 : Shut _ := ⟨hM.o⟩
            go_wp2_with fail
            refine (hMk _).mono ?_
            rintro e w5 ⟨rfl, hB5⟩
            have hM5 := HM4.o.keep hB5
            have hlt := lt_of_block hM5.r
            have r0 := lcell hM5.r 0 (v := .string ⟨#[]⟩) rfl
            have r1 := lcell hM5.r 1 (v := .string ⟨#[]⟩) rfl
            have g0 := lfree hM5.r 0
            have g1 := lfree hM5.r 1
            have hbw : w.heap.size ≤ b + 1 := by have := hM5.e; omega
            have HU : Shut _ := ⟨((hM5.u.setCell (p := ⟨b + 1, 0, none⟩) hbw (.string nn)).setCell (p := ⟨b + 1, 1, none⟩) hbw (.string dd)).alloc (Nat.le_trans hM5.u.size (by simp)) (.cells #[.string nn, .string dd] 23)⟩
            have k0 := cell_past w5 (b + 1) (.string nn) (.string dd) _ _ r0 r1 (.cells #[.string nn, .string dd] 23)
            clear hM5 hMk
            go_wp2_with fail
            refine bodyPost_ret (v := .agg #[.string nn, .string dd]) (by simp [results, Tryz.results12, go_sem, k0.1, k0.2]) rfl ⟨_, HL.o, by rw [HQ.o nn dd HN.o HD.o], HU.o⟩
          · have hq0 : ((txt (z0 : Int)).toList == [48]) = false := by rw [txt_eq0]; simpa using hz
            have HT0 : Shut _ := ⟨txt_minus hz⟩
            have h0s := txt_size (z := (z0 : Int)) (small_fits hz0)
            have hL : LongQ (Rat.divInt (-(z0 : Int)) Z1) := longQ_div (by omega) hZ1 hZ0
            have fA : Fits (-(z0 : Int)) := fits_small (Nat.lt_trans (show ((-(z0 : Int)) : Int).natAbs < 10 ^ 100 by omega) (by decide))
            have hMk : ∀ W : World, Calls Tryz.prog 27 #[.string (txt (-(z0 : Int))), .string (txt (Z1 : Int))] W fun e w' => e = .returned (.tuple #[.agg #[.string (txt (Rat.divInt (-(z0 : Int)) Z1).num), .string (txt ((Rat.divInt (-(z0 : Int)) Z1).den : Int))], .int .i64 0]) ∧ Below W.heap.size W w' := fun W => by
              have := MakeR_all (txt (-(z0 : Int))) (txt (Z1 : Int)) (txt_size6 fA) (txt_size6 (small_fits hZ1)) W
              rw [red_q fA (small_fits hZ1) (by omega)] at this
              exact this
            have HQ : Shut (∀ n d : ByteArray, n = txt (Rat.divInt (-(z0 : Int)) Z1).num → d = txt ((Rat.divInt (-(z0 : Int)) Z1).den : Int) → Value.agg #[.string n, .string d] = rq (Rat.divInt (-(z0 : Int)) Z1)) := ⟨fun n d h1 h2 => by rw [h1, h2]; rfl⟩
            obtain ⟨nn, hnn⟩ : ∃ nn, nn = txt (Rat.divInt (-(z0 : Int)) Z1).num := ⟨_, rfl⟩
            obtain ⟨dd, hdd⟩ : ∃ dd, dd = txt ((Rat.divInt (-(z0 : Int)) Z1).den : Int) := ⟨_, rfl⟩
            rw [← hnn, ← hdd] at hMk
            have HN : Shut _ := ⟨hnn⟩
            have HD : Shut _ := ⟨hdd⟩
            have HL : Shut _ := ⟨hL⟩
            clear hnn hdd hL fA
            rw [← HT0.o] at hMk
            have h1s : (⟨#[45]⟩ : ByteArray).size = 1 := rfl
            clear hz hz0 hZ0 hZ1
            generalize txt (z0 : Int) = s0 at *
            generalize txt (Z1 : Int) = s1 at *
            have HM4 : Shut _ := ⟨hM.o.set 0 (.string (⟨#[45]⟩ ++ s0)) (by decide)⟩
            go_wp2_with fail
            refine (hMk _).mono ?_
            rintro e w5 ⟨rfl, hB5⟩
            have hM5 := HM4.o.keep hB5
            have hlt := lt_of_block hM5.r
            have r0 := lcell hM5.r 0 (v := .string ⟨#[]⟩) rfl
            have r1 := lcell hM5.r 1 (v := .string ⟨#[]⟩) rfl
            have g0 := lfree hM5.r 0
            have g1 := lfree hM5.r 1
            have hbw : w.heap.size ≤ b + 1 := by have := hM5.e; omega
            have HU : Shut _ := ⟨((hM5.u.setCell (p := ⟨b + 1, 0, none⟩) hbw (.string nn)).setCell (p := ⟨b + 1, 1, none⟩) hbw (.string dd)).alloc (Nat.le_trans hM5.u.size (by simp)) (.cells #[.string nn, .string dd] 23)⟩
            have k0 := cell_past w5 (b + 1) (.string nn) (.string dd) _ _ r0 r1 (.cells #[.string nn, .string dd] 23)
            clear hM5 hMk
            go_wp2_with fail
            refine bodyPost_ret (v := .agg #[.string nn, .string dd]) (by simp [results, Tryz.results12, go_sem, k0.1, k0.2]) rfl ⟨_, HL.o, by rw [HQ.o nn dd HN.o HD.o], HU.o⟩
        · have hj1 : j = 1 := by omega
          subst hj1
          clear hj hj0
          have hL : LongQ (Rat.divInt (z0 : Int) Z1) := longQ_div (by omega) hZ1 hZ0
          have fA : Fits (z0 : Int) := fits_small (Nat.lt_trans (show ((z0 : Int) : Int).natAbs < 10 ^ 100 by omega) (by decide))
          have hMk : ∀ W : World, Calls Tryz.prog 27 #[.string (txt (z0 : Int)), .string (txt (Z1 : Int))] W fun e w' => e = .returned (.tuple #[.agg #[.string (txt (Rat.divInt (z0 : Int) Z1).num), .string (txt ((Rat.divInt (z0 : Int) Z1).den : Int))], .int .i64 0]) ∧ Below W.heap.size W w' := fun W => by
            have := MakeR_all (txt (z0 : Int)) (txt (Z1 : Int)) (txt_size6 fA) (txt_size6 (small_fits hZ1)) W
            rw [red_q fA (small_fits hZ1) (by omega)] at this
            exact this
          have HQ : Shut (∀ n d : ByteArray, n = txt (Rat.divInt (z0 : Int) Z1).num → d = txt ((Rat.divInt (z0 : Int) Z1).den : Int) → Value.agg #[.string n, .string d] = rq (Rat.divInt (z0 : Int) Z1)) := ⟨fun n d h1 h2 => by rw [h1, h2]; rfl⟩
          obtain ⟨nn, hnn⟩ : ∃ nn, nn = txt (Rat.divInt (z0 : Int) Z1).num := ⟨_, rfl⟩
          obtain ⟨dd, hdd⟩ : ∃ dd, dd = txt ((Rat.divInt (z0 : Int) Z1).den : Int) := ⟨_, rfl⟩
          rw [← hnn, ← hdd] at hMk
          have HN : Shut _ := ⟨hnn⟩
          have HD : Shut _ := ⟨hdd⟩
          have HL : Shut _ := ⟨hL⟩
          clear hnn hdd hL fA
          clear hz0 hZ0 hZ1
          generalize txt (z0 : Int) = s0 at *
          generalize txt (Z1 : Int) = s1 at *
          have HM4 : Shut _ := ⟨hM.o⟩
          go_wp2_with fail
          refine (hMk _).mono ?_
          rintro e w5 ⟨rfl, hB5⟩
          have hM5 := HM4.o.keep hB5
          have hlt := lt_of_block hM5.r
          have r0 := lcell hM5.r 0 (v := .string ⟨#[]⟩) rfl
          have r1 := lcell hM5.r 1 (v := .string ⟨#[]⟩) rfl
          have g0 := lfree hM5.r 0
          have g1 := lfree hM5.r 1
          have hbw : w.heap.size ≤ b + 1 := by have := hM5.e; omega
          have HU : Shut _ := ⟨((hM5.u.setCell (p := ⟨b + 1, 0, none⟩) hbw (.string nn)).setCell (p := ⟨b + 1, 1, none⟩) hbw (.string dd)).alloc (Nat.le_trans hM5.u.size (by simp)) (.cells #[.string nn, .string dd] 23)⟩
          have k0 := cell_past w5 (b + 1) (.string nn) (.string dd) _ _ r0 r1 (.cells #[.string nn, .string dd] 23)
          clear hM5 hMk
          go_wp2_with fail
          refine bodyPost_ret (v := .agg #[.string nn, .string dd]) (by simp [results, Tryz.results12, go_sem, k0.1, k0.2]) rfl ⟨_, HL.o, by rw [HQ.o nn dd HN.o HD.o], HU.o⟩
      · have hq1 : ((txt (z1 : Int)).toList == [48]) = false := by rw [txt_eq0]; simpa using hz
        obtain ⟨Z1, rfl⟩ : ∃ Z1 : Nat, Z1 = z1 := ⟨_, rfl⟩
        have hZ1 := hz1
        have hZ0 := hz
        clear hz hz1 ho0 ho1
        go_wp2_with fail
        refine (P4.o _).mono ?_
        rintro e w4 ⟨j, hj, rfl, rfl⟩
        by_cases hj0 : j = 0
        · subst hj0
          clear hj
          by_cases hz : z0 = 0
          · have hq0 : ((txt (z0 : Int)).toList == [48]) = true := by rw [txt_eq0]; simpa using hz
            have hL : LongQ (Rat.divInt (z0 : Int) Z1) := longQ_div (by omega) hZ1 hZ0
            have fA : Fits (z0 : Int) := fits_small (Nat.lt_trans (show ((z0 : Int) : Int).natAbs < 10 ^ 100 by omega) (by decide))
            have hMk : ∀ W : World, Calls Tryz.prog 27 #[.string (txt (z0 : Int)), .string (txt (Z1 : Int))] W fun e w' => e = .returned (.tuple #[.agg #[.string (txt (Rat.divInt (z0 : Int) Z1).num), .string (txt ((Rat.divInt (z0 : Int) Z1).den : Int))], .int .i64 0]) ∧ Below W.heap.size W w' := fun W => by
              have := MakeR_all (txt (z0 : Int)) (txt (Z1 : Int)) (txt_size6 fA) (txt_size6 (small_fits hZ1)) W
              rw [red_q fA (small_fits hZ1) (by omega)] at this
              exact this
            have HQ : Shut (∀ n d : ByteArray, n = txt (Rat.divInt (z0 : Int) Z1).num → d = txt ((Rat.divInt (z0 : Int) Z1).den : Int) → Value.agg #[.string n, .string d] = rq (Rat.divInt (z0 : Int) Z1)) := ⟨fun n d h1 h2 => by rw [h1, h2]; rfl⟩
            obtain ⟨nn, hnn⟩ : ∃ nn, nn = txt (Rat.divInt (z0 : Int) Z1).num := ⟨_, rfl⟩
            obtain ⟨dd, hdd⟩ : ∃ dd, dd = txt ((Rat.divInt (z0 : Int) Z1).den : Int) := ⟨_, rfl⟩
            rw [← hnn, ← hdd] at hMk
            have HN : Shut _ := ⟨hnn⟩
            have HD : Shut _ := ⟨hdd⟩
            have HL : Shut _ := ⟨hL⟩
            clear hnn hdd hL fA
            clear hz hz0 hZ0 hZ1
            generalize txt (z0 : Int) = s0 at *
            generalize txt (Z1 : Int) = s1 at *
            have HM4 : Shut _ := ⟨hM.o⟩
            go_wp2_with fail
            refine (hMk _).mono ?_
            rintro e w5 ⟨rfl, hB5⟩
            have hM5 := HM4.o.keep hB5
            have hlt := lt_of_block hM5.r
            have r0 := lcell hM5.r 0 (v := .string ⟨#[]⟩) rfl
            have r1 := lcell hM5.r 1 (v := .string ⟨#[]⟩) rfl
            have g0 := lfree hM5.r 0
            have g1 := lfree hM5.r 1
            have hbw : w.heap.size ≤ b + 1 := by have := hM5.e; omega
            have HU : Shut _ := ⟨((hM5.u.setCell (p := ⟨b + 1, 0, none⟩) hbw (.string nn)).setCell (p := ⟨b + 1, 1, none⟩) hbw (.string dd)).alloc (Nat.le_trans hM5.u.size (by simp)) (.cells #[.string nn, .string dd] 23)⟩
            have k0 := cell_past w5 (b + 1) (.string nn) (.string dd) _ _ r0 r1 (.cells #[.string nn, .string dd] 23)
            clear hM5 hMk
            go_wp2_with fail
            refine bodyPost_ret (v := .agg #[.string nn, .string dd]) (by simp [results, Tryz.results12, go_sem, k0.1, k0.2]) rfl ⟨_, HL.o, by rw [HQ.o nn dd HN.o HD.o], HU.o⟩
          · have hq0 : ((txt (z0 : Int)).toList == [48]) = false := by rw [txt_eq0]; simpa using hz
            have HT0 : Shut _ := ⟨txt_minus hz⟩
            have h0s := txt_size (z := (z0 : Int)) (small_fits hz0)
            have hL : LongQ (Rat.divInt (-(z0 : Int)) Z1) := longQ_div (by omega) hZ1 hZ0
            have fA : Fits (-(z0 : Int)) := fits_small (Nat.lt_trans (show ((-(z0 : Int)) : Int).natAbs < 10 ^ 100 by omega) (by decide))
            have hMk : ∀ W : World, Calls Tryz.prog 27 #[.string (txt (-(z0 : Int))), .string (txt (Z1 : Int))] W fun e w' => e = .returned (.tuple #[.agg #[.string (txt (Rat.divInt (-(z0 : Int)) Z1).num), .string (txt ((Rat.divInt (-(z0 : Int)) Z1).den : Int))], .int .i64 0]) ∧ Below W.heap.size W w' := fun W => by
              have := MakeR_all (txt (-(z0 : Int))) (txt (Z1 : Int)) (txt_size6 fA) (txt_size6 (small_fits hZ1)) W
              rw [red_q fA (small_fits hZ1) (by omega)] at this
              exact this
            have HQ : Shut (∀ n d : ByteArray, n = txt (Rat.divInt (-(z0 : Int)) Z1).num → d = txt ((Rat.divInt (-(z0 : Int)) Z1).den : Int) → Value.agg #[.string n, .string d] = rq (Rat.divInt (-(z0 : Int)) Z1)) := ⟨fun n d h1 h2 => by rw [h1, h2]; rfl⟩
            obtain ⟨nn, hnn⟩ : ∃ nn, nn = txt (Rat.divInt (-(z0 : Int)) Z1).num := ⟨_, rfl⟩
            obtain ⟨dd, hdd⟩ : ∃ dd, dd = txt ((Rat.divInt (-(z0 : Int)) Z1).den : Int) := ⟨_, rfl⟩
            rw [← hnn, ← hdd] at hMk
            have HN : Shut _ := ⟨hnn⟩
            have HD : Shut _ := ⟨hdd⟩
            have HL : Shut _ := ⟨hL⟩
            clear hnn hdd hL fA
            rw [← HT0.o] at hMk
            have h1s : (⟨#[45]⟩ : ByteArray).size = 1 := rfl
            clear hz hz0 hZ0 hZ1
            generalize txt (z0 : Int) = s0 at *
            generalize txt (Z1 : Int) = s1 at *
            have HM4 : Shut _ := ⟨hM.o.set 0 (.string (⟨#[45]⟩ ++ s0)) (by decide)⟩
            go_wp2_with fail
            refine (hMk _).mono ?_
            rintro e w5 ⟨rfl, hB5⟩
            have hM5 := HM4.o.keep hB5
            have hlt := lt_of_block hM5.r
            have r0 := lcell hM5.r 0 (v := .string ⟨#[]⟩) rfl
            have r1 := lcell hM5.r 1 (v := .string ⟨#[]⟩) rfl
            have g0 := lfree hM5.r 0
            have g1 := lfree hM5.r 1
            have hbw : w.heap.size ≤ b + 1 := by have := hM5.e; omega
            have HU : Shut _ := ⟨((hM5.u.setCell (p := ⟨b + 1, 0, none⟩) hbw (.string nn)).setCell (p := ⟨b + 1, 1, none⟩) hbw (.string dd)).alloc (Nat.le_trans hM5.u.size (by simp)) (.cells #[.string nn, .string dd] 23)⟩
            have k0 := cell_past w5 (b + 1) (.string nn) (.string dd) _ _ r0 r1 (.cells #[.string nn, .string dd] 23)
            clear hM5 hMk
            go_wp2_with fail
            refine bodyPost_ret (v := .agg #[.string nn, .string dd]) (by simp [results, Tryz.results12, go_sem, k0.1, k0.2]) rfl ⟨_, HL.o, by rw [HQ.o nn dd HN.o HD.o], HU.o⟩
        · have hj1 : j = 1 := by omega
          subst hj1
          clear hj hj0
          have hL : LongQ (Rat.divInt (z0 : Int) Z1) := longQ_div (by omega) hZ1 hZ0
          have fA : Fits (z0 : Int) := fits_small (Nat.lt_trans (show ((z0 : Int) : Int).natAbs < 10 ^ 100 by omega) (by decide))
          have hMk : ∀ W : World, Calls Tryz.prog 27 #[.string (txt (z0 : Int)), .string (txt (Z1 : Int))] W fun e w' => e = .returned (.tuple #[.agg #[.string (txt (Rat.divInt (z0 : Int) Z1).num), .string (txt ((Rat.divInt (z0 : Int) Z1).den : Int))], .int .i64 0]) ∧ Below W.heap.size W w' := fun W => by
            have := MakeR_all (txt (z0 : Int)) (txt (Z1 : Int)) (txt_size6 fA) (txt_size6 (small_fits hZ1)) W
            rw [red_q fA (small_fits hZ1) (by omega)] at this
            exact this
          have HQ : Shut (∀ n d : ByteArray, n = txt (Rat.divInt (z0 : Int) Z1).num → d = txt ((Rat.divInt (z0 : Int) Z1).den : Int) → Value.agg #[.string n, .string d] = rq (Rat.divInt (z0 : Int) Z1)) := ⟨fun n d h1 h2 => by rw [h1, h2]; rfl⟩
          obtain ⟨nn, hnn⟩ : ∃ nn, nn = txt (Rat.divInt (z0 : Int) Z1).num := ⟨_, rfl⟩
          obtain ⟨dd, hdd⟩ : ∃ dd, dd = txt ((Rat.divInt (z0 : Int) Z1).den : Int) := ⟨_, rfl⟩
          rw [← hnn, ← hdd] at hMk
          have HN : Shut _ := ⟨hnn⟩
          have HD : Shut _ := ⟨hdd⟩
          have HL : Shut _ := ⟨hL⟩
          clear hnn hdd hL fA
          clear hz0 hZ0 hZ1
          generalize txt (z0 : Int) = s0 at *
          generalize txt (Z1 : Int) = s1 at *
          have HM4 : Shut _ := ⟨hM.o⟩
          go_wp2_with fail
          refine (hMk _).mono ?_
          rintro e w5 ⟨rfl, hB5⟩
          have hM5 := HM4.o.keep hB5
          have hlt := lt_of_block hM5.r
          have r0 := lcell hM5.r 0 (v := .string ⟨#[]⟩) rfl
          have r1 := lcell hM5.r 1 (v := .string ⟨#[]⟩) rfl
          have g0 := lfree hM5.r 0
          have g1 := lfree hM5.r 1
          have hbw : w.heap.size ≤ b + 1 := by have := hM5.e; omega
          have HU : Shut _ := ⟨((hM5.u.setCell (p := ⟨b + 1, 0, none⟩) hbw (.string nn)).setCell (p := ⟨b + 1, 1, none⟩) hbw (.string dd)).alloc (Nat.le_trans hM5.u.size (by simp)) (.cells #[.string nn, .string dd] 23)⟩
          have k0 := cell_past w5 (b + 1) (.string nn) (.string dd) _ _ r0 r1 (.cells #[.string nn, .string dd] 23)
          clear hM5 hMk
          go_wp2_with fail
          refine bodyPost_ret (v := .agg #[.string nn, .string dd]) (by simp [results, Tryz.results12, go_sem, k0.1, k0.2]) rfl ⟨_, HL.o, by rw [HQ.o nn dd HN.o HD.o], HU.o⟩
end Rt
end Go.Proofs.YtofcihnihpfljaaGreat
