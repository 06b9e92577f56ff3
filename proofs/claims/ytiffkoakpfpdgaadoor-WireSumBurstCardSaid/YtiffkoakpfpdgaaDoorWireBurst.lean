/-
  The law WireSumBurst: its walk.
-/
import Derived.Test.YtiffkoakpfpdgaaDoorWireFlip
import Derived.Test.YtiffkoakpfpdgaaDoorWireAffine
import Derived.Test.YtiffkoakpfpdgaaDoorWireUniq
namespace Go.Proofs.YtiffkoakpfpdgaaDoor
open Go.RowKit

/-- the row's cells hold the bytes L, and may be written -/
def Bys (W : World) (g : Nat) (L : List UInt8) : Prop := ∀ i (h : i < L.length), W.cell? ⟨g, i, none⟩ = some (.int .u8 ((L[i].toNat : Nat) : Int)) ∧ W.frozen? ⟨g, i, none⟩ = false
theorem Bys.store {W : World} {g : Nat} {L : List UInt8} (h : Bys W g L) (j : Nat) (x : UInt8) : Bys (W.setCell ⟨g, j, none⟩ (.int .u8 ((x.toNat : Nat) : Int))) g (L.set j x) := fun i hi => by
  rw [List.length_set] at hi
  obtain ⟨h1, h2⟩ := h i hi
  refine ⟨?_, by rw [World.frozen?_setCell]; exact h2⟩
  by_cases e : i = j
  · subst e
    rw [World.cell?_setCell_same' _ _ _ (by rw [h1]; rfl)]
    simp
  · rw [World.cell?_setCell_other _ _ _ _ (by simp; try omega), h1, List.getElem_set_ne (by omega)]
theorem Bys.drew {W : World} {g : Nat} {L : List UInt8} (h : Bys W g L) : Bys W.drew g L := fun i hi => by
  have := h i hi
  simpa using this

theorem conv_bytes (t : ByteArray) (n : Nat) (hn : t.size = n) (w : World) : ∃ (W1 : World) (cap : Nat),
    Sem.run Tryd.prog (convert 9 38 (.string t)) w = .ok (.slice (some ⟨w.heap.size, 0, none⟩) n cap) W1 ∧ Bys W1 w.heap.size t.data.toList ∧ Below w.heap.size w W1 := by
  subst hn
  refine ⟨Lib.bytesWorld w 5 t, grownCap w t.size 0 5, Lib.run_convert_string_bytes w 9 38 5 t Tryd.underlying9 Tryd.underlying38 Tryd.underlying5, fun i hi => ?_, Joins.below_bytesWorld _ w 5 t (Nat.le_refl _)⟩
  have hi' : i < t.size := by simpa using hi
  refine ⟨?_, ?_⟩
  · have := bytes_bytesWorld w 5 t i hi'
    rw [Nat.zero_add] at this
    exact this
  · have hs : i < (Lib.bytesCells w 5 t).size := by
      unfold Lib.bytesCells
      rw [Array.size_append, Array.size_map]
      have : t.data.size = t.size := rfl
      omega
    simp [World.frozen?, Lib.bytesWorld_at_new]
    omega

theorem bit_yes (b j : Nat) (h : b / 2 ^ j % 2 = 1) : (((b : Int) / 2 ^ j).tmod 2 == 1) = true := by
  have e : ((b : Int) / 2 ^ j) = ((b / 2 ^ j : Nat) : Int) := by simp
  rw [e, Int.tmod_eq_emod_of_nonneg (Int.natCast_nonneg _), beq_iff_eq]; omega
theorem bit_no (b j : Nat) (h : b / 2 ^ j % 2 = 0) : (((b : Int) / 2 ^ j).tmod 2 == 1) = false := by
  have e : ((b : Int) / 2 ^ j) = ((b / 2 ^ j : Nat) : Int) := by simp
  rw [e, Int.tmod_eq_emod_of_nonneg (Int.natCast_nonneg _), beq_eq_false_iff_ne]; omega

theorem flip_byte (y : UInt8) (r : Nat) (hr : r < 8) : bits .xor .u8 ((y.toNat : Nat) : Int) ((2 : Int) ^ r % 256) = (((y ^^^ UInt8.ofNat (2 ^ r)).toNat : Nat) : Int) := by
  have h2 : ((2 : Int) ^ r % 256) = (((UInt8.ofNat (2 ^ r)).toNat : Nat) : Int) := by
    match r, hr with
    | 0, _ | 1, _ | 2, _ | 3, _ | 4, _ | 5, _ | 6, _ | 7, _ => rfl
  rw [h2, UInt8.toNat_xor]
  exact u8_xor_nat _ _ (UInt8.toNat_lt _) (UInt8.toNat_lt _)
theorem flip_pow (m : Nat) : (UInt8.ofNat (2 ^ (m % 8))).toNat * 256 ^ (m / 8) = 2 ^ m := by
  have h1 : (UInt8.ofNat (2 ^ (m % 8))).toNat = 2 ^ (m % 8) := by
    have hr : m % 8 < 8 := Nat.mod_lt _ (by omega)
    generalize m % 8 = r at *
    match r, hr with
    | 0, _ | 1, _ | 2, _ | 3, _ | 4, _ | 5, _ | 6, _ | 7, _ => rfl
  have h2 : (256 : Nat) ^ (m / 8) = 2 ^ (8 * (m / 8)) := by rw [Nat.pow_mul]
  rw [h1, h2, ← Nat.pow_add]
  congr 1
  omega

theorem changed_eq {c : Bool} {x y v : Nat} (h1 : c = true ↔ v ≠ 0) (h2 : x = y ↔ v = 0) : (c == ((x : Int) != (y : Int))) = true := by
  by_cases hv : v = 0
  · have hc : c = false := by
      cases c with
      | false => rfl
      | true => exact absurd hv (h1.1 rfl)
    rw [hc, h2.2 hv]; simp
  · have hc : c = true := h1.2 hv
    have hne : (x : Int) ≠ (y : Int) := fun e => hv (h2.1 (by omega))
    rw [hc]; simp; omega

set_option maxRecDepth 100000 in
set_option maxHeartbeats 1000000 in
theorem burst_any (s : ByteArray) (x : Int) (b : Nat) (w : World) (h1 : -9223372036854775808 ≤ x) (h2 : x ≤ 9223372036854775807) (hb : b < 4294967296) (ht : Tab w) :
    Calls Tryd.prog 8 #[.string s, .int .i64 x, .int .u32 b] w fun e w' => e = .returned (.bool true) ∧ Below w.heap.size w w' := by
  obtain ⟨ns, s1, s2, s3⟩ := min2 s.size 300 (by decide)
  have hp := ht.pos
  have HT := Lib.hid ht; clear ht
  by_cases hn0 : ns = 0
  · have e1 : ((ns : Int) == 0) = true := beq_iff_eq.2 (by omega)
    clear hn0
    go_enter Tryd.func8, Tryd.ntmps8
    go_wp2_with fail
    refine (sane_any _ HT.out).mono ?_
    rintro e w1 ⟨rfl, hB1⟩
    obtain ⟨w2, cap, hcv, hby, hB2⟩ := conv_bytes (s.extract 0 ns) ns (by rw [ByteArray.size_extract]; omega) w1
    go_wp2
    go_ret
    exact ⟨rfl, hB1.trans (hB2.mono hB1.size)⟩
  · have e1 : ((ns : Int) == 0) = false := beq_eq_false_iff_ne.2 (by omega)
    have hn : 0 < ns := by omega
    clear hn0
    by_cases hb0 : b = 0
    · have e2 : ((b : Int) == 0) = true := beq_iff_eq.2 (by omega)
      clear hb0
      go_enter Tryd.func8, Tryd.ntmps8
      go_wp2_with fail
      refine (sane_any _ HT.out).mono ?_
      rintro e w1 ⟨rfl, hB1⟩
      obtain ⟨w2, cap, hcv, hby, hB2⟩ := conv_bytes (s.extract 0 ns) ns (by rw [ByteArray.size_extract]; omega) w1
      go_wp2
      go_ret
      exact ⟨rfl, hB1.trans (hB2.mono hB1.size)⟩
    · have e2 : ((b : Int) == 0) = false := beq_eq_false_iff_ne.2 (by omega)
      clear hb0
      obtain ⟨f, hf, PF⟩ := pick_int x (8 * (ns : Int)) h1 h2 (by omega) (by omega)
      have PF' := Lib.hid PF
      clear PF
      go_enter Tryd.func8, Tryd.ntmps8
      go_wp2_with fail
      refine (sane_any _ HT.out).mono ?_
      rintro e w1 ⟨rfl, hB1⟩
      obtain ⟨w2, cap, hcv, hby, hB2⟩ := conv_bytes (s.extract 0 ns) ns (by rw [ByteArray.size_extract]; omega) w1
      go_wp2_with fail
      refine (PF'.out _).mono ?_
      rintro e w' ⟨rfl, rfl⟩
      go_wp2
      have hle := hB1.size
      have hb2 := hB1.trans (hB2.mono hle)
      have hTl : (s.extract 0 ns).data.toList.length = ns := by
        have : (s.extract 0 ns).data.toList.length = (s.extract 0 ns).size := by simp
        rw [this, ByteArray.size_extract]; omega
      have hTe : (s.extract 0 ns).data.toList = s.data.toList.take ns := cut_list s ns
      have HTE := Lib.hid hTe
      clear hB1 hB2 hcv hTe
      generalize (s.extract 0 ns).data.toList = T at *
      generalize w1.heap.size = g at *
      have HTL := Lib.hid hTl
      clear hTl
      go_loopw [10, 11] (fun ch i wr => ∃ (j : Nat) (L : List UInt8) (c : Bool), j ≤ 32 ∧ f + j ≤ 8 * ns ∧ i = .int .i64 j ∧ ch = .bool c ∧ (c = true ↔ b % 2 ^ j ≠ 0) ∧ Bys wr g L ∧ L.length = ns ∧ Wm.num L = Wm.num T ^^^ (b % 2 ^ j * 2 ^ f) ∧ Below w.heap.size w wr) (fun _ i _ => 32 - (intOf i).toNat)
      case atStart => exact ⟨0, T, false, by omega, by omega, rfl, rfl, by simp [Nat.mod_one], hby, HTL.out, by simp [Nat.mod_one], hb2⟩
      case round =>
        obtain ⟨j, L, c, hj, hfj, rfl, rfl, hc, hL, hLn, hnum, hB⟩ := hrel
        have HC := Lib.hid hc
        have HL := Lib.hid hL
        have HN := Lib.hid hLn
        have HM := Lib.hid hnum
        clear hc hL hLn hnum hby hb2
        by_cases hlt : j < 32 ∧ f + j < 8 * ns
        · obtain ⟨q1, q2⟩ := hlt
          have em : (f : Int) + (j : Int) = ((f + j : Nat) : Int) := by omega
          generalize hme : f + j = m at *
          have HME := Lib.hid hme
          have hk8 : m / 8 < L.length := by rw [HN.out]; omega
          clear hme
          rcases Nat.mod_two_eq_zero_or_one (b / 2 ^ j) with hbit | hbit
          · have ebit := bit_no b j hbit
            have HFS := Lib.hid (Wm.flip_same b j hbit)
            have hme2 := HME.out
            clear hbit
            go_wp2
            exact ⟨⟨j + 1, L, c, by omega, by omega, by go_num, rfl, by rw [HFS.out]; exact HC.out, HL.out, HN.out, by rw [HFS.out]; exact HM.out, hB⟩, by simp [intOf]; omega⟩
          · have ebit := bit_yes b j hbit
            have HFN := Lib.hid (Wm.flip_next b f j hbit)
            have HFP := Lib.hid (Wm.flip_pos b j hbit)
            obtain ⟨q, eflip, HQ⟩ : ∃ q : Nat, bits .xor .u8 ((L[m / 8].toNat : Nat) : Int) ((2 : Int) ^ (m % 8) % 256) = (q : Int) ∧ Hid (q = (L[m / 8] ^^^ UInt8.ofNat (2 ^ (m % 8))).toNat) := ⟨_, flip_byte L[m / 8] (m % 8) (by omega), Lib.hid rfl⟩
            obtain ⟨d1, d2⟩ := HL.out (m / 8) hk8
            have HST : Hid (Bys (wr.setCell ⟨g, m / 8, none⟩ (.int .u8 (q : Int))).drew g (L.set (m / 8) (L[m / 8] ^^^ UInt8.ofNat (2 ^ (m % 8))))) := Lib.hid (by rw [HQ.out]; exact (HL.out.store (m / 8) (L[m / 8] ^^^ UInt8.ofNat (2 ^ (m % 8)))).drew)
            have HNM : Hid (Wm.num (L.set (m / 8) (L[m / 8] ^^^ UInt8.ofNat (2 ^ (m % 8)))) = Wm.num T ^^^ (b % 2 ^ (j + 1) * 2 ^ f)) := Lib.hid (by
              rw [Wm.num_set_xor L (m / 8) hk8, HM.out, flip_pow, ← HFN.out, HME.out, Nat.xor_assoc])
            clear hbit
            go_wp2
            go_region
            all_goals go_wp2
            have hme2 := HME.out
            exact ⟨⟨j + 1, _, true, by omega, by omega, by go_num, rfl, ⟨fun _ => HFP.out, fun _ => rfl⟩, HST.out, by rw [List.length_set]; exact HN.out, HNM.out, (hB.setCell (p := ⟨g, m / 8, none⟩) hle _).drew⟩, by simp [intOf]; omega⟩
        · have HTw := Lib.hid (HT.out.below hp hB)
          have hv : b % 2 ^ j < 4294967296 := Nat.lt_of_le_of_lt (Nat.mod_le _ _) hb
          have HE := Lib.hid (Wm.crcReg_eq L T (by rw [HN.out, HTL.out]) f (b % 2 ^ j) hv HM.out)
          have hq : ∀ q, Sem.run Tryd.prog (convert 38 9 (.slice (some ⟨g, 0, none⟩) ns cap)) (wr.drewN q) = .ok (.string ⟨L.toArray⟩) (wr.drewN q) := fun q => by
            have := Go.run_convert_bytes_back (P := Tryd.prog) (wr.drewN q) 38 9 5 ⟨g, 0, none⟩ cap L Tryd.underlying38 Tryd.underlying5 Tryd.underlying9 (fun i hi => by
              rw [Addr.add_lit, Nat.zero_add]
              have := (HL.out i hi).1
              simpa using this)
            rw [HN.out] at this
            exact this
          have ST := Lib.hid (show (⟨L.toArray⟩ : ByteArray).size ≤ maxLen by
            show L.toArray.size ≤ _
            rw [List.size_toArray, HN.out]; unfold maxLen; omega)
          have SA := Lib.hid (show (s.extract 0 ns).size ≤ maxLen by
            rw [ByteArray.size_extract]; unfold maxLen; omega)
          clear hv
          by_cases hj32 : j < 32
          · have hge : ¬ f + j < 8 * ns := by omega
            clear hlt
            go_wp2
            go_quiet ((go_at_call 21; first | exact sumq _ _ _ ST.out HTw.out | exact sumq _ _ _ SA.out HTw.out))
            go_wp2
            go_ret
            exact ⟨ret_bool (by rw [← HTE.out]; exact changed_eq HC.out HE.out), below_drewN hB _⟩
          · clear hlt
            go_wp2
            go_quiet ((go_at_call 21; first | exact sumq _ _ _ ST.out HTw.out | exact sumq _ _ _ SA.out HTw.out))
            go_wp2
            go_ret
            exact ⟨ret_bool (by rw [← HTE.out]; exact changed_eq HC.out HE.out), below_drewN hB _⟩

end Go.Proofs.YtiffkoakpfpdgaaDoor
