/-
  The law WireSumAffine: its walk.
-/
import Derived.Test.YtiffkoakpfpdgaaDoorWireSane
import Derived.Deep.DeepCutAuto
import Derived.StillTailTactics
import Derived.RegionTactic
import Derived.BigQuiet
import Derived.Deep.QuietTactic
namespace Go.Proofs.YtiffkoakpfpdgaaDoor
open Go.RowKit

theorem min4 (x y z : Nat) (u : Int) (hu : 0 ≤ u) : ∃ n : Nat, n ≤ x ∧ n ≤ y ∧ n ≤ z ∧ (n : Int) ≤ u ∧ ∀ w, Sem.run Tryd.prog (Builtin.min_ #[3, 3, 3, 3] 3 #[.int .i64 (x : Int), .int .i64 (y : Int), .int .i64 (z : Int), .int .i64 u]) w = .ok (.int .i64 (n : Int)) w := by
  obtain ⟨v, rfl⟩ := Int.eq_ofNat_of_zero_le hu
  refine ⟨min (min (min x y) z) v, by omega, by omega, by omega, by omega, fun w => ?_⟩
  simp [Builtin.min_, Builtin.min2]
  split <;> split <;> split <;> omega

/-- the three strings' first n bytes, XORed -/
def xor3 (a b c : ByteArray) (n : Nat) : List UInt8 := List.zipWith (· ^^^ ·) (List.zipWith (· ^^^ ·) (a.data.toList.take n) (b.data.toList.take n)) (c.data.toList.take n)
theorem xor3_len (a b c : ByteArray) (n : Nat) (h1 : n ≤ a.size) (h2 : n ≤ b.size) (h3 : n ≤ c.size) : (xor3 a b c n).length = n := by
  unfold xor3
  simp only [List.length_zipWith, List.length_take]
  simp
  omega
theorem xor3_get (a b c : ByteArray) (n : Nat) (h1 : n ≤ a.size) (h2 : n ≤ b.size) (h3 : n ≤ c.size) (k : Nat) (hk : k < n) (hl : k < (xor3 a b c n).length) : (xor3 a b c n)[k] = a[k] ^^^ b[k] ^^^ c[k] := by
  simp only [xor3, List.getElem_zipWith, List.getElem_take]
  rfl
theorem fill_get (T : List UInt8) (n k : Nat) (h : T.length = n) (hk : k < n) : ((T.take k).map bv ++ List.replicate (n - k) (bv 0))[k]? = some (.int .u8 0) := by
  have hl : ((T.take k).map bv).length = k := by simp; omega
  rw [List.getElem?_append_right (by omega), hl, Nat.sub_self, List.getElem?_replicate, if_pos (by omega)]
  rfl
theorem fill_set (T : List UInt8) (n k : Nat) (h : T.length = n) (hk : k < n) (x : UInt8) (hx : T[k]'(by omega) = x) : ((T.take k).map bv ++ List.replicate (n - k) (bv 0)).set k (bv x) = (T.take (k + 1)).map bv ++ List.replicate (n - (k + 1)) (bv 0) := by
  have hl : ((T.take k).map bv).length = k := by simp; omega
  rw [List.set_append_right _ _ (by omega), hl, Nat.sub_self, List.take_succ_eq_append_getElem (by omega), hx, show n - k = (n - (k + 1)) + 1 by omega, List.replicate_succ]
  simp

theorem xor_bytes (x y z : UInt8) : ∃ p q : Nat, bits .xor .u8 ((x.toNat : Nat) : Int) ((y.toNat : Nat) : Int) = (p : Int) ∧ bits .xor .u8 (p : Int) ((z.toNat : Nat) : Int) = (q : Int) ∧ Hid (q = (x ^^^ y ^^^ z).toNat) := by
  refine ⟨(x ^^^ y).toNat, (x ^^^ y ^^^ z).toNat, ?_, ?_, Lib.hid rfl⟩
  · rw [UInt8.toNat_xor]; exact u8_xor_nat _ _ (UInt8.toNat_lt _) (UInt8.toNat_lt _)
  · rw [UInt8.toNat_xor (x ^^^ y)]; exact u8_xor_nat _ _ (UInt8.toNat_lt _) (UInt8.toNat_lt _)

/-- the checksum of an XOR -/
theorem crc_xor3 (a b c : ByteArray) (n : Nat) (h1 : n ≤ a.size) (h2 : n ≤ b.size) (h3 : n ≤ c.size) :
    Wm.crc (xor3 a b c n) = Wm.crc (a.data.toList.take n) ^^^ Wm.crc (b.data.toList.take n) ^^^ Wm.crc (c.data.toList.take n) := by
  have la : (a.data.toList.take n).length = n := by rw [List.length_take]; simp; omega
  have lb : (b.data.toList.take n).length = n := by rw [List.length_take]; simp; omega
  have lc : (c.data.toList.take n).length = n := by rw [List.length_take]; simp; omega
  have e : Wm.crcReg 4294967295 (xor3 a b c n) = Wm.crcReg 4294967295 (a.data.toList.take n) ^^^ Wm.crcReg 4294967295 (b.data.toList.take n) ^^^ Wm.crcReg 4294967295 (c.data.toList.take n) := by
    unfold xor3
    rw [← Wm.crcReg_xor _ _ _ _ (by rw [la, lb]), ← Wm.crcReg_xor _ _ _ _ (by rw [List.length_zipWith, la, lb, lc]; simp)]
    rfl
  have ra := Wm.crcReg_lt (a.data.toList.take n) 4294967295 (by omega)
  have rb := Wm.crcReg_lt (b.data.toList.take n) 4294967295 (by omega)
  have rc := Wm.crcReg_lt (c.data.toList.take n) 4294967295 (by omega)
  unfold Wm.crc
  rw [e]
  generalize Wm.crcReg 4294967295 (a.data.toList.take n) = x at *
  generalize Wm.crcReg 4294967295 (b.data.toList.take n) = y at *
  generalize Wm.crcReg 4294967295 (c.data.toList.take n) = z at *
  rw [← xor_all _ (x32 _ _ (x32 _ _ ra rb) rc), ← xor_all x ra, ← xor_all y rb, ← xor_all z rc]
  generalize (4294967295 : Nat) = F
  rw [show F ^^^ x ^^^ (F ^^^ y) ^^^ (F ^^^ z) = (F ^^^ F) ^^^ (F ^^^ (x ^^^ y ^^^ z)) by ac_rfl, Nat.xor_self, Nat.zero_xor]

theorem i64_xor_nat (a b : Nat) (ha : a < 4294967296) (hb : b < 4294967296) : bits .xor .i64 (a : Int) (b : Int) = ((a ^^^ b : Nat) : Int) := by
  have hx := x32 a b ha hb
  have h1 : (BitVec.ofInt 64 (a : Int)).toNat = a := by rw [BitVec.ofInt_natCast, BitVec.toNat_ofNat]; exact Nat.mod_eq_of_lt (by omega)
  have h2 : (BitVec.ofInt 64 (b : Int)).toNat = b := by rw [BitVec.ofInt_natCast, BitVec.toNat_ofNat]; exact Nat.mod_eq_of_lt (by omega)
  show IntKind.i64.wrap ((BitVec.ofInt 64 (a : Int) ^^^ BitVec.ofInt 64 (b : Int)).toNat : Int) = _
  rw [BitVec.toNat_xor, h1, h2]
  exact IntWalk.i64_in _ (by omega)

theorem ret_bool {a b : Bool} (h : a = b) : Ending.returned (.bool a) = .returned (.bool b) := by rw [h]
theorem own_drewN {w : World} {base : Nat} {e : TypeId} {size : Nat} {v : Value} {n : Nat} {xs : List Value} (h : w.ownsRow base e size v n xs) (q : Nat) : (w.drewN q).ownsRow base e size v n xs := h
theorem Tab.drewN {w : World} (h : Tab w) (q : Nat) : Tab (w.drewN q) := fun i hi => by
  have := h i hi
  simpa using this
theorem sumq (s : ByteArray) (w : World) (q : Nat) (hs : s.size ≤ maxLen) (ht : Tab w) :
    Calls Tryd.prog 21 #[.string s] (w.drewN q) fun e w'' => e = .returned (.int .i64 (Wm.crc s.data.toList : Nat)) ∧ ∃ m, w'' = w.drewN m :=
  Calls.quiet_of_same ((sum_any s _ hs (ht.drewN q)).mono fun _ _ ⟨he, hw⟩ => ⟨he, hw.symm⟩)

set_option maxRecDepth 100000 in
set_option maxHeartbeats 1000000 in
theorem affine_any (a b c : ByteArray) (w : World) (ha : a.size ≤ maxLen) (ht : Tab w) :
    Calls Tryd.prog 9 #[.string a, .string b, .string c] w fun e w' => e = .returned (.bool true) ∧ Below w.heap.size w w' := by
  unfold maxLen at ha
  have hp := ht.pos
  have HT := Lib.hid ht; clear ht
  obtain ⟨n, h1, h2, h3, h4, hmin⟩ := min4 a.size b.size c.size 200 (by decide)
  obtain ⟨i0, hi, hz0, hz1, hz2⟩ := info_parts infoByte
  have HI := Lib.hid hz2
  go_enter Tryd.func9, Tryd.ntmps9
  go_wp2_with (first
    | (go_at_call 10; refine (sane_any _ HT.out).mono ?_; rintro e w1 ⟨rfl, hB1⟩)
    | (at_make; go_must (refine wpList_make_full _ rfl _ _ 38 rfl w.heap.size 5 i0 (.int .u8 0) 1 Tryd.underlying38 hi hz0 hz1 .i64 .i64 _ _ n rfl rfl rfl rfl (by rw [HI.out]; omega) (by unfold maxLen; omega) hB1.size ?_); intro w2 hown hgrow))
  have hown0 := hown
  rw [show (madeCells (Value.int IntKind.u8 0).cells (n * 1)).toList = List.replicate n (bv 0) by rw [Nat.mul_one]; exact toList_madeCells_one _ n] at hown0
  have hB2 : Below w.heap.size w w2 := hB1.grown hgrow hB1.size (fun k hk => by cases hk)
  have hle := hB1.size
  clear hown hgrow hB1 hmin hi hz0 hz1 hz2 HI
  generalize w1.heap.size = g at *
  have hlen := xor3_len a b c n h1 h2 h3
  have hget := xor3_get a b c n h1 h2 h3
  generalize hT : xor3 a b c n = T at *
  have HT3 := Lib.hid hT
  have HG := Lib.hid hget
  have HN := Lib.hid hlen
  clear hT hget hlen
  go_loopw [10] (fun i wr => ∃ k : Nat, k ≤ n ∧ i = .int .i64 k ∧ wr.ownsRow w.heap.size 5 1 (.slice (some ⟨g, 0, none⟩) n n) n ((T.take k).map bv ++ List.replicate (n - k) (bv 0)) ∧ Below w.heap.size w wr) (fun i _ => n - (intOf i).toNat)
  case atStart => exact ⟨0, by omega, rfl, by simpa using hown0, hB2⟩
  case round =>
    obtain ⟨k, hk, rfl, hown, hB⟩ := hrel
    by_cases hlt : k < n
    · obtain ⟨p, q, e1, e2, HQ⟩ := xor_bytes a[k] b[k] c[k]
      obtain ⟨hst, hgr⟩ := hown.stored k (.int .u8 (q : Int))
      have hc1 := hown.cellAt k (by omega)
      have hf1 := hown.frozenAt k
      rw [fill_get T n k HN.out hlt] at hc1
      have HS := fill_set T n k HN.out hlt (a[k] ^^^ b[k] ^^^ c[k]) (HG.out k hlt (by rw [HN.out]; exact hlt))
      unfold bv at HS
      rw [← HQ.out] at HS
      unfold bv at hst
      rw [HS] at hst
      have HST := Lib.hid hst
      have ka : k < a.size := by omega
      have kb : k < b.size := by omega
      have kc : k < c.size := by omega
      clear hst HS hgr hown hown0
      go_wp2
      go_region
      all_goals go_wp2
      all_goals go_roundw
      case rel => exact ⟨k + 1, by omega, by go_num, HST.out.drew, (hB.setCell (p := ⟨g, k, none⟩) hle _).drew⟩
      case measure => simp [intOf]; omega
    · have hkn : k = n := by omega
      subst hkn
      have hown' : wr.ownsRow w.heap.size 5 1 (.slice (some ⟨g, 0, none⟩) T.length k) T.length (T.map bv) := by
        rw [HN.out]
        rw [Nat.sub_self, List.take_of_length_le (by rw [HN.out]; omega)] at hown
        simpa using hown
      have hq : ∀ q, Sem.run Tryd.prog (convert 38 9 (.slice (some ⟨g, 0, none⟩) k k)) (wr.drewN q) = .ok (.string ⟨T.toArray⟩) (wr.drewN q) := fun q => by
        have hw : (wr.drewN q).ownsRow w.heap.size 5 1 (.slice (some ⟨g, 0, none⟩) T.length k) T.length (T.map bv) := own_drewN hown' q
        have := own_back T hw
        rw [HN.out] at this
        exact this
      have HTw' := Lib.hid (HT.out.below hp hB)
      have sT : (⟨T.toArray⟩ : ByteArray).size ≤ maxLen := by
        show T.toArray.size ≤ _
        rw [List.size_toArray, HN.out]; unfold maxLen; omega
      have sA : ∀ d : ByteArray, (d.extract 0 k).size ≤ maxLen := fun d => by
        rw [ByteArray.size_extract]; unfold maxLen; omega
      have ST := Lib.hid sT
      have SA := Lib.hid sA
      have HE := Lib.hid (crc_xor3 a b c k h1 h2 h3)
      clear hown hown' hown0 sT sA
      go_wp2
      go_quiet ((go_at_call 21; first | exact sumq _ _ _ ST.out HTw'.out | exact sumq _ _ _ (SA.out _) HTw'.out))
      go_wp2
      go_ret
      refine ⟨ret_bool ?_, below_drewN hB _⟩
      rw [i64_xor_nat _ _ (Wm.crc_lt _) (Wm.crc_lt _), i64_xor_nat _ _ (x32 _ _ (Wm.crc_lt _) (Wm.crc_lt _)) (Wm.crc_lt _), ← HE.out, HT3.out]
      simp

end Go.Proofs.YtiffkoakpfpdgaaDoor
