/-
  The law WireSequence: its walk where both lists hold something.
-/
import Derived.Test.YtiffkoakpfpdgaaDoorWireSeq
import Derived.Deep.RegionWith
import Derived.OpenShut
import Derived.SliceStrings
import Derived.Lib.SmallJoins
namespace Go.Proofs.YtiffkoakpfpdgaaDoor
open Go.RowKit

def catB (zs : List Int) (ss : List ByteArray) (k : Nat) : ByteArray := ⟨(cat zs ss k).toArray⟩
theorem catB_list (zs : List Int) (ss : List ByteArray) (k : Nat) : (catB zs ss k).data.toList = cat zs ss k := by simp [catB]
theorem catB_size (zs : List Int) (ss : List ByteArray) (k : Nat) : (catB zs ss k).size = (cat zs ss k).length := by show (cat zs ss k).toArray.size = _; simp
theorem take_min (t : ByteArray) (n : Nat) (h : min (t.size : Int) 100 = (n : Int)) : (t.extract 0 n).data.toList = t.data.toList.take 100 := by
  rw [cut_list]
  have hl : t.data.toList.length = t.size := by simp
  by_cases h1 : t.size ≤ 100
  · rw [List.take_of_length_le (by omega), List.take_of_length_le (by omega)]
  · rw [show n = 100 by omega]
theorem catB_next (zs : List Int) (ss : List ByteArray) (k : Nat) (R : ByteArray) (h : R.data.toList = (ss.getD k ByteArray.empty).data.toList.take 100) : catB zs ss k ++ encB (nf (zs.getD k 0)) ++ encSB R = catB zs ss (k + 1) := by
  apply ByteArray.ext
  apply Array.toList_inj.1
  have e : (catB zs ss k ++ encB (nf (zs.getD k 0)) ++ encSB R).data.toList = (catB zs ss k).data.toList ++ (encB (nf (zs.getD k 0))).data.toList ++ (encSB R).data.toList := by simp
  rw [e, catB_list, catB_list, encB_list, encSB_list, h]
  simp [cat, part]

theorem putStr_encSB (s : ByteArray) (w : World) (h : s.size ≤ 65536) :
    Calls Tryd.prog 19 #[.string s] w fun e w' => e = .returned (.tuple #[.string (encSB s), .int .i64 0]) ∧ Below w.heap.size w w' := putStr_any s w h

theorem seq_int (zs : List Int) (ss : List ByteArray) (j n : Nat) (hj : j < n) (w : World) (hm : (catB zs ss n).size ≤ maxLen) :
    Calls Tryd.prog 15 #[.string (catB zs ss n), .int .i64 ((cat zs ss j).length : Nat)] w fun e w' => e = .returned (.tuple #[.int .i64 (nf (zs.getD j 0)), .int .i64 (((cat zs ss j).length + (Wm.enc (Wm.zz (nf (zs.getD j 0)))).length : Nat) : Int), .int .i64 0]) ∧ w = w' := by
  obtain ⟨r1, r2⟩ := nf_range (zs.getD j 0)
  obtain ⟨R, hR⟩ := cat_at zs ss j n hj
  obtain ⟨R', hR'⟩ := cat_more zs ss (n - j) j
  rw [show j + (n - j) = n by omega] at hR'
  refine int_some' _ _ w hm (by rw [catB_size, hR', List.length_append]; omega) _ _ ?_
  rw [catB_list, hR]
  unfold part
  rw [List.append_assoc]
  exact Wm.decI_enc _ r1 r2 _
theorem seq_str (zs : List Int) (ss : List ByteArray) (j n : Nat) (hj : j < n) (w : World) (nt : Nat) (hnt : min ((ss.getD j ByteArray.empty).size : Int) 100 = (nt : Int)) (hm : (catB zs ss n).size ≤ maxLen) :
    Calls Tryd.prog 17 #[.string (catB zs ss n), .int .i64 (((cat zs ss j).length + (Wm.enc (Wm.zz (nf (zs.getD j 0)))).length : Nat) : Int)] w fun e w' => e = .returned (.tuple #[.string ((ss.getD j ByteArray.empty).extract 0 nt), .int .i64 ((cat zs ss (j + 1)).length : Nat), .int .i64 0]) ∧ Below w.heap.size w w' := by
  obtain ⟨R, hR⟩ := cat_at zs ss j n hj
  obtain ⟨R', hR'⟩ := cat_more zs ss (n - (j + 1)) (j + 1)
  rw [show j + 1 + (n - (j + 1)) = n by omega] at hR'
  have hl : (cat zs ss (j + 1)).length = (cat zs ss j).length + (Wm.enc (Wm.zz (nf (zs.getD j 0)))).length + (Wm.encS ((ss.getD j ByteArray.empty).data.toList.take 100)).length := by
    simp only [cat, part, List.length_append]; omega
  rw [hl]
  refine str_some' _ _ w hm (by rw [catB_size, hR', List.length_append, hl]; omega) _ _ ?_
  rw [catB_list, ← List.drop_drop, hR]
  unfold part
  rw [List.append_assoc, List.drop_left, take_min _ nt hnt]
  exact Wm.decS_encS _ _ (by rw [List.length_take]; omega)

set_option maxRecDepth 100000 in
set_option maxHeartbeats 1000000 in
theorem seq_any (bl ol la ca bt ot lb cb : Nat) (zs : List Int) (ss : List ByteArray) (w : World) (hla : la ≤ 9223372036854775807) (hlb : lb ≤ 9223372036854775807) (h1 : bl < w.heap.size) (h2 : bt < w.heap.size)
    (hz : ∀ j, j < la → w.cell? ⟨bl, ol + j, none⟩ = some (.int .i64 (zs.getD j 0)) ∧ -9223372036854775808 ≤ zs.getD j 0 ∧ zs.getD j 0 ≤ 9223372036854775807)
    (hs : ∀ j, j < lb → w.cell? ⟨bt, ot + j, none⟩ = some (.string (ss.getD j ByteArray.empty))) (ht : Tab w) :
    Calls Tryd.prog 6 #[.slice (some ⟨bl, ol, none⟩) la ca, .slice (some ⟨bt, ot, none⟩) lb cb] w fun e w' => e = .returned (.bool true) ∧ Below w.heap.size w w' := by
  obtain ⟨n, n1, n2, n3, -, hmin⟩ := min3 la lb 20 (by decide)
  have HZ := Lib.hid hz
  have HS := Lib.hid hs
  clear hz hs
  go_enter Tryd.func6, Tryd.ntmps6
  go_wp2_with fail
  refine (sane_any _ ht).mono ?_
  rintro e w1 ⟨rfl, hB1⟩
  clear ht
  go_wp2
  clear hmin
  go_loopw [7, 8] (fun s i wr => ∃ k : Nat, k ≤ n ∧ i = .int .i64 k ∧ s = .string (catB zs ss k) ∧ Below w.heap.size w wr) (fun _ i _ => n - (intOf i).toNat)
  case atStart => exact ⟨0, by omega, rfl, rfl, hB1⟩
  case round =>
    clear hB1
    obtain ⟨k, hk, rfl, rfl, hB⟩ := hrel
    by_cases hlt : k < n
    · obtain ⟨z1, z2, z3⟩ := HZ.out k (by omega)
      have hcz := (hB.cell (p := ⟨bl, ol + k, none⟩) h1).trans z1
      have hcs := (hB.cell (p := ⟨bt, ot + k, none⟩) h2).trans (HS.out k (by omega))
      obtain ⟨nt, t1, t2, t3⟩ := min2 (ss.getD k ByteArray.empty).size 100 (by decide)
      have HX := Lib.hid (catB_next zs ss k ((ss.getD k ByteArray.empty).extract 0 nt) (take_min _ nt t3))
      have hcl := cat_len zs ss k
      have hcS := catB_size zs ss k
      have hcb : (catB zs ss k).size ≤ 3000 := by omega
      have hbt : bt < wr.heap.size := Nat.lt_of_lt_of_le h2 hB.size
      clear hcl hcS z1
      have hrn := nf_range (zs.getD k 0)
      have NF := Lib.hid (fun w => numberFrom_any (zs.getD k 0) z2 z3 w)
      generalize zs.getD k 0 = z at *
      generalize ss.getD k ByteArray.empty = t at *
      generalize catB zs ss k = C at *
      go_wp2_with fail
      refine (NF.out _).mono ?_
      rintro e w3 ⟨rfl, hB3⟩
      go_wp2_with fail
      refine (putInt_any (nf z) hrn.1 hrn.2 _).mono ?_
      rintro e w4 ⟨rfl, hB4⟩
      rw [show (⟨(Wm.enc (Wm.zz (nf z))).toArray⟩ : ByteArray) = encB (nf z) from rfl]
      have hb4 := hB3.trans (hB4.mono hB3.size)
      have hcs4 := (hb4.cell (p := ⟨bt, ot + k, none⟩) hbt).trans hcs
      have hbw4 := hB.trans (hb4.mono hB.size)
      have hbt4 : bt < w4.heap.size := Nat.lt_of_lt_of_le hbt hb4.size
      clear hB3 hB4 hb4 hcz hcs
      have hkb : k < lb := by omega
      have hsz : (t.extract 0 nt).size ≤ 300 := by rw [ByteArray.size_extract]; omega
      have s1 := (encB_size (nf z) hrn.1 hrn.2).2
      have s2 := (encSB_size (t.extract 0 nt) hsz).2
      have PS := Lib.hid (fun w => putStr_encSB (t.extract 0 nt) w (by omega))
      clear hsz
      go_upto_region 8 with fail
      go_cut [11, 12] (fun s11 s12 wx => s11 = .string (encSB (t.extract 0 nt)) ∧ s12 = .int .i64 0 ∧ Below w.heap.size w wx)
      case first =>
        go_region_held3 (fun w' => w'.cell? ⟨bt, ot + k, none⟩ = some (.string t)) (go_keep) ((go_at_call 19; refine (PS.out _).mono ?_; rintro e w5 ⟨rfl, hB5⟩; have hc5 := (hB5.cell (p := ⟨bt, ot + k, none⟩) hbt4).trans hcs4))
        all_goals (go_wp2_with fail; go_meet; exact ⟨rfl, rfl, hbw4.trans ((show Below w4.heap.size w4 _ from ((Below.refl _ w4).drew).trans hB5).mono hbw4.size)⟩)
      case rest =>
        obtain ⟨rfl, rfl, hbw⟩ := hcut
        go_wp2
        exact ⟨⟨k + 1, by omega, by go_num, by rw [HX.out], hbw⟩, by simp [intOf]; omega⟩
    · obtain rfl : n = k := by omega
      clear hlt hk
      have hcl := cat_len zs ss n
      have hcS := catB_size zs ss n
      have hcb : (catB zs ss n).size ≤ 3000 := by omega
      have HCS := Lib.hid hcS
      have HIN : Hid (∀ j, j < n → ∀ w, Calls Tryd.prog 15 #[.string (catB zs ss n), .int .i64 ((cat zs ss j).length : Nat)] w fun e w' => e = .returned (.tuple #[.int .i64 (nf (zs.getD j 0)), .int .i64 (((cat zs ss j).length + (Wm.enc (Wm.zz (nf (zs.getD j 0)))).length : Nat) : Int), .int .i64 0]) ∧ w = w') :=
        Lib.hid fun j hj w => seq_int zs ss j n hj w (by unfold maxLen; omega)
      have HST : Hid (∀ j, j < n → ∀ (w : World) (nt : Nat), min ((ss.getD j ByteArray.empty).size : Int) 100 = (nt : Int) → Calls Tryd.prog 17 #[.string (catB zs ss n), .int .i64 (((cat zs ss j).length + (Wm.enc (Wm.zz (nf (zs.getD j 0)))).length : Nat) : Int)] w fun e w' => e = .returned (.tuple #[.string ((ss.getD j ByteArray.empty).extract 0 nt), .int .i64 ((cat zs ss (j + 1)).length : Nat), .int .i64 0]) ∧ Below w.heap.size w w') :=
        Lib.hid fun j hj w nt hnt => seq_str zs ss j n hj w nt hnt (by unfold maxLen; omega)
      have HEN : Hid (∀ w, Calls Tryd.prog 15 #[.string (catB zs ss n), .int .i64 ((cat zs ss n).length : Nat)] w fun e w' => e = .returned (.tuple #[.int .i64 0, .int .i64 0, .int .i64 10]) ∧ w = w') :=
        Lib.hid fun w => int_none' _ _ w (by unfold maxLen; omega) (by omega) (by rw [catB_list, List.drop_length]; rfl)
      clear hcl hcS
      generalize catB zs ss n = C at *
      go_wp2
      go_loopw [13, 14] (fun at_ i wr => ∃ j : Nat, j ≤ n ∧ i = .int .i64 j ∧ at_ = .int .i64 ((cat zs ss j).length : Nat) ∧ Below w.heap.size w wr) (fun _ i _ => n - (intOf i).toNat)
      case atStart => exact ⟨0, by omega, rfl, rfl, hB⟩
      case round =>
        clear hB
        obtain ⟨k, hk, rfl, rfl, hB⟩ := hrel
        by_cases hlt : k < n
        · obtain ⟨z1, z2, z3⟩ := HZ.out k (by omega)
          have hcz := (hB.cell (p := ⟨bl, ol + k, none⟩) h1).trans z1
          have hcs := (hB.cell (p := ⟨bt, ot + k, none⟩) h2).trans (HS.out k (by omega))
          obtain ⟨nt, t1, t2, t3⟩ := min2 (ss.getD k ByteArray.empty).size 100 (by decide)
          have IN := Lib.hid (HIN.out k hlt)
          have ST := Lib.hid (fun w => HST.out k hlt w nt t3)
          have hbt : bt < wr.heap.size := Nat.lt_of_lt_of_le h2 hB.size
          have hbl : bl < wr.heap.size := Nat.lt_of_lt_of_le h1 hB.size
          clear z1
          have NF := Lib.hid (fun w => numberFrom_any (zs.getD k 0) z2 z3 w)
          have hkb : k < lb := by omega
          have hka : k < la := by omega
          clear z2 z3
          generalize (cat zs ss k).length + (Wm.enc (Wm.zz (nf (zs.getD k 0)))).length = p2 at *
          generalize (cat zs ss k).length = p1 at *
          generalize zs.getD k 0 = z at *
          generalize nf z = m at *
          generalize ss.getD k ByteArray.empty = t at *
          go_wp2_with fail
          refine (IN.out _).mono ?_
          rintro e w' ⟨rfl, rfl⟩
          go_wp2_with fail
          refine (ST.out _).mono ?_
          rintro e w4 ⟨rfl, hB4⟩
          have hcs4 := (hB4.cell (p := ⟨bt, ot + k, none⟩) hbt).trans hcs
          have hcz4 := (hB4.cell (p := ⟨bl, ol + k, none⟩) hbl).trans hcz
          have hbw4 := hB.trans (hB4.mono hB.size)
          have hbt4 : bt < w4.heap.size := Nat.lt_of_lt_of_le hbt hB4.size
          have hbl4 : bl < w4.heap.size := Nat.lt_of_lt_of_le hbl hB4.size
          clear hB4 hcs hcz hbt hbl
          have hmm : (m != m) = false := by simp
          go_upto_region 18 with fail
          go_cut [118] (fun c wx => c = .bool false ∧ Below w.heap.size w wx)
          case first =>
            go_region_held3 (fun w' => w'.cell? ⟨bl, ol + k, none⟩ = some (.int .i64 z) ∧ w'.cell? ⟨bt, ot + k, none⟩ = some (.string t)) (go_keep) ((go_at_call 11; refine (NF.out _).mono ?_; rintro e w5 ⟨rfl, hB5⟩; have hc5 := (hB5.cell (p := ⟨bt, ot + k, none⟩) hbt4).trans hcs4; have hd5 := (hB5.cell (p := ⟨bl, ol + k, none⟩) hbl4).trans hcz4))
            all_goals (go_wp2_with fail; go_meet; exact ⟨rfl, hbw4.trans ((show Below w4.heap.size w4 _ from ((Below.refl _ w4).drew).trans hB5).mono hbw4.size)⟩)
          case rest =>
            obtain ⟨rfl, hbw⟩ := hcut
            go_wp2
            exact ⟨⟨k + 1, by omega, by go_num, rfl, hbw⟩, by simp [intOf]; omega⟩
        · obtain rfl : n = k := by omega
          go_wp2_with fail
          refine (HEN.out _).mono ?_
          rintro e w' ⟨rfl, rfl⟩
          have hfin : (((cat zs ss n).length : Int) == (C.size : Int)) = true := by rw [HCS.out]; exact beq_self_eq_true _
          go_wp2
          go_ret
          exact ⟨rfl, hB⟩

/-- an element's address has no path -/
theorem strs_at {w : World} {a : Addr} {ss : List ByteArray} (h : ∀ i, i < ss.length → w.cell? (a.add i) = some (.string (ss.getD i ByteArray.empty))) (hp : 0 < ss.length) :
    ∃ b off, a = ⟨b, off, none⟩ ∧ ∀ j, j < ss.length → w.cell? ⟨b, off + j, none⟩ = some (.string (ss.getD j ByteArray.empty)) := by
  obtain ⟨b, off, spot⟩ := a
  have hspot : spot = none := by simpa [Addr.add] using World.cell?_spot (h 0 hp)
  subst hspot
  exact ⟨b, off, rfl, fun j hj => by rw [← Go.WideShapes.add_plain]; exact h j hj⟩
theorem in_range {zs : List Int} (h : ∀ n ∈ zs, (Lit.int .i64 n).wf = true) (j : Nat) (hj : j < zs.length) : -9223372036854775808 ≤ zs.getD j 0 ∧ zs.getD j 0 ≤ 9223372036854775807 := by
  have e : zs.getD j 0 = zs[j] := by simp [List.getD, hj]
  rw [e]
  exact Joins.in64_of_wf (h _ (List.getElem_mem hj))

end Go.Proofs.YtiffkoakpfpdgaaDoor
