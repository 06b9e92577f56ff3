/-
  The reference: Sum, Leaf, Node, Chain.
-/
import Derived.Test.YtegkckpanajgjaaDoorDigRefC
import Derived.Lib.SmallJoins
namespace Go.Proofs.YtegkckpanajgjaaDoor
open Go.RowKit

theorem back_str (w : World) (g o cap : Nat) (l : List Nat) (hl : ∀ x ∈ l, x < 256) (h : ∀ i, i < l.length → w.cell? ⟨g, o + i, none⟩ = some (.int .u8 ((l.getD i 0 : Nat) : Int))) :
    Sem.run Tryd.prog (convert 42 9 (.slice (some ⟨g, o, none⟩) l.length cap)) w = .ok (.string (Sh.ba l)) w := by
  have := Go.run_convert_bytes_back (P := Tryd.prog) w 42 9 5 ⟨g, o, none⟩ cap (l.map UInt8.ofNat) Tryd.underlying42 Tryd.underlying5 Tryd.underlying9 (fun i hi => by
    rw [List.length_map] at hi
    rw [Addr.add_lit, h i hi]
    have hx : l.getD i 0 < 256 := by rw [List.getD_eq_getElem?_getD, List.getElem?_eq_getElem hi]; exact hl _ (List.getElem_mem hi)
    have e : l[i] = l.getD i 0 := by simp [List.getD, hi]
    simp only [List.getElem_map]
    rw [e]
    congr 3
    rw [UInt8.toNat_ofNat_of_lt' hx])
  rwa [List.length_map] at this
def blkAt (P : List Nat) (t : Nat) : List Nat := (P.drop (64 * t)).take 64
def foldTo (P : List Nat) (t : Nat) : List Nat := ((List.range t).map (blkAt P)).foldl Sh.comp Sh.H0
theorem foldTo_next (P : List Nat) (t : Nat) : foldTo P (t + 1) = Sh.comp (foldTo P t) (blkAt P t) := by
  rw [foldTo, List.range_succ, List.map_append, List.foldl_append]; rfl
theorem foldTo_len (P : List Nat) (t : Nat) : (foldTo P t).length = 8 := Sh.foldl_len _ _ rfl
theorem flat_to (P : List Nat) : ∀ t, ((List.range t).map (blkAt P)).flatten = P.take (64 * t)
  | 0 => by simp
  | t + 1 => by
    rw [List.range_succ, List.map_append, List.flatten_append, flat_to P t, Nat.mul_succ, List.take_add]
    simp [blkAt]
theorem blkAt_len (P : List Nat) (t q : Nat) (hq : P.length = 64 * q) (ht : t < q) : (blkAt P t).length = 64 := by
  rw [blkAt, List.length_take, List.length_drop]; omega
theorem pad_q (m : List Nat) : ∃ q, (Sh.pad m).length = 64 * q ∧ 64 * q ≤ m.length + 128 := by
  rw [Sh.pad_len]
  exact ⟨(m.length + 1 + (119 - m.length % 64) % 64 + 8) / 64, by omega, by omega⟩
theorem sha_fold (m : List Nat) (q : Nat) (hq : (Sh.pad m).length = 64 * q) : Sh.shaN m = Sh.outs (foldTo (Sh.pad m) q) :=
  Sh.shaN_of m _ (fun y hy => by
    obtain ⟨t, ht, rfl⟩ := List.mem_map.1 hy
    exact blkAt_len _ t q hq (List.mem_range.1 ht)) (by rw [flat_to, ← hq, List.take_length])
theorem pad_lt (m : List Nat) (h : ∀ x ∈ m, x < 256) : ∀ x ∈ Sh.pad m, x < 256 := by
  intro x hx
  simp only [Sh.pad, List.mem_append, List.mem_singleton] at hx
  rcases hx with ((h1 | h1) | h1) | h1
  · exact h x h1
  · omega
  · rw [List.eq_of_mem_replicate h1]; omega
  · exact len8_lt _ x h1
theorem blkAt_lt (P : List Nat) (t : Nat) (h : ∀ x ∈ P, x < 256) (i : Nat) : (blkAt P t).getD i 0 < 256 :=
  getD_lt (fun x hx => h x (List.mem_of_mem_drop (List.mem_of_mem_take hx))) i
theorem outs_next (l : List Nat) (j : Nat) (h : j < l.length) : Sh.outs (l.take (j + 1)) = Sh.outs (l.take j) ++ Sh.bytes4 (l.getD j 0) := by
  rw [take_next l j h, Sh.outs, List.flatMap_append]; simp [Sh.outs]
theorem na4 (W : World) (x : Nat) : D1.NA (W.alloc (.cells #[.int .u8 ((x / 16777216 % 256 : Nat) : Int), .int .u8 ((x / 65536 % 256 : Nat) : Int), .int .u8 ((x / 256 % 256 : Nat) : Int), .int .u8 ((x % 256 : Nat) : Int)] 5)).drew (.slice (some ⟨W.heap.size, 0, none⟩) 4 4) (Sh.bytes4 x) :=
  ⟨_, 4, rfl, Nat.le_refl 4, by unfold maxLen; omega, .inr ⟨_, 0, rfl, by show _ < (W.alloc _).heap.size; rw [World.size_alloc]; omega, D1.RowAt.ua (RowAt.new W (u8s (Sh.bytes4 x)) _)⟩⟩
theorem H0_na (W : World) : D4.NA (W.alloc (.cells (u32s Sh.H0) 47)) (.slice (some ⟨W.heap.size, 0, none⟩) 8 8) Sh.H0 :=
  ⟨_, 8, rfl, by decide, by unfold maxLen; omega, .inr ⟨_, 0, rfl, by rw [World.size_alloc]; omega, D4.RowAt.ua (RowAt.new W (u32s Sh.H0) _)⟩⟩

set_option maxRecDepth 100000 in
set_option maxHeartbeats 2000000 in
theorem Sum_ref (s : ByteArray) (hs : s.size ≤ 90000) (w : World) :
    Calls Tryd.prog 13 #[.string s] w fun e w' => e = .returned (.string (Sh.sha s)) ∧ Below w.heap.size w w' := by
  have ce := fun W => extended_ref s (by omega) W
  obtain ⟨q, hq, hq2⟩ := pad_q (Sh.bl s)
  rw [Sh.bl_len] at hq2
  have hsh : Sh.sha s = Sh.ba (Sh.outs (foldTo (Sh.pad (Sh.bl s)) q)) := by rw [Sh.sha, sha_fold _ q hq]
  have hlt := pad_lt (Sh.bl s) (Sh.bl_lt s)
  have hq1 : 1 ≤ (Sh.pad (Sh.bl s)).length := by rw [Sh.pad_len]; omega
  obtain ⟨R, hR⟩ : ∃ R, R = Sh.sha s := ⟨_, rfl⟩
  rw [← hR] at hsh ⊢
  have HSH : Shut _ := ⟨hsh⟩
  have HLT : Shut _ := ⟨hlt⟩
  clear hR hsh hlt
  generalize Sh.pad (Sh.bl s) = P at *
  go_enter Tryd.func13, Tryd.ntmps13
  go_upto_region 2 with fail
  have hH := H0_na w
  have hB0 : Below w.heap.size w (w.alloc (.cells (u32s Sh.H0) 47)) := (Below.refl _ _).alloc (Nat.le_refl _) _
  rw [show (w.alloc (.cells #[.int .u32 1779033703, .int .u32 3144134277, .int .u32 1013904242, .int .u32 2773480762, .int .u32 1359893119, .int .u32 2600822924, .int .u32 528734635, .int .u32 1541459225] 47)) = w.alloc (.cells (u32s Sh.H0) 47) from rfl]
  generalize w.alloc (.cells (u32s Sh.H0) 47) = w0 at *
  go_upto_region 99 with (go_at_call 38; refine (ce _).mono ?_; rintro e w1 ⟨vb, rfl, hO1, hB1⟩)
  obtain ⟨pb, cb, gb, ob, rfl, hcb, hmb, hpb, hub⟩ := (D1.OwnU.na hO1).open
  obtain ⟨rfl, hgb⟩ := hpb (by omega)
  obtain ⟨N, hN⟩ : ∃ N, N = P.length := ⟨_, rfl⟩
  rw [← hN] at hq hcb ⊢
  have hB2 := hB0.trans (hB1.mono hB0.size)
  have HUB : Shut (∀ i, i < N → w1.cell? ⟨gb, ob + i, none⟩ = some (.int .u8 ((P.getD i 0 : Nat) : Int))) := ⟨fun i hi => hub i (by omega)⟩
  have HH0 : Shut (D4.NA w1 (.slice (some ⟨w.heap.size, 0, none⟩) 8 8) (foldTo P 0)) := ⟨hH.below hB1 (Nat.le_refl _)⟩
  have HB2 : Shut _ := ⟨hB2⟩
  have HGB : Shut _ := ⟨hgb⟩
  have HPN : Shut _ := ⟨hN⟩
  have HQ : Shut (N = 64 * q) := ⟨hq⟩
  have hN9 : N ≤ 100000 := by omega
  unfold maxLen at hmb
  clear hO1 hB0 hB1 hB2 hH hub hpb hN ce hgb hq hq1
  go_loopw [3, 5] (fun v iv W => ∃ t I : Nat, t ≤ q ∧ Shut (I = 64 * t) ∧ iv = .int .i64 (I : Int) ∧ Shut (D4.NA W v (foldTo P t)) ∧ Shut (Below w1.heap.size w1 W)) (fun _ iv _ => 200000 - (intOf iv).toNat)
  case atStart => exact ⟨0, 0, by omega, ⟨rfl⟩, rfl, HH0, ⟨Below.refl _ _⟩⟩
  case round =>
    clear HH0
    rename World => wo
    obtain ⟨t, I, ht, HI, rfl, hN, hB⟩ := hrel
    by_cases htq : t < q
    · have hIN : I < N := by have := HI.o; have := HQ.o; omega
      have hIN2 : I + 64 ≤ N := by have := HI.o; have := HQ.o; omega
      have j1 : (I : Int) < (N : Int) := by omega
      have j2 : IntKind.i64.wrap ((I : Int) + 64) = (I : Int) + 64 := by simp [IntKind.wrap, IntKind.signed, IntKind.bits]; omega
      have j3 : (I : Int) + 64 ≤ (cb : Int) := by omega
      have j4 : ((I : Int) + 64).toNat = I + 64 := by omega
      have j5 : (0 : Int) ≤ (I : Int) + 64 := by omega
      have hNB : D1.NA wo (.slice (some ⟨gb, ob + I, none⟩) 64 (cb - I)) (blkAt P t) := by
        have hbl := blkAt_len P t q (by rw [← HPN.o]; exact HQ.o) htq
        refine ⟨_, cb - I, by rw [hbl], by rw [hbl]; omega, by unfold maxLen; omega, .inr ⟨gb, ob + I, rfl, Nat.lt_of_lt_of_le HGB.o hB.o.size, fun i hi => ?_⟩⟩
        rw [hbl] at hi
        have h1 := (hB.o.cell (p := ⟨gb, ob + (I + i), none⟩) HGB.o).trans (HUB.o (I + i) (by omega))
        rw [Nat.add_assoc]
        rw [h1, blkAt, HI.o]
        simp [List.getD, List.getElem?_drop, hi]
      have hlen := foldTo_len P t
      have cb2 := fun (v : Value) (hv : D4.NA wo v (foldTo P t)) => block_ref (foldTo P t) (blkAt P t) hlen (blkAt_len P t q (by rw [← HPN.o]; exact HQ.o) htq) (fun i => blkAt_lt P t HLT.o i) v _ wo hv hNB
      rw [← foldTo_next] at cb2
      have HBo : Shut _ := ⟨hB.o⟩
      clear hNB hB
      go_wp2_with (go_at_call 39; refine (cb2 _ hN.o).mono ?_; rintro e w5 ⟨v5, rfl, hv5, hB5⟩)
      exact ⟨⟨t + 1, I + 64, by omega, ⟨by have := HI.o; omega⟩, by go_num, ⟨hv5⟩, ⟨HBo.o.trans (hB5.mono HBo.o.size)⟩⟩, by simp [intOf]; omega⟩
    · obtain rfl : t = q := by omega
      have hIN : ¬ (I : Int) < (N : Int) := by have := HI.o; have := HQ.o; omega
      go_upto_region 99 with fail
      obtain ⟨ph, ch, gh, oh, rfl, hch, hmh, hph, huh⟩ := hN.o.open
      have hfl := foldTo_len P t
      obtain ⟨rfl, hgh⟩ := hph (by omega)
      have HUH : Shut (∀ i, i < 8 → wo.cell? ⟨gh, oh + i, none⟩ = some (.int .u32 (((foldTo P t).getD i 0 : Nat) : Int))) := ⟨fun i hi => huh i (by omega)⟩
      have HGH : Shut _ := ⟨hgh⟩
      have HFL : Shut _ := ⟨hfl⟩
      have HBO : Shut _ := ⟨HB2.o.trans (hB.o.mono HB2.o.size)⟩
      rw [hfl]
      clear huh hph hN hB hch hmh hgh hfl hIN htq ht
      generalize foldTo P t = h at *
      go_loopw [6, 7] (fun v iv W => ∃ j : Nat, j ≤ 8 ∧ iv = .int .i64 j ∧ Shut (D1.OwnU W wo.heap.size v (Sh.outs (h.take j))) ∧ Shut (Below wo.heap.size wo W)) (fun _ iv _ => 8 - (intOf iv).toNat)
      case atStart => exact ⟨0, by omega, rfl, ⟨D1.OwnU.nil _ _⟩, ⟨Below.refl _ _⟩⟩
      case round =>
        obtain ⟨j, hj, rfl, hO, hB⟩ := hrel
        have hbs := hB.o.size
        have hO2 := hO.o
        by_cases hj8 : j < 8
        · have c0 := (hB.o.cell (p := ⟨gh, oh + j, none⟩) HGH.o).trans (HUH.o j hj8)
          have HCE : Shut (∀ W, Below wo.heap.size wo W → W.cell? ⟨gh, oh + j, none⟩ = some (.int .u32 ((h.getD j 0 : Nat) : Int))) := ⟨fun W hW => (hW.cell (p := ⟨gh, oh + j, none⟩) HGH.o).trans (HUH.o j hj8)⟩
          have HV : Shut (Sh.outs (h.take (j + 1)) = Sh.outs (h.take j) ++ Sh.bytes4 (h.getD j 0)) := ⟨outs_next h j (by rw [HFL.o]; exact hj8)⟩
          have hLL : (Sh.outs (h.take j)).length ≤ 100 := by rw [Sh.outs_len, List.length_take]; omega
          clear hO
          generalize h.getD j 0 = x at *
          generalize Sh.outs (h.take j) = L at *
          have hji : (j : Int) < 8 := by omega
          have r1 : IntKind.u8.wrap ((x : Int) / 16777216) = ((x / 16777216 % 256 : Nat) : Int) := by simp [IntKind.wrap, IntKind.signed, IntKind.bits]
          have r2 : IntKind.u8.wrap ((x : Int) / 65536) = ((x / 65536 % 256 : Nat) : Int) := by simp [IntKind.wrap, IntKind.signed, IntKind.bits]
          have r3 : IntKind.u8.wrap ((x : Int) / 256) = ((x / 256 % 256 : Nat) : Int) := by simp [IntKind.wrap, IntKind.signed, IntKind.bits]
          have r4 : IntKind.u8.wrap (x : Int) = ((x % 256 : Nat) : Int) := by simp [IntKind.wrap, IntKind.signed, IntKind.bits]
          have hN3 := na4 wr x
          have hd : Below wr.heap.size wr (wr.alloc (.cells #[.int .u8 ((x / 16777216 % 256 : Nat) : Int), .int .u8 ((x / 65536 % 256 : Nat) : Int), .int .u8 ((x / 256 % 256 : Nat) : Int), .int .u8 ((x % 256 : Nat) : Int)] 5)).drew := ((Below.refl wr.heap.size wr).alloc (Nat.le_refl _) _).drew
          have hO3 := D1.OwnU.below hO2 hd
          have hal := hB.o.trans (hd.mono hbs)
          have hl4 : (Sh.bytes4 x).length = 4 := rfl
          go_wp2_with fail
          go_region_held3 (fun W => W.cell? ⟨gh, oh + j, none⟩ = some (.int .u32 (x : Int))) (go_keep) (first | (refine D1.step_at 53 28 52 wo.heap.size _ L rfl hO3 _ (Sh.bytes4 x) rfl hN3 (by rw [hl4]; omega) (Nat.le_trans hbs hd.size) ?_; intro v9 w9 hO9 hB9; have hB10 := hal.trans hB9; have q0 := HCE.o w9 hB10))
          go_wp2
          exact ⟨⟨j + 1, by omega, by go_num, ⟨by rw [HV.o]; exact hO9⟩, ⟨hB10⟩⟩, by simp [intOf]; omega⟩
        · obtain rfl : j = 8 := by omega
          rw [List.take_of_length_le (by rw [HFL.o]; omega)] at hO2
          have hol : (Sh.outs h).length = 32 := by rw [Sh.outs_len, HFL.o]
          obtain ⟨po, co, go, oo, rfl, hco, hmo, hpo, huo⟩ := (D1.OwnU.na hO2).open
          obtain ⟨rfl, _⟩ := hpo (by omega)
          have hcv := back_str wr go oo co (Sh.outs h) (Sh.outs_lt h) huo
          rw [← HSH.o] at hcv
          rw [hol] at hcv ⊢
          clear hO2 hO hpo huo hco hmo hol
          go_wp2
          go_ret
          exact ⟨rfl, HBO.o.trans (hB.o.mono HBO.o.size)⟩
end Go.Proofs.YtegkckpanajgjaaDoor
