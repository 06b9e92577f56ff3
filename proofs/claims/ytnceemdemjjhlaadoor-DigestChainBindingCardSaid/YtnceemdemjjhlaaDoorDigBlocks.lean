/-
  The iterator over the blocks of the parts.
-/
import Derived.Test.YtnceemdemjjhlaaDoorDigPad
import Derived.ScopeJumps
namespace Go.Proofs.YtnceemdemjjhlaaDoor
open Go.RowKit Go.Shelf

attribute [local go_sem] Oper.semAt_some

/-- the bytes of the strings, one after the other -/
def allB (ss : List ByteArray) : List Nat := ss.flatMap Sh.bl
/-- the strings lie in block pb -/
def PartsAt (W : World) (pb : Nat) (ss : List ByteArray) : Prop := ∀ i (h : i < ss.length), W.cell? ⟨pb, i, none⟩ = some (.string ss[i])
theorem allB_snoc (ss : List ByteArray) (i : Nat) (h : i < ss.length) : allB (ss.take (i + 1)) = allB (ss.take i) ++ Sh.bl ss[i] := by
  rw [allB, allB, List.take_succ_eq_append_getElem h, List.flatMap_append]; simp
theorem allB_le (ss : List ByteArray) (i : Nat) : (allB (ss.take i)).length ≤ (allB ss).length := by
  have : allB ss = allB (ss.take i) ++ allB (ss.drop i) := by rw [allB, allB, allB, ← List.flatMap_append, List.take_append_drop]
  rw [this, List.length_append]; omega
theorem bl_drop (p : ByteArray) (c : Nat) : Sh.bl (p.extract c p.size) = (Sh.bl p).drop c := by
  simp only [Sh.bl, ByteArray.data_extract, Array.toList_extract, List.extract_eq_take_drop, List.map_take, List.map_drop]
  exact List.take_of_length_le (by simp)
def strSize : Value → Nat
  | .string s => s.size
  | _ => 0

/-- all that the iterator's walk knows of the memory -/
structure Mem (W : World) (b : Nat) (L : List Nat) (u : Nat) (xs : List Blk) (T : List Nat) (J : List Blk → World → Prop) (pb : Nat) (ss : List ByteArray) : Prop where
  row : RowAt W b (u8s L) 65
  buf : Buf L u xs T
  inv : J xs W
  parts : PartsAt W pb ss

def zero64 : List Nat := List.replicate 64 0
theorem zero64_eq : zero64 = List.replicate 64 0 := rfl
theorem zb64 : #[Value.int IntKind.u8 0, Value.int IntKind.u8 0, Value.int IntKind.u8 0, Value.int IntKind.u8 0, Value.int IntKind.u8 0, Value.int IntKind.u8 0, Value.int IntKind.u8 0, Value.int IntKind.u8 0, Value.int IntKind.u8 0, Value.int IntKind.u8 0, Value.int IntKind.u8 0, Value.int IntKind.u8 0, Value.int IntKind.u8 0, Value.int IntKind.u8 0, Value.int IntKind.u8 0, Value.int IntKind.u8 0, Value.int IntKind.u8 0, Value.int IntKind.u8 0, Value.int IntKind.u8 0, Value.int IntKind.u8 0, Value.int IntKind.u8 0, Value.int IntKind.u8 0, Value.int IntKind.u8 0, Value.int IntKind.u8 0, Value.int IntKind.u8 0, Value.int IntKind.u8 0, Value.int IntKind.u8 0, Value.int IntKind.u8 0, Value.int IntKind.u8 0, Value.int IntKind.u8 0, Value.int IntKind.u8 0, Value.int IntKind.u8 0, Value.int IntKind.u8 0, Value.int IntKind.u8 0, Value.int IntKind.u8 0, Value.int IntKind.u8 0, Value.int IntKind.u8 0, Value.int IntKind.u8 0, Value.int IntKind.u8 0, Value.int IntKind.u8 0, Value.int IntKind.u8 0, Value.int IntKind.u8 0, Value.int IntKind.u8 0, Value.int IntKind.u8 0, Value.int IntKind.u8 0, Value.int IntKind.u8 0, Value.int IntKind.u8 0, Value.int IntKind.u8 0, Value.int IntKind.u8 0, Value.int IntKind.u8 0, Value.int IntKind.u8 0, Value.int IntKind.u8 0, Value.int IntKind.u8 0, Value.int IntKind.u8 0, Value.int IntKind.u8 0, Value.int IntKind.u8 0, Value.int IntKind.u8 0, Value.int IntKind.u8 0, Value.int IntKind.u8 0, Value.int IntKind.u8 0, Value.int IntKind.u8 0, Value.int IntKind.u8 0, Value.int IntKind.u8 0, Value.int IntKind.u8 0] = u8s (List.replicate 64 0) := rfl
set_option maxRecDepth 100000 in
set_option maxHeartbeats 2000000 in
theorem blocks1_in (n : Nat) (hn : 1 ≤ n) (l Bn pb s : Nat) (ss : List ByteArray) (cap : Nat) (hlen : (allB ss).length ≤ 1048576) (hss : ss.length ≤ 1048576) (J : List Blk → World → Prop)
    (W : World) (hJ : AbC W.heap.size J) (hsl : s < W.heap.size) (hpl : pb < W.heap.size) (hBs : Bn ≠ s) (hps : pb ≠ s)
    (hY : ∀ pre x W1, J pre W1 → YieldAt Fence.wide (n - 1) Tryd.prog l #[.agg (u8s x.val)] W1 fun e W' => e = .returned (.bool true) ∧ J (pre ++ [x]) W' ∧ KeptC s W1 W')
    (hBn : W.cell? ⟨Bn, 0, none⟩ = some (.slice (some ⟨pb, 0, none⟩) ss.length cap)) (hP : PartsAt W pb ss) (h0 : J [] W) :
    CallsIn Fence.wide n Tryd.prog 53 #[.func (.yield l) #[] #[], .pointer (some ⟨Bn, 0, none⟩)] W fun e W' => (∃ v, e = .returned v) ∧ ∃ xs, flat xs = Sh.pad (allB ss) ∧ J xs W' := by
  refine callsIn_of_wp Tryd.func53 rfl trivial ?_ rfl
  simp only [Tryd.ntmps53, List.size_toArray, List.length_cons, List.length_nil, Nat.reduceAdd, Nat.reduceSub, Array.replicate_succ, Array.replicate_zero, List.push_toArray, List.append_toArray, List.nil_append, List.cons_append]
  refine wpIn_scope_own ?_
  gi_wp2
  refine wpIn_label ?_
  rw [zb64]
  have hr := RowAt.new W (u8s (List.replicate 64 0)) 65
  have hj := hJ.alloc (.cells (u8s (List.replicate 64 0)) 65) h0
  have hz : (W.alloc (.cells (u8s (List.replicate 64 0)) 65)).heap.size = W.heap.size + 1 := World.size_alloc _ _
  have hk : KeptC s W (W.alloc (.cells (u8s (List.replicate 64 0)) 65)) := (Kept.of_below ((Below.refl _ W).alloc (Nat.le_refl _) _)).c
  generalize W.alloc (.cells (u8s (List.replicate 64 0)) 65) = W0 at *
  have hc0 := cell_keptC hBn hk hBs
  have hm0 : Shut (Mem W0 W.heap.size (List.replicate 64 0) 0 [] (allB (ss.take 0)) J pb ss) := ⟨⟨hr, Buf.start, hj, fun i h => cell_keptC (hP i h) hk hps⟩⟩
  have HJ : Shut _ := ⟨hJ⟩
  have HY : Shut _ := ⟨hY⟩
  clear hr hj hk hBn hP h0 hJ hY hBs
  generalize hb : W.heap.size = b at *
  have hlt0 : b < W0.heap.size := by omega
  clear hz
  gi_wp2
  gi_loopw [4, 5, 13] (fun u5 z5 i5 wr => ∃ (i u : Nat) (L : List Nat) (xs : List Blk), i ≤ ss.length ∧ i5 = .int .i64 i ∧ u < 64 ∧ u5 = .int .i64 u ∧ z5 = .int .i64 ((allB (ss.take i)).length : Nat) ∧ b < wr.heap.size ∧ Shut (Mem wr b L u xs (allB (ss.take i)) J pb ss))
    (fun _ _ i5 _ => ss.length - (intOf i5).toNat)
  case atStart => exact ⟨0, 0, _, [], by omega, rfl, by omega, rfl, rfl, hlt0, hm0⟩
  case round =>
    obtain ⟨i, u, L, xs, hi, rfl, hu, rfl, rfl, hbw, hm⟩ := hrel
    have hle := allB_le ss i
    by_cases hin : i < ss.length
    · have hci := hm.o.parts i hin
      have HS : Shut (allB (ss.take (i + 1)) = allB (ss.take i) ++ Sh.bl ss[i]) := ⟨allB_snoc ss i hin⟩
      have hle1 : (allB (ss.take i)).length + ss[i].size ≤ 1048576 := by
        have := allB_le ss (i + 1); rw [HS.o, List.length_append, Sh.bl_len] at this; omega
      generalize hsi : ss[i] = si at *
      clear hsi
      obtain ⟨N, hN⟩ : ∃ N, N = (allB (ss.take i)).length := ⟨_, rfl⟩
      rw [← hN] at hle1 hle ⊢
      have HN : Shut _ := ⟨hN⟩
      clear hN
      gi_wp2
      gi_loopw [4, 7] (fun u6 p6 w6 => ∃ (k u : Nat) (p : ByteArray) (L : List Nat) (xs : List Blk), k + p.size = si.size ∧ p6 = .string p ∧ u < 64 ∧ u6 = .int .i64 u ∧ b < w6.heap.size ∧ Shut (Sh.bl p = (Sh.bl si).drop k) ∧ Shut (Mem w6 b L u xs (allB (ss.take i) ++ (Sh.bl si).take k) J pb ss))
        (fun _ p6 _ => strSize p6)
      case atStart => exact ⟨0, u, si, L, xs, by omega, rfl, hu, rfl, hbw, ⟨rfl⟩, ⟨by rw [List.take_zero, List.append_nil]; exact hm.o⟩⟩
      case round =>
        clear hm hbw hu
        obtain ⟨k, u, p, L, xs, hk, rfl, hu, rfl, hbw, hbp, hm⟩ := hrel
        obtain ⟨c, hcd⟩ : ∃ c, c = min p.size (64 - u) := ⟨_, rfl⟩
        have hsl : Sem.run Tryd.prog (Instr.sliceAt 65 (.pointer (some ⟨b, 0, none⟩)) (some (.int .i64 (u : Int))) none none) wr = .ok (.slice (some ⟨b, u, none⟩) (64 - u) (64 - u)) wr := by
          have := slice_from b u (by omega) wr; rwa [if_neg (by omega)] at this
        have hcp := fun ty => copy_str wr b u c (64 - u) L p ty hm.o.row hm.o.buf.len hcd (by omega)
        have hJ2 := HJ.o.below (fun W => W.setRow b (u8s (L.take u ++ (Sh.bl p).take c ++ L.drop (u + c)))) b hm.o.inv (grownBy_setRow _ _ _) (by omega)
        have hr2 := hm.o.row.row_same (u8s (L.take u ++ (Sh.bl p).take c ++ L.drop (u + c)))
        have hb2 : Buf _ (u + c) xs (allB (ss.take i) ++ (Sh.bl si).take k ++ (Sh.bl p).take c) := hm.o.buf.copied (B := Sh.bl p) (by rw [Sh.bl_len]; exact hcd) (by omega) (Sh.bl_lt p)
        have hp2 : PartsAt (wr.setRow b (u8s (L.take u ++ (Sh.bl p).take c ++ L.drop (u + c)))) pb ss := fun j hj => (cell_setRow_other wr b _ ⟨pb, j, none⟩ (by simp; omega)).trans (hm.o.parts j hj)
        have hz2 : (wr.setRow b (u8s (L.take u ++ (Sh.bl p).take c ++ L.drop (u + c)))).heap.size = wr.heap.size := by simp [World.setRow]
        have hT2 : allB (ss.take i) ++ (Sh.bl si).take k ++ (Sh.bl p).take c = allB (ss.take i) ++ (Sh.bl si).take (k + c) := by
          rw [hbp.o, List.append_assoc, ← List.take_add]
        rw [hT2] at hb2
        have hbp2 : Shut (Sh.bl (p.extract c p.size) = (Sh.bl si).drop (k + c)) := ⟨by
          have e1 : Sh.bl (p.extract c p.size) = (Sh.bl p).drop c := bl_drop p c
          rw [e1, hbp.o, List.drop_drop]⟩
        have hex : (p.extract c p.size).size = p.size - c := by simp
        have hbw2 : b < (wr.setRow b (u8s (L.take u ++ (Sh.bl p).take c ++ L.drop (u + c)))).heap.size := by omega
        have hm2 : Shut (Mem (wr.setRow b (u8s (L.take u ++ (Sh.bl p).take c ++ L.drop (u + c)))) b (L.take u ++ (Sh.bl p).take c ++ L.drop (u + c)) (u + c) xs (allB (ss.take i) ++ (Sh.bl si).take (k + c)) J pb ss) := ⟨⟨hr2, hb2, hJ2, hp2⟩⟩
        clear hm hJ2 hr2 hb2 hp2 hz2 hT2 hbp
        generalize L.take u ++ (Sh.bl p).take c ++ L.drop (u + c) = L2 at *
        generalize wr.setRow b (u8s L2) = W2 at *
        by_cases hun : u + c < 64
        · have hcp2 : c = p.size := by omega
          have HE : Shut (allB (ss.take (i + 1)) = allB (ss.take i) ++ (Sh.bl si).take (k + c)) := ⟨by
            have e : (Sh.bl si).take (k + c) = Sh.bl si := List.take_of_length_le (by rw [Sh.bl_len]; omega)
            rw [HS.o, e]⟩
          have HZ : Shut ((allB (ss.take (i + 1))).length = N + si.size) := ⟨by rw [HS.o, List.length_append, Sh.bl_len, ← HN.o]⟩
          clear hcd hbp2
          gi_wp2
          refine ⟨⟨i + 1, u + c, L2, xs, by omega, by go_num, hun, by rw [hcp2]; go_num, by rw [HZ.o]; go_num, hbw2, ⟨by rw [HE.o]; exact hm2.o⟩⟩, by simp [intOf]; omega⟩
        · obtain ⟨fn, tmps, assign, body, hy, hR⟩ := HY.o xs hm2.o.buf.blk W2 hm2.o.inv
          have hl2 := hm2.o.row
          have hsz : (Tryd.prog.info? 65).map (·.size) = some (u8s L2).size := by rw [u8s_size, hm2.o.buf.len]; exact infoB
          have hcpos : 0 < c := by omega
          have hcle : c ≤ p.size := by omega
          have hu64 : u + c = 64 := by omega
          clear hcd
          have HL2 : Shut _ := ⟨hl2⟩
          have HSZ : Shut _ := ⟨hsz⟩
          clear hl2 hsz
          have hy' : (Instr.yield l #[Value.agg (u8s L2)]).run Tryd.prog W2 = .ok (.round l fn tmps assign body) W2 := hy
          clear hy
          gi_wp2_with (refine wpListIn_load_row rfl 65 _ rfl b rfl 65 (u8s L2) _ HL2.o Tryd.underlying65 rfl HSZ.o ?_)
          refine hR.mono ?_
          rintro e W3 ⟨rfl, hJ3, hk3⟩
          have hm3 : Shut (Mem W3 b L2 0 (xs ++ [hm2.o.buf.blk]) (allB (ss.take i) ++ (Sh.bl si).take (k + c)) J pb ss) :=
            ⟨⟨HL2.o.keptC hk3 (by omega), hm2.o.buf.handed (by omega), hJ3, fun j hj => cell_keptC (hm2.o.parts j hj) hk3 hps⟩⟩
          have hbw3 : b < W3.heap.size := Nat.lt_of_lt_of_le hbw2 hk3.1
          gi_wp2
          exact ⟨⟨k + c, 0, p.extract c p.size, L2, _, by omega, rfl, by omega, rfl, hbw3, hbp2, hm3⟩, by show (p.extract c p.size).size < p.size; omega⟩
    · have hi' : i = ss.length := by omega
      have hT : allB (ss.take i) = allB ss := by rw [hi', List.take_length]
      have HTL : Shut (allB (ss.take i) = allB ss) := ⟨hT⟩
      have cu := hm.o.row.u8 u (by rw [hm.o.buf.len]; exact hu)
      have fu := hm.o.row.frozen u
      have hp1 : PartsAt (wr.setCell ⟨b, u, none⟩ (.int .u8 128)) pb ss := fun j hj => (World.cell?_setCell_other _ _ _ _ (by intro e; injection e with e1; omega)).trans (hm.o.parts j hj)
      have hr1 : RowAt (wr.setCell ⟨b, u, none⟩ (.int .u8 128)) b (u8s (L.set u 128)) 65 := hm.o.row.set8 u 128
      have hj1 := HJ.o.below (fun W => W.setCell ⟨b, u, none⟩ (.int .u8 128)) b hm.o.inv (grownBy_setCell_own _ _ _ _) (by omega)
      have hz1 : b < (wr.setCell ⟨b, u, none⟩ (.int .u8 128)).heap.size := by simp [World.setCell]; exact hbw
      generalize hw1 : wr.setCell ⟨b, u, none⟩ (.int .u8 128) = W1 at *
      have HW1 : Shut _ := ⟨hw1⟩
      have hsl := slice_from b (u + 1) (by omega) W1
      rw [show ((u + 1 : Nat) : Int) = (u : Int) + 1 by omega] at hsl
      obtain ⟨pa, hpa⟩ : ∃ pa, pa = (if u + 1 = 64 then (⟨b, 0, none⟩ : Addr) else ⟨b, u + 1, none⟩) := ⟨_, rfl⟩
      rw [← hpa, show 64 - (u + 1) = 63 - u by omega] at hsl
      have hcl := fun ty => clear_row W1 b (u + 1) (63 - u) (63 - u) (some pa) (fun h => by rw [hpa, if_neg (by omega)]) (L.set u 128) ty hr1 (by rw [List.length_set, hm.o.buf.len]; omega)
      rw [marked_eq L u _ hm.o.buf.len hu (by omega)] at hcl
      have hr2 := hr1.row_same (u8s (marked L u))
      have hj2 := HJ.o.below (fun W => W.setRow b (u8s (marked L u))) b hj1 (grownBy_setRow _ _ _) (by omega)
      have hz2 : b < (W1.setRow b (u8s (marked L u))).heap.size := by simp [World.setRow]; exact hz1
      generalize W1.setRow b (u8s (marked L u)) = W2 at *
      have hml := marked_len L u hm.o.buf.len hu
      have hmlt := marked_lt L u hm.o.buf.lt
      obtain ⟨N, hN⟩ : ∃ N, N = (allB (ss.take i)).length := ⟨_, rfl⟩
      have HN : Shut (N = (allB ss).length) := ⟨by rw [hN, hT]⟩
      rw [← hN] at hle ⊢
      have HM : Shut (Buf L u xs (allB ss)) := ⟨by rw [← hT]; exact hm.o.buf⟩
      have HR2 : Shut _ := ⟨hr2⟩
      have HJ2 : Shut _ := ⟨hj2⟩
      have HML : Shut _ := ⟨hml⟩
      have HMLT : Shut _ := ⟨hmlt⟩
      clear hm hp1 hr1 hj1 hpa hr2 hj2 hN hT hi' hml hmlt hbw
      by_cases h56 : u < 56
      · have hB2 : b < W2.heap.size := hz2
        clear hz2
        have HE : Shut (∀ x : Blk, x.val = lastly (marked L u) N 8 → flat (xs ++ [x]) = Sh.pad (allB ss)) := ⟨fun x hx => pad_small HM.o h56 x (by rw [← HN.o]; exact hx)⟩
        have d56 : decide ((56 : Int) ≤ (u : Int)) = false := decide_eq_false (by omega)
        have HRZ := HR2
        have HJZ := HJ2
        have HLL := HML
        have HLT := HMLT
        clear HR2 HJ2 HML HMLT
        generalize hLz : marked L u = Lz at *
        clear hLz
        gi_wp2
        gi_loopw [53] (fun i5 w5 => ∃ i : Nat, i ≤ 8 ∧ i5 = .int .i64 i ∧ b < w5.heap.size ∧ Shut (RowAt w5 b (u8s (lastly Lz N i)) 65) ∧ Shut (J xs w5)) (fun i5 _ => 8 - (intOf i5).toNat)
        case atStart => exact ⟨0, by omega, rfl, hB2, ⟨by rw [lastly_zero _ _ HLL.o]; exact HRZ.o⟩, HJZ⟩
        case round =>
          clear HRZ HJZ hB2 hcl hsl cu fu
          obtain ⟨j, hj, rfl, hB3, HR3, HJ3⟩ := hrel
          have hlen8 := lastly_len Lz N j HLL.o (by omega)
          by_cases hj8 : j < 8
          · have cj := HR3.o.u8 (63 - j) (by rw [hlen8]; omega)
            have fj := HR3.o.frozen (63 - j)
            generalize (lastly Lz N j).getD (63 - j) 0 = old at *
            clear hlen8
            gi_wp2
            have hv : (8 * (N : Int) / 2 ^ (8 * j) % 256) = (((Sh.len8 N).getD (7 - j) 0 : Nat) : Int) := by
              rw [len8_get N j hj8, Int.natCast_emod, Int.natCast_ediv, Int.natCast_mul, Int.natCast_pow]; rfl
            rw [hv]
            have hr4 := HR3.o.set8 (63 - j) ((Sh.len8 N).getD (7 - j) 0)
            rw [lastly_step Lz N j HLL.o hj8] at hr4
            exact ⟨⟨j + 1, by omega, by go_num, by simp [World.setCell]; exact hB3, ⟨hr4⟩, ⟨HJ.o.below (fun W => W.setCell ⟨b, 63 - j, none⟩ _) b HJ3.o (grownBy_setCell_own _ _ _ _) (by omega)⟩⟩, by simp [intOf]; omega⟩
          · obtain rfl : j = 8 := by omega
            have hxlt := getD_lt (lastly_lt Lz N 8 HLT.o)
            obtain ⟨x, hx⟩ : ∃ x : Blk, x.val = lastly Lz N 8 := ⟨⟨lastly Lz N 8, hlen8, hxlt⟩, rfl⟩
            have hfin := HE.o x hx
            obtain ⟨fn, tmps, assign, body, hy, hR⟩ := HY.o xs x wr HJ3.o
            rw [← hx] at HR3
            have HSZ : Shut ((Tryd.prog.info? 65).map (·.size) = some (u8s x.val).size) := ⟨by rw [u8s_size, x.len]; exact infoB⟩
            have HFIN : Shut _ := ⟨hfin⟩
            clear hx hfin hlen8 hxlt hj8
            gi_wp2_with (refine wpListIn_load_row rfl 65 _ rfl b rfl 65 (u8s x.val) _ HR3.o Tryd.underlying65 rfl HSZ.o ?_)
            refine hR.mono ?_
            rintro e W4 ⟨rfl, hJ4, hk4⟩
            gi_wp2
            simp only [Exit.noGoto]
            go_end0
            exact ⟨⟨_, rfl⟩, _, HFIN.o, hJ4⟩
      · have d56 : decide ((56 : Int) ≤ (u : Int)) = true := decide_eq_true (by omega)
        obtain ⟨x1, hx1⟩ : ∃ x : Blk, x.val = marked L u := ⟨⟨marked L u, HML.o, getD_lt HMLT.o⟩, rfl⟩
        have HE : Shut (∀ x : Blk, x.val = lastly zero64 N 8 → flat ((xs ++ [x1]) ++ [x]) = Sh.pad (allB ss)) := ⟨fun x hx => pad_big HM.o hu (by omega) x1 x hx1 (by rw [← HN.o]; exact hx)⟩
        obtain ⟨fn, tmps, assign, body, hy, hR⟩ := HY.o xs x1 W2 HJ2.o
        rw [← hx1] at HR2
        have HSZ : Shut ((Tryd.prog.info? 65).map (·.size) = some (u8s x1.val).size) := ⟨by rw [u8s_size, x1.len]; exact infoB⟩
        clear hx1 HML HMLT
        gi_wp2_with (refine wpListIn_load_row rfl 65 _ rfl b rfl 65 (u8s x1.val) _ HR2.o Tryd.underlying65 rfl HSZ.o ?_)
        refine hR.mono ?_
        rintro e W3 ⟨rfl, hJ3, hk3⟩
        have HR3 : Shut (RowAt W3 b (u8s x1.val) 65) := ⟨HR2.o.keptC hk3 (by omega)⟩
        have HJ3 : Shut _ := ⟨hJ3⟩
        have hb3 : b < W3.heap.size := Nat.lt_of_lt_of_le hz2 hk3.1
        clear hR hk3 hJ3 hy HR2 HJ2 hz2
        have HZS : Shut ((Tryd.prog.info? 65).map (·.size) = some (u8s zero64).size) := ⟨by rw [u8s_size]; exact infoB⟩
        have HZO : Shut ((u8s x1.val).size = (u8s zero64).size) := ⟨by rw [u8s_size, u8s_size, x1.len]; rfl⟩
        have HZ1 : Shut ((u8s zero64).all (·.oneCell') = true) := ⟨u8s_one _⟩
        gi_wp2_with (rw [zb64, ← zero64_eq]; refine wpListIn_store_row rfl 65 _ _ rfl b (u8s zero64) rfl rfl 65 _ HR3.o HZS.o HZO.o HZ1.o ?_)
        have HRZ : Shut (RowAt (W3.setRow b (u8s zero64)) b (u8s zero64) 65) := ⟨HR3.o.row_same _⟩
        have HJZ : Shut (J (xs ++ [x1]) (W3.setRow b (u8s zero64))) := ⟨HJ.o.below (fun W => W.setRow b (u8s zero64)) b HJ3.o (grownBy_setRow _ _ _) (by omega)⟩
        have hB2 : b < (W3.setRow b (u8s zero64)).heap.size := by simp [World.setRow]; exact hb3
        have HLL : Shut (zero64.length = 64) := ⟨rfl⟩
        have HLT : Shut (∀ x ∈ zero64, x < 256) := ⟨by intro x hx; rw [zero64] at hx; rw [List.eq_of_mem_replicate hx]; omega⟩
        generalize W3.setRow b (u8s zero64) = W5 at *
        clear HR3 HJ3 HZS HZO HZ1 hb3 hcl hsl cu fu
        gi_loopw [53] (fun i5 w5 => ∃ i : Nat, i ≤ 8 ∧ i5 = .int .i64 i ∧ b < w5.heap.size ∧ Shut (RowAt w5 b (u8s (lastly zero64 N i)) 65) ∧ Shut (J (xs ++ [x1]) w5)) (fun i5 _ => 8 - (intOf i5).toNat)
        case atStart => exact ⟨0, by omega, rfl, hB2, ⟨by rw [lastly_zero _ _ HLL.o]; exact HRZ.o⟩, HJZ⟩
        case round =>
          clear HRZ HJZ hB2
          obtain ⟨j, hj, rfl, hB3, HR3, HJ3⟩ := hrel
          have hlen8 := lastly_len zero64 N j HLL.o (by omega)
          by_cases hj8 : j < 8
          · have cj := HR3.o.u8 (63 - j) (by rw [hlen8]; omega)
            have fj := HR3.o.frozen (63 - j)
            generalize (lastly zero64 N j).getD (63 - j) 0 = old at *
            clear hlen8
            gi_wp2
            have hv : (8 * (N : Int) / 2 ^ (8 * j) % 256) = (((Sh.len8 N).getD (7 - j) 0 : Nat) : Int) := by
              rw [len8_get N j hj8, Int.natCast_emod, Int.natCast_ediv, Int.natCast_mul, Int.natCast_pow]; rfl
            rw [hv]
            have hr4 := HR3.o.set8 (63 - j) ((Sh.len8 N).getD (7 - j) 0)
            rw [lastly_step zero64 N j HLL.o hj8] at hr4
            exact ⟨⟨j + 1, by omega, by go_num, by simp [World.setCell]; exact hB3, ⟨hr4⟩, ⟨HJ.o.below (fun W => W.setCell ⟨b, 63 - j, none⟩ _) b HJ3.o (grownBy_setCell_own _ _ _ _) (by omega)⟩⟩, by simp [intOf]; omega⟩
          · obtain rfl : j = 8 := by omega
            have hxlt := getD_lt (lastly_lt zero64 N 8 HLT.o)
            obtain ⟨x, hx⟩ : ∃ x : Blk, x.val = lastly zero64 N 8 := ⟨⟨lastly zero64 N 8, hlen8, hxlt⟩, rfl⟩
            have hfin := HE.o x hx
            obtain ⟨fn, tmps, assign, body, hy, hR⟩ := HY.o (xs ++ [x1]) x wr HJ3.o
            rw [← hx] at HR3
            have HSZ : Shut ((Tryd.prog.info? 65).map (·.size) = some (u8s x.val).size) := ⟨by rw [u8s_size, x.len]; exact infoB⟩
            have HFIN : Shut _ := ⟨hfin⟩
            clear hx hfin hlen8 hxlt hj8
            gi_wp2_with (refine wpListIn_load_row rfl 65 _ rfl b rfl 65 (u8s x.val) _ HR3.o Tryd.underlying65 rfl HSZ.o ?_)
            refine hR.mono ?_
            rintro e W4 ⟨rfl, hJ4, hk4⟩
            gi_wp2
            simp only [Exit.noGoto]
            go_end0
            exact ⟨⟨_, rfl⟩, _, HFIN.o, hJ4⟩
end Go.Proofs.YtnceemdemjjhlaaDoor
