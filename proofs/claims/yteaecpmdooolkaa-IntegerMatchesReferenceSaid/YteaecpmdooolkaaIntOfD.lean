/-
  The contract of ofDigits.
-/
import Derived.Test.YteaecpmdooolkaaIntDigits
namespace Go.Proofs.Yteaecpmdooolkaa
open Go.RowKit Nm

theorem padL_snoc (k x : Nat) : padL (k + 1) x = padL k x ++ [x / 10000 ^ k % 10000] := by
  have h1 := padL_cut (k + 1) k x (by omega)
  have h2 := padL_cut k k x (Nat.le_refl _)
  rw [Nat.sub_self, padL, List.append_nil] at h2
  rw [h1, ← h2, show k + 1 - k = 1 by omega, padL, padL]
theorem bl_extract (s : ByteArray) (i j : Nat) : bl (s.extract i j) = ((bl s).take j).drop i := by
  simp [bl, List.map_take, List.map_drop, List.drop_take]
/-- a string made into bytes -/
theorem conv_u8 (t : ByteArray) (n : Nat) (hn : t.size = n) (w : World) : ∃ (W1 : World) (cap : Nat),
    Sem.run Try.prog (convert 9 78 (.string t)) w = .ok (.slice (some ⟨w.heap.size, 0, none⟩) n cap) W1 ∧ (∀ i, i < n → W1.cell? ⟨w.heap.size, i, none⟩ = some (.int .u8 (((bl t).getD i 0 : Nat) : Int))) ∧ Below w.heap.size w W1 := by
  subst hn
  refine ⟨Lib.bytesWorld w 5 t, grownCap w t.size 0 5, Lib.run_convert_string_bytes w 9 78 5 t Try.underlying9 Try.underlying78 Try.underlying5, fun i hi => ?_, Joins.below_bytesWorld _ w 5 t (Nat.le_refl _)⟩
  rw [Lib.bytesWorld_cell w 5 t i hi, bl_get t i hi]
  congr 3
  simp [List.getD, hi]
  rfl

theorem ofD1_any (a i c : Nat) (ha : a < 100000) (h1 : 48 ≤ c) (h2 : c < 58) (w : World) :
    Calls Try.prog 85 #[.int .u32 a, .int .i64 i, .int .u8 c] w fun e w' => e = .returned (.int .u32 ((10 * a + (c - 48) : Nat) : Int)) ∧ w' = w := by
  go_enter Try.func85, Try.ntmps85
  obtain ⟨d, rfl⟩ : ∃ d, c = 48 + d := ⟨c - 48, by omega⟩
  go_wp2
  go_ret
  exact ⟨ret_u32 (by omega), rfl⟩

set_option maxHeartbeats 1000000 in
theorem foldD_any (l : List Nat) (g cap n : Nat) (hn : l.length = n) (h4 : n ≤ 4) (hl : ∀ y ∈ l, 48 ≤ y ∧ y < 58) (w : World) (hc : ∀ i, i < n → w.cell? ⟨g, i, none⟩ = some (.int .u8 ((l.getD i 0 : Nat) : Int))) :
    Calls Try.prog 84 #[.slice (some ⟨g, 0, none⟩) n cap, .int .u32 0, .func (Fn.func 85) #[] #[]] w fun e w' => e = .returned (.int .u32 (dvl l : Nat)) ∧ w' = w := by
  go_enter Try.func84, Try.ntmps84
  have HC : Shut _ := ⟨hc⟩
  have HL : Shut _ := ⟨hl⟩
  have HN : Shut _ := ⟨hn⟩
  clear hc hl hn
  go_wp2
  go_loopw [7, 13] (fun sv iv wr => ∃ k : Nat, k ≤ n ∧ sv = .int .u32 (dvl (l.take k) : Nat) ∧ iv = .int .i64 k ∧ wr = w) (fun _ iv _ => n - (intOf iv).toNat)
  case atStart => exact ⟨0, Nat.zero_le _, rfl, rfl, rfl⟩
  case round =>
    obtain ⟨k, hk, rfl, rfl, rfl⟩ := hrel
    by_cases hlt : k < n
    · have hkl : k < l.length := by have := HN.o; omega
      have hcl := HC.o k hlt
      have hg : l.getD k 0 = l[k] := by simp [List.getD, hkl]
      have hd := HL.o _ (List.getElem_mem hkl)
      rw [← hg] at hd
      have hv := dvl_lt (l.take k) (fun y hy => HL.o y (List.mem_of_mem_take hy))
      have hp : 10 ^ (l.take k).length ≤ 10 ^ 4 := Nat.pow_le_pow_right (by decide) (by rw [List.length_take]; omega)
      have HV : Shut (dvl (l.take (k + 1)) = 10 * dvl (l.take k) + (l.getD k 0 - 48)) := ⟨by rw [List.take_succ_eq_append_getElem hkl, dvl_snoc, hg]⟩
      have hv2 : dvl (l.take k) < 100000 := by omega
      have hd1 : decide ((k : Int) < (n : Int)) = true := decide_eq_true (by omega)
      clear hg hv hp hkl
      generalize dvl (l.take k) = a at *
      generalize l.getD k 0 = c at *
      have c1 := ofD1_any a k c hv2 hd.1 hd.2 wr
      go_wp2_with (go_at_call 85; refine c1.mono ?_; rintro e w1 ⟨rfl, rfl⟩)
      exact ⟨⟨k + 1, by omega, by rw [HV.o]; congr 1, by go_num, trivial⟩, by simp [intOf]; omega⟩
    · obtain rfl : k = n := by omega
      have HF : Shut (dvl (l.take k) = dvl l) := ⟨by rw [← HN.o, List.take_length]⟩
      rw [HF.o]
      go_wp2
      go_ret
      exact ⟨rfl, rfl⟩
/-- the group of four digits behind k groups -/
theorem dvl_group (l : List Nat) (hl : ∀ y ∈ l, 48 ≤ y ∧ y < 58) (k e : Nat) (he : e + 4 * k = l.length) : dvl ((l.take e).drop (e - 4)) = dvl l / 10000 ^ k % 10000 := by
  have h1 : dvl l = dvl (l.take e) * 10 ^ (l.drop e).length + dvl (l.drop e) := by rw [← dvl_append, List.take_append_drop]
  have h2 := dvl_lt (l.drop e) (fun y hy => hl y (List.mem_of_mem_drop hy))
  have h3 : (l.drop e).length = 4 * k := by rw [List.length_drop]; omega
  rw [h3] at h1 h2
  have hp : 10000 ^ k = 10 ^ (4 * k) := by rw [show (10000 : Nat) = 10 ^ 4 from rfl, ← Nat.pow_mul]
  have h4 : dvl l / 10000 ^ k = dvl (l.take e) := by
    rw [hp, h1, Nat.add_comm, Nat.add_mul_div_right _ _ (Nat.pow_pos (by decide)), Nat.div_eq_of_lt h2, Nat.zero_add]
  rw [h4]
  have h5 : dvl (l.take e) = dvl ((l.take e).take (e - 4)) * 10 ^ ((l.take e).drop (e - 4)).length + dvl ((l.take e).drop (e - 4)) := by rw [← dvl_append, List.take_append_drop]
  have h6 := dvl_lt ((l.take e).drop (e - 4)) (fun y hy => hl y (List.mem_of_mem_take (List.mem_of_mem_drop hy)))
  have h7 : ((l.take e).drop (e - 4)).length = e - (e - 4) := by rw [List.length_drop, List.length_take]; omega
  rw [h7] at h5 h6
  by_cases he4 : 4 ≤ e
  · rw [show e - (e - 4) = 4 by omega] at h5 h6
    rw [h5]; omega
  · rw [show e - 4 = 0 by omega, List.drop_zero]
    have h8 : 10 ^ (e - (e - 4)) ≤ 10 ^ 4 := Nat.pow_le_pow_right (by decide) (by omega)
    rw [show e - 4 = 0 by omega, List.drop_zero] at h6
    rw [show e - 4 = 0 by omega] at h8
    omega

/-- append of one group -/
theorem append_one {w : World} {y : Nat} {ops : Array Oper} {rest : List Oper} {o : Oper} {a : Act} {Q : Exit → Act → World → Prop} (hgd : o.guard = none) (s x : Operand)
    (ho : o.op = .call { callee := .builtin .append, args := #[s, x], argTypes := #[52, 52] }) (base : Nat) (v : Value) (xs : List Nat) (hs : a.eval s = v) (w0 : World) (hw : w = w0.alloc (.cells #[.int .u32 (y : Nat)] 84)) (hown : OwnU w0 base v xs)
    (hx : a.eval x = .slice (some ⟨w0.heap.size, 0, none⟩) 1 1) (hl : xs.length + 1 ≤ 1000000) (hb : base ≤ w0.heap.size)
    (h : ∀ v' w', OwnU w' base v' (xs ++ [y]) → v' ≠ .slice none 0 0 → Below base w0 w' → wpList Try.prog ops Q rest (a.put o.dst v') w') : wpList Try.prog ops Q (o :: rest) a w := by
  subst hw
  obtain ⟨i0, hinf, hz0, hz1, hz2⟩ := info_parts infoU
  have hB0 : Below base w0 (w0.alloc (.cells #[.int .u32 (y : Nat)] 84)) := (Below.refl _ _).alloc hb _
  refine wpList_append_own _ hgd s x 52 ho base 84 i0 (.int .u32 0) 1 4 Try.underlying52 hinf hz0 hz1 hz2 rfl (by decide) v xs.length _ hs (World.ownsRow.alloc hown _) ⟨w0.heap.size, 0, none⟩ 1 1 [.int .u32 (y : Nat)] hx rfl (cell_one_new _ _ _) (by simp [Value.oneCell']) (by unfold maxLen; omega) (by omega) (by rw [World.size_alloc]; omega) ?_
  intro v' w' hown' hgrow hnil
  exact h v' w' (OwnU.snoc hown') (fun e => by have := (hnil.1 e).2; omega) (below_grown hB0 hb (World.ownsRow.alloc hown _) hgrow)

set_option maxRecDepth 100000 in
set_option maxHeartbeats 4000000 in
theorem ofDigits_any (s : ByteArray) (hs : s.size ≤ 1000) (hl : ∀ y ∈ bl s, 48 ≤ y ∧ y < 58) (w : World) :
    Calls Try.prog 71 #[.string s] w fun e w' => ∃ v, e = .returned v ∧ NA w' v (natL (dvl (bl s))) ∧ Below w.heap.size w w' := by
  have hbl := bl_len s
  obtain ⟨V, hV⟩ : ∃ V, V = dvl (bl s) := ⟨_, rfl⟩
  have hVlt : V < 10 ^ s.size := by rw [hV, ← hbl]; exact dvl_lt _ hl
  obtain ⟨n, hn⟩ : ∃ n, n = s.size := ⟨_, rfl⟩
  have HV : Shut _ := ⟨hV⟩
  have HVL : Shut _ := ⟨hVlt⟩
  have HL : Shut _ := ⟨hl⟩
  have HBL : Shut _ := ⟨hbl⟩
  have HN : Shut _ := ⟨hn⟩
  obtain ⟨cp, hcp⟩ : ∃ cp, cp = (n + 3) / 4 := ⟨_, rfl⟩
  have HCP : Shut ((((n : Int) + 4 - 1) / 4) = (cp : Int)) := ⟨by omega⟩
  have hcp2 : cp ≤ 1000 := by omega
  have hn2 : n ≤ 1000 := by omega
  rw [← hV]
  clear hV hVlt hl hbl hcp hs
  go_enter Try.func71, Try.ntmps71
  obtain ⟨i0, hinf, hz0, hz1, hz2⟩ := info_parts infoU
  have hsz : s.size = n := hn.symm
  clear hn
  go_wp2_with (first | (at_make; refine wpList_make_own w rfl _ _ 52 rfl w.heap.size 84 i0 (.int .u32 0) 1 Try.underlying52 hinf hz0 hz1 .i64 .i64 (cp : Int) cp rfl (congrArg (Value.int .i64) HCP.o) rfl (by rw [hz2]; omega) (by unfold maxLen; omega) (Nat.le_refl _) ?_; intro w1 hO1 hgr1))
  have hB1 : Below w.heap.size w w1 := ⟨hgr1.os, hgr1.tape, hgr1.output, hgr1.size, fun k hk => hgr1.block k (by omega) (by simp)⟩
  go_loopw [3, 4] (fun v ev wr => ∃ k : Nat, 4 * k < n + 4 ∧ ev = .int .i64 ((n : Int) - 4 * k) ∧ v ≠ .slice none 0 0 ∧ OwnU wr w.heap.size v (padL k V) ∧ Below w.heap.size w wr) (fun _ ev _ => (intOf ev).toNat)
  case atStart => exact ⟨0, by omega, by simp, by simp, hO1, hB1⟩
  case round =>
    rename_i v0 _
    obtain ⟨k, hk, rfl, hne, hO, hB⟩ := hrel
    by_cases hlt : 4 * k < n
    · obtain ⟨e, he⟩ : ∃ e, e + 4 * k = n := ⟨n - 4 * k, by omega⟩
      obtain ⟨st, hst⟩ : ∃ st, st = e - 4 := ⟨_, rfl⟩
      have hei : ((n : Int) - 4 * (k : Int)) = (e : Int) := by omega
      have hmax : max ((e : Int) - 4) 0 = (st : Int) := by omega
      have hmax2 : (if (e : Int) - 4 < 0 then (0 : Int) else (e : Int) - 4) = (st : Int) := by split <;> omega
      have hse : st ≤ e := by omega
      have hen : e ≤ n := by omega
      have hseg : bl (s.extract st e) = ((bl s).take e).drop st := bl_extract s st e
      have hsegl : (s.extract st e).size = e - st := by rw [ByteArray.size_extract]; omega
      have hsegd : ∀ y ∈ bl (s.extract st e), 48 ≤ y ∧ y < 58 := fun y hy => by rw [hseg] at hy; exact HL.o y (List.mem_of_mem_take (List.mem_of_mem_drop hy))
      have HG : Shut (padL (k + 1) V = padL k V ++ [dvl (bl (s.extract st e))]) := ⟨by
        rw [padL_snoc, hseg, hst, dvl_group (bl s) HL.o k e (by rw [HBL.o]; omega), HV.o]⟩
      have hsl := bl_len (s.extract st e)
      have hpl := padL_len k V
      obtain ⟨W1, c1, hcv, hcell, hBc⟩ := conv_u8 (s.extract st e) (e - st) hsegl wr
      have cF := foldD_any (bl (s.extract st e)) wr.heap.size c1 (e - st) (by rw [hsl, hsegl]) (by omega) hsegd W1 hcell
      have hB1' : Below w.heap.size w W1 := hB.trans (hBc.mono hB.size)
      have hO1' := hO.below hBc
      have hes : (e : Int) ≤ (n : Int) := by omega
      have hss : (st : Int) ≤ (e : Int) := by omega
      rw [hei]
      clear hst hseg hsegl hsegd hsl hcell hO hO1 hgr1 hB1 hBc
      generalize dvl (bl (s.extract st e)) = gd at *
      generalize hsg : s.extract st e = sg at *
      go_wp2_with (first | (go_at_call 84; refine cF.mono ?_; rintro e9 w5 ⟨rfl, rfl⟩) | (at_builtin; go_must (refine append_one rfl _ _ rfl w.heap.size _ (padL k V) rfl w5 rfl hO1' rfl (by omega) hB1'.size ?_); intro v3 w3 hO3 hn3 hB3))
      exact ⟨⟨k + 1, by omega, by congr 1; omega, hn3, by rw [HG.o]; exact hO3, hB1'.trans hB3⟩, by simp [intOf]; omega⟩
    · have hei : ¬ (0 : Int) < ((n : Int) - 4 * (k : Int)) := by omega
      rcases hO.open with ⟨h1, _⟩ | ⟨cap, g, rfl, hg, hu, hc, hm⟩
      · exact absurd h1 hne
      rw [padL_len] at hc ⊢
      have hz : V < 10000 ^ k := by
        have := HVL.o
        rw [show (10000 : Nat) = 10 ^ 4 from rfl, ← Nat.pow_mul]
        exact Nat.lt_of_lt_of_le this (Nat.pow_le_pow_right (by decide) (by omega))
      have cT := trimPad_any wr g cap k V (padL k V) hu (List.take_of_length_le (by rw [padL_len]; exact Nat.le_refl _)) hz hc hm (by omega)
      clear hu hz hO hne hO1 hgr1 hB1
      go_wp2_with (go_at_call 78; refine cT.mono ?_; rintro e w4 ⟨⟨v4, rfl, hv4⟩, rfl⟩)
      go_ret
      exact ⟨_, rfl, hv4, hB⟩
end Go.Proofs.Yteaecpmdooolkaa
