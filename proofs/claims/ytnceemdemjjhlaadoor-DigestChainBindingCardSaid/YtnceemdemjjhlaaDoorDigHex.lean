/-
  hex and few.
-/
import Derived.Test.YtnceemdemjjhlaaDoorDigFix
import Derived.Deep.RegionLaw
namespace Go.Proofs.YtnceemdemjjhlaaDoor
open Go.RowKit

def allH : ByteArray := ⟨#[48, 49, 50, 51, 52, 53, 54, 55, 56, 57, 97, 98, 99, 100, 101, 102]⟩
def hexF (s : ByteArray) : Nat → ByteArray
  | 0 => ⟨#[]⟩
  | k + 1 => (hexF s k ++ allH.extract ((Sh.bl s).getD k 0 / 16) ((Sh.bl s).getD k 0 / 16 + 1)) ++ allH.extract ((Sh.bl s).getD k 0 % 16) ((Sh.bl s).getD k 0 % 16 + 1)
theorem hexF_size (s : ByteArray) : ∀ k, (hexF s k).size ≤ 2 * k
  | 0 => Nat.le_refl _
  | k + 1 => by
    have := hexF_size s k
    rw [hexF, ByteArray.size_append, ByteArray.size_append, ByteArray.size_extract, ByteArray.size_extract]; omega

set_option maxHeartbeats 1000000 in
theorem hex_any (s : ByteArray) (hs : s.size ≤ 1000) (w : World) :
    Calls Tryd.prog 36 #[.string s] w fun e w' => e = .returned (.string (hexF s s.size)) ∧ ∃ m, w' = w.drewN m := by
  go_enter Tryd.func36, Tryd.ntmps36
  go_wp2
  go_loopw [3, 4] (fun r i wr => ∃ k : Nat, k ≤ s.size ∧ i = .int .i64 k ∧ r = .string (hexF s k) ∧ ∃ m, wr = w.drewN m) (fun _ i _ => s.size - (intOf i).toNat)
  case atStart => exact ⟨0, Nat.zero_le _, rfl, rfl, 0, rfl⟩
  case round =>
    obtain ⟨k, hk, rfl, rfl, m, hw⟩ := hrel
    have HW : Shut _ := ⟨hw⟩
    clear hw
    by_cases hlt : k < s.size
    · have hz := hexF_size s k
      have hg := Sh.bl_get s k hlt
      have HX : Shut (hexF s (k + 1) = (hexF s k ++ allH.extract ((Sh.bl s).getD k 0 / 16) ((Sh.bl s).getD k 0 / 16 + 1)) ++ allH.extract ((Sh.bl s).getD k 0 % 16) ((Sh.bl s).getD k 0 % 16 + 1)) := ⟨by rw [hexF]⟩
      have hy : s[k].toNat < 256 := UInt8.toNat_lt _
      rw [hg] at HX
      generalize hexF s k = out at *
      clear hg
      have hall : (ByteArray.mk #[48, 49, 50, 51, 52, 53, 54, 55, 56, 57, 97, 98, 99, 100, 101, 102]).size = 16 := rfl
      go_wp2
      go_quiet (fail)
      go_wp2
      exact ⟨⟨k + 1, by omega, by go_num, by rw [HX.o]; rfl, _, by rw [HW.o, World.drewN_drewN]⟩, by simp [intOf]; omega⟩
    · obtain rfl : k = s.size := by omega
      go_wp2
      go_ret
      exact ⟨rfl, m, HW.o⟩

theorem step_append_own {P : Program} {ops : Array Oper} {o : Oper} {a : Act} {w : World} {K : Act → World → Prop} {Q : Exit → Act → World → Prop} {E : Prop}
    (hg : o.guard = none) (s x : Operand) (t : TypeId) (hop : o.op = Op.call { callee := Callee.builtin Builtin.append, args := #[s, x], argTypes := #[t, t] })
    (base : Nat) (e : TypeId) (i : TypeInfo) (z : Value) (size bytes : Nat) (h1 : P.underlying t = some (.slice e)) (h2 : P.info? e = some i) (h3 : i.zero = some z) (h4 : i.size = size) (h5 : i.bytes = bytes) (h6 : z.cells.size = size) (h7 : 0 < size)
    (v : Value) (k : Nat) (xs : List Value) (hs : a.eval s = v) (hown : w.ownsRow base e size v k xs) (ad : Addr) (m c : Nat) (news : List Value) (hx : a.eval x = .slice (some ad) m c) (hn : news.length = m * size)
    (hc : ∀ j u, news[j]? = some u → w.cell? (ad.add j) = some u) (h1c : ∀ u ∈ news, u.oneCell' = true) (b1 : k + m ≤ maxLen) (b2 : (k + m) * bytes ≤ 140737488355328) (b3 : base ≤ w.heap.size)
    (hK : ∀ v' w', w'.ownsRow base e size v' (k + m) (xs ++ news) → w.grownBy w' v.ownBlock → K (a.put o.dst v') w') :
    if Region.wanted o (yielded ops a.tmps) = true then Oper.wp P o a w K Q else E := by
  have hw : Region.wanted o (yielded ops a.tmps) = true := by simp [Region.wanted, hg]
  rw [if_pos hw]
  obtain ⟨v', w', hrun, r1, r2, _⟩ := run_append_own (P := P) w base t o.type e i z size bytes h1 h2 h3 h4 h5 h6 h7 v k xs hown ad m c news hn hc h1c b1 b2 b3
  unfold Oper.wp
  simp [execOp, hop, resolve, invoke, builtin, hs, hx, hrun, Result.andThen]
  exact hK v' w' r1 r2

/-- a string cut to 60 bytes -/
def cut60 (s : ByteArray) : ByteArray := s.extract 0 (min s.size 60)
theorem cut60_size (s : ByteArray) : (cut60 s).size ≤ 60 := by rw [cut60, ByteArray.size_extract]; omega
def fewB (ls : List ByteArray) (n : Nat) : List ByteArray := (ls.take n).map cut60
theorem few_small (ls : List ByteArray) (n : Nat) : Small (fewB ls n) := fun s hs => by
  simp only [fewB, List.mem_map] at hs
  obtain ⟨x, _, rfl⟩ := hs
  have := cut60_size x; omega
theorem few_len (ls : List ByteArray) (n : Nat) : (fewB ls n).length ≤ n := by simp [fewB]; omega

set_option maxHeartbeats 2000000 in
theorem few_any (ls : List ByteArray) (b o cap n : Nat) (p : Option Addr) (hp : 1 ≤ ls.length → p = some ⟨b, o, none⟩) (hl : ls.length ≤ 9223372036854775807) (hn : n ≤ 100) (hS : ∀ s ∈ ls, s.size ≤ 9223372036854775807) (w : World) (hA : SA w b o ls) :
    Calls Tryd.prog 20 #[.slice p ls.length cap, .int .i64 n] w fun e w' => ∃ v, e = .returned v ∧ OwnS w' w.heap.size v (fewB ls n) ∧ Below w.heap.size w w' := by
  go_enter Tryd.func20, Tryd.ntmps20
  have HA : Shut _ := ⟨hA⟩
  have HP : Shut _ := ⟨hp⟩
  have HS : Shut _ := ⟨hS⟩
  clear hA hp hS
  go_wp2
  go_loopw [5, 6] (fun v i wr => ∃ k : Nat, k ≤ ls.length ∧ k ≤ n ∧ i = .int .i64 k ∧ OwnS wr w.heap.size v (fewB ls k) ∧ Below w.heap.size w wr) (fun _ i _ => ls.length - (intOf i).toNat)
  case atStart => exact ⟨0, Nat.zero_le _, Nat.zero_le _, rfl, OwnS.nil _ _, Below.refl _ _⟩
  case round =>
    rename_i v0 _ _
    obtain ⟨k, hk, hkn, rfl, hO, hB⟩ := hrel
    by_cases hlt : k < ls.length
    · by_cases hln : k < n
      · obtain rfl := HP.o (by omega)
        have hc := (HA.o.below hB) k hlt
        have hsz := HS.o _ (List.getElem_mem hlt)
        have HF : Shut (fewB ls (k + 1) = fewB ls k ++ [cut60 ls[k]]) := ⟨by rw [fewB, List.take_succ_eq_append_getElem hlt, List.map_append]; rfl⟩
        have HL : Shut ((fewB ls k).length = k) := ⟨by simp [fewB]; omega⟩
        obtain ⟨mm, hmm⟩ : ∃ mm, mm = min ls[k].size 60 := ⟨_, rfl⟩
        have hmin : min ((ls[k].size : Nat) : Int) 60 = (mm : Int) := by omega
        have hm60 : mm ≤ ls[k].size := by omega
        have hmin2 : (if (60 : Int) < ((ls[k].size : Nat) : Int) then (60 : Int) else ((ls[k].size : Nat) : Int)) = (mm : Int) := by split <;> omega
        have hm62 : mm ≤ 60 := by omega
        have HC : Shut (ls[k].extract 0 mm = cut60 ls[k]) := ⟨by rw [hmm, cut60]⟩
        clear hmm
        generalize cut60 ls[k] = cs at *
        generalize ls[k] = s at *
        obtain ⟨i0, hinf, hz0, hz1, hz2⟩ := info_parts infoStr
        have hd1 : decide ((k : Int) < (ls.length : Int)) = true := decide_eq_true (by omega)
        go_wp2
        have hO' : World.ownsRow wr.drew w.heap.size 9 1 u5 (fewB ls k).length ((fewB ls k).map Value.string) := hO
        have hBs := hB.size
        go_region_law (refine step_append_own rfl (.tmp 18) (.tmp 30) 26 rfl w.heap.size 9 i0 (.string ⟨#[]⟩) 1 16 Tryd.underlying26 hinf hz0 hz1 hz2 rfl (by decide) u5 _ _ (by simp [Act.eval, Act.put]) (World.ownsRow.alloc hO' _) ⟨wr.heap.size, 0, none⟩ 1 1 [.string (s.extract 0 mm)] (by simp [Act.eval, Act.put]) rfl (cell_one_new _ _ _) (by simp [Value.oneCell']) (by unfold maxLen; rw [HL.o]; omega) (by rw [HL.o]; omega) (by show w.heap.size ≤ (wr.heap.push _).size; rw [Array.size_push]; omega) ?_; intro v' w' hown' hgrow)
        all_goals go_wp2
        all_goals refine ⟨⟨k + 1, by omega, by omega, by go_num, by rw [HF.o, ← HC.o]; exact OwnS.snoc hown', ?_⟩, by simp [intOf]; omega⟩
        all_goals exact below_append (hB.alloc hBs _).drew (Nat.le_refl _) (World.ownsRow.alloc hO' _) hgrow
      · have hd1 : decide ((k : Int) < (ls.length : Int)) = true := decide_eq_true (by omega)
        obtain rfl : k = n := by omega
        go_wp2
        go_ret
        exact ⟨_, rfl, hO, hB⟩
    · have hd1 : decide ((k : Int) < (ls.length : Int)) = false := decide_eq_false (by omega)
      have HF : Shut (fewB ls n = fewB ls k) := ⟨by rw [fewB, fewB, List.take_of_length_le (by omega), List.take_of_length_le (by omega)]⟩
      go_wp2
      go_ret
      exact ⟨_, rfl, by rw [HF.o]; exact hO, hB⟩
end Go.Proofs.YtnceemdemjjhlaaDoor
