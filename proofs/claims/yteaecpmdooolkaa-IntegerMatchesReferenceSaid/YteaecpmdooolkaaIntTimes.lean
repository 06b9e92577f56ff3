/-
  Contracts: times, its closure and fold.
-/
import Derived.Test.YteaecpmdooolkaaIntPlus
namespace Go.Proofs.Yteaecpmdooolkaa
open Go.RowKit Nm

theorem padL_cut (n k v : Nat) (hk : k ≤ n) : padL n v = padL k (v % 10000 ^ k) ++ padL (n - k) (v / 10000 ^ k) := by
  have := padL_app k (n - k) (v % 10000 ^ k) (v / 10000 ^ k) (Nat.mod_lt _ (Nat.pow_pos (by decide)))
  rw [Nat.mod_add_div, show k + (n - k) = n by omega] at this
  exact this
theorem rowR_pad (n k v u : Nat) (hk : k ≤ n) : rowR (padL n v) k (n - k) (v / 10000 ^ k + u) = padL n (v + 10000 ^ k * u) := by
  have hl : (padL k (v % 10000 ^ k)).length = k := padL_len _ _
  have h1 : (padL n v).take k = padL k (v % 10000 ^ k) := by rw [padL_cut n k v hk, List.take_append_of_le_length (by omega), List.take_of_length_le (by omega)]
  have h2 : (padL n v).drop (k + (n - k)) = [] := by rw [List.drop_eq_nil_iff, padL_len]; omega
  have h3 := padL_app k (n - k) (v % 10000 ^ k) (v / 10000 ^ k + u) (Nat.mod_lt _ (Nat.pow_pos (by decide)))
  rw [rowR, h1, h2, List.append_nil, ← h3, show k + (n - k) = n by omega]
  congr 1
  rw [Nat.mul_add, ← Nat.add_assoc, Nat.mod_add_div]
theorem seg_pad (n k v : Nat) (hk : k ≤ n) : ((padL n v).drop k).take (n - k) = padL (n - k) (v / 10000 ^ k) := by
  have hl : (padL k (v % 10000 ^ k)).length = k := padL_len _ _
  rw [padL_cut n k v hk, List.drop_append_of_le_length (by omega), List.drop_eq_nil_iff.2 (by omega), List.nil_append, List.take_of_length_le (by rw [padL_len]; exact Nat.le_refl _)]
theorem div_room {n k v u : Nat} (hk : k ≤ n) (h : v + 10000 ^ k * u < 10000 ^ n) : v / 10000 ^ k + u < 10000 ^ (n - k) := by
  have hp : 0 < 10000 ^ k := Nat.pow_pos (by decide)
  rw [← Nat.add_mul_div_left v u hp]
  refine Nat.div_lt_of_lt_mul ?_
  rw [← Nat.pow_add, show k + (n - k) = n by omega]
  exact h

theorem Only.cell {g : Nat} {w w' : World} (h : Only g w w') {b : Nat} (hb : b ≠ g) (i : Nat) : w'.cell? ⟨b, i, none⟩ = w.cell? ⟨b, i, none⟩ := by
  unfold World.cell?
  rw [show w'.heap[(⟨b, i, none⟩ : Addr).block]? = w.heap[b]? from h.block b hb]
set_option maxHeartbeats 1000000 in
theorem times1_any (x : Nat) (pa : Option Addr) (ca ga oa : Nat) (g n c k f v bx : Nat) (w : World) (hbox : w.cell? ⟨bx, 0, none⟩ = some (.slice pa (natL x).length ca)) (hpa : 1 ≤ (natL x).length → pa = some ⟨ga, oa, none⟩ ∧ ga ≠ g) (hua : UA w ga oa (natL x))
    (hr : UR w g (padL n v)) (hk : k + (natL x).length ≤ n) (hkn : k < n) (hbx : bx ≠ g) (hn : n ≤ 2000) (hc : n ≤ c) (_ : c ≤ maxLen) (hf : f ≤ 10000) (hv : v < 10000 ^ n) (hroom : v + 10000 ^ k * (x * f) < 10000 ^ n) :
    Calls Try.prog 81 #[.slice (some ⟨g, 0, none⟩) n c, .int .i64 k, .int .u32 f, .pointer (some ⟨bx, 0, none⟩)] w fun e w' => e = .returned (.slice (some ⟨g, 0, none⟩) n c) ∧ Only g w w' ∧ UR w' g (padL n (v + 10000 ^ k * (x * f))) := by
  have hla : (natL x).length ≤ n := by omega
  have hnk : n - k ≤ c - k := by omega
  have hl := padL_len n v
  have cA := add_any g k (n - k) (c - k) (padL n v) pa ga oa ca (natL x) f w.drew hr (by omega) (fun h => (hpa h).2) (hua.drewN 1) (fun h => (hpa h).1) (by omega) (by omega) (padL_dig _ _) (natL_dig _) hf (by
    rw [seg_pad n k v (by omega), padL_nv _ _ (by have := div_room (u := 0) (show k ≤ n by omega) (by simpa using hv); simpa using this), natL_nv]
    exact div_room (by omega) hroom)
  rw [seg_pad n k v (by omega), padL_nv _ _ (by have := div_room (u := 0) (show k ≤ n by omega) (by simpa using hv); simpa using this), natL_nv, rowR_pad n k v _ (by omega)] at cA
  have i1 : (0 : Int) ≤ (k : Int) := by omega
  have i2 : (k : Int) ≤ (n : Int) := by omega
  have i3 : (n : Int) ≤ (c : Int) := by omega
  have i4 : ¬ c = k := by omega
  clear hpa hua hr hv hroom hl
  generalize padL n (v + 10000 ^ k * (x * f)) = L2 at *
  generalize (natL x).length = la at *
  go_enter Try.func81, Try.ntmps81
  go_wp2
  go_region_held3 (fun w' => w'.cell? ⟨bx, 0, none⟩ = some (.slice pa la ca)) (first | go_keep | skip) ((go_at_call 77; refine cA.mono ?_; rintro e w1 ⟨rfl, hO1, hu1⟩; have hb1 : w1.cell? ⟨bx, 0, none⟩ = some (.slice pa la ca) := (hO1.cell hbx 0).trans hbox))
  go_wp2
  go_ret
  exact ⟨rfl, ((Only.refl g w).drew).trans hO1, hu1⟩

theorem mul_lt {x y la lb : Nat} (hx : x < 10000 ^ la) (hy : y < 10000 ^ lb) : x * y < 10000 ^ (la + lb) := by
  rw [Nat.pow_add]
  have hp : 0 < 10000 ^ lb := Nat.pow_pos (by decide)
  calc x * y ≤ x * 10000 ^ lb := Nat.mul_le_mul_left _ (by omega)
    _ < 10000 ^ la * 10000 ^ lb := Nat.mul_lt_mul_of_pos_right hx hp
theorem nv_take_le (l : List Nat) (k : Nat) (hk : k ≤ l.length) : nv (l.take k) ≤ nv l := by rw [nv_take_drop l k hk]; omega
set_option maxHeartbeats 1000000 in
theorem fold_times (x : Nat) (l : List Nat) (hle : ∀ z ∈ l, z ≤ 10000) (pa : Option Addr) (ca ga oa : Nat) (pb : Option Addr) (cb gb ob : Nat) (g n c bx : Nat) (w : World) (hbox : w.cell? ⟨bx, 0, none⟩ = some (.slice pa (natL x).length ca)) (hpa : 1 ≤ (natL x).length → pa = some ⟨ga, oa, none⟩ ∧ ga ≠ g) (hua : UA w ga oa (natL x))
    (hpb : 1 ≤ l.length → pb = some ⟨gb, ob, none⟩ ∧ gb ≠ g) (hub : UA w gb ob l) (hr : UR w g (padL n 0)) (hn : n = (natL x).length + l.length) (hroom : x * nv l < 10000 ^ n) (hn2 : n ≤ 2000) (hc : n ≤ c) (hcm : c ≤ maxLen) (hbx : bx ≠ g) :
    Calls Try.prog 80 #[.slice pb l.length cb, .slice (some ⟨g, 0, none⟩) n c, .func (Fn.func 81) #[] #[.pointer (some ⟨bx, 0, none⟩)]] w fun e w' => e = .returned (.slice (some ⟨g, 0, none⟩) n c) ∧ Only g w w' ∧ UR w' g (padL n (x * nv l)) := by
  have HUB : Shut _ := ⟨And.intro hub hpb⟩
  have hlt : ∀ z, z ≤ nv l → x * z < 10000 ^ n := fun z hz => Nat.lt_of_le_of_lt (Nat.mul_le_mul_left x hz) hroom
  have cT : ∀ (W : World) (k : Nat), Only g w W → k < l.length → UR W g (padL n (x * nv (l.take k))) → Calls Try.prog 81 #[.slice (some ⟨g, 0, none⟩) n c, .int .i64 k, .int .u32 (l.getD k 0 : Nat), .pointer (some ⟨bx, 0, none⟩)] W fun e w' => e = .returned (.slice (some ⟨g, 0, none⟩) n c) ∧ Only g W w' ∧ UR w' g (padL n (x * nv (l.take (k + 1)))) := fun W k hO hk hu => by
    have h1 := nv_take_le l k (by omega)
    have h2 := nv_take_le l (k + 1) (by omega)
    have e : x * nv (l.take (k + 1)) = x * nv (l.take k) + 10000 ^ k * (x * l.getD k 0) := by rw [nv_take_succ _ _ hk]; grind
    have := times1_any x pa ca ga oa g n c k (l.getD k 0) (x * nv (l.take k)) bx W ((hO.cell hbx 0).trans hbox) hpa (fun i hi => (hO.cell (hpa (by omega)).2 _).trans (hua i hi)) hu (by omega) (by omega) hbx hn2 hc hcm (by rw [List.getD_eq_getElem?_getD, List.getElem?_eq_getElem hk]; exact hle _ (List.getElem_mem hk)) (hlt _ h1) (by rw [← e]; exact hlt _ h2)
    rwa [← e] at this
  have HT : Shut _ := ⟨cT⟩
  have HR : Shut (UR w g (padL n (x * nv (l.take 0)))) := ⟨by rw [List.take_zero, nv, Nat.mul_zero]; exact hr⟩
  have hlb : l.length ≤ 2000 := by omega
  clear hbox hpa hua hpb hub hr hlt cT hn hroom hle
  go_enter Try.func80, Try.ntmps80
  go_wp2
  go_loopw [7, 13] (fun sv iv wr => ∃ k : Nat, k ≤ l.length ∧ sv = .slice (some ⟨g, 0, none⟩) n c ∧ iv = .int .i64 k ∧ Shut (Only g w wr) ∧ Shut (UR wr g (padL n (x * nv (l.take k))))) (fun _ iv _ => l.length - (intOf iv).toNat)
  case atStart => exact ⟨0, Nat.zero_le _, rfl, rfl, ⟨Only.refl _ _⟩, HR⟩
  case round =>
    obtain ⟨k, hk, rfl, rfl, hO, hu⟩ := hrel
    by_cases hlt : k < l.length
    · obtain ⟨hp, hg⟩ := HUB.o.2 (by omega)
      subst hp
      have hcl := HUB.o.1.only hO.o hg k hlt
      have c1 := HT.o wr k hO.o hlt hu.o
      have hd1 : decide ((k : Int) < ((l.length : Nat) : Int)) = true := decide_eq_true (by omega)
      generalize l.getD k 0 = f at *
      clear hu
      go_wp2_with (go_at_call 81; refine c1.mono ?_; rintro e w1 ⟨rfl, hO1, hu1⟩)
      exact ⟨⟨k + 1, by omega, rfl, by go_num, ⟨hO.o.trans hO1⟩, ⟨hu1⟩⟩, by simp [intOf]; omega⟩
    · obtain rfl : k = l.length := by omega
      have hu2 := hu.o
      rw [List.take_length] at hu2
      clear hu
      go_wp2
      go_ret
      exact ⟨rfl, hO.o, hu2⟩

/-- trimmed, of a row of the call's own -/
theorem trimPad_any (W : World) (g c n z : Nat) (L : List Nat) (hr : UR W g L) (hL : L.take n = padL n z) (hz : z < 10000 ^ n) (hc : n ≤ c) (hcm : c ≤ maxLen) (hn : n ≤ 1000000) :
    Calls Try.prog 78 #[.slice (some ⟨g, 0, none⟩) n c] W fun e w' => (∃ v, e = .returned v ∧ NA w' v (natL z)) ∧ w' = W := by
  have hu := hr.uaSeg 0 n
  rw [List.drop_zero, hL] at hu
  have hl := padL_len n z
  have := trimmed_any (padL n z) (some ⟨g, 0, none⟩) c g 0 W (fun _ => rfl) hu (padL_dig _ _) (by omega) (by omega) hcm
  rw [hl] at this
  refine this.mono ?_
  rintro e w' ⟨rfl, rfl⟩
  refine ⟨⟨_, rfl, ?_⟩, rfl⟩
  have h4 := na_trim (padL_dig n z) hu hr.lt (by omega) hcm
  rwa [padL_nv n z hz] at h4 ⊢
theorem padL_zero : ∀ n, padL n 0 = List.replicate n 0
  | 0 => rfl
  | n + 1 => by rw [padL, List.replicate_succ, show 0 / 10000 = 0 from rfl, padL_zero n]

set_option maxHeartbeats 2000000 in
theorem times_gen (x : Nat) (l : List Nat) (hle : ∀ z ∈ l, z ≤ 10000) (va vb : Value) (w : World) (ha : NA w va (natL x)) (hb : NA w vb l) (hla : (natL x).length ≤ 1000) (hlb : l.length ≤ 1000) (hroom : x * nv l < 10000 ^ ((natL x).length + l.length)) :
    Calls Try.prog 67 #[va, vb] w fun e w' => ∃ v, e = .returned v ∧ NA w' v (natL (x * nv l)) ∧ Below w.heap.size w w' := by
  obtain ⟨pb, cb, gb, ob, rfl, hlb2, hcb, hpb, hub⟩ := hb.open
  obtain ⟨pa, ca, ga, oa, rfl, hla2, hca, hpa, hua⟩ := ha.open
  obtain ⟨n, hn⟩ : ∃ n, n = (natL x).length + l.length := ⟨_, rfl⟩
  have HN1 : Shut ((((natL x).length : Nat) : Int) + ((l.length : Nat) : Int) = (n : Int)) := ⟨by omega⟩
  have hn2 : n ≤ 2000 := by omega
  have HN : Shut _ := ⟨hn⟩
  have hlt : x * nv l < 10000 ^ n := by rw [hn]; exact hroom
  have HLT : Shut _ := ⟨hlt⟩
  have HA : Shut _ := ⟨And.intro hua hpa⟩
  have HB : Shut _ := ⟨And.intro hub hpb⟩
  clear hn hlt hua hpa hub hpb ha hb hroom
  have hB0 : Below w.heap.size w (w.alloc (.cells #[.slice pa (natL x).length ca] 52)) := (Below.refl _ w).alloc (Nat.le_refl _) _
  have hz0 : (w.alloc (.cells #[.slice pa (natL x).length ca] 52)).heap.size = w.heap.size + 1 := World.size_alloc _ _
  have hbx0 : (w.alloc (.cells #[.slice pa (natL x).length ca] 52)).cell? ⟨w.heap.size, 0, none⟩ = some (.slice pa (natL x).length ca) := by
    rw [(RowAt.new w #[.slice pa (natL x).length ca] 52).cell 0]; rfl
  have HBX : Shut _ := ⟨hbx0⟩
  have HB0 : Shut _ := ⟨hB0⟩
  clear hB0
  have hadd : decide ((((natL x).length : Nat) : Int) + ((l.length : Nat) : Int) ≤ 9223372036854775807) = true := decide_eq_true (by omega)
  have cF : ∀ (W : World) (g9 c9 : Nat), Below (w.heap.size + 1) (w.alloc (.cells #[.slice pa (natL x).length ca] 52)) W → UR W g9 (List.replicate n 0) → w.heap.size + 1 ≤ g9 → n ≤ c9 → c9 ≤ maxLen → Calls Try.prog 80 #[.slice pb l.length cb, .slice (some ⟨g9, 0, none⟩) n c9, .func (Fn.func 81) #[] #[.pointer (some ⟨w.heap.size, 0, none⟩)]] W fun e w' => e = .returned (.slice (some ⟨g9, 0, none⟩) n c9) ∧ Only g9 W w' ∧ UR w' g9 (padL n (x * nv l)) := fun W g9 c9 hW hu hg hc hm => by
    have hW2 : Below w.heap.size w W := HB0.o.trans (hW.mono (by omega))
    refine fold_times x l hle pa ca ga oa pb cb gb ob g9 n c9 w.heap.size W ?_ (fun h => ⟨(HA.o.2 h).1, by have := (HA.o.2 h).2; omega⟩) (HA.o.1.below1 hW2 (fun h => (HA.o.2 h).2)) (fun h => ⟨(HB.o.2 h).1, by have := (HB.o.2 h).2; omega⟩) (HB.o.1.below1 hW2 (fun h => (HB.o.2 h).2)) (by rw [padL_zero]; exact hu) HN.o HLT.o hn2 hc hm (by omega)
    exact (hW.cell (p := ⟨w.heap.size, 0, none⟩) (Nat.lt_succ_self _)).trans HBX.o
  have HCF : Shut _ := ⟨cF⟩
  clear cF hle
  go_enter Try.func67, Try.ntmps67
  go_wp2_with (first | (at_make; refine make_u32 rfl _ _ rfl (w.heap.size + 1) n (congrArg (Value.int .i64) HN1.o) (congrArg (Value.int .i64) HN1.o) (by omega) (by rw [hz0]; exact Nat.le_refl _) ?_; intro w1 hO1 hB1; obtain ⟨hg9, hu9, -, hc9, hm9⟩ := hO1.openS; rw [List.length_replicate] at hc9; rw [hz0] at hu9 hg9) | (go_at_call 80; refine (HCF.o w1 _ _ hB1 hu9 hg9 hc9 hm9).mono ?_; rintro e w3 ⟨rfl, hO3, hu3⟩) | (go_at_call 78; refine (trimPad_any w3 _ _ n (x * nv l) _ hu3 (List.take_of_length_le (by rw [padL_len]; exact Nat.le_refl _)) HLT.o hc9 hm9 (by omega)).mono ?_; rintro e w4 ⟨⟨v4, rfl, hv4⟩, rfl⟩))
  go_ret
  exact ⟨_, rfl, hv4, HB0.o.trans ((hB1.mono (by omega)).trans (hO3.below (by omega)))⟩

theorem times_any (x y : Nat) (va vb : Value) (w : World) (ha : NA w va (natL x)) (hb : NA w vb (natL y)) (hla : (natL x).length ≤ 1000) (hlb : (natL y).length ≤ 1000) :
    Calls Try.prog 67 #[va, vb] w fun e w' => ∃ v, e = .returned v ∧ NA w' v (natL (x * y)) ∧ Below w.heap.size w w' := by
  have := times_gen x (natL y) (fun z hz => Nat.le_of_lt (natL_dig y z hz)) va vb w ha hb hla hlb (by rw [natL_nv]; exact mul_lt (natL_lt x) (natL_lt y))
  rwa [natL_nv] at this
end Go.Proofs.Yteaecpmdooolkaa
