/-
  way and collide.
-/
import Derived.Test.YtnceemdemjjhlaaDoorDigAcc
import Derived.Deep.RegionHeld3
namespace Go.Proofs.YtnceemdemjjhlaaDoor
open Go.RowKit

/-- two different strings with the same digest at one place -/
def Coll (a b : List ByteArray) : Prop := ∃ (j : Nat) (ha : j < a.length) (hb : j < b.length), a[j] ≠ b[j] ∧ Sh.sha a[j] = Sh.sha b[j]
theorem Coll.cons {x y : ByteArray} {a b : List ByteArray} (h : Coll a b) : Coll (x :: a) (y :: b) := by
  obtain ⟨j, ha, hb, h1, h2⟩ := h
  exact ⟨j + 1, by simp; omega, by simp; omega, by simpa using h1, by simpa using h2⟩
theorem Coll.here {x y : ByteArray} {a b : List ByteArray} (h1 : x ≠ y) (h2 : Sh.sha x = Sh.sha y) : Coll (x :: a) (y :: b) := ⟨0, by simp, by simp, h1, h2⟩
/-- the strings of which Sum is computed for a proof (its last element first) -/
def wayR : List ByteArray → Nat → Nat → ByteArray → List ByteArray
  | [], _, _, s => [⟨#[0]⟩ ++ s]
  | x :: q, n, i, s => if i < spl n then (⟨#[1]⟩ ++ (valueR q (spl n) i s).1 ++ x) :: wayR q (spl n) i s else (⟨#[1]⟩ ++ x ++ (valueR q (n - spl n) (i - spl n) s).1) :: wayR q (n - spl n) (i - spl n) s
theorem valueR_32 : ∀ (q : List ByteArray) (n i : Nat) (s : ByteArray), (valueR q n i s).2 = true → (valueR q n i s).1.size = 32 := by
  intro q n i s h
  cases q with
  | nil =>
    rw [valueR] at h ⊢
    split
    · exact leaf_size _
    · rename_i hn; rw [if_neg hn] at h; cases h
  | cons x q =>
    rw [valueR] at h ⊢
    split
    · exact leaf_size _
    · split
      · exact node_size _ _
      · exact node_size _ _
theorem app_inj_left {a b c d : ByteArray} (h : a ++ b = c ++ d) (hs : a.size = c.size) : a = c ∧ b = d := by
  have := congrArg Sh.bl h
  rw [Sh.bl_append, Sh.bl_append] at this
  have := List.append_inj this (by rw [Sh.bl_len, Sh.bl_len]; exact hs)
  exact ⟨Sh.bl_inj this.1, Sh.bl_inj this.2⟩
theorem bind_node {v v' x y : ByteArray} (hv : v.size = 32) (hv' : v'.size = 32) (h : (⟨#[1]⟩ ++ v ++ x : ByteArray) = ⟨#[1]⟩ ++ v' ++ y) : v = v' := by
  have h1 := app_inj_left h (by rw [ByteArray.size_append, ByteArray.size_append, hv, hv'])
  exact (app_inj_left h1.1 rfl).2
theorem bind_node2 {v v' x y : ByteArray} (hv : v.size = 32) (hv' : v'.size = 32) (h : (⟨#[1]⟩ ++ x ++ v : ByteArray) = ⟨#[1]⟩ ++ y ++ v') : v = v' := by
  have hz := congrArg ByteArray.size h
  simp only [ByteArray.size_append] at hz
  exact (app_inj_left h (by rw [ByteArray.size_append, ByteArray.size_append]; omega)).2
theorem binding : ∀ (q q' : List ByteArray) (n i : Nat) (s t : ByteArray), (valueR q n i s).2 = true → (valueR q' n i t).2 = true → (valueR q n i s).1 = (valueR q' n i t).1 → s ≠ t → Coll (wayR q n i s) (wayR q' n i t) := by
  intro q
  induction q with
  | nil =>
    intro q' n i s t h1 h2 h3 hst
    have hn : n = 1 := by
      rw [valueR] at h1; split at h1
      · assumption
      · cases h1
    cases q' with
    | nil =>
      rw [valueR, valueR, if_pos hn, if_pos hn] at h3
      rw [wayR, wayR]
      exact Coll.here (fun e => hst (app_inj_left e rfl).2) h3
    | cons y r => rw [valueR, if_pos hn] at h2; cases h2
  | cons x r ih =>
    intro q' n i s t h1 h2 h3 hst
    have hn : n ≠ 1 := by
      intro hn; rw [valueR, if_pos hn] at h1; cases h1
    cases q' with
    | nil => rw [valueR, if_neg hn] at h2; cases h2
    | cons y r' =>
      rw [valueR, if_neg hn] at h1
      rw [valueR, if_neg hn] at h2
      rw [valueR, valueR, if_neg hn, if_neg hn] at h3
      rw [wayR, wayR]
      by_cases hik : i < spl n
      · rw [if_pos hik] at h1 h2
        rw [if_pos hik, if_pos hik] at h3 ⊢
        by_cases he : (⟨#[1]⟩ ++ (valueR r (spl n) i s).1 ++ x : ByteArray) = ⟨#[1]⟩ ++ (valueR r' (spl n) i t).1 ++ y
        · exact (ih r' (spl n) i s t h1 h2 (bind_node (valueR_32 _ _ _ _ h1) (valueR_32 _ _ _ _ h2) he) hst).cons
        · exact Coll.here he h3
      · rw [if_neg hik] at h1 h2
        rw [if_neg hik, if_neg hik] at h3 ⊢
        by_cases he : (⟨#[1]⟩ ++ x ++ (valueR r (n - spl n) (i - spl n) s).1 : ByteArray) = ⟨#[1]⟩ ++ y ++ (valueR r' (n - spl n) (i - spl n) t).1
        · exact (ih r' (n - spl n) (i - spl n) s t h1 h2 (bind_node2 (valueR_32 _ _ _ _ h1) (valueR_32 _ _ _ _ h2) he) hst).cons
        · exact Coll.here he h3

set_option maxRecDepth 100000 in
set_option maxHeartbeats 4000000 in
theorem collide_any (a b : List ByteArray) (ga ca gb cb : Nat) (pa pb : Option Addr) (hpa : 1 ≤ a.length → pa = some ⟨ga, 0, none⟩) (hpb : 1 ≤ b.length → pb = some ⟨gb, 0, none⟩) (hla : a.length ≤ 1000000) (hlb : b.length ≤ 1000000) (hSa : Small a) (hSb : Small b)
    (w : World) (ht : Tab w) (hA : SA w ga 0 a) (hB : SA w gb 0 b) (hc : Coll a b) :
    Calls Tryd.prog 32 #[.slice pa a.length ca, .slice pb b.length cb] w fun e w' => e = .returned (.bool true) ∧ Below w.heap.size w w' := by
  have hge := ht.2.2
  go_enter Tryd.func32, Tryd.ntmps32
  have HA : Shut _ := ⟨hA⟩
  have HB : Shut _ := ⟨hB⟩
  have HT : Shut _ := ⟨ht⟩
  have HC : Shut _ := ⟨hc⟩
  have HSa : Shut _ := ⟨hSa⟩
  have HSb : Shut _ := ⟨hSb⟩
  have HPa : Shut _ := ⟨hpa⟩
  have HPb : Shut _ := ⟨hpb⟩
  clear hA hB ht hc hSa hSb hpa hpb
  go_wp2
  go_loopw [5] (fun i5 wr => ∃ k : Nat, k ≤ a.length ∧ k ≤ b.length ∧ i5 = .int .i64 k ∧ Shut (Below w.heap.size w wr) ∧ Shut (∀ j (ha : j < a.length) (hb : j < b.length), j < k → ¬ (a[j] ≠ b[j] ∧ Sh.sha a[j] = Sh.sha b[j]))) (fun i5 _ => a.length - (intOf i5).toNat)
  case atStart => exact ⟨0, Nat.zero_le _, Nat.zero_le _, rfl, ⟨Below.refl _ _⟩, ⟨fun j _ _ h => by omega⟩⟩
  case round =>
    obtain ⟨k, hka, hkb, rfl, hBr, hno⟩ := hrel
    by_cases h1 : k < a.length
    · by_cases h2 : k < b.length
      · obtain rfl := HPa.o (by omega)
        obtain rfl := HPb.o (by omega)
        have ca1 := (HA.o.below hBr.o) k h1
        have cb1 := (HB.o.below hBr.o) k h2
        rw [Nat.zero_add] at ca1 cb1
        have hba : ga < wr.heap.size := World.block_lt_of_cell? wr _ ca1
        have hbb : gb < wr.heap.size := World.block_lt_of_cell? wr _ cb1
        have hd1 : decide ((k : Int) < (a.length : Int)) = true := decide_eq_true (by omega)
        have hd2 : decide ((k : Int) < (b.length : Int)) = true := decide_eq_true (by omega)
        have hsa : a[k].size ≤ 100000 := by have := HSa.o _ (List.getElem_mem h1); omega
        have hsb : b[k].size ≤ 100000 := by have := HSb.o _ (List.getElem_mem h2); omega
        by_cases he : a[k] = b[k]
        · have hn2 : Shut (∀ j (ha : j < a.length) (hb : j < b.length), j < k + 1 → ¬ (a[j] ≠ b[j] ∧ Sh.sha a[j] = Sh.sha b[j])) := ⟨fun j ha hb hj => by
            by_cases e : j = k
            · subst e; exact fun h => h.1 he
            · exact hno.o j ha hb (by omega)⟩
          rw [← he] at cb1
          generalize a[k] = x at *
          have hne : (!(x.toList == x.toList)) = false := by simp
          have hbe : (x.toList == x.toList) = true := beq_self_eq_true _
          have hB2 : Shut (∀ m, Below w.heap.size w (wr.drewN m)) := ⟨fun m => below_drewN hBr.o m⟩
          go_wp2
          go_quiet (fail)
          go_wp2
          exact ⟨⟨k + 1, by omega, by omega, by go_num, ⟨hB2.o _⟩, hn2⟩, by simp [intOf]; omega⟩
        · have hnn : Sh.sha a[k] ≠ Sh.sha b[k] → Shut (∀ j (ha : j < a.length) (hb : j < b.length), j < k + 1 → ¬ (a[j] ≠ b[j] ∧ Sh.sha a[j] = Sh.sha b[j])) := fun hs => ⟨fun j ha hb hj => by
            by_cases e : j = k
            · subst e; exact fun h => hs h.2
            · exact hno.o j ha hb (by omega)⟩
          have hTr := HT.o.below hBr.o hge
          have hT0 : Tab wr.drew := ⟨hTr.1, hTr.2.1, hTr.2.2⟩
          have hwz : wr.drew.heap.size = wr.heap.size := rfl
          have hx1 : (a[k].toList == b[k].toList) = false := by rw [str_eq]; exact decide_eq_false he
          have hss := str_eq (Sh.sha a[k]) (Sh.sha b[k])
          have HNN : Shut _ := ⟨hnn⟩
          have hge2 : 2 ≤ wr.heap.size := hTr.2.2
          have hBd : Below w.heap.size w wr.drew := hBr.o.drew
          have hbs := hBr.o.size
          clear hnn hTr hno
          generalize a[k] = x at *
          generalize b[k] = y at *
          by_cases hsh : Sh.sha x = Sh.sha y
          · have hs1 : ((Sh.sha x).toList == (Sh.sha y).toList) = true := by rw [hss]; exact decide_eq_true hsh
            clear hss HNN
            have HSH : Shut _ := ⟨hsh⟩
            clear hsh
            go_wp2
            go_region_held3 (fun w' => w'.cell? ⟨ga, k, none⟩ = some (.string x) ∧ w'.cell? ⟨gb, k, none⟩ = some (.string y)) (go_keep) (first | (go_at_call_of 12 (Value.string x); refine (sum_any x hsa _ hT0).mono ?_; rintro e w5 ⟨rfl, hB5⟩; have hT5 := hT0.below hB5 (by rw [hwz]; exact hge2); have ca5 := (hB5.cell (p := ⟨ga, k, none⟩) hba).trans ca1; have cb5 := (hB5.cell (p := ⟨gb, k, none⟩) hbb).trans cb1) | (go_at_call_of 12 (Value.string y); refine (sum_any y hsb _ hT5).mono ?_; rintro e w6 ⟨rfl, hB6⟩; have ca6 := (hB6.cell (p := ⟨ga, k, none⟩) (World.block_lt_of_cell? w5 _ ca5)).trans ca5; have cb6 := (hB6.cell (p := ⟨gb, k, none⟩) (World.block_lt_of_cell? w5 _ cb5)).trans cb5))
            all_goals go_wp2
            all_goals go_ret
            all_goals exact ⟨rfl, hBd.trans ((hB5.trans (hB6.mono hB5.size)).mono (by rw [hwz]; exact hbs))⟩
          · have hs1 : ((Sh.sha x).toList == (Sh.sha y).toList) = false := by rw [hss]; exact decide_eq_false hsh
            have HN2 := HNN.o hsh
            clear hss HNN hsh
            go_wp2
            go_region_held3 (fun w' => w'.cell? ⟨ga, k, none⟩ = some (.string x) ∧ w'.cell? ⟨gb, k, none⟩ = some (.string y)) (go_keep) (first | (go_at_call_of 12 (Value.string x); refine (sum_any x hsa _ hT0).mono ?_; rintro e w5 ⟨rfl, hB5⟩; have hT5 := hT0.below hB5 (by rw [hwz]; exact hge2); have ca5 := (hB5.cell (p := ⟨ga, k, none⟩) hba).trans ca1; have cb5 := (hB5.cell (p := ⟨gb, k, none⟩) hbb).trans cb1) | (go_at_call_of 12 (Value.string y); refine (sum_any y hsb _ hT5).mono ?_; rintro e w6 ⟨rfl, hB6⟩; have ca6 := (hB6.cell (p := ⟨ga, k, none⟩) (World.block_lt_of_cell? w5 _ ca5)).trans ca5; have cb6 := (hB6.cell (p := ⟨gb, k, none⟩) (World.block_lt_of_cell? w5 _ cb5)).trans cb5))
            all_goals go_wp2
            all_goals exact ⟨⟨k + 1, by omega, by omega, by go_num, ⟨hBd.trans ((hB5.trans (hB6.mono hB5.size)).mono (by rw [hwz]; exact hbs))⟩, HN2⟩, by simp [intOf]; omega⟩
      · obtain ⟨j, ja, jb, hj⟩ := HC.o
        exact absurd hj (hno.o j ja jb (by omega))
    · obtain ⟨j, ja, jb, hj⟩ := HC.o
      exact absurd hj (hno.o j ja jb (by omega))

theorem wayR_size : ∀ (q : List ByteArray) (_ : ∀ x ∈ q, x.size ≤ 900) (n i : Nat) (s : ByteArray) (_ : s.size ≤ 900), Small (wayR q n i s)
  | [], _, _, _, s, hs => by
    intro x hx
    rw [wayR] at hx
    simp only [List.mem_singleton] at hx
    rw [hx, ByteArray.size_append]
    have : (⟨#[0]⟩ : ByteArray).size = 1 := rfl
    omega
  | x :: q, hq, n, i, s, hs => by
    intro z hz
    have hx : x.size ≤ 900 := hq x (by simp)
    have hq' : ∀ x ∈ q, x.size ≤ 900 := fun y hy => hq y (by simp [hy])
    have h1 : (⟨#[1]⟩ : ByteArray).size = 1 := rfl
    rw [wayR] at hz
    split at hz
    · rcases List.mem_cons.1 hz with rfl | hz
      · have := valueR_size q (spl n) i s
        rw [ByteArray.size_append, ByteArray.size_append]; omega
      · exact wayR_size q hq' _ _ s hs z hz
    · rcases List.mem_cons.1 hz with rfl | hz
      · have := valueR_size q (n - spl n) (i - spl n) s
        rw [ByteArray.size_append, ByteArray.size_append]; omega
      · exact wayR_size q hq' _ _ s hs z hz
theorem wayR_len : ∀ (q : List ByteArray) (n i : Nat) (s : ByteArray), (wayR q n i s).length = q.length + 1
  | [], _, _, _ => by rw [wayR]; rfl
  | x :: q, n, i, s => by rw [wayR]; split <;> simp [wayR_len q]
end Go.Proofs.YtnceemdemjjhlaaDoor
