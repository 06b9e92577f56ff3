/-
  The contract of collide, whether or not two strings collide.
-/
import Derived.Test.YtnceemdemjjhlaaDoorDigHeads
namespace Go.Proofs.YtnceemdemjjhlaaDoor
open Go.RowKit

set_option maxRecDepth 100000 in
set_option maxHeartbeats 4000000 in
theorem collide_gen (a b : List ByteArray) (ga ca gb cb : Nat) (pa pb : Option Addr) (hpa : 1 ≤ a.length → pa = some ⟨ga, 0, none⟩) (hpb : 1 ≤ b.length → pb = some ⟨gb, 0, none⟩) (hla : a.length ≤ 1000000) (hlb : b.length ≤ 1000000) (hSa : Small a) (hSb : Small b)
    (w : World) (ht : Tab w) (hA : SA w ga 0 a) (hB : SA w gb 0 b) :
    Calls Tryd.prog 32 #[.slice pa a.length ca, .slice pb b.length cb] w fun e w' => ∃ c, e = .returned (.bool c) ∧ (Coll a b → c = true) ∧ Below w.heap.size w w' := by
  have hge := ht.2.2
  go_enter Tryd.func32, Tryd.ntmps32
  have HA : Shut _ := ⟨hA⟩
  have HB : Shut _ := ⟨hB⟩
  have HT : Shut _ := ⟨ht⟩
  have HSa : Shut _ := ⟨hSa⟩
  have HSb : Shut _ := ⟨hSb⟩
  have HPa : Shut _ := ⟨hpa⟩
  have HPb : Shut _ := ⟨hpb⟩
  clear hA hB ht hSa hSb hpa hpb
  go_wp2
  go_loopw [5] (fun i5 wr => ∃ k : Nat, k ≤ a.length ∧ k ≤ b.length ∧ i5 = .int .i64 k ∧ Shut (Below w.heap.size w wr) ∧ Shut (∀ j (ha : j < a.length) (hb : j < b.length), j < k → ¬ (a[j] ≠ b[j] ∧ Sh.sha a[j] = Sh.sha b[j]))) (fun i5 _ => a.length - (intOf i5).toNat)
  case atStart => exact ⟨0, Nat.zero_le _, Nat.zero_le _, rfl, ⟨Below.refl _ _⟩, ⟨fun j _ _ h => by omega⟩⟩
  case round =>
    obtain ⟨k, hka, hkb, rfl, hBr, hno⟩ := hrel
    by_cases h1 : k < a.length
    · by_cases h2 : k < b.length
      · obtain rfl := HPa.o (by omega)
        obtain rfl := HPb.o (by omega)
        have ca1 := (HA.o.below hBr.o) k h1
        have cb1 := (HB.o.below hBr.o) k h2
        rw [Nat.zero_add] at ca1 cb1
        have hba : ga < wr.heap.size := World.block_lt_of_cell? wr _ ca1
        have hbb : gb < wr.heap.size := World.block_lt_of_cell? wr _ cb1
        have hd1 : decide ((k : Int) < (a.length : Int)) = true := decide_eq_true (by omega)
        have hd2 : decide ((k : Int) < (b.length : Int)) = true := decide_eq_true (by omega)
        have hsa : a[k].size ≤ 100000 := by have := HSa.o _ (List.getElem_mem h1); omega
        have hsb : b[k].size ≤ 100000 := by have := HSb.o _ (List.getElem_mem h2); omega
        by_cases he : a[k] = b[k]
        · have hn2 : Shut (∀ j (ha : j < a.length) (hb : j < b.length), j < k + 1 → ¬ (a[j] ≠ b[j] ∧ Sh.sha a[j] = Sh.sha b[j])) := ⟨fun j ha hb hj => by
            by_cases e : j = k
            · subst e; exact fun h => h.1 he
            · exact hno.o j ha hb (by omega)⟩
          rw [← he] at cb1
          generalize a[k] = x at *
          have hne : (!(x.toList == x.toList)) = false := by simp
          have hbe : (x.toList == x.toList) = true := beq_self_eq_true _
          have hB2 : Shut (∀ m, Below w.heap.size w (wr.drewN m)) := ⟨fun m => below_drewN hBr.o m⟩
          go_wp2
          go_quiet (fail)
          go_wp2
          exact ⟨⟨k + 1, by omega, by omega, by go_num, ⟨hB2.o _⟩, hn2⟩, by simp [intOf]; omega⟩
        · have hnn : Sh.sha a[k] ≠ Sh.sha b[k] → Shut (∀ j (ha : j < a.length) (hb : j < b.length), j < k + 1 → ¬ (a[j] ≠ b[j] ∧ Sh.sha a[j] = Sh.sha b[j])) := fun hs => ⟨fun j ha hb hj => by
            by_cases e : j = k
            · subst e; exact fun h => hs h.2
            · exact hno.o j ha hb (by omega)⟩
          have hTr := HT.o.below hBr.o hge
          have hT0 : Tab wr.drew := ⟨hTr.1, hTr.2.1, hTr.2.2⟩
          have hwz : wr.drew.heap.size = wr.heap.size := rfl
          have hx1 : (a[k].toList == b[k].toList) = false := by rw [str_eq]; exact decide_eq_false he
          have hss := str_eq (Sh.sha a[k]) (Sh.sha b[k])
          have HNN : Shut _ := ⟨hnn⟩
          have hge2 : 2 ≤ wr.heap.size := hTr.2.2
          have hBd : Below w.heap.size w wr.drew := hBr.o.drew
          have hbs := hBr.o.size
          clear hnn hTr hno
          generalize a[k] = x at *
          generalize b[k] = y at *
          by_cases hsh : Sh.sha x = Sh.sha y
          · have hs1 : ((Sh.sha x).toList == (Sh.sha y).toList) = true := by rw [hss]; exact decide_eq_true hsh
            clear hss HNN
            have HSH : Shut _ := ⟨hsh⟩
            clear hsh
            go_wp2
            go_region_held3 (fun w' => w'.cell? ⟨ga, k, none⟩ = some (.string x) ∧ w'.cell? ⟨gb, k, none⟩ = some (.string y)) (go_keep) (first | (go_at_call_of 12 (Value.string x); refine (sum_any x hsa _ hT0).mono ?_; rintro e w5 ⟨rfl, hB5⟩; have hT5 := hT0.below hB5 (by rw [hwz]; exact hge2); have ca5 := (hB5.cell (p := ⟨ga, k, none⟩) hba).trans ca1; have cb5 := (hB5.cell (p := ⟨gb, k, none⟩) hbb).trans cb1) | (go_at_call_of 12 (Value.string y); refine (sum_any y hsb _ hT5).mono ?_; rintro e w6 ⟨rfl, hB6⟩; have ca6 := (hB6.cell (p := ⟨ga, k, none⟩) (World.block_lt_of_cell? w5 _ ca5)).trans ca5; have cb6 := (hB6.cell (p := ⟨gb, k, none⟩) (World.block_lt_of_cell? w5 _ cb5)).trans cb5))
            all_goals go_wp2
            all_goals go_ret
            all_goals exact ⟨true, rfl, fun _ => rfl, hBd.trans ((hB5.trans (hB6.mono hB5.size)).mono (by rw [hwz]; exact hbs))⟩
          · have hs1 : ((Sh.sha x).toList == (Sh.sha y).toList) = false := by rw [hss]; exact decide_eq_false hsh
            have HN2 := HNN.o hsh
            clear hss HNN hsh
            go_wp2
            go_region_held3 (fun w' => w'.cell? ⟨ga, k, none⟩ = some (.string x) ∧ w'.cell? ⟨gb, k, none⟩ = some (.string y)) (go_keep) (first | (go_at_call_of 12 (Value.string x); refine (sum_any x hsa _ hT0).mono ?_; rintro e w5 ⟨rfl, hB5⟩; have hT5 := hT0.below hB5 (by rw [hwz]; exact hge2); have ca5 := (hB5.cell (p := ⟨ga, k, none⟩) hba).trans ca1; have cb5 := (hB5.cell (p := ⟨gb, k, none⟩) hbb).trans cb1) | (go_at_call_of 12 (Value.string y); refine (sum_any y hsb _ hT5).mono ?_; rintro e w6 ⟨rfl, hB6⟩; have ca6 := (hB6.cell (p := ⟨ga, k, none⟩) (World.block_lt_of_cell? w5 _ ca5)).trans ca5; have cb6 := (hB6.cell (p := ⟨gb, k, none⟩) (World.block_lt_of_cell? w5 _ cb5)).trans cb5))
            all_goals go_wp2
            all_goals exact ⟨⟨k + 1, by omega, by omega, by go_num, ⟨hBd.trans ((hB5.trans (hB6.mono hB5.size)).mono (by rw [hwz]; exact hbs))⟩, HN2⟩, by simp [intOf]; omega⟩
      · have HN : Shut (Coll a b → false = true) := ⟨fun hc => by
          obtain ⟨j, ja, jb, hj⟩ := hc
          exact absurd hj (hno.o j ja jb (by omega))⟩
        have hd1 : decide ((k : Int) < (a.length : Int)) = true := decide_eq_true (by omega)
        have hd2 : decide ((k : Int) < (b.length : Int)) = false := decide_eq_false (by omega)
        go_wp2
        go_ret
        exact ⟨false, rfl, HN.o, hBr.o⟩
    · have HN : Shut (Coll a b → false = true) := ⟨fun hc => by
        obtain ⟨j, ja, jb, hj⟩ := hc
        exact absurd hj (hno.o j ja jb (by omega))⟩
      have hd1 : decide ((k : Int) < (a.length : Int)) = false := decide_eq_false (by omega)
      go_wp2
      go_ret
      exact ⟨false, rfl, HN.o, hBr.o⟩
end Go.Proofs.YtnceemdemjjhlaaDoor
