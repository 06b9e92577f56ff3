/-
  Steps: what a closure does to the boxes.
-/
import Derived.Test.YtappobhpdpfojaaGreatRatU
import Derived.Test.YtappobhpdpfojaaGreatRatV
import Derived.Test.YtappobhpdpfojaaGreatRatQ
namespace Go.Proofs.YtappobhpdpfojaaGreat
set_option maxRecDepth 1000000
namespace Rt
open Go.RowKit Nm

abbrev St := Nat → ByteArray
/-- the function f.1 with the captured f.2 does to the cells ad what g says, as long as nothing but bs has changed since w -/
def StepOf (bs : Nat → Prop) (ad : List Addr) (f : Nat × Array Value) (g : St → Option St) (w : World) : Prop := Enters Tryz.prog f.1 ∧ ∀ (W : World) (st : St), Rim bs w W → Holds ad st W →
  Calls Tryz.prog f.1 f.2 W fun e W' => Rim (blk ad) W W' ∧ ((∃ st', g st = some st' ∧ e = .returned (.int .i64 0) ∧ Holds ad st' W') ∨ (g st = none ∧ ∃ n : Int, n ≠ 0 ∧ e = .returned (.int .i64 n)))
theorem StepOf.later {bs : Nat → Prop} {ad : List Addr} {f : Nat × Array Value} {g : St → Option St} {w w' : World} (h : StepOf bs ad f g w) (hr : Rim bs w w') : StepOf bs ad f g w' :=
  ⟨h.1, fun W st hR hH => h.2 W st (hr.trans hR) hH⟩

def cloF (B : Nat) : Nat × Array Value := (94, #[.pointer (some ⟨B + 1, 0, none⟩), .pointer (some ⟨B + 1 + 1, 0, none⟩), .pointer (some ⟨B + 1 + 1 + 1, 0, none⟩), .pointer (some ⟨B, 0, none⟩)])
theorem into_enters : Enters Tryz.prog 94 := enters_of Tryz.func94 (by kernel_rfl) rfl
theorem validC_enters : Enters Tryz.prog 93 := enters_of Tryz.func93 (by kernel_rfl) rfl

theorem into_step {bs : Nat → Prop} {ad : List Addr} {i j l : Nat} {k B : Nat} {op : ByteArray → ByteArray → Option ByteArray} {w : World} (hk : Enters Tryz.prog k) (hop : OpC k op) (hsz : ∀ s t u : ByteArray, s.size ≤ 1000000 → op s t = some u → u.size ≤ 1000000)
    (hd : ad.Nodup) (hi : i < ad.length) (hj : j < ad.length) (hl : l < ad.length) (hli : l ≠ i) (hI : IntoAt w B ad[i] (.func (.func k) #[] #[]) ad[j] ad[l]) (hB : ∀ k, B ≤ k → k ≤ B + 3 → ¬ bs k) (hbs : ∀ k, blk ad k → bs k) :
    StepOf bs ad (cloF B) (fun st => (op (st j) (st l)).map (upd st i)) w := by
  refine ⟨into_enters, fun W st hR hH => ?_⟩
  have hbk : ∀ k, B ≤ k → k ≤ B + 3 → ¬ blk ad k := fun k h1 h2 h3 => hB k h1 h2 (hbs k h3)
  have hI' := hI.keep hR hB
  have hnb : ∀ k, B ≤ k → k ≤ B + 3 → ad[i].block ≠ k := fun k h1 h2 e => hbk k h1 h2 ⟨_, List.getElem_mem hi, e⟩
  have hne : ad[l] ≠ ad[i] := fun e => hli ((List.getElem_inj hd).1 e)
  have hres : ∀ (e : Ending) (W' : World), (∃ (v : ByteArray) (n : Int) (w1 : World), e = .returned (.int .i64 n) ∧ (∀ u, op (st j) (st l) = some u → v = u ∧ n = 0) ∧ (op (st j) (st l) = none → n ≠ 0) ∧ Below W.heap.size W w1 ∧ W' = w1.setCell ad[i] (.string v)) →
      Rim (blk ad) W W' ∧ ((∃ st', (op (st j) (st l)).map (upd st i) = some st' ∧ e = .returned (.int .i64 0) ∧ Holds ad st' W') ∨ ((op (st j) (st l)).map (upd st i) = none ∧ ∃ n : Int, n ≠ 0 ∧ e = .returned (.int .i64 n))) := by
    rintro e W' ⟨v, n, w1, rfl, h1, h2, hB1, rfl⟩
    refine ⟨(Rim.of_below hB1).trans (Rim.set _ _ _ ⟨_, List.getElem_mem hi, rfl⟩), ?_⟩
    cases ho : op (st j) (st l) with
    | none => exact .inr ⟨rfl, n, h2 ho, rfl⟩
    | some u =>
      obtain ⟨rfl, rfl⟩ := h1 u ho
      refine .inl ⟨_, rfl, rfl, ?_⟩
      exact (hH.keep (Rim.of_below (bs := fun _ => False) hB1) (fun _ _ h => h)).set hd hi (hsz _ _ _ (hH.small j hj) ho)
  by_cases hji : j = i
  · subst hji
    refine (clo_near op k B ad[j] ad[l] (st j) (st l) W hk hop hI' (hH.box l hl) (hH.box j hj) (hH.small j hj) (hH.small l hl) hne (hnb _ (by omega) (by omega)) (hnb _ (by omega) (by omega)) (hnb _ (by omega) (by omega)) (hnb _ (by omega) (by omega))).mono ?_
    exact hres
  · have hne2 : ad[j] ≠ ad[i] := fun e => hji ((List.getElem_inj hd).1 e)
    refine (clo_far op k B ad[i] ad[j] ad[l] (st j) (st l) (st i) W hk hop hI' (hH.box j hj) (hH.box l hl) (hH.box i hi) (hH.small j hj) (hH.small l hl) hne2 hne (hnb _ (by omega) (by omega)) (hnb _ (by omega) (by omega)) (hnb _ (by omega) (by omega)) (hnb _ (by omega) (by omega))).mono ?_
    exact hres

/-- the step that checks fractions -/
theorem valid_step {bs : Nat → Prop} {ad : List Addr} {b g cap : Nat} {l : List (ByteArray × ByteArray)} {w : World} (hb : Boxed w b 30 (.slice (some ⟨g, 0, none⟩) l.length cap)) (hl : l.length ≤ 1000)
    (hg : ∀ (i : Nat) (h : i < l.length), w.cell? ⟨g, i * 2, none⟩ = some (.string l[i].1) ∧ w.cell? ⟨g, i * 2 + 1, none⟩ = some (.string l[i].2) ∧ l[i].1.size ≤ 1000000 ∧ l[i].2.size ≤ 1000000)
    (hbn : ¬ bs b) (hgn : ¬ bs g) : StepOf bs ad (93, #[.pointer (some ⟨b, 0, none⟩)]) (fun st => if qsOk l then some st else none) w := by
  refine ⟨validC_enters, fun W st hR hH => ?_⟩
  have hb' : Boxed W b 30 (.slice (some ⟨g, 0, none⟩) l.length cap) := hR.heap hb hbn
  refine (validC_any b g cap l W hb' hl (fun i h => ?_)).mono ?_
  · obtain ⟨h1, h2, h3, h4⟩ := hg i h
    have hlt := World.block_lt_of_cell? w _ h1
    have hbk := hR.block g hlt hgn
    exact ⟨(World.cell?_of_block (a := ⟨g, i * 2, none⟩) hbk).trans h1, (World.cell?_of_block (a := ⟨g, i * 2 + 1, none⟩) hbk).trans h2, h3, h4⟩
  · rintro e W' ⟨rfl, hB⟩
    refine ⟨Rim.of_below hB, ?_⟩
    cases hq : qsOk l with
    | true => exact .inl ⟨st, by simp, rfl, hH.keep (Rim.of_below (bs := fun _ => False) hB) (fun _ _ h => h)⟩
    | false => exact .inr ⟨by simp, 40, by decide, rfl⟩

/-- one step behind the other -/
def run (gs : List (St → Option St)) (st : St) : Option St := gs.foldl (fun o g => o.bind g) (some st)
theorem foldl_none (gs : List (St → Option St)) : gs.foldl (fun o g => o.bind g) none = none := by
  induction gs with
  | nil => rfl
  | cons g gs ih => exact ih
theorem run_append (gs hs : List (St → Option St)) (st : St) : run (gs ++ hs) st = (run gs st).bind (run hs) := by
  rw [run, List.foldl_append]
  show List.foldl _ (run gs st) hs = _
  cases run gs st with
  | none => exact foldl_none hs
  | some s => rfl
theorem run_take {gs : List (St → Option St)} {st : St} {k : Nat} (h : k < gs.length) : run (gs.take (k + 1)) st = (run (gs.take k) st).bind gs[k] := by
  rw [List.take_succ_eq_append_getElem h, run_append]
  cases run (gs.take k) st with
  | none => rfl
  | some s => rfl
abbrev Ps := List ((Nat × Array Value) × (St → Option St))
/-- the steps that reduce: n is the place of the divisor -/
noncomputable def four (n B1 B2 B3 B4 : Nat) : Ps := [(cloF B1, fun st => (opGcd (st 0) (st 1)).map (upd st n)), (cloF B2, fun st => (opSign (st n) (st 1)).map (upd st n)), (cloF B3, fun st => (opFloor (st 0) (st n)).map (upd st 0)), (cloF B4, fun st => (opFloor (st 1) (st n)).map (upd st 1))]
theorem four_red (n B1 B2 B3 B4 : Nat) (hn : 2 ≤ n) (st : St) : (run ((four n B1 B2 B3 B4).map Prod.snd) st).map (fun s => (s 0, s 1)) = redR (st 0) (st 1) := by
  have h0 : ∀ (s : St) v, upd s n v 0 = s 0 := fun s v => if_neg (by omega)
  have h1 : ∀ (s : St) v, upd s n v 1 = s 1 := fun s v => if_neg (by omega)
  have hn' : ∀ (s : St) v, upd s n v n = v := fun s v => if_pos rfl
  have h2 : ∀ (s : St) v, upd s 0 v n = s n := fun s v => if_neg (by omega)
  have h3 : ∀ (s : St) v, upd s 0 v 1 = s 1 := fun s v => if_neg (by omega)
  have h4 : ∀ (s : St) v, upd s 0 v 0 = v := fun s v => if_pos rfl
  have h5 : ∀ (s : St) v, upd s 1 v 0 = s 0 := fun s v => if_neg (by omega)
  have h6 : ∀ (s : St) v, upd s 1 v 1 = v := fun s v => if_pos rfl
  rw [redR]
  simp only [four, run, List.map_cons, List.map_nil, List.foldl_cons, List.foldl_nil, Option.bind_some]
  cases opGcd (st 0) (st 1) with
  | none => rfl
  | some d =>
    simp only [Option.map_some, Option.bind_some, h1, hn']
    cases opSign d (st 1) with
    | none => rfl
    | some e =>
      simp only [Option.map_some, Option.bind_some, h0, hn']
      cases opFloor (st 0) e with
      | none => rfl
      | some a =>
        simp only [Option.map_some, Option.bind_some, h1, hn', h2, h3]
        cases opFloor (st 1) e with
        | none => rfl
        | some b => simp only [Option.map_some, h4, h5, h6]
theorem op2_small {f : Int → Int → Option Int} : ∀ s t u : ByteArray, s.size ≤ 1000000 → op2 f s t = some u → u.size ≤ 1000000 := fun _ _ _ _ h => op2_size h
theorem sign_small : ∀ s t u : ByteArray, s.size ≤ 1000000 → opSign s t = some u → u.size ≤ 1000000 := by
  intro s t u hs h
  rw [opSign] at h
  cases hz : zOf t with
  | none => rw [hz] at h; cases h
  | some y =>
    rw [hz, Option.bind_some] at h
    split at h
    · cases h
    · split at h
      · injection h with h; subst h; exact hs
      · exact op2_size h
end Rt
end Go.Proofs.YtappobhpdpfojaaGreat
