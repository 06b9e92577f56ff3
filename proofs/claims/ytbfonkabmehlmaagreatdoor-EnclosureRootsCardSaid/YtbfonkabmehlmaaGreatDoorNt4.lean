/-
  Package enclosure's law: calls of two intervals, what they answer, Inside.
-/
import Derived.Test.YtbfonkabmehlmaaGreatDoorMd8
import Derived.Test.YtbfonkabmehlmaaGreatDoorMb4
import Derived.Maps.AppendAt
import Derived.Test.YtbfonkabmehlmaaGreatDoorMc5
import Derived.Deep.DeepCutAuto
namespace Go.Proofs.YtbfonkabmehlmaaGreatDoor
set_option maxRecDepth 1000000
namespace En
open Go.RowKit Go.Extern.Stop Go.Stop Go.Extern
open Go.Proofs.YtbfonkabmehlmaaGreatDoor.Nm Go.Proofs.YtbfonkabmehlmaaGreatDoor.Rt
open N10 (Two)
/-- a fraction whose number and whose denominator are bounded -/
structure BQ (n d : Nat) (q : Rat) : Prop where
  num : q.num.natAbs ≤ n
  den : q.den ≤ d
theorem BQ.mono {n d n' d' : Nat} {q : Rat} (h : BQ n d q) (hn : n ≤ n') (hd : d ≤ d') : BQ n' d' q := ⟨Nat.le_trans h.num hn, Nat.le_trans h.den hd⟩
theorem BQ.fit {n d : Nat} {q : Rat} (h : BQ n d q) (hn : n < 10 ^ 200) (hd : d < 10 ^ 200) : FitQ q := ⟨fits_small (Nat.lt_of_le_of_lt h.num hn), fits_small (by rw [Int.natAbs_natCast]; exact Nat.lt_of_le_of_lt h.den hd)⟩
theorem BQ.of_div {x y : Int} {n d : Nat} (h0 : y ≠ 0) (hx : x.natAbs ≤ n) (hy : y.natAbs ≤ d) : BQ n d (Rat.divInt x y) := ⟨Nat.le_trans (div_bds h0).1 hx, Nat.le_trans (div_bds h0).2 hy⟩
theorem as_div (q : Rat) : q = Rat.divInt q.num q.den := (Rat.num_divInt_den q).symm
theorem abs_mul_le {x y : Int} {m n : Nat} (hx : x.natAbs ≤ m) (hy : y.natAbs ≤ n) : (x * y).natAbs ≤ m * n := by rw [Int.natAbs_mul]; exact Nat.mul_le_mul hx hy
theorem den_abs {n d : Nat} {q : Rat} (h : BQ n d q) : (q.den : Int).natAbs ≤ d := by rw [Int.natAbs_natCast]; exact h.den
theorem BQ.add {n1 d1 n2 d2 : Nat} {p q : Rat} (hp : BQ n1 d1 p) (hq : BQ n2 d2 q) : BQ (n1 * d2 + n2 * d1) (d1 * d2) (p + q) := by
  have e1 := p.den_pos
  have e2 := q.den_pos
  rw [as_div p, as_div q, Rat.divInt_add_divInt _ _ (by omega) (by omega)]
  refine .of_div (Int.mul_ne_zero (by omega) (by omega)) ?_ (abs_mul_le (den_abs hp) (den_abs hq))
  exact Nat.le_trans (Int.natAbs_add_le _ _) (Nat.add_le_add (abs_mul_le hp.num (den_abs hq)) (abs_mul_le hq.num (den_abs hp)))
theorem BQ.sub {n1 d1 n2 d2 : Nat} {p q : Rat} (hp : BQ n1 d1 p) (hq : BQ n2 d2 q) : BQ (n1 * d2 + n2 * d1) (d1 * d2) (p - q) := by
  have e1 := p.den_pos
  have e2 := q.den_pos
  rw [as_div p, as_div q, Rat.divInt_sub_divInt _ _ (by omega) (by omega)]
  refine .of_div (Int.mul_ne_zero (by omega) (by omega)) ?_ (abs_mul_le (den_abs hp) (den_abs hq))
  exact Nat.le_trans (Int.natAbs_sub_le _ _) (Nat.add_le_add (abs_mul_le hp.num (den_abs hq)) (abs_mul_le hq.num (den_abs hp)))
theorem BQ.mul {n1 d1 n2 d2 : Nat} {p q : Rat} (hp : BQ n1 d1 p) (hq : BQ n2 d2 q) : BQ (n1 * n2) (d1 * d2) (p * q) := by
  have e1 := p.den_pos
  have e2 := q.den_pos
  rw [as_div p, as_div q, Rat.divInt_mul_divInt]
  exact .of_div (Int.mul_ne_zero (by omega) (by omega)) (abs_mul_le hp.num hq.num) (abs_mul_le (den_abs hp) (den_abs hq))
theorem fits_lt10 {z : Int} {n : Nat} (h : z.natAbs ≤ n) (hn : n < 10 ^ 200) : Fits z := fits_small (Nat.lt_of_le_of_lt h hn)
theorem addQ_b {n1 d1 n2 d2 : Nat} {p q : Rat} (hp : BQ n1 d1 p) (hq : BQ n2 d2 q) (h1 : n1 * d2 + n2 * d1 < 10 ^ 200) (h2 : d1 * d2 < 10 ^ 200) : addQ p q = some (p + q) := by
  have a := abs_mul_le hp.num (den_abs hq)
  have b := abs_mul_le hq.num (den_abs hp)
  rw [addQ, if_pos]
  exact ⟨fits_lt10 a (by omega), fits_lt10 b (by omega), fits_lt10 (Nat.le_trans (Int.natAbs_add_le _ _) (Nat.add_le_add a b)) h1, fits_lt10 (abs_mul_le (den_abs hp) (den_abs hq)) h2⟩
theorem subQ_b {n1 d1 n2 d2 : Nat} {p q : Rat} (hp : BQ n1 d1 p) (hq : BQ n2 d2 q) (h1 : n1 * d2 + n2 * d1 < 10 ^ 200) (h2 : d1 * d2 < 10 ^ 200) : subQ p q = some (p - q) := by
  have a := abs_mul_le hp.num (den_abs hq)
  have b := abs_mul_le hq.num (den_abs hp)
  rw [subQ, if_pos]
  exact ⟨fits_lt10 a (by omega), fits_lt10 b (by omega), fits_lt10 (Nat.le_trans (Int.natAbs_sub_le _ _) (Nat.add_le_add a b)) h1, fits_lt10 (abs_mul_le (den_abs hp) (den_abs hq)) h2⟩
theorem mulQ_b {n1 d1 n2 d2 : Nat} {p q : Rat} (hp : BQ n1 d1 p) (hq : BQ n2 d2 q) (h1 : n1 * n2 < 10 ^ 200) (h2 : d1 * d2 < 10 ^ 200) : mulQ p q = some (p * q) := by
  rw [mulQ, if_pos ⟨fits_lt10 (abs_mul_le hp.num hq.num) h1, fits_lt10 (abs_mul_le (den_abs hp) (den_abs hq)) h2⟩]
theorem divQ_b {n1 d1 n2 d2 : Nat} {p q : Rat} (hp : BQ n1 d1 p) (hq : BQ n2 d2 q) (h0 : q ≠ 0) (h1 : n1 * d2 < 10 ^ 200) (h2 : d1 * n2 < 10 ^ 200) : divQ p q = some (p / q) := by
  rw [divQ, if_pos ⟨fits_lt10 (abs_mul_le hp.num (den_abs hq)) h1, fits_lt10 (abs_mul_le (den_abs hp) hq.num) h2, h0⟩]
theorem SmallQ.bq {q : Rat} (h : SmallQ q) : BQ 999 60 q := ⟨h.num, h.den⟩
theorem addR_O {o1 o2 : Option Rat} (h1 : FitO o1) (h2 : FitO o2) : Ret 80 #[vO o1, vO o2] (resO (lift2 addQ o1 o2)) := fun W => by
  have := AddR_all (sn o1) (sd o1) (sn o2) (sd o2) h1.sizes.1 h1.sizes.2 h2.sizes.1 h2.sizes.2 W
  rw [addB h1 h2] at this
  exact this
theorem subR_O {o1 o2 : Option Rat} (h1 : FitO o1) (h2 : FitO o2) : Ret 11 #[vO o1, vO o2] (resO (lift2 subQ o1 o2)) := fun W => by
  have := SubR_all (sn o1) (sd o1) (sn o2) (sd o2) h1.sizes.1 h1.sizes.2 h2.sizes.1 h2.sizes.2 W
  rw [subB h1 h2] at this
  exact this
theorem mulR_O {o1 o2 : Option Rat} (h1 : FitO o1) (h2 : FitO o2) : Ret 79 #[vO o1, vO o2] (resO (lift2 mulQ o1 o2)) := fun W => by
  have := MulR_all (sn o1) (sd o1) (sn o2) (sd o2) h1.sizes.1 h1.sizes.2 h2.sizes.1 h2.sizes.2 W
  rw [mulB h1 h2] at this
  exact this
end En
end Go.Proofs.YtbfonkabmehlmaaGreatDoor
namespace Go.Proofs.YtbfonkabmehlmaaGreatDoor
set_option maxRecDepth 1000000
namespace En
open Go.RowKit Go.Extern.Stop Go.Stop Go.Extern
/-- the cells of the first t of R -/
def cellsG (R : Nat → List Value) : Nat → List Value
  | 0 => []
  | t + 1 => cellsG R t ++ R t
theorem cellsG_len {s : Nat} (R : Nat → List Value) : ∀ t, (∀ i, i < t → (R i).length = s) → (cellsG R t).length = t * s
  | 0, _ => by rw [Nat.zero_mul]; rfl
  | t + 1, h => by rw [cellsG, List.length_append, cellsG_len R t (fun i hi => h i (by omega)), h t (by omega), Nat.succ_mul]
theorem cellsG_at {s : Nat} (R : Nat → List Value) : ∀ t, (∀ i, i < t → (R i).length = s) → ∀ j i, j < t → i < s → (cellsG R t)[j * s + i]? = (R j)[i]?
  | 0, _, _, _, h, _ => absurd h (by omega)
  | t + 1, hl, j, i, h, hi => by
    have hlen := cellsG_len R t (fun i hi => hl i (by omega))
    rw [cellsG]
    rcases Nat.lt_or_ge j t with h1 | h1
    · have : j * s + i < t * s := by
        have := Nat.mul_le_mul_right s (show j + 1 ≤ t by omega)
        rw [Nat.succ_mul] at this; omega
      rw [List.getElem?_append_left (by omega)]
      exact cellsG_at R t (fun i hi => hl i (by omega)) j i h1 hi
    · obtain rfl : j = t := by omega
      rw [List.getElem?_append_right (by omega), hlen, Nat.add_sub_cancel_left]
def OwnG (e : TypeId) (s : Nat) (W : World) (base : Nat) (v : Value) (t : Nat) (R : Nat → List Value) : Prop := W.ownsRow base e s v t (cellsG R t)
theorem OwnG.nil (e : TypeId) (s : Nat) (W : World) (base : Nat) (R : Nat → List Value) : OwnG e s W base (.slice none 0 0) 0 R := World.ownsRow_nil W base _ _
theorem OwnG.below {e : TypeId} {s : Nat} {W W' : World} {base t : Nat} {v : Value} {R : Nat → List Value} (h : OwnG e s W base v t R) (hb : Below W.heap.size W W') : OwnG e s W' base v t R := by
  refine ⟨h.1, ?_⟩
  rcases h.2 with hn | ⟨g, cap, cur, e, hg, hgg, rest⟩
  · exact .inl hn
  · exact .inr ⟨g, cap, cur, e, hg, by rw [hb.block g (Array.getElem?_eq_some_iff.1 hgg).1]; exact hgg, rest⟩
theorem OwnG.new {e : TypeId} {s : Nat} {W : World} {base t : Nat} {v : Value} {R : Nat → List Value} (h : OwnG e s W base v t R) (b : Nat) (hb : W.heap.size ≤ b) : v.ownBlock ≠ some b := by
  rcases h.2 with ⟨rfl, _⟩ | ⟨g, cap, cur, rfl, hg, hgg, rest⟩
  · simp [Value.ownBlock]
  · have := (Array.getElem?_eq_some_iff.1 hgg).1
    simp [Value.ownBlock]; omega
theorem OwnG.low {e : TypeId} {s : Nat} {W : World} {base t : Nat} {v : Value} {R : Nat → List Value} (h : OwnG e s W base v t R) (b : Nat) (hb : b < base) : v.ownBlock ≠ some b := by
  rcases h.2 with ⟨rfl, _⟩ | ⟨g, cap, cur, rfl, hg, hgg, rest⟩
  · simp [Value.ownBlock]
  · simp [Value.ownBlock]; omega
/-- another list's growth leaves it -/
theorem OwnG.beside {e : TypeId} {s : Nat} {W W' : World} {base t : Nat} {v u : Value} {R : Nat → List Value} (h : OwnG e s W base v t R) (hg : W.grownBy W' u.ownBlock) (hn : v.ownBlock = none ∨ v.ownBlock ≠ u.ownBlock) : OwnG e s W' base v t R := World.ownsRow.kept h hg hn
theorem OwnG.shape {e : TypeId} {s : Nat} {W : World} {base t : Nat} {v : Value} {R : Nat → List Value} (h : OwnG e s W base v (t + 1) R) (hl : ∀ i, i < t + 1 → (R i).length = s) : ∃ g cap, v = .slice (some ⟨g, 0, none⟩) (t + 1) cap ∧ base ≤ g ∧ t + 1 ≤ cap ∧ cap ≤ maxLen ∧ ∃ cur, W.heap[g]? = some (.cells cur e (0, 0)) ∧ ∀ j i, j < t + 1 → i < s → cur[j * s + i]? = (R j)[i]? := by
  rcases h.2 with ⟨_, hn⟩ | ⟨g, cap, cur, rfl, hg, hgg, h1, h2, h3, h4⟩
  · cases hn
  · refine ⟨g, cap, rfl, hg, h1, h2, cur, hgg, fun j i hj hi => ?_⟩
    have hc := cellsG_at R (t + 1) hl j i hj hi
    have hlt : j * s + i < (t + 1) * s := by
      have := Nat.mul_le_mul_right s (show j + 1 ≤ t + 1 by omega)
      rw [Nat.succ_mul] at this; omega
    rw [← h4, List.getElem?_take_of_lt hlt, Array.getElem?_toList] at hc
    exact hc
/-- two lists that don't share a block, one of which has grown -/
theorem apart_grown {e : TypeId} {s : Nat} {W : World} {base t : Nat} {v v' u : Value} {R : Nat → List Value} (hu : OwnG e s W base u t R) (h : u.ownBlock = none ∨ u.ownBlock ≠ v.ownBlock) (hat : v'.ownBlock = v.ownBlock ∨ v'.ownBlock = some W.heap.size) : u.ownBlock = none ∨ u.ownBlock ≠ v'.ownBlock := by
  rcases hat with e1 | e1
  · rw [e1]; exact h
  · right; rw [e1]; exact hu.new _ (Nat.le_refl _)
theorem below_grown {e : TypeId} {s B t base : Nat} {R : Nat → List Value} {w w1 w3 : World} {v : Value} (hb : Below B w w1) (hB : B ≤ w.heap.size) (hBb : B ≤ base) (hO : OwnG e s w1 base v t R) (hg : w1.grownBy w3 v.ownBlock) : Below B w w3 :=
  hb.trans ⟨hg.os, hg.tape, hg.output, hg.size, fun k hk => hg.block k (Nat.lt_of_lt_of_le (Nat.lt_of_lt_of_le hk hB) hb.size) (fun e => by
    rcases hO.2 with ⟨rfl, _⟩ | ⟨g, cap, cur, rfl, h1, _⟩
    · simp [Value.ownBlock] at e
    · simp [Value.ownBlock] at e; omega)⟩
theorem infoIvl : (Tryz.prog.info? 25).map (fun i => (i.zero, i.size, i.bytes)) = some (some (.agg #[.string ⟨#[]⟩, .string ⟨#[]⟩, .string ⟨#[]⟩, .string ⟨#[]⟩]), 4, 64) := by kernel_rfl
theorem infoErr : (Tryz.prog.info? 30).map (fun i => (i.zero, i.size, i.bytes)) = some (some (.int .i64 0), 1, 8) := by kernel_rfl
theorem append_ivl {w : World} {ops : Array Oper} {rest : List Oper} {o : Oper} {a : Act} {Q : Exit → Act → World → Prop} (hgd : o.guard = none) (s x : Operand)
    (ho : o.op = .call { callee := .builtin .append, args := #[s, x], argTypes := #[40, 40] }) (base : Nat) (v : Value) (t : Nat) (R : Nat → List Value) (hs : a.eval s = v) (hown : OwnG 25 4 w base v t R)
    (Bx c : Nat) (hx : a.eval x = .slice (some ⟨Bx, 0, none⟩) 1 c) (x0 x1 x2 x3 : ByteArray) (hR : R t = [.string x0, .string x1, .string x2, .string x3]) (hB : w.heap[Bx]? = some (.cells #[.string x0, .string x1, .string x2, .string x3] 25 (0, 0))) (ht : t ≤ 1000) (hb : base ≤ w.heap.size)
    (h : ∀ v' w', OwnG 25 4 w' base v' (t + 1) R → w.grownBy w' v.ownBlock → (v'.ownBlock = v.ownBlock ∨ v'.ownBlock = some w.heap.size) → wpList Tryz.prog ops Q rest (a.put o.dst v') w') : wpList Tryz.prog ops Q (o :: rest) a w := by
  obtain ⟨i0, hinf, hz⟩ := Option.map_eq_some_iff.1 infoIvl
  have hz0 : i0.zero = some (.agg #[.string ⟨#[]⟩, .string ⟨#[]⟩, .string ⟨#[]⟩, .string ⟨#[]⟩]) := congrArg (fun q => q.1) hz
  have hz1 : i0.size = 4 := congrArg (fun q => q.2.1) hz
  have hz2 : i0.bytes = 64 := congrArg (fun q => q.2.2) hz
  refine wpList_append_own_at w hgd s x 40 ho base 25 i0 _ 4 64 Tryz.underlying40 hinf hz0 hz1 hz2 rfl (by decide) v t _ hs hown ⟨Bx, 0, none⟩ 1 c [.string x0, .string x1, .string x2, .string x3] hx rfl ?_ ?_ (by unfold maxLen; omega) (by omega) hb ?_
  · intro j u hj
    rw [Addr.add_lit, Nat.zero_add]
    match j, hj with
    | 0, hj => exact lcell hB 0 hj
    | 1, hj => exact lcell hB 1 hj
    | 2, hj => exact lcell hB 2 hj
    | 3, hj => exact lcell hB 3 hj
  · intro u hu
    simp at hu
    rcases hu with rfl | rfl | rfl | rfl <;> rfl
  · intro v' w' hown' hgrow _ hat
    refine h v' w' ?_ hgrow hat
    unfold OwnG
    rw [cellsG, hR]
    exact hown'
theorem append_err {w : World} {ops : Array Oper} {rest : List Oper} {o : Oper} {a : Act} {Q : Exit → Act → World → Prop} (hgd : o.guard = none) (s x : Operand)
    (ho : o.op = .call { callee := .builtin .append, args := #[s, x], argTypes := #[41, 41] }) (base : Nat) (v : Value) (t : Nat) (R : Nat → List Value) (hs : a.eval s = v) (hown : OwnG 30 1 w base v t R)
    (Bx c : Nat) (hx : a.eval x = .slice (some ⟨Bx, 0, none⟩) 1 c) (k : Int) (hR : R t = [.int .i64 k]) (hB : w.heap[Bx]? = some (.cells #[.int .i64 k] 30 (0, 0))) (ht : t ≤ 1000) (hb : base ≤ w.heap.size)
    (h : ∀ v' w', OwnG 30 1 w' base v' (t + 1) R → w.grownBy w' v.ownBlock → (v'.ownBlock = v.ownBlock ∨ v'.ownBlock = some w.heap.size) → wpList Tryz.prog ops Q rest (a.put o.dst v') w') : wpList Tryz.prog ops Q (o :: rest) a w := by
  obtain ⟨i0, hinf, hz⟩ := Option.map_eq_some_iff.1 infoErr
  have hz0 : i0.zero = some (.int .i64 0) := congrArg (fun q => q.1) hz
  have hz1 : i0.size = 1 := congrArg (fun q => q.2.1) hz
  have hz2 : i0.bytes = 8 := congrArg (fun q => q.2.2) hz
  refine wpList_append_own_at w hgd s x 41 ho base 30 i0 _ 1 8 Tryz.underlying41 hinf hz0 hz1 hz2 rfl (by decide) v t _ hs hown ⟨Bx, 0, none⟩ 1 c [.int .i64 k] hx rfl ?_ ?_ (by unfold maxLen; omega) (by omega) hb ?_
  · intro j u hj
    rw [Addr.add_lit, Nat.zero_add]
    match j, hj with
    | 0, hj => exact lcell hB 0 hj
  · intro u hu
    simp at hu
    subst hu; rfl
  · intro v' w' hown' hgrow _ hat
    refine h v' w' ?_ hgrow hat
    unfold OwnG
    rw [cellsG, hR]
    exact hown'
end En
end Go.Proofs.YtbfonkabmehlmaaGreatDoor
namespace Go.Proofs.YtbfonkabmehlmaaGreatDoor
set_option maxRecDepth 1000000
namespace En
open Go.RowKit Go.Extern.Stop Go.Stop Go.Extern
abbrev P4 := (ByteArray × ByteArray) × (ByteArray × ByteArray)
def ivs (M : Nat → P4) (t : Nat) : List Value := [.string (M t).1.1, .string (M t).1.2, .string (M t).2.1, .string (M t).2.2]
def ers (E : Nat → Int) (t : Nat) : List Value := [.int .i64 (E t)]
theorem size4 (W : World) (a b c d : Addr) (p q r s : Value) : ((((W.setCell a p).setCell b q).setCell c r).setCell d s).heap.size = W.heap.size := by simp
theorem apart_symm {u v : Option Nat} (h : u = none ∨ u ≠ v) : v = none ∨ v ≠ u := by
  cases v with
  | none => exact .inl rfl
  | some b => rcases h with h | h
              · rw [h]; exact .inr (by simp)
              · exact .inr (Ne.symm h)
theorem OwnG.low_base {e : TypeId} {s : Nat} {W : World} {base b' t : Nat} {v : Value} {R : Nat → List Value} (h : OwnG e s W base v t R) (hb : b' ≤ base) : OwnG e s W b' v t R := by
  refine ⟨h.1, ?_⟩
  rcases h.2 with hn | ⟨g, cap, cur, e, hg, rest⟩
  · exact .inl hn
  · exact .inr ⟨g, cap, cur, e, Nat.le_trans hb hg, rest⟩
theorem grown4 (W : World) (b : Nat) (p q r s : Value) : W.grownBy ((((W.setCell ⟨b, 0, none⟩ p).setCell ⟨b, 1, none⟩ q).setCell ⟨b, 2, none⟩ r).setCell ⟨b, 3, none⟩ s) (Value.slice (some ⟨b, 0, none⟩) 0 0).ownBlock :=
  ⟨rfl, rfl, rfl, by simp, fun k _ hn => by
    have hkb : k ≠ b := fun e => hn (by simp [Value.ownBlock, e])
    exact (Below.heap_setCell _ _ _ _ hkb).trans ((Below.heap_setCell _ _ _ _ hkb).trans ((Below.heap_setCell _ _ _ _ hkb).trans (Below.heap_setCell _ _ _ _ hkb)))⟩
set_option maxHeartbeats 16000000 in
theorem calls_any (a : Addr) (x0 x1 x2 x3 y0 y1 y2 y3 : ByteArray) (pl : Int) (M : Nat → P4) (E : Nat → Int)
    (h0 : LC a 53 #[.agg #[.string x0, .string x1, .string x2, .string x3], .agg #[.string y0, .string y1, .string y2, .string y3]] (.tuple #[.agg #[.string (M 0).1.1, .string (M 0).1.2, .string (M 0).2.1, .string (M 0).2.2], .int .i64 (E 0)]))
    (h1 : LC a 54 #[.agg #[.string x0, .string x1, .string x2, .string x3], .agg #[.string y0, .string y1, .string y2, .string y3]] (.tuple #[.agg #[.string (M 1).1.1, .string (M 1).1.2, .string (M 1).2.1, .string (M 1).2.2], .int .i64 (E 1)]))
    (h2 : LC a 38 #[.agg #[.string x0, .string x1, .string x2, .string x3], .agg #[.string y0, .string y1, .string y2, .string y3]] (.tuple #[.agg #[.string (M 2).1.1, .string (M 2).1.2, .string (M 2).2.1, .string (M 2).2.2], .int .i64 (E 2)]))
    (h3 : LC a 40 #[.agg #[.string x0, .string x1, .string x2, .string x3], .agg #[.string y0, .string y1, .string y2, .string y3]] (.tuple #[.agg #[.string (M 3).1.1, .string (M 3).1.2, .string (M 3).2.1, .string (M 3).2.2], .int .i64 (E 3)]))
    (h4 : LC a 37 #[.agg #[.string x0, .string x1, .string x2, .string x3], .agg #[.string y0, .string y1, .string y2, .string y3]] (.tuple #[.agg #[.string (M 4).1.1, .string (M 4).1.2, .string (M 4).2.1, .string (M 4).2.2], .int .i64 (E 4)]))
    (h5 : LC a 36 #[.agg #[.string x0, .string x1, .string x2, .string x3], .agg #[.string y0, .string y1, .string y2, .string y3]] (.tuple #[.agg #[.string (M 5).1.1, .string (M 5).1.2, .string (M 5).2.1, .string (M 5).2.2], .int .i64 (E 5)]))
    (h6 : LC a 34 #[.agg #[.string x0, .string x1, .string x2, .string x3], .int .i64 pl] (.tuple #[.agg #[.string (M 6).1.1, .string (M 6).1.2, .string (M 6).2.1, .string (M 6).2.2], .int .i64 (E 6)]))
    (h7 : LC a 41 #[.agg #[.string x0, .string x1, .string x2, .string x3], .int .i64 pl] (.tuple #[.agg #[.string (M 7).1.1, .string (M 7).1.2, .string (M 7).2.1, .string (M 7).2.2], .int .i64 (E 7)]))
    (w : World) (hv : Ref a w) :
    Calls Tryz.prog 16 #[.agg #[.string x0, .string x1, .string x2, .string x3], .agg #[.string y0, .string y1, .string y2, .string y3], .int .i64 pl] w fun e w' => ∃ vl ve, e = .returned (.tuple #[vl, ve]) ∧ OwnG 25 4 w' w.heap.size vl 8 (ivs M) ∧ OwnG 30 1 w' w.heap.size ve 8 (ers E) ∧ Below w.heap.size w w' := by
  have HV : Shut _ := ⟨hv⟩
  have C0 : Shut _ := ⟨h0⟩
  have C1 : Shut _ := ⟨h1⟩
  have C2 : Shut _ := ⟨h2⟩
  have C3 : Shut _ := ⟨h3⟩
  have C4 : Shut _ := ⟨h4⟩
  have C5 : Shut _ := ⟨h5⟩
  have C6 : Shut _ := ⟨h6⟩
  have C7 : Shut _ := ⟨h7⟩
  clear hv h0 h1 h2 h3 h4 h5 h6 h7
  obtain ⟨n_x, n_y⟩ := news2 w (.cells #[.string x0, .string x1, .string x2, .string x3] 25) (.cells #[.string y0, .string y1, .string y2, .string y3] 25)
  have u := below2 w (.cells #[.string x0, .string x1, .string x2, .string x3] 25) (.cells #[.string y0, .string y1, .string y2, .string y3] 25)
  go_enter Tryz.func16, Tryz.ntmps16
  go_wp2_with fail
  generalize (w.alloc (.cells #[.string x0, .string x1, .string x2, .string x3] 25)).alloc (.cells #[.string y0, .string y1, .string y2, .string y3] 25) = V0 at *
  have NX : Shut _ := ⟨n_x⟩
  have NY : Shut _ := ⟨n_y⟩
  have U0 : Shut _ := ⟨u⟩
  clear n_x n_y u
  go_loopw [8, 9, 10] (fun vl ve jv wr => ∃ j : Nat, j ≤ 8 ∧ jv = .int .i64 (j : Int) ∧ Shut (OwnG 25 4 wr V0.heap.size vl j (ivs M) ∧ OwnG 30 1 wr V0.heap.size ve j (ers E) ∧ (vl.ownBlock = none ∨ vl.ownBlock ≠ ve.ownBlock) ∧ (ve.ownBlock = none ∨ ve.ownBlock ≠ vl.ownBlock) ∧ Below w.heap.size w wr ∧ Below V0.heap.size V0 wr)) (fun _ _ jv _ => 8 - (intOf jv).toNat)
  case atStart => exact ⟨0, Nat.zero_le _, rfl, ⟨OwnG.nil _ _ _ _ _, OwnG.nil _ _ _ _ _, .inl rfl, .inl rfl, U0.o, Below.refl _ _⟩⟩
  case round =>
    obtain ⟨j, hj, rfl, H⟩ := hrel
    obtain ⟨hL, hE, ap1, ap2, u, u0⟩ := H.o
    clear H
    by_cases hj8 : j = 8
    · subst hj8
      go_wp2_with fail
      exact bodyPost_ret (v := .tuple #[u8, u9]) (by simp [results, Tryz.results16, go_sem]) rfl ⟨_, _, rfl, hL.low_base U0.o.size, hE.low_base U0.o.size, u⟩
    · have n_x := lkeep NX.o u0
      have n_y := lkeep NY.o u0
      have hz := World.alloc_heap_new wr (.cells #[.string ⟨#[]⟩, .string ⟨#[]⟩, .string ⟨#[]⟩, .string ⟨#[]⟩] 25)
      have ha := (Below.refl wr.heap.size wr).alloc (Nat.le_refl _) (.cells #[.string ⟨#[]⟩, .string ⟨#[]⟩, .string ⟨#[]⟩, .string ⟨#[]⟩] 25)
      have nb1 := hL.new wr.heap.size (Nat.le_refl _)
      have nb2 := hE.new wr.heap.size (Nat.le_refl _)
      have hbb1 := u.size
      have hbb0 := u0.size
      replace n_x := lkeep n_x ha
      replace n_y := lkeep n_y ha
      replace hL := hL.below ha
      replace hE := hE.below ha
      replace u := u.trans (ha.mono u.size)
      replace u0 := u0.trans (ha.mono u0.size)
      clear ha
      have cx0 := lcell n_x 0 (v := .string x0) rfl
      have cx1 := lcell n_x 1 (v := .string x1) rfl
      have cx2 := lcell n_x 2 (v := .string x2) rfl
      have cx3 := lcell n_x 3 (v := .string x3) rfl
      have cy0 := lcell n_y 0 (v := .string y0) rfl
      have cy1 := lcell n_y 1 (v := .string y1) rfl
      have cy2 := lcell n_y 2 (v := .string y2) rfl
      have cy3 := lcell n_y 3 (v := .string y3) rfl
      rcases (show j = 0 ∨ j = 1 ∨ j = 2 ∨ j = 3 ∨ j = 4 ∨ j = 5 ∨ j = 6 ∨ j = 7 by omega) with rfl | rfl | rfl | rfl | rfl | rfl | rfl | rfl
      · have cc := C0.o _ (HV.o.keep u)
        have hw1 : IntKind.i64.wrap (0 + 1) = 1 := by decide
        have eR : ivs M 0 = [.string (M 0).1.1, .string (M 0).1.2, .string (M 0).2.1, .string (M 0).2.2] := rfl
        have eS : ers E 0 = [.int .i64 (E 0)] := rfl
        generalize (M 0).1.1 = m0 at *
        generalize (M 0).1.2 = m1 at *
        generalize (M 0).2.1 = m2 at *
        generalize (M 0).2.2 = m3 at *
        generalize E 0 = ec at *
        go_wp2_with fail
        refine cc.mono ?_
        rintro e v1 ⟨rfl, g⟩
        replace hL := hL.below g
        replace hE := hE.below g
        replace u := u.trans (g.mono u.size)
        replace u0 := u0.trans (g.mono u0.size)
        have n_b := lkeep hz g
        generalize wr.heap.size = bb at *
        clear g cc hz n_x n_y cx0 cx1 cx2 cx3 cy0 cy1 cy2 cy3
        have k0 := lcell n_b 0 (v := .string ⟨#[]⟩) rfl
        have k1 := lcell n_b 1 (v := .string ⟨#[]⟩) rfl
        have k2 := lcell n_b 2 (v := .string ⟨#[]⟩) rfl
        have k3 := lcell n_b 3 (v := .string ⟨#[]⟩) rfl
        have f0 := lfree n_b 0
        have f1 := lfree n_b 1
        have f2 := lfree n_b 2
        have f3 := lfree n_b 3
        have s_b := box4_set (x := .string m0) (y := .string m1) (z := .string m2) (t := .string m3) n_b
        have q0 := lcell s_b 0 (v := .string m0) rfl
        have q1 := lcell s_b 1 (v := .string m1) rfl
        have q2 := lcell s_b 2 (v := .string m2) rfl
        have q3 := lcell s_b 3 (v := .string m3) rfl
        have g4 := grown4 v1 bb (.string m0) (.string m1) (.string m2) (.string m3)
        replace hL := hL.beside (u := .slice (some ⟨bb, 0, none⟩) 0 0) g4 (.inr nb1)
        replace hE := hE.beside (u := .slice (some ⟨bb, 0, none⟩) 0 0) g4 (.inr nb2)
        have hbw : ∀ i, w.heap.size ≤ (⟨bb, i, none⟩ : Addr).block := fun _ => hbb1
        have hb0 : ∀ i, V0.heap.size ≤ (⟨bb, i, none⟩ : Addr).block := fun _ => hbb0
        replace u := (((u.setCell (hbw 0) (.string m0)).setCell (hbw 1) (.string m1)).setCell (hbw 2) (.string m2)).setCell (hbw 3) (.string m3)
        replace u0 := (((u0.setCell (hb0 0) (.string m0)).setCell (hb0 1) (.string m1)).setCell (hb0 2) (.string m2)).setCell (hb0 3) (.string m3)
        go_upto_region 24 with fail
        generalize ((((v1.setCell ⟨bb, 0, none⟩ (.string m0)).setCell ⟨bb, 1, none⟩ (.string m1)).setCell ⟨bb, 2, none⟩ (.string m2)).setCell ⟨bb, 3, none⟩ (.string m3)) = V2 at *
        clear k0 k1 k2 k3 f0 f1 f2 f3 n_b s_b g4 hbw hb0
        have ha := (Below.refl V2.heap.size V2).alloc (Nat.le_refl _) (.cells #[.string m0, .string m1, .string m2, .string m3] 25)
        have n_n := World.alloc_heap_new V2 (.cells #[.string m0, .string m1, .string m2, .string m3] 25)
        replace hL := hL.below ha
        replace hE := hE.below ha
        replace u := u.trans (ha.mono u.size)
        replace u0 := u0.trans (ha.mono u0.size)
        clear ha
        go_upto_region 25 with (at_builtin; refine append_ivl rfl _ _ rfl V0.heap.size _ 0 (ivs M) rfl hL V2.heap.size _ rfl m0 m1 m2 m3 eR n_n (by decide) u0.size ?_; intro vl' w3 hL' hg hat)
        have hEo := hE
        replace hE := hE.beside hg ap2
        replace ap2 := apart_grown hEo ap2 hat
        replace u := below_grown u (Nat.le_refl _) U0.o.size hL hg
        replace u0 := below_grown u0 (Nat.le_refl _) (Nat.le_refl _) hL hg
        clear hL hEo hg hat n_n ap1 nb1 nb2
        have ap1 := apart_symm ap2
        have ha := (Below.refl w3.heap.size w3).alloc (Nat.le_refl _) (.cells #[.int .i64 ec] 30)
        have n_e := World.alloc_heap_new w3 (.cells #[.int .i64 ec] 30)
        replace hL' := hL'.below ha
        replace hE := hE.below ha
        replace u := u.trans (ha.mono u.size)
        replace u0 := u0.trans (ha.mono u0.size)
        clear ha
        go_wp2_with (at_builtin; refine append_err rfl _ _ rfl V0.heap.size _ 0 (ers E) rfl hE w3.heap.size _ rfl ec eS n_e (by decide) u0.size ?_; intro ve' w4 hE' hg2 hat2)
        replace u := below_grown u (Nat.le_refl _) U0.o.size hE hg2
        replace u0 := below_grown u0 (Nat.le_refl _) (Nat.le_refl _) hE hg2
        have hLo := hL'
        replace hL' := hL'.beside hg2 ap1
        replace ap1 := apart_grown hLo ap1 hat2
        clear hLo hE hg2 hat2 n_e ap2
        go_roundw
        case rel => exact ⟨1, by omega, by first | rfl | go_num | simp, ⟨hL', hE', ap1, apart_symm ap1, u, u0⟩⟩
        case measure => simp [intOf]
      · have cc := C1.o _ (HV.o.keep u)
        have hw1 : IntKind.i64.wrap (1 + 1) = 2 := by decide
        have eR : ivs M 1 = [.string (M 1).1.1, .string (M 1).1.2, .string (M 1).2.1, .string (M 1).2.2] := rfl
        have eS : ers E 1 = [.int .i64 (E 1)] := rfl
        generalize (M 1).1.1 = m0 at *
        generalize (M 1).1.2 = m1 at *
        generalize (M 1).2.1 = m2 at *
        generalize (M 1).2.2 = m3 at *
        generalize E 1 = ec at *
        go_wp2_with fail
        refine cc.mono ?_
        rintro e v1 ⟨rfl, g⟩
        replace hL := hL.below g
        replace hE := hE.below g
        replace u := u.trans (g.mono u.size)
        replace u0 := u0.trans (g.mono u0.size)
        have n_b := lkeep hz g
        generalize wr.heap.size = bb at *
        clear g cc hz n_x n_y cx0 cx1 cx2 cx3 cy0 cy1 cy2 cy3
        have k0 := lcell n_b 0 (v := .string ⟨#[]⟩) rfl
        have k1 := lcell n_b 1 (v := .string ⟨#[]⟩) rfl
        have k2 := lcell n_b 2 (v := .string ⟨#[]⟩) rfl
        have k3 := lcell n_b 3 (v := .string ⟨#[]⟩) rfl
        have f0 := lfree n_b 0
        have f1 := lfree n_b 1
        have f2 := lfree n_b 2
        have f3 := lfree n_b 3
        have s_b := box4_set (x := .string m0) (y := .string m1) (z := .string m2) (t := .string m3) n_b
        have q0 := lcell s_b 0 (v := .string m0) rfl
        have q1 := lcell s_b 1 (v := .string m1) rfl
        have q2 := lcell s_b 2 (v := .string m2) rfl
        have q3 := lcell s_b 3 (v := .string m3) rfl
        have g4 := grown4 v1 bb (.string m0) (.string m1) (.string m2) (.string m3)
        replace hL := hL.beside (u := .slice (some ⟨bb, 0, none⟩) 0 0) g4 (.inr nb1)
        replace hE := hE.beside (u := .slice (some ⟨bb, 0, none⟩) 0 0) g4 (.inr nb2)
        have hbw : ∀ i, w.heap.size ≤ (⟨bb, i, none⟩ : Addr).block := fun _ => hbb1
        have hb0 : ∀ i, V0.heap.size ≤ (⟨bb, i, none⟩ : Addr).block := fun _ => hbb0
        replace u := (((u.setCell (hbw 0) (.string m0)).setCell (hbw 1) (.string m1)).setCell (hbw 2) (.string m2)).setCell (hbw 3) (.string m3)
        replace u0 := (((u0.setCell (hb0 0) (.string m0)).setCell (hb0 1) (.string m1)).setCell (hb0 2) (.string m2)).setCell (hb0 3) (.string m3)
        go_upto_region 24 with fail
        generalize ((((v1.setCell ⟨bb, 0, none⟩ (.string m0)).setCell ⟨bb, 1, none⟩ (.string m1)).setCell ⟨bb, 2, none⟩ (.string m2)).setCell ⟨bb, 3, none⟩ (.string m3)) = V2 at *
        clear k0 k1 k2 k3 f0 f1 f2 f3 n_b s_b g4 hbw hb0
        have ha := (Below.refl V2.heap.size V2).alloc (Nat.le_refl _) (.cells #[.string m0, .string m1, .string m2, .string m3] 25)
        have n_n := World.alloc_heap_new V2 (.cells #[.string m0, .string m1, .string m2, .string m3] 25)
        replace hL := hL.below ha
        replace hE := hE.below ha
        replace u := u.trans (ha.mono u.size)
        replace u0 := u0.trans (ha.mono u0.size)
        clear ha
        go_upto_region 25 with (at_builtin; refine append_ivl rfl _ _ rfl V0.heap.size _ 1 (ivs M) rfl hL V2.heap.size _ rfl m0 m1 m2 m3 eR n_n (by decide) u0.size ?_; intro vl' w3 hL' hg hat)
        have hEo := hE
        replace hE := hE.beside hg ap2
        replace ap2 := apart_grown hEo ap2 hat
        replace u := below_grown u (Nat.le_refl _) U0.o.size hL hg
        replace u0 := below_grown u0 (Nat.le_refl _) (Nat.le_refl _) hL hg
        clear hL hEo hg hat n_n ap1 nb1 nb2
        have ap1 := apart_symm ap2
        have ha := (Below.refl w3.heap.size w3).alloc (Nat.le_refl _) (.cells #[.int .i64 ec] 30)
        have n_e := World.alloc_heap_new w3 (.cells #[.int .i64 ec] 30)
        replace hL' := hL'.below ha
        replace hE := hE.below ha
        replace u := u.trans (ha.mono u.size)
        replace u0 := u0.trans (ha.mono u0.size)
        clear ha
        go_wp2_with (at_builtin; refine append_err rfl _ _ rfl V0.heap.size _ 1 (ers E) rfl hE w3.heap.size _ rfl ec eS n_e (by decide) u0.size ?_; intro ve' w4 hE' hg2 hat2)
        replace u := below_grown u (Nat.le_refl _) U0.o.size hE hg2
        replace u0 := below_grown u0 (Nat.le_refl _) (Nat.le_refl _) hE hg2
        have hLo := hL'
        replace hL' := hL'.beside hg2 ap1
        replace ap1 := apart_grown hLo ap1 hat2
        clear hLo hE hg2 hat2 n_e ap2
        go_roundw
        case rel => exact ⟨2, by omega, by first | rfl | go_num | simp, ⟨hL', hE', ap1, apart_symm ap1, u, u0⟩⟩
        case measure => simp [intOf]
      · have cc := C2.o _ (HV.o.keep u)
        have hw1 : IntKind.i64.wrap (2 + 1) = 3 := by decide
        have eR : ivs M 2 = [.string (M 2).1.1, .string (M 2).1.2, .string (M 2).2.1, .string (M 2).2.2] := rfl
        have eS : ers E 2 = [.int .i64 (E 2)] := rfl
        generalize (M 2).1.1 = m0 at *
        generalize (M 2).1.2 = m1 at *
        generalize (M 2).2.1 = m2 at *
        generalize (M 2).2.2 = m3 at *
        generalize E 2 = ec at *
        go_wp2_with fail
        refine cc.mono ?_
        rintro e v1 ⟨rfl, g⟩
        replace hL := hL.below g
        replace hE := hE.below g
        replace u := u.trans (g.mono u.size)
        replace u0 := u0.trans (g.mono u0.size)
        have n_b := lkeep hz g
        generalize wr.heap.size = bb at *
        clear g cc hz n_x n_y cx0 cx1 cx2 cx3 cy0 cy1 cy2 cy3
        have k0 := lcell n_b 0 (v := .string ⟨#[]⟩) rfl
        have k1 := lcell n_b 1 (v := .string ⟨#[]⟩) rfl
        have k2 := lcell n_b 2 (v := .string ⟨#[]⟩) rfl
        have k3 := lcell n_b 3 (v := .string ⟨#[]⟩) rfl
        have f0 := lfree n_b 0
        have f1 := lfree n_b 1
        have f2 := lfree n_b 2
        have f3 := lfree n_b 3
        have s_b := box4_set (x := .string m0) (y := .string m1) (z := .string m2) (t := .string m3) n_b
        have q0 := lcell s_b 0 (v := .string m0) rfl
        have q1 := lcell s_b 1 (v := .string m1) rfl
        have q2 := lcell s_b 2 (v := .string m2) rfl
        have q3 := lcell s_b 3 (v := .string m3) rfl
        have g4 := grown4 v1 bb (.string m0) (.string m1) (.string m2) (.string m3)
        replace hL := hL.beside (u := .slice (some ⟨bb, 0, none⟩) 0 0) g4 (.inr nb1)
        replace hE := hE.beside (u := .slice (some ⟨bb, 0, none⟩) 0 0) g4 (.inr nb2)
        have hbw : ∀ i, w.heap.size ≤ (⟨bb, i, none⟩ : Addr).block := fun _ => hbb1
        have hb0 : ∀ i, V0.heap.size ≤ (⟨bb, i, none⟩ : Addr).block := fun _ => hbb0
        replace u := (((u.setCell (hbw 0) (.string m0)).setCell (hbw 1) (.string m1)).setCell (hbw 2) (.string m2)).setCell (hbw 3) (.string m3)
        replace u0 := (((u0.setCell (hb0 0) (.string m0)).setCell (hb0 1) (.string m1)).setCell (hb0 2) (.string m2)).setCell (hb0 3) (.string m3)
        go_upto_region 24 with fail
        generalize ((((v1.setCell ⟨bb, 0, none⟩ (.string m0)).setCell ⟨bb, 1, none⟩ (.string m1)).setCell ⟨bb, 2, none⟩ (.string m2)).setCell ⟨bb, 3, none⟩ (.string m3)) = V2 at *
        clear k0 k1 k2 k3 f0 f1 f2 f3 n_b s_b g4 hbw hb0
        have ha := (Below.refl V2.heap.size V2).alloc (Nat.le_refl _) (.cells #[.string m0, .string m1, .string m2, .string m3] 25)
        have n_n := World.alloc_heap_new V2 (.cells #[.string m0, .string m1, .string m2, .string m3] 25)
        replace hL := hL.below ha
        replace hE := hE.below ha
        replace u := u.trans (ha.mono u.size)
        replace u0 := u0.trans (ha.mono u0.size)
        clear ha
        go_upto_region 25 with (at_builtin; refine append_ivl rfl _ _ rfl V0.heap.size _ 2 (ivs M) rfl hL V2.heap.size _ rfl m0 m1 m2 m3 eR n_n (by decide) u0.size ?_; intro vl' w3 hL' hg hat)
        have hEo := hE
        replace hE := hE.beside hg ap2
        replace ap2 := apart_grown hEo ap2 hat
        replace u := below_grown u (Nat.le_refl _) U0.o.size hL hg
        replace u0 := below_grown u0 (Nat.le_refl _) (Nat.le_refl _) hL hg
        clear hL hEo hg hat n_n ap1 nb1 nb2
        have ap1 := apart_symm ap2
        have ha := (Below.refl w3.heap.size w3).alloc (Nat.le_refl _) (.cells #[.int .i64 ec] 30)
        have n_e := World.alloc_heap_new w3 (.cells #[.int .i64 ec] 30)
        replace hL' := hL'.below ha
        replace hE := hE.below ha
        replace u := u.trans (ha.mono u.size)
        replace u0 := u0.trans (ha.mono u0.size)
        clear ha
        go_wp2_with (at_builtin; refine append_err rfl _ _ rfl V0.heap.size _ 2 (ers E) rfl hE w3.heap.size _ rfl ec eS n_e (by decide) u0.size ?_; intro ve' w4 hE' hg2 hat2)
        replace u := below_grown u (Nat.le_refl _) U0.o.size hE hg2
        replace u0 := below_grown u0 (Nat.le_refl _) (Nat.le_refl _) hE hg2
        have hLo := hL'
        replace hL' := hL'.beside hg2 ap1
        replace ap1 := apart_grown hLo ap1 hat2
        clear hLo hE hg2 hat2 n_e ap2
        go_roundw
        case rel => exact ⟨3, by omega, by first | rfl | go_num | simp, ⟨hL', hE', ap1, apart_symm ap1, u, u0⟩⟩
        case measure => simp [intOf]
      · have cc := C3.o _ (HV.o.keep u)
        have hw1 : IntKind.i64.wrap (3 + 1) = 4 := by decide
        have eR : ivs M 3 = [.string (M 3).1.1, .string (M 3).1.2, .string (M 3).2.1, .string (M 3).2.2] := rfl
        have eS : ers E 3 = [.int .i64 (E 3)] := rfl
        generalize (M 3).1.1 = m0 at *
        generalize (M 3).1.2 = m1 at *
        generalize (M 3).2.1 = m2 at *
        generalize (M 3).2.2 = m3 at *
        generalize E 3 = ec at *
        go_wp2_with fail
        refine cc.mono ?_
        rintro e v1 ⟨rfl, g⟩
        replace hL := hL.below g
        replace hE := hE.below g
        replace u := u.trans (g.mono u.size)
        replace u0 := u0.trans (g.mono u0.size)
        have n_b := lkeep hz g
        generalize wr.heap.size = bb at *
        clear g cc hz n_x n_y cx0 cx1 cx2 cx3 cy0 cy1 cy2 cy3
        have k0 := lcell n_b 0 (v := .string ⟨#[]⟩) rfl
        have k1 := lcell n_b 1 (v := .string ⟨#[]⟩) rfl
        have k2 := lcell n_b 2 (v := .string ⟨#[]⟩) rfl
        have k3 := lcell n_b 3 (v := .string ⟨#[]⟩) rfl
        have f0 := lfree n_b 0
        have f1 := lfree n_b 1
        have f2 := lfree n_b 2
        have f3 := lfree n_b 3
        have s_b := box4_set (x := .string m0) (y := .string m1) (z := .string m2) (t := .string m3) n_b
        have q0 := lcell s_b 0 (v := .string m0) rfl
        have q1 := lcell s_b 1 (v := .string m1) rfl
        have q2 := lcell s_b 2 (v := .string m2) rfl
        have q3 := lcell s_b 3 (v := .string m3) rfl
        have g4 := grown4 v1 bb (.string m0) (.string m1) (.string m2) (.string m3)
        replace hL := hL.beside (u := .slice (some ⟨bb, 0, none⟩) 0 0) g4 (.inr nb1)
        replace hE := hE.beside (u := .slice (some ⟨bb, 0, none⟩) 0 0) g4 (.inr nb2)
        have hbw : ∀ i, w.heap.size ≤ (⟨bb, i, none⟩ : Addr).block := fun _ => hbb1
        have hb0 : ∀ i, V0.heap.size ≤ (⟨bb, i, none⟩ : Addr).block := fun _ => hbb0
        replace u := (((u.setCell (hbw 0) (.string m0)).setCell (hbw 1) (.string m1)).setCell (hbw 2) (.string m2)).setCell (hbw 3) (.string m3)
        replace u0 := (((u0.setCell (hb0 0) (.string m0)).setCell (hb0 1) (.string m1)).setCell (hb0 2) (.string m2)).setCell (hb0 3) (.string m3)
        go_upto_region 24 with fail
        generalize ((((v1.setCell ⟨bb, 0, none⟩ (.string m0)).setCell ⟨bb, 1, none⟩ (.string m1)).setCell ⟨bb, 2, none⟩ (.string m2)).setCell ⟨bb, 3, none⟩ (.string m3)) = V2 at *
        clear k0 k1 k2 k3 f0 f1 f2 f3 n_b s_b g4 hbw hb0
        have ha := (Below.refl V2.heap.size V2).alloc (Nat.le_refl _) (.cells #[.string m0, .string m1, .string m2, .string m3] 25)
        have n_n := World.alloc_heap_new V2 (.cells #[.string m0, .string m1, .string m2, .string m3] 25)
        replace hL := hL.below ha
        replace hE := hE.below ha
        replace u := u.trans (ha.mono u.size)
        replace u0 := u0.trans (ha.mono u0.size)
        clear ha
        go_upto_region 25 with (at_builtin; refine append_ivl rfl _ _ rfl V0.heap.size _ 3 (ivs M) rfl hL V2.heap.size _ rfl m0 m1 m2 m3 eR n_n (by decide) u0.size ?_; intro vl' w3 hL' hg hat)
        have hEo := hE
        replace hE := hE.beside hg ap2
        replace ap2 := apart_grown hEo ap2 hat
        replace u := below_grown u (Nat.le_refl _) U0.o.size hL hg
        replace u0 := below_grown u0 (Nat.le_refl _) (Nat.le_refl _) hL hg
        clear hL hEo hg hat n_n ap1 nb1 nb2
        have ap1 := apart_symm ap2
        have ha := (Below.refl w3.heap.size w3).alloc (Nat.le_refl _) (.cells #[.int .i64 ec] 30)
        have n_e := World.alloc_heap_new w3 (.cells #[.int .i64 ec] 30)
        replace hL' := hL'.below ha
        replace hE := hE.below ha
        replace u := u.trans (ha.mono u.size)
        replace u0 := u0.trans (ha.mono u0.size)
        clear ha
        go_wp2_with (at_builtin; refine append_err rfl _ _ rfl V0.heap.size _ 3 (ers E) rfl hE w3.heap.size _ rfl ec eS n_e (by decide) u0.size ?_; intro ve' w4 hE' hg2 hat2)
        replace u := below_grown u (Nat.le_refl _) U0.o.size hE hg2
        replace u0 := below_grown u0 (Nat.le_refl _) (Nat.le_refl _) hE hg2
        have hLo := hL'
        replace hL' := hL'.beside hg2 ap1
        replace ap1 := apart_grown hLo ap1 hat2
        clear hLo hE hg2 hat2 n_e ap2
        go_roundw
        case rel => exact ⟨4, by omega, by first | rfl | go_num | simp, ⟨hL', hE', ap1, apart_symm ap1, u, u0⟩⟩
        case measure => simp [intOf]
      · have cc := C4.o _ (HV.o.keep u)
        have hw1 : IntKind.i64.wrap (4 + 1) = 5 := by decide
        have eR : ivs M 4 = [.string (M 4).1.1, .string (M 4).1.2, .string (M 4).2.1, .string (M 4).2.2] := rfl
        have eS : ers E 4 = [.int .i64 (E 4)] := rfl
        generalize (M 4).1.1 = m0 at *
        generalize (M 4).1.2 = m1 at *
        generalize (M 4).2.1 = m2 at *
        generalize (M 4).2.2 = m3 at *
        generalize E 4 = ec at *
        go_wp2_with fail
        refine cc.mono ?_
        rintro e v1 ⟨rfl, g⟩
        replace hL := hL.below g
        replace hE := hE.below g
        replace u := u.trans (g.mono u.size)
        replace u0 := u0.trans (g.mono u0.size)
        have n_b := lkeep hz g
        generalize wr.heap.size = bb at *
        clear g cc hz n_x n_y cx0 cx1 cx2 cx3 cy0 cy1 cy2 cy3
        have k0 := lcell n_b 0 (v := .string ⟨#[]⟩) rfl
        have k1 := lcell n_b 1 (v := .string ⟨#[]⟩) rfl
        have k2 := lcell n_b 2 (v := .string ⟨#[]⟩) rfl
        have k3 := lcell n_b 3 (v := .string ⟨#[]⟩) rfl
        have f0 := lfree n_b 0
        have f1 := lfree n_b 1
        have f2 := lfree n_b 2
        have f3 := lfree n_b 3
        have s_b := box4_set (x := .string m0) (y := .string m1) (z := .string m2) (t := .string m3) n_b
        have q0 := lcell s_b 0 (v := .string m0) rfl
        have q1 := lcell s_b 1 (v := .string m1) rfl
        have q2 := lcell s_b 2 (v := .string m2) rfl
        have q3 := lcell s_b 3 (v := .string m3) rfl
        have g4 := grown4 v1 bb (.string m0) (.string m1) (.string m2) (.string m3)
        replace hL := hL.beside (u := .slice (some ⟨bb, 0, none⟩) 0 0) g4 (.inr nb1)
        replace hE := hE.beside (u := .slice (some ⟨bb, 0, none⟩) 0 0) g4 (.inr nb2)
        have hbw : ∀ i, w.heap.size ≤ (⟨bb, i, none⟩ : Addr).block := fun _ => hbb1
        have hb0 : ∀ i, V0.heap.size ≤ (⟨bb, i, none⟩ : Addr).block := fun _ => hbb0
        replace u := (((u.setCell (hbw 0) (.string m0)).setCell (hbw 1) (.string m1)).setCell (hbw 2) (.string m2)).setCell (hbw 3) (.string m3)
        replace u0 := (((u0.setCell (hb0 0) (.string m0)).setCell (hb0 1) (.string m1)).setCell (hb0 2) (.string m2)).setCell (hb0 3) (.string m3)
        go_upto_region 24 with fail
        generalize ((((v1.setCell ⟨bb, 0, none⟩ (.string m0)).setCell ⟨bb, 1, none⟩ (.string m1)).setCell ⟨bb, 2, none⟩ (.string m2)).setCell ⟨bb, 3, none⟩ (.string m3)) = V2 at *
        clear k0 k1 k2 k3 f0 f1 f2 f3 n_b s_b g4 hbw hb0
        have ha := (Below.refl V2.heap.size V2).alloc (Nat.le_refl _) (.cells #[.string m0, .string m1, .string m2, .string m3] 25)
        have n_n := World.alloc_heap_new V2 (.cells #[.string m0, .string m1, .string m2, .string m3] 25)
        replace hL := hL.below ha
        replace hE := hE.below ha
        replace u := u.trans (ha.mono u.size)
        replace u0 := u0.trans (ha.mono u0.size)
        clear ha
        go_upto_region 25 with (at_builtin; refine append_ivl rfl _ _ rfl V0.heap.size _ 4 (ivs M) rfl hL V2.heap.size _ rfl m0 m1 m2 m3 eR n_n (by decide) u0.size ?_; intro vl' w3 hL' hg hat)
        have hEo := hE
        replace hE := hE.beside hg ap2
        replace ap2 := apart_grown hEo ap2 hat
        replace u := below_grown u (Nat.le_refl _) U0.o.size hL hg
        replace u0 := below_grown u0 (Nat.le_refl _) (Nat.le_refl _) hL hg
        clear hL hEo hg hat n_n ap1 nb1 nb2
        have ap1 := apart_symm ap2
        have ha := (Below.refl w3.heap.size w3).alloc (Nat.le_refl _) (.cells #[.int .i64 ec] 30)
        have n_e := World.alloc_heap_new w3 (.cells #[.int .i64 ec] 30)
        replace hL' := hL'.below ha
        replace hE := hE.below ha
        replace u := u.trans (ha.mono u.size)
        replace u0 := u0.trans (ha.mono u0.size)
        clear ha
        go_wp2_with (at_builtin; refine append_err rfl _ _ rfl V0.heap.size _ 4 (ers E) rfl hE w3.heap.size _ rfl ec eS n_e (by decide) u0.size ?_; intro ve' w4 hE' hg2 hat2)
        replace u := below_grown u (Nat.le_refl _) U0.o.size hE hg2
        replace u0 := below_grown u0 (Nat.le_refl _) (Nat.le_refl _) hE hg2
        have hLo := hL'
        replace hL' := hL'.beside hg2 ap1
        replace ap1 := apart_grown hLo ap1 hat2
        clear hLo hE hg2 hat2 n_e ap2
        go_roundw
        case rel => exact ⟨5, by omega, by first | rfl | go_num | simp, ⟨hL', hE', ap1, apart_symm ap1, u, u0⟩⟩
        case measure => simp [intOf]
      · have cc := C5.o _ (HV.o.keep u)
        have hw1 : IntKind.i64.wrap (5 + 1) = 6 := by decide
        have eR : ivs M 5 = [.string (M 5).1.1, .string (M 5).1.2, .string (M 5).2.1, .string (M 5).2.2] := rfl
        have eS : ers E 5 = [.int .i64 (E 5)] := rfl
        generalize (M 5).1.1 = m0 at *
        generalize (M 5).1.2 = m1 at *
        generalize (M 5).2.1 = m2 at *
        generalize (M 5).2.2 = m3 at *
        generalize E 5 = ec at *
        go_wp2_with fail
        refine cc.mono ?_
        rintro e v1 ⟨rfl, g⟩
        replace hL := hL.below g
        replace hE := hE.below g
        replace u := u.trans (g.mono u.size)
        replace u0 := u0.trans (g.mono u0.size)
        have n_b := lkeep hz g
        generalize wr.heap.size = bb at *
        clear g cc hz n_x n_y cx0 cx1 cx2 cx3 cy0 cy1 cy2 cy3
        have k0 := lcell n_b 0 (v := .string ⟨#[]⟩) rfl
        have k1 := lcell n_b 1 (v := .string ⟨#[]⟩) rfl
        have k2 := lcell n_b 2 (v := .string ⟨#[]⟩) rfl
        have k3 := lcell n_b 3 (v := .string ⟨#[]⟩) rfl
        have f0 := lfree n_b 0
        have f1 := lfree n_b 1
        have f2 := lfree n_b 2
        have f3 := lfree n_b 3
        have s_b := box4_set (x := .string m0) (y := .string m1) (z := .string m2) (t := .string m3) n_b
        have q0 := lcell s_b 0 (v := .string m0) rfl
        have q1 := lcell s_b 1 (v := .string m1) rfl
        have q2 := lcell s_b 2 (v := .string m2) rfl
        have q3 := lcell s_b 3 (v := .string m3) rfl
        have g4 := grown4 v1 bb (.string m0) (.string m1) (.string m2) (.string m3)
        replace hL := hL.beside (u := .slice (some ⟨bb, 0, none⟩) 0 0) g4 (.inr nb1)
        replace hE := hE.beside (u := .slice (some ⟨bb, 0, none⟩) 0 0) g4 (.inr nb2)
        have hbw : ∀ i, w.heap.size ≤ (⟨bb, i, none⟩ : Addr).block := fun _ => hbb1
        have hb0 : ∀ i, V0.heap.size ≤ (⟨bb, i, none⟩ : Addr).block := fun _ => hbb0
        replace u := (((u.setCell (hbw 0) (.string m0)).setCell (hbw 1) (.string m1)).setCell (hbw 2) (.string m2)).setCell (hbw 3) (.string m3)
        replace u0 := (((u0.setCell (hb0 0) (.string m0)).setCell (hb0 1) (.string m1)).setCell (hb0 2) (.string m2)).setCell (hb0 3) (.string m3)
        go_upto_region 24 with fail
        generalize ((((v1.setCell ⟨bb, 0, none⟩ (.string m0)).setCell ⟨bb, 1, none⟩ (.string m1)).setCell ⟨bb, 2, none⟩ (.string m2)).setCell ⟨bb, 3, none⟩ (.string m3)) = V2 at *
        clear k0 k1 k2 k3 f0 f1 f2 f3 n_b s_b g4 hbw hb0
        have ha := (Below.refl V2.heap.size V2).alloc (Nat.le_refl _) (.cells #[.string m0, .string m1, .string m2, .string m3] 25)
        have n_n := World.alloc_heap_new V2 (.cells #[.string m0, .string m1, .string m2, .string m3] 25)
        replace hL := hL.below ha
        replace hE := hE.below ha
        replace u := u.trans (ha.mono u.size)
        replace u0 := u0.trans (ha.mono u0.size)
        clear ha
        go_upto_region 25 with (at_builtin; refine append_ivl rfl _ _ rfl V0.heap.size _ 5 (ivs M) rfl hL V2.heap.size _ rfl m0 m1 m2 m3 eR n_n (by decide) u0.size ?_; intro vl' w3 hL' hg hat)
        have hEo := hE
        replace hE := hE.beside hg ap2
        replace ap2 := apart_grown hEo ap2 hat
        replace u := below_grown u (Nat.le_refl _) U0.o.size hL hg
        replace u0 := below_grown u0 (Nat.le_refl _) (Nat.le_refl _) hL hg
        clear hL hEo hg hat n_n ap1 nb1 nb2
        have ap1 := apart_symm ap2
        have ha := (Below.refl w3.heap.size w3).alloc (Nat.le_refl _) (.cells #[.int .i64 ec] 30)
        have n_e := World.alloc_heap_new w3 (.cells #[.int .i64 ec] 30)
        replace hL' := hL'.below ha
        replace hE := hE.below ha
        replace u := u.trans (ha.mono u.size)
        replace u0 := u0.trans (ha.mono u0.size)
        clear ha
        go_wp2_with (at_builtin; refine append_err rfl _ _ rfl V0.heap.size _ 5 (ers E) rfl hE w3.heap.size _ rfl ec eS n_e (by decide) u0.size ?_; intro ve' w4 hE' hg2 hat2)
        replace u := below_grown u (Nat.le_refl _) U0.o.size hE hg2
        replace u0 := below_grown u0 (Nat.le_refl _) (Nat.le_refl _) hE hg2
        have hLo := hL'
        replace hL' := hL'.beside hg2 ap1
        replace ap1 := apart_grown hLo ap1 hat2
        clear hLo hE hg2 hat2 n_e ap2
        go_roundw
        case rel => exact ⟨6, by omega, by first | rfl | go_num | simp, ⟨hL', hE', ap1, apart_symm ap1, u, u0⟩⟩
        case measure => simp [intOf]
      · have cc := C6.o _ (HV.o.keep u)
        have hw1 : IntKind.i64.wrap (6 + 1) = 7 := by decide
        have eR : ivs M 6 = [.string (M 6).1.1, .string (M 6).1.2, .string (M 6).2.1, .string (M 6).2.2] := rfl
        have eS : ers E 6 = [.int .i64 (E 6)] := rfl
        generalize (M 6).1.1 = m0 at *
        generalize (M 6).1.2 = m1 at *
        generalize (M 6).2.1 = m2 at *
        generalize (M 6).2.2 = m3 at *
        generalize E 6 = ec at *
        go_wp2_with fail
        refine cc.mono ?_
        rintro e v1 ⟨rfl, g⟩
        replace hL := hL.below g
        replace hE := hE.below g
        replace u := u.trans (g.mono u.size)
        replace u0 := u0.trans (g.mono u0.size)
        have n_b := lkeep hz g
        generalize wr.heap.size = bb at *
        clear g cc hz n_x n_y cx0 cx1 cx2 cx3 cy0 cy1 cy2 cy3
        have k0 := lcell n_b 0 (v := .string ⟨#[]⟩) rfl
        have k1 := lcell n_b 1 (v := .string ⟨#[]⟩) rfl
        have k2 := lcell n_b 2 (v := .string ⟨#[]⟩) rfl
        have k3 := lcell n_b 3 (v := .string ⟨#[]⟩) rfl
        have f0 := lfree n_b 0
        have f1 := lfree n_b 1
        have f2 := lfree n_b 2
        have f3 := lfree n_b 3
        have s_b := box4_set (x := .string m0) (y := .string m1) (z := .string m2) (t := .string m3) n_b
        have q0 := lcell s_b 0 (v := .string m0) rfl
        have q1 := lcell s_b 1 (v := .string m1) rfl
        have q2 := lcell s_b 2 (v := .string m2) rfl
        have q3 := lcell s_b 3 (v := .string m3) rfl
        have g4 := grown4 v1 bb (.string m0) (.string m1) (.string m2) (.string m3)
        replace hL := hL.beside (u := .slice (some ⟨bb, 0, none⟩) 0 0) g4 (.inr nb1)
        replace hE := hE.beside (u := .slice (some ⟨bb, 0, none⟩) 0 0) g4 (.inr nb2)
        have hbw : ∀ i, w.heap.size ≤ (⟨bb, i, none⟩ : Addr).block := fun _ => hbb1
        have hb0 : ∀ i, V0.heap.size ≤ (⟨bb, i, none⟩ : Addr).block := fun _ => hbb0
        replace u := (((u.setCell (hbw 0) (.string m0)).setCell (hbw 1) (.string m1)).setCell (hbw 2) (.string m2)).setCell (hbw 3) (.string m3)
        replace u0 := (((u0.setCell (hb0 0) (.string m0)).setCell (hb0 1) (.string m1)).setCell (hb0 2) (.string m2)).setCell (hb0 3) (.string m3)
        go_upto_region 24 with fail
        generalize ((((v1.setCell ⟨bb, 0, none⟩ (.string m0)).setCell ⟨bb, 1, none⟩ (.string m1)).setCell ⟨bb, 2, none⟩ (.string m2)).setCell ⟨bb, 3, none⟩ (.string m3)) = V2 at *
        clear k0 k1 k2 k3 f0 f1 f2 f3 n_b s_b g4 hbw hb0
        have ha := (Below.refl V2.heap.size V2).alloc (Nat.le_refl _) (.cells #[.string m0, .string m1, .string m2, .string m3] 25)
        have n_n := World.alloc_heap_new V2 (.cells #[.string m0, .string m1, .string m2, .string m3] 25)
        replace hL := hL.below ha
        replace hE := hE.below ha
        replace u := u.trans (ha.mono u.size)
        replace u0 := u0.trans (ha.mono u0.size)
        clear ha
        go_upto_region 25 with (at_builtin; refine append_ivl rfl _ _ rfl V0.heap.size _ 6 (ivs M) rfl hL V2.heap.size _ rfl m0 m1 m2 m3 eR n_n (by decide) u0.size ?_; intro vl' w3 hL' hg hat)
        have hEo := hE
        replace hE := hE.beside hg ap2
        replace ap2 := apart_grown hEo ap2 hat
        replace u := below_grown u (Nat.le_refl _) U0.o.size hL hg
        replace u0 := below_grown u0 (Nat.le_refl _) (Nat.le_refl _) hL hg
        clear hL hEo hg hat n_n ap1 nb1 nb2
        have ap1 := apart_symm ap2
        have ha := (Below.refl w3.heap.size w3).alloc (Nat.le_refl _) (.cells #[.int .i64 ec] 30)
        have n_e := World.alloc_heap_new w3 (.cells #[.int .i64 ec] 30)
        replace hL' := hL'.below ha
        replace hE := hE.below ha
        replace u := u.trans (ha.mono u.size)
        replace u0 := u0.trans (ha.mono u0.size)
        clear ha
        go_wp2_with (at_builtin; refine append_err rfl _ _ rfl V0.heap.size _ 6 (ers E) rfl hE w3.heap.size _ rfl ec eS n_e (by decide) u0.size ?_; intro ve' w4 hE' hg2 hat2)
        replace u := below_grown u (Nat.le_refl _) U0.o.size hE hg2
        replace u0 := below_grown u0 (Nat.le_refl _) (Nat.le_refl _) hE hg2
        have hLo := hL'
        replace hL' := hL'.beside hg2 ap1
        replace ap1 := apart_grown hLo ap1 hat2
        clear hLo hE hg2 hat2 n_e ap2
        go_roundw
        case rel => exact ⟨7, by omega, by first | rfl | go_num | simp, ⟨hL', hE', ap1, apart_symm ap1, u, u0⟩⟩
        case measure => simp [intOf]
      · have cc := C7.o _ (HV.o.keep u)
        have hw1 : IntKind.i64.wrap (7 + 1) = 8 := by decide
        have eR : ivs M 7 = [.string (M 7).1.1, .string (M 7).1.2, .string (M 7).2.1, .string (M 7).2.2] := rfl
        have eS : ers E 7 = [.int .i64 (E 7)] := rfl
        generalize (M 7).1.1 = m0 at *
        generalize (M 7).1.2 = m1 at *
        generalize (M 7).2.1 = m2 at *
        generalize (M 7).2.2 = m3 at *
        generalize E 7 = ec at *
        go_wp2_with fail
        refine cc.mono ?_
        rintro e v1 ⟨rfl, g⟩
        replace hL := hL.below g
        replace hE := hE.below g
        replace u := u.trans (g.mono u.size)
        replace u0 := u0.trans (g.mono u0.size)
        have n_b := lkeep hz g
        generalize wr.heap.size = bb at *
        clear g cc hz n_x n_y cx0 cx1 cx2 cx3 cy0 cy1 cy2 cy3
        have k0 := lcell n_b 0 (v := .string ⟨#[]⟩) rfl
        have k1 := lcell n_b 1 (v := .string ⟨#[]⟩) rfl
        have k2 := lcell n_b 2 (v := .string ⟨#[]⟩) rfl
        have k3 := lcell n_b 3 (v := .string ⟨#[]⟩) rfl
        have f0 := lfree n_b 0
        have f1 := lfree n_b 1
        have f2 := lfree n_b 2
        have f3 := lfree n_b 3
        have s_b := box4_set (x := .string m0) (y := .string m1) (z := .string m2) (t := .string m3) n_b
        have q0 := lcell s_b 0 (v := .string m0) rfl
        have q1 := lcell s_b 1 (v := .string m1) rfl
        have q2 := lcell s_b 2 (v := .string m2) rfl
        have q3 := lcell s_b 3 (v := .string m3) rfl
        have g4 := grown4 v1 bb (.string m0) (.string m1) (.string m2) (.string m3)
        replace hL := hL.beside (u := .slice (some ⟨bb, 0, none⟩) 0 0) g4 (.inr nb1)
        replace hE := hE.beside (u := .slice (some ⟨bb, 0, none⟩) 0 0) g4 (.inr nb2)
        have hbw : ∀ i, w.heap.size ≤ (⟨bb, i, none⟩ : Addr).block := fun _ => hbb1
        have hb0 : ∀ i, V0.heap.size ≤ (⟨bb, i, none⟩ : Addr).block := fun _ => hbb0
        replace u := (((u.setCell (hbw 0) (.string m0)).setCell (hbw 1) (.string m1)).setCell (hbw 2) (.string m2)).setCell (hbw 3) (.string m3)
        replace u0 := (((u0.setCell (hb0 0) (.string m0)).setCell (hb0 1) (.string m1)).setCell (hb0 2) (.string m2)).setCell (hb0 3) (.string m3)
        go_upto_region 24 with fail
        generalize ((((v1.setCell ⟨bb, 0, none⟩ (.string m0)).setCell ⟨bb, 1, none⟩ (.string m1)).setCell ⟨bb, 2, none⟩ (.string m2)).setCell ⟨bb, 3, none⟩ (.string m3)) = V2 at *
        clear k0 k1 k2 k3 f0 f1 f2 f3 n_b s_b g4 hbw hb0
        have ha := (Below.refl V2.heap.size V2).alloc (Nat.le_refl _) (.cells #[.string m0, .string m1, .string m2, .string m3] 25)
        have n_n := World.alloc_heap_new V2 (.cells #[.string m0, .string m1, .string m2, .string m3] 25)
        replace hL := hL.below ha
        replace hE := hE.below ha
        replace u := u.trans (ha.mono u.size)
        replace u0 := u0.trans (ha.mono u0.size)
        clear ha
        go_upto_region 25 with (at_builtin; refine append_ivl rfl _ _ rfl V0.heap.size _ 7 (ivs M) rfl hL V2.heap.size _ rfl m0 m1 m2 m3 eR n_n (by decide) u0.size ?_; intro vl' w3 hL' hg hat)
        have hEo := hE
        replace hE := hE.beside hg ap2
        replace ap2 := apart_grown hEo ap2 hat
        replace u := below_grown u (Nat.le_refl _) U0.o.size hL hg
        replace u0 := below_grown u0 (Nat.le_refl _) (Nat.le_refl _) hL hg
        clear hL hEo hg hat n_n ap1 nb1 nb2
        have ap1 := apart_symm ap2
        have ha := (Below.refl w3.heap.size w3).alloc (Nat.le_refl _) (.cells #[.int .i64 ec] 30)
        have n_e := World.alloc_heap_new w3 (.cells #[.int .i64 ec] 30)
        replace hL' := hL'.below ha
        replace hE := hE.below ha
        replace u := u.trans (ha.mono u.size)
        replace u0 := u0.trans (ha.mono u0.size)
        clear ha
        go_wp2_with (at_builtin; refine append_err rfl _ _ rfl V0.heap.size _ 7 (ers E) rfl hE w3.heap.size _ rfl ec eS n_e (by decide) u0.size ?_; intro ve' w4 hE' hg2 hat2)
        replace u := below_grown u (Nat.le_refl _) U0.o.size hE hg2
        replace u0 := below_grown u0 (Nat.le_refl _) (Nat.le_refl _) hE hg2
        have hLo := hL'
        replace hL' := hL'.beside hg2 ap1
        replace ap1 := apart_grown hLo ap1 hat2
        clear hLo hE hg2 hat2 n_e ap2
        go_roundw
        case rel => exact ⟨8, by omega, by first | rfl | go_num | simp, ⟨hL', hE', ap1, apart_symm ap1, u, u0⟩⟩
        case measure => simp [intOf]
end En
end Go.Proofs.YtbfonkabmehlmaaGreatDoor
namespace Go.Proofs.YtbfonkabmehlmaaGreatDoor
set_option maxRecDepth 1000000
namespace En
open Go.RowKit Go.Extern.Stop Go.Stop Go.Extern
open Go.Proofs.YtbfonkabmehlmaaGreatDoor.Nm Go.Proofs.YtbfonkabmehlmaaGreatDoor.Rt
theorem sqN_neg {r : Rat} {c : Nat} (h0 : r.num < 0) (hf2 : Fits (r.num * 10 ^ c * 10 ^ c)) : Fits (sqN r c) ∧ sqN r c < 0 := by
  have hd : (0 : Int) < (r.den : Int) := by have := r.den_pos; omega
  have hP : (0 : Int) < 10 ^ c := Int.pow_pos (by decide)
  have hn : r.num * 10 ^ c * 10 ^ c < 0 := Int.mul_neg_of_neg_of_pos (Int.mul_neg_of_neg_of_pos h0 hP) hP
  have h1 : sqN r c < 0 := Int.ediv_neg_of_neg_of_pos hn hd
  refine ⟨fits_le hf2 ?_, h1⟩
  have h2 := Int.natAbs_ediv_le_natAbs (r.num * 10 ^ c * 10 ^ c) (r.den : Int)
  exact h2
theorem root_neg_q (a : Addr) {r : Rat} (hr : FitQ r) (h0 : r.num < 0) {c : Nat} (hc : Fits ((10 : Int) ^ c)) (hf1 : Fits (r.num * 10 ^ c)) (hf2 : Fits (r.num * 10 ^ c * 10 ^ c)) (o : ByteArray) (ex : Bool) : RootC a (txt r.num) (txt (r.den : Int)) (txt (10 ^ c)) o ex true := by
  intro W hW
  obtain ⟨h1, h2⟩ := sqN_neg h0 hf2
  have c' := root_any a (txt r.num) (txt (r.den : Int)) (txt (10 ^ c)) (txt (r.num * 10 ^ c)) (txt (r.num * 10 ^ c * 10 ^ c)) (txt (sqN r c)) (txt (r.num * 10 ^ c * 10 ^ c % (r.den : Int))) ⟨#[]⟩ ⟨#[]⟩ 0 0 0 30 (decide (r.num * 10 ^ c * 10 ^ c % (r.den : Int) = 0)) ((⟨#[]⟩ : ByteArray).toList == (txt (sqN r c)).toList)
    (fun V => by have := Mul_ok r.num (10 ^ c) hr.1 hc V; rw [calcR_fit hf1] at this; exact this)
    (fun _ V => by have := Mul_ok (r.num * 10 ^ c) (10 ^ c) hf1 hc V; rw [calcR_fit hf2] at this; exact this)
    (fun _ _ V => Div_ok _ _ hf2 hr.2 (by have := r.den_pos; omega) V)
    (fun _ _ V => Root_neg (sqN r c) h1 h2 V)
    (txt_eq0 _)
    (fun _ _ h => absurd h (by decide))
    rfl W hW
  rw [if_neg (fun h => absurd h.2.2 (by decide))] at c'
  rw [if_neg (by decide)]
  exact c'
/-- Sqrt of an interval with a negative fraction -/
theorem Sqrt_neg (a : Addr) {p q : Rat} (h1 : FitQ p) (h2 : FitQ q) (o : p ≤ q) (hp0 : p.num < 0) {c : Nat} (hc : c ≤ 30) (hp1 : Fits (p.num * 10 ^ c)) (hp2 : Fits (p.num * 10 ^ c * 10 ^ c)) (hq1 : Fits (q.num * 10 ^ c)) (hq2 : Fits (q.num * 10 ^ c * 10 ^ c)) :
    IC a 34 #[iq p q, .int .i64 (c : Int)] none := by
  intro W hW
  have v1 := iValid_q h1 h2
  rw [decide_eq_true o] at v1
  have hf : Fits ((10 : Int) ^ c) := pow_fits c hc
  obtain ⟨o2, e2, b2, hH⟩ : ∃ (o2 : ByteArray) (e2 b2 : Bool), RootC a (txt q.num) (txt (q.den : Int)) (txt (10 ^ c)) o2 e2 b2 := by
    by_cases hq0 : q.num < 0
    · exact ⟨⟨#[]⟩, false, true, root_neg_q a h2 hq0 hf hq1 hq2 _ _⟩
    · exact ⟨_, _, false, root_q a h2 (by omega) hf hq1 hq2⟩
  exact liftSqrt a _ _ _ _ ⟨#[]⟩ ⟨#[]⟩ ⟨#[]⟩ ⟨#[]⟩ _ true true (fun _ Bx Bp V hv hx hp => (sqrt_clo a Bp Bx _ _ _ _ ⟨(Lib.repeatL [48] c).toArray⟩ (txt (10 ^ c)) ⟨#[]⟩ o2 ⟨#[]⟩ (if e2 then o2 else ⟨#[]⟩) ⟨#[]⟩ ⟨#[]⟩ ⟨#[]⟩ ⟨#[]⟩ (c : Int) true true b2 false e2 ⟨fun _ => by omega, fun _ => rfl⟩
    (fun _ V' => Repeat_all c hc V') (zs_size c hc) (units_eq c hc) (fun _ => root_neg_q a h1 hp0 hf hp1 hp2 _ _) (fun _ => hH)
    (fun _ h => by cases h) rfl (fun _ h => by cases h) (fun _ h => by cases h) V hv hx hp).mono (fun e V' h => ⟨by rw [h.1, if_neg (fun h => by cases h.2.1)]; rfl, h.2⟩)) v1 W hW
end En
end Go.Proofs.YtbfonkabmehlmaaGreatDoor
namespace Go.Proofs.YtbfonkabmehlmaaGreatDoor
set_option maxRecDepth 1000000
namespace En
theorem lt_le {p q r : Rat} (h1 : p < q) (h2 : q ≤ r) : p < r := Rat.not_le.1 (fun h => Rat.not_le.2 h1 (Rat.le_trans h2 h))
theorem le_lt {p q r : Rat} (h1 : p ≤ q) (h2 : q < r) : p < r := Rat.not_le.1 (fun h => Rat.not_le.2 h2 (Rat.le_trans h h1))
theorem inv_pos0 {x : Rat} (hx : 0 < x) : 0 ≤ x⁻¹ := by
  by_cases h : 0 ≤ x⁻¹
  · exact h
  · have nx : x ≠ 0 := fun e => by rw [e] at hx; exact Rat.lt_irrefl hx
    have h3 := Rat.neg_le_neg (Rat.le_of_lt (Rat.not_le.1 h))
    rw [Rat.neg_zero] at h3
    have h4 := Rat.mul_nonneg (Rat.le_of_lt hx) h3
    rw [Rat.mul_neg, Rat.mul_inv_cancel x nx] at h4
    exact absurd h4 (by decide)
theorem lin_low {p r q v lo : Rat} (h1 : p ≤ r) (h2 : r ≤ q) (a : lo ≤ p * v) (b : lo ≤ q * v) : lo ≤ r * v := by
  by_cases hv : 0 ≤ v
  · exact Rat.le_trans a (Rat.mul_le_mul_of_nonneg_right h1 hv)
  · have hv2 : 0 ≤ -v := by
      have := Rat.le_of_lt (Rat.not_le.1 hv)
      have h3 := Rat.neg_le_neg this
      rwa [Rat.neg_zero] at h3
    have h4 := Rat.mul_le_mul_of_nonneg_right h2 hv2
    rw [Rat.mul_neg, Rat.mul_neg] at h4
    exact Rat.le_trans b (Rat.neg_le_neg_iff.1 h4)
theorem lin_high {p r q v hi : Rat} (h1 : p ≤ r) (h2 : r ≤ q) (a : p * v ≤ hi) (b : q * v ≤ hi) : r * v ≤ hi := by
  have h := lin_low (v := -v) (lo := -hi) h1 h2 (by rw [Rat.mul_neg]; exact Rat.neg_le_neg a) (by rw [Rat.mul_neg]; exact Rat.neg_le_neg b)
  rw [Rat.mul_neg] at h
  exact Rat.neg_le_neg_iff.1 h
theorem mul_between {p1 q1 p2 q2 r s lo hi : Rat} (h1 : p1 ≤ r) (h2 : r ≤ q1) (h3 : p2 ≤ s) (h4 : s ≤ q2) (h : ∀ u v, (u = p1 ∨ u = q1) → (v = p2 ∨ v = q2) → lo ≤ u * v ∧ u * v ≤ hi) : lo ≤ r * s ∧ r * s ≤ hi := by
  have a1 := fun v hv => lin_low h1 h2 (h p1 v (.inl rfl) hv).1 (h q1 v (.inr rfl) hv).1
  have a2 := fun v hv => lin_high h1 h2 (h p1 v (.inl rfl) hv).2 (h q1 v (.inr rfl) hv).2
  rw [Rat.mul_comm r s]
  refine ⟨lin_low h3 h4 ?_ ?_, lin_high h3 h4 ?_ ?_⟩
  · rw [Rat.mul_comm]; exact a1 _ (.inl rfl)
  · rw [Rat.mul_comm]; exact a1 _ (.inr rfl)
  · rw [Rat.mul_comm]; exact a2 _ (.inl rfl)
  · rw [Rat.mul_comm]; exact a2 _ (.inr rfl)
theorem inv_anti {x y : Rat} (hx : 0 < x) (h : x ≤ y) : y⁻¹ ≤ x⁻¹ := by
  have hy : 0 < y := by
    exact lt_le hx h
  have nx : x ≠ 0 := fun e => by rw [e] at hx; exact Rat.lt_irrefl hx
  have ny : y ≠ 0 := fun e => by rw [e] at hy; exact Rat.lt_irrefl hy
  have i1 : 0 ≤ x⁻¹ := inv_pos0 hx
  have i2 : 0 ≤ y⁻¹ := inv_pos0 hy
  have m := Rat.mul_le_mul_of_nonneg_right h (Rat.mul_nonneg i1 i2)
  rw [← Rat.mul_assoc, Rat.mul_inv_cancel x nx, Rat.one_mul, Rat.mul_comm x⁻¹, ← Rat.mul_assoc, Rat.mul_inv_cancel y ny, Rat.one_mul] at m
  exact m
theorem inv_neg_eq (x : Rat) : (-x)⁻¹ = -(x⁻¹) := by
  by_cases hx : x = 0
  · subst hx; rw [Rat.neg_zero, Rat.inv_zero, Rat.neg_zero]
  · have h1 : -x ≠ 0 := fun e => hx (by rw [← Rat.neg_neg x, e, Rat.neg_zero])
    have h2 : (-x) * (-(x⁻¹)) = 1 := by rw [Rat.neg_mul, Rat.mul_neg, Rat.neg_neg, Rat.mul_inv_cancel x hx]
    have h3 : (-x)⁻¹ * ((-x) * (-(x⁻¹))) = (-x)⁻¹ * 1 := by rw [h2]
    rw [← Rat.mul_assoc, Rat.inv_mul_cancel _ h1, Rat.one_mul, Rat.mul_one] at h3
    exact h3.symm
theorem inv_between {p s q : Rat} (h1 : p ≤ s) (h2 : s ≤ q) (h0 : ¬ (p ≤ 0 ∧ 0 ≤ q)) : q⁻¹ ≤ s⁻¹ ∧ s⁻¹ ≤ p⁻¹ := by
  by_cases hp : p ≤ 0
  · have hq : q < 0 := Rat.not_le.1 (fun h => h0 ⟨hp, h⟩)
    have nq : 0 < -q := by have := Rat.neg_lt_neg hq; rwa [Rat.neg_zero] at this
    have a1 := inv_anti nq (Rat.neg_le_neg h2)
    have hs : s < 0 := le_lt h2 hq
    have ns : 0 < -s := by have := Rat.neg_lt_neg hs; rwa [Rat.neg_zero] at this
    have a2 := inv_anti ns (Rat.neg_le_neg h1)
    rw [inv_neg_eq, inv_neg_eq] at a1 a2
    exact ⟨Rat.neg_le_neg_iff.1 a1, Rat.neg_le_neg_iff.1 a2⟩
  · have hp2 := Rat.not_le.1 hp
    exact ⟨inv_anti (lt_le hp2 h1) h2, inv_anti hp2 h1⟩
theorem div_between {p1 q1 p2 q2 r s lo hi : Rat} (h1 : p1 ≤ r) (h2 : r ≤ q1) (h3 : p2 ≤ s) (h4 : s ≤ q2) (h0 : ¬ (p2 ≤ 0 ∧ 0 ≤ q2)) (h : ∀ u v, (u = p1 ∨ u = q1) → (v = p2 ∨ v = q2) → lo ≤ u / v ∧ u / v ≤ hi) : lo ≤ r / s ∧ r / s ≤ hi := by
  obtain ⟨i1, i2⟩ := inv_between h3 h4 h0
  rw [Rat.div_def]
  refine mul_between (p2 := q2⁻¹) (q2 := p2⁻¹) h1 h2 i1 i2 (fun u v hu hv => ?_)
  rcases hv with rfl | rfl
  · rw [← Rat.div_def]; exact h u q2 hu (.inr rfl)
  · rw [← Rat.div_def]; exact h u p2 hu (.inl rfl)
end En
end Go.Proofs.YtbfonkabmehlmaaGreatDoor
namespace Go.Proofs.YtbfonkabmehlmaaGreatDoor
set_option maxRecDepth 1000000
namespace En
open Go.RowKit Go.Extern.Stop Go.Stop Go.Extern
open Go.Proofs.YtbfonkabmehlmaaGreatDoor.Nm Go.Proofs.YtbfonkabmehlmaaGreatDoor.Rt
def LCm (a : Addr) (f : Nat) (args : Array Value) (m : P4) (e : Int) : Prop := LC a f args (.tuple #[.agg #[.string m.1.1, .string m.1.2, .string m.2.1, .string m.2.2], .int .i64 e])
def m0 : P4 := ((⟨#[]⟩, ⟨#[]⟩), (⟨#[]⟩, ⟨#[]⟩))
theorem IC.some {a : Addr} {f : Nat} {args : Array Value} {x y : Rat} (h : IC a f args (some (x, y))) : LCm a f args (pq x, pq y) 0 := h
theorem IC.none {a : Addr} {f : Nat} {args : Array Value} (h : IC a f args none) : LCm a f args m0 50 := h
def sel8 {α : Type} (x0 x1 x2 x3 x4 x5 x6 x7 : α) : Nat → α
  | 0 => x0 | 1 => x1 | 2 => x2 | 3 => x3 | 4 => x4 | 5 => x5 | 6 => x6 | _ => x7
theorem pow_le12 {c : Nat} (hc : c ≤ 12) : ((10 : Int) ^ c).natAbs ≤ 10 ^ 12 := by rw [Int.natAbs_pow]; exact Nat.pow_le_pow_right (by decide) hc
theorem small_fits {p : Rat} (s : SmallQ p) {c : Nat} (hc : c ≤ 12) : Fits (p.num * 10 ^ c) ∧ Fits (p.num * 10 ^ c * 10 ^ c) ∧ Fits (upI (p.num * 10 ^ c) p.den) := by
  have h1 := abs_mul_le s.num (pow_le12 hc)
  have h2 := abs_mul_le h1 (pow_le12 hc)
  have hD : 0 < (p.den : Int) := by have := p.den_pos; omega
  exact ⟨fits_lt10 h1 (by decide), fits_lt10 h2 (by decide), fits_lt10 (Nat.le_trans (upI_natAbs _ _ hD) h1) (by decide)⟩
theorem small_round (a : Addr) {p q : Rat} (s : SmallQ p) (t : SmallQ q) (o : p ≤ q) {c : Nat} (hc : c ≤ 12) : ∃ m, LCm a 41 #[iq p q, .int .i64 (c : Int)] m 0 :=
  ⟨_, (Round_I a s.fit t.fit o (c := c) (by omega) (by rw [downQ, if_pos (small_fits s hc).1]) (by rw [upQ, if_pos ⟨(small_fits t hc).1, (small_fits t hc).2.2⟩])).some⟩
theorem small_sqrt (a : Addr) {p q : Rat} (s : SmallQ p) (t : SmallQ q) (o : p ≤ q) {c : Nat} (hc : c ≤ 12) : ∃ m e, LCm a 34 #[iq p q, .int .i64 (c : Int)] m e := by
  have f1 := small_fits s hc
  have f2 := small_fits t hc
  by_cases hp : p.num < 0
  · exact ⟨_, _, (Sqrt_neg a s.fit t.fit o hp (c := c) (by omega) f1.1 f1.2.1 f2.1 f2.2.1).none⟩
  · have hq : 0 ≤ q.num := by
      have h0 : 0 ≤ p := Rat.num_nonneg.1 (by omega)
      exact Rat.num_nonneg.2 (Rat.le_trans h0 o)
    exact ⟨_, _, (Sqrt_I a s.fit t.fit o (by omega) hq (c := c) (by omega) f1.1 f1.2.1 f2.1 f2.2.1).some⟩
theorem small_meet (a : Addr) {p1 q1 p2 q2 : Rat} (s1 : SmallQ p1) (t1 : SmallQ q1) (s2 : SmallQ p2) (t2 : SmallQ q2) (o1 : p1 ≤ q1) (o2 : p2 ≤ q2) : ∃ m e, LCm a 36 #[iq p1 q1, iq p2 q2] m e := by
  have h := Meet_I a s1.fit t1.fit s2.fit t2.fit o1 o2
  by_cases hc : maxQ p1 p2 ≤ minQ q1 q2
  · rw [if_pos hc] at h; exact ⟨_, _, h.some⟩
  · rw [if_neg hc] at h; exact ⟨_, _, h.none⟩
theorem calls8 (a : Addr) {p1 q1 p2 q2 : Rat} (s1 : SmallQ p1) (t1 : SmallQ q1) (s2 : SmallQ p2) (t2 : SmallQ q2) (o1 : p1 ≤ q1) (o2 : p2 ≤ q2) {c : Nat} (hc : c ≤ 12) : ∃ (M : Nat → P4) (E : Nat → Int),
    (∀ W : World, Ref a W → Calls Tryz.prog 16 #[iq p1 q1, iq p2 q2, .int .i64 (c : Int)] W fun e w' => ∃ vl ve, e = .returned (.tuple #[vl, ve]) ∧ OwnG 25 4 w' W.heap.size vl 8 (ivs M) ∧ OwnG 30 1 w' W.heap.size ve 8 (ers E) ∧ Below W.heap.size W w') ∧
    (E 0 = 0 ∧ M 0 = (pq (p1 + p2), pq (q1 + q2))) ∧ (E 1 = 0 ∧ M 1 = (pq (p1 - q2), pq (q1 - p2))) ∧
    (∃ x y x' y', (x = p1 ∨ x = q1) ∧ (y = p2 ∨ y = q2) ∧ (x' = p1 ∨ x' = q1) ∧ (y' = p2 ∨ y' = q2) ∧ (∀ u v, (u = p1 ∨ u = q1) → (v = p2 ∨ v = q2) → x * y ≤ u * v ∧ u * v ≤ x' * y') ∧ E 2 = 0 ∧ M 2 = (pq (x * y), pq (x' * y'))) ∧
    (((p2 ≤ 0 ∧ 0 ≤ q2) ∧ E 3 = 50) ∨ (¬ (p2 ≤ 0 ∧ 0 ≤ q2) ∧ ∃ x y x' y', (x = p1 ∨ x = q1) ∧ (y = p2 ∨ y = q2) ∧ (x' = p1 ∨ x' = q1) ∧ (y' = p2 ∨ y' = q2) ∧ (∀ u v, (u = p1 ∨ u = q1) → (v = p2 ∨ v = q2) → x / y ≤ u / v ∧ u / v ≤ x' / y') ∧ E 3 = 0 ∧ M 3 = (pq (x / y), pq (x' / y')))) := by
  have hu : ∀ u, (u = p1 ∨ u = q1) → BQ 999 60 u := fun u h => h.elim (fun e => e ▸ SmallQ.bq s1) (fun e => e ▸ SmallQ.bq t1)
  have hv : ∀ v, (v = p2 ∨ v = q2) → BQ 999 60 v := fun u h => h.elim (fun e => e ▸ SmallQ.bq s2) (fun e => e ▸ SmallQ.bq t2)
  have cA := Add_I a s1.fit t1.fit s2.fit t2.fit o1 o2
  rw [addQ_b (SmallQ.bq s1) (SmallQ.bq s2) (by decide) (by decide), addQ_b (SmallQ.bq t1) (SmallQ.bq t2) (by decide) (by decide)] at cA
  have cS := Sub_I a s1.fit t1.fit s2.fit t2.fit o1 o2
  rw [subQ_b (SmallQ.bq s1) (SmallQ.bq t2) (by decide) (by decide), subQ_b (SmallQ.bq t1) (SmallQ.bq s2) (by decide) (by decide)] at cS
  obtain ⟨x, y, x', y', hx, hy, hx', hy', hall, cM⟩ := Mul_I a s1.fit t1.fit s2.fit t2.fit o1 o2 (fun u v h1 h2 => mulQ_b (hu u h1) (hv v h2) (by decide) (by decide))
  have cH := Hull_I a s1.fit t1.fit s2.fit t2.fit o1 o2
  obtain ⟨m5, e5, c5⟩ := small_meet a s1 t1 s2 t2 o1 o2
  obtain ⟨m6, e6, c6⟩ := small_sqrt a s1 t1 o1 hc
  obtain ⟨m7, c7⟩ := small_round a s1 t1 o1 hc
  have go := fun (m3 : P4) (e3 : Int) (c3 : LCm a 40 #[iq p1 q1, iq p2 q2] m3 e3) (W : World) (hW : Ref a W) => calls_any a _ _ _ _ _ _ _ _ (c : Int) (sel8 (pq (p1 + p2), pq (q1 + q2)) (pq (p1 - q2), pq (q1 - p2)) (pq (x * y), pq (x' * y')) m3 (pq (minQ p1 p2), pq (maxQ q1 q2)) m5 m6 m7) (sel8 0 0 0 e3 0 e5 e6 0) cA.some cS.some cM.some c3 cH.some c5 c6 c7 W hW
  by_cases h0 : p2 ≤ 0 ∧ 0 ≤ q2
  · exact ⟨_, _, go _ _ (Div_none a s1.fit t1.fit s2.fit t2.fit o1 o2 h0).none, ⟨rfl, rfl⟩, ⟨rfl, rfl⟩, ⟨x, y, x', y', hx, hy, hx', hy', hall, rfl, rfl⟩, .inl ⟨h0, rfl⟩⟩
  · have nz : ∀ v, (v = p2 ∨ v = q2) → v ≠ 0 := fun v h e => by
      subst e
      rcases h with h | h
      · exact h0 ⟨by rw [← h]; exact Rat.le_refl, by rw [h]; exact o2⟩
      · exact h0 ⟨by rw [h]; exact o2, by rw [← h]; exact Rat.le_refl⟩
    obtain ⟨u, v, u', v', iu, iv, iu', iv', hall2, cD⟩ := Div_I a s1.fit t1.fit s2.fit t2.fit o1 o2 h0 (fun u v h1 h2 => divQ_b (hu u h1) (hv v h2) (nz v h2) (by decide) (by decide))
    exact ⟨_, _, go _ _ cD.some, ⟨rfl, rfl⟩, ⟨rfl, rfl⟩, ⟨x, y, x', y', hx, hy, hx', hy', hall, rfl, rfl⟩, .inr ⟨h0, u, v, u', v', iu, iv, iu', iv', hall2, rfl, rfl⟩⟩
end En
end Go.Proofs.YtbfonkabmehlmaaGreatDoor
namespace Go.Proofs.YtbfonkabmehlmaaGreatDoor
set_option maxRecDepth 1000000
namespace En
open Go.RowKit Go.Extern.Stop Go.Stop Go.Extern
open Go.Proofs.YtbfonkabmehlmaaGreatDoor.Nm Go.Proofs.YtbfonkabmehlmaaGreatDoor.Rt
open N10 (Two)
def unitQ (c : Nat) : Rat := Rat.divInt 1 (10 ^ c)
theorem lt_of_cmpZ {n d m c : Int} (hd : 0 < d) (hc : 0 < c) (h : n * c < m * d) : Rat.divInt n d < Rat.divInt m c := by
  have e := cmpQ_div (n := n) (m := m) hd hc
  rw [cmpZ, if_pos h] at e
  rcases cmpQ_ways (Rat.divInt n d) (Rat.divInt m c) with ⟨_, h1⟩ | ⟨h1, _⟩ | ⟨h1, _⟩
  · exact h1
  · rw [h1] at e; exact absurd e (by decide)
  · rw [h1] at e; exact absurd e (by decide)
theorem le_of_cmpZ {n d m c : Int} (hd : 0 < d) (hc : 0 < c) (h : n * c ≤ m * d) : Rat.divInt n d ≤ Rat.divInt m c := by
  rcases Int.lt_or_eq_of_le h with h1 | h1
  · exact Rat.le_of_lt (lt_of_cmpZ hd hc h1)
  · have e := cmpQ_div (n := n) (m := m) hd hc
    rw [cmpZ, if_neg (by omega), if_pos h1] at e
    rcases cmpQ_ways (Rat.divInt n d) (Rat.divInt m c) with ⟨h2, _⟩ | ⟨_, h2⟩ | ⟨h2, _⟩
    · rw [h2] at e; exact absurd e (by decide)
    · rw [h2]; exact Rat.le_refl
    · rw [h2] at e; exact absurd e (by decide)
theorem sub_lt_of {p d s t : Rat} (h : p < s) (hs : s - d = t) : p - d < t := by
  rw [← hs, Rat.sub_eq_add_neg, Rat.sub_eq_add_neg]
  exact Rat.add_lt_add_right.2 h
theorem sub_lt_of2 {p u s t : Rat} (h : s < p) (hs : u - s = t) : u - p < t := by
  rw [← hs, Rat.sub_eq_add_neg, Rat.sub_eq_add_neg]
  exact Rat.add_lt_add_left.2 (Rat.neg_lt_neg_iff.2 h)
theorem round_facts (q : Rat) (hq : LongQ q) (c : Nat) (hc : c ≤ 30) : ∃ d u : Rat, FitQ d ∧ FitQ u ∧ downQ q c = some d ∧ upQ q c = some u ∧ downQ d c = some d ∧ upQ u c = some u ∧ d ≤ q ∧ q ≤ u ∧ q - d < unitQ c ∧ u - q < unitQ c := by
  have fq := hq.fit
  obtain ⟨hPb, hP⟩ := pow_big c hc
  have hD : 0 < (q.den : Int) := by have := q.den_pos; omega
  have hXb : (q.num * 10 ^ c).natAbs ≤ 10 ^ 130 := by
    rw [Int.natAbs_mul]
    exact Nat.le_trans (Nat.mul_le_mul (Nat.le_of_lt hq.num) hPb) (by rw [← Nat.pow_add]; exact Nat.le_refl _)
  have big : ∀ {z : Int}, z.natAbs ≤ 10 ^ 130 → Fits z := fun h => fits_small (Nat.lt_of_le_of_lt h (Nat.pow_lt_pow_right (by decide) (by decide)))
  have fX := big hXb
  have hkb : (q.num * 10 ^ c / (q.den : Int)).natAbs ≤ 10 ^ 130 := Nat.le_trans (Int.natAbs_ediv_le_natAbs _ _) hXb
  have hub : (upI (q.num * 10 ^ c) (q.den : Int)).natAbs ≤ 10 ^ 130 := Nat.le_trans (upI_natAbs _ _ hD) hXb
  have fk := big hkb
  have fu := big hub
  have fP := pow_fits c hc
  obtain ⟨k, hk⟩ : ∃ k, k = q.num * 10 ^ c / (q.den : Int) := ⟨_, rfl⟩
  obtain ⟨u, hu⟩ : ∃ u, u = upI (q.num * 10 ^ c) (q.den : Int) := ⟨_, rfl⟩
  have e1 : downQ q c = some (Rat.divInt k (10 ^ c)) := by rw [downQ, if_pos fX, hk]
  have e2 : upQ q c = some (Rat.divInt u (10 ^ c)) := by rw [upQ, if_pos ⟨fX, fu⟩, hu]
  rw [← hk] at hkb fk
  rw [← hu] at hub fu
  have Fa : FitQ (Rat.divInt k (10 ^ c)) := FitQ.div fk fP (by omega)
  have Fb : FitQ (Rat.divInt u (10 ^ c)) := FitQ.div fu fP (by omega)
  have sa := grid_self k c hc hkb
  have sb := grid_self u c hc hub
  have hr : q = Rat.divInt q.num q.den := (Rat.num_divInt_den q).symm
  have hdm := Int.mul_ediv_add_emod (q.num * 10 ^ c) (q.den : Int)
  have l1 := Int.emod_nonneg (q.num * 10 ^ c) (show (q.den : Int) ≠ 0 by omega)
  have l2 := Int.emod_lt_of_pos (q.num * 10 ^ c) hD
  rw [← hk] at hdm
  have a1 : k * q.den ≤ q.num * 10 ^ c := by rw [Int.mul_comm]; omega
  have a2 : q.num * 10 ^ c < (k + 1) * q.den := by rw [Int.add_mul, Int.one_mul, Int.mul_comm k]; omega
  have a3 : q.num * 10 ^ c ≤ u * q.den ∧ (u - 1) * q.den < q.num * 10 ^ c := by
    rw [hu, upI, ← hk]
    split
    · rename_i hz
      rw [hz] at hdm
      rw [Int.sub_mul, Int.one_mul, Int.mul_comm k]
      omega
    · rename_i hz
      have : (k + 1 - 1) * (q.den : Int) = q.den * k := by rw [Int.add_sub_cancel, Int.mul_comm]
      rw [this, Int.add_mul, Int.one_mul, Int.mul_comm k]
      omega
  refine ⟨_, _, Fa, Fb, e1, e2, sa.1, sb.2, ?_, ?_, ?_, ?_⟩
  · conv => rhs; rw [hr]
    exact le_of_cmpZ hP hD a1
  · conv => lhs; rw [hr]
    exact le_of_cmpZ hD hP a3.1
  · refine sub_lt_of (s := Rat.divInt (k + 1) (10 ^ c)) ?_ ?_
    · conv => lhs; rw [hr]
      exact lt_of_cmpZ hD hP a2
    · rw [grid_sub _ _ hP, show k + 1 - k = 1 by omega]; rfl
  · refine sub_lt_of2 (s := Rat.divInt (u - 1) (10 ^ c)) ?_ ?_
    · conv => rhs; rw [hr]
      exact lt_of_cmpZ hP hD a3.2
    · rw [grid_sub _ _ hP, show u - (u - 1) = 1 by omega]; rfl
theorem unit_fit (c : Nat) (hc : c ≤ 30) : FitQ (unitQ c) := FitQ.div (fits_small (by decide)) (pow_fits c hc) (by have := (pow_big c hc).2; omega)
theorem unit_next (c : Nat) (hc : c < 30) : divQ (unitQ c) (Rat.divInt 10 1) = some (unitQ (c + 1)) := by
  have h1 := divInt_P1 (pow_big c (by omega)).2
  have h2 : (Rat.divInt 10 1).num = 10 := by decide
  have h3 : (Rat.divInt 10 1).den = 1 := by decide
  have hP := (pow_big c (by omega)).2
  rw [divQ, unitQ, h1.1, h1.2, h2, h3, if_pos]
  · rw [unitQ, Rat.div_def, Rat.inv_divInt, Rat.divInt_mul_divInt, Int.pow_succ]
    rfl
  · refine ⟨fits_small (by decide), ?_, by decide⟩
    have := pow_fits (c + 1) (by omega)
    rwa [Int.pow_succ] at this
theorem cmp_unit {p : Rat} {c : Nat} (h : p < unitQ c) : cmpQ p (unitQ c) < 0 := by
  rcases cmpQ_ways p (unitQ c) with ⟨e, _⟩ | ⟨_, e⟩ | ⟨_, e⟩
  · rw [e]; decide
  · rw [e] at h; exact absurd h (Rat.lt_irrefl)
  · exact absurd (Rat.le_of_lt e) (Rat.not_le.2 h)
end En
end Go.Proofs.YtbfonkabmehlmaaGreatDoor
namespace Go.Proofs.YtbfonkabmehlmaaGreatDoor
set_option maxRecDepth 1000000
namespace En
open Go.RowKit Go.Extern.Stop Go.Stop Go.Extern
open Go.Proofs.YtbfonkabmehlmaaGreatDoor.Nm Go.Proofs.YtbfonkabmehlmaaGreatDoor.Rt
theorem pick101 (c : Int) (h1 : -9223372036854775808 ≤ c) (h2 : c ≤ 9223372036854775807) (w : World) :
    Calls Tryz.prog 78 #[.int .i64 c, .int .i64 101] w fun e w' => ∃ k : Nat, k < 101 ∧ e = .returned (.int .i64 (k : Int)) ∧ Below w.heap.size w w' := by
  have hw : ∀ x : Int, -9223372036854775808 ≤ x → x ≤ 9223372036854775807 → IntKind.i64.wrap x = x := fun x a b => by simp [IntKind.wrap, IntKind.signed, IntKind.bits]; omega
  by_cases hc : c < 0
  · have e1 := hw (c + 1) (by omega) (by omega)
    have e2 := hw (-(c + 1)) (by omega) (by omega)
    obtain ⟨k, hk⟩ : ∃ k : Nat, -(c + 1) = (k : Int) := ⟨(-(c + 1)).toNat, by omega⟩
    go_enter Tryz.func78, Tryz.ntmps78
    go_wp2
    go_ret
    exact ⟨k % 101, by omega, by congr 2, Below.refl _ _⟩
  · obtain ⟨k, rfl⟩ := Int.eq_ofNat_of_zero_le (show 0 ≤ c by omega)
    go_enter Tryz.func78, Tryz.ntmps78
    go_wp2
    go_ret
    exact ⟨k % 101, by omega, by congr 2, Below.refl _ _⟩
theorem part_in {p q : Rat} (h : p ≤ q) (k : Nat) (hk : k ≤ 100) : p ≤ p + (q - p) * Rat.divInt k 100 ∧ p + (q - p) * Rat.divInt k 100 ≤ q := by
  have h0 : 0 ≤ q - p := (Rat.le_iff_sub_nonneg p q).1 h
  have hk0 : 0 ≤ Rat.divInt (k : Int) 100 := (Rat.divInt_nonneg_iff_of_pos_right (by decide)).2 (by omega)
  have hk1 : Rat.divInt (k : Int) 100 ≤ 1 := by
    rw [show (1 : Rat) = Rat.divInt 100 100 by decide]
    exact le_of_cmpZ (by decide) (by decide) (by omega)
  have m1 : 0 ≤ (q - p) * Rat.divInt k 100 := Rat.mul_nonneg h0 hk0
  have m2 : (q - p) * Rat.divInt k 100 ≤ (q - p) * 1 := Rat.mul_le_mul_of_nonneg_left hk1 h0
  rw [Rat.mul_one] at m2
  refine ⟨?_, ?_⟩
  · have := Rat.add_le_add_left (c := p) |>.2 m1
    rwa [Rat.add_zero] at this
  · have := Rat.add_le_add_left (c := p) |>.2 m2
    have e : p + (q - p) = q := by rw [Rat.add_comm, Rat.sub_add_cancel]
    rw [e] at this
    exact this
set_option maxHeartbeats 4000000 in
theorem Inside_any {p q : Rat} (sp : SmallQ p) (sq : SmallQ q) (hpq : p ≤ q) (part : Int) (hp : In64 part) (w : World) :
    Calls Tryz.prog 33 #[iq p q, .int .i64 part] w fun e w' => ∃ r : Rat, BQ 1000000000000 100000000 r ∧ p ≤ r ∧ r ≤ q ∧ e = .returned (rq r) ∧ Below w.heap.size w w' := by
  have CP : Shut _ := ⟨fun W => pick101 part hp.1 hp.2 W⟩
  have SP : Shut _ := ⟨sp⟩
  have SQ : Shut _ := ⟨sq⟩
  have SH : Shut _ := ⟨hpq⟩
  clear hp sp sq hpq
  unfold iq
  obtain ⟨n_x, n_z⟩ := news2 w (.cells #[.string (txt p.num), .string (txt (p.den : Int)), .string (txt q.num), .string (txt (q.den : Int))] 25) (.cells #[.string ⟨#[]⟩, .string ⟨#[]⟩] 23)
  have u := below2 w (.cells #[.string (txt p.num), .string (txt (p.den : Int)), .string (txt q.num), .string (txt (q.den : Int))] 25) (.cells #[.string ⟨#[]⟩, .string ⟨#[]⟩] 23)
  go_enter Tryz.func33, Tryz.ntmps33
  have c_x0 := lcell n_x 0 (v := .string (txt p.num)) rfl
  have c_x1 := lcell n_x 1 (v := .string (txt (p.den : Int))) rfl
  have c_x2 := lcell n_x 2 (v := .string (txt q.num)) rfl
  have c_x3 := lcell n_x 3 (v := .string (txt (q.den : Int))) rfl
  have s1 := subR_O (.some SQ.o.fit) (.some SP.o.fit)
  rw [show lift2 subQ (some q) (some p) = some (q - p) from subQ_b (SmallQ.bq SQ.o) (SmallQ.bq SP.o) (by decide) (by decide)] at s1
  go_wp2_with fail
  refine (s1 _).mono ?_
  rintro e v1 ⟨rfl, g⟩
  replace u := u.trans (g.mono u.size)
  replace n_x := lkeep n_x g
  replace n_z := lkeep n_z g
  clear c_x0 c_x1 c_x2 c_x3
  clear g
  unfold resO
  clear s1
  have g := (Below.refl v1.heap.size v1).alloc (Nat.le_refl _) (.cells #[.string (sn (some (q - p))), .string (sd (some (q - p)))] 23)
  have n_a := World.alloc_heap_new v1 (.cells #[.string (sn (some (q - p))), .string (sd (some (q - p)))] 23)
  replace u := u.trans (g.mono u.size)
  replace n_x := lkeep n_x g
  replace n_z := lkeep n_z g
  clear g
  go_wp2_with fail
  generalize v1.alloc (.cells #[.string (sn (some (q - p))), .string (sd (some (q - p)))] 23) = V_a at *
  generalize v1.heap.size = b_a at *
  refine (CP.o _).mono ?_
  rintro e v2 ⟨k, hk, rfl, g⟩
  replace u := u.trans (g.mono u.size)
  replace n_x := lkeep n_x g
  replace n_z := lkeep n_z g
  replace n_a := lkeep n_a g
  clear g
  have s2 : Ret 47 #[.int .i64 (k : Int), .int .i64 100] (resO (some (Rat.divInt (k : Int) 100))) := fun W => by
    have := OfR_all (k : Int) 100 (by omega) (by omega) (by omega) (by omega) W
    rw [red_q (fits_60 (by omega)) (fits_60 (by decide)) (by decide)] at this
    exact this
  go_wp2_with fail
  refine (s2 _).mono ?_
  rintro e v3 ⟨rfl, g⟩
  replace u := u.trans (g.mono u.size)
  replace n_x := lkeep n_x g
  replace n_z := lkeep n_z g
  replace n_a := lkeep n_a g
  clear g
  unfold resO
  clear s2
  have g := (Below.refl v3.heap.size v3).alloc (Nat.le_refl _) (.cells #[.string (sn (some (Rat.divInt (k : Int) 100))), .string (sd (some (Rat.divInt (k : Int) 100)))] 23)
  have n_b := World.alloc_heap_new v3 (.cells #[.string (sn (some (Rat.divInt (k : Int) 100))), .string (sd (some (Rat.divInt (k : Int) 100)))] 23)
  replace u := u.trans (g.mono u.size)
  replace n_x := lkeep n_x g
  replace n_z := lkeep n_z g
  replace n_a := lkeep n_a g
  clear g
  have c_a0 := lcell n_a 0 (v := .string (sn (some (q - p)))) rfl
  have c_a1 := lcell n_a 1 (v := .string (sd (some (q - p)))) rfl
  have c_b0 := lcell n_b 0 (v := .string (sn (some (Rat.divInt (k : Int) 100)))) rfl
  have c_b1 := lcell n_b 1 (v := .string (sd (some (Rat.divInt (k : Int) 100)))) rfl
  have bw := (SmallQ.bq SQ.o).sub (SmallQ.bq SP.o)
  have bh : BQ 101 100 (Rat.divInt (k : Int) 100) := .of_div (by decide) (by omega) (by decide)
  have bd := bw.mul bh
  have br := (SmallQ.bq SP.o).add bd
  have fw := bw.fit (by decide) (by decide)
  have fh := bh.fit (by decide) (by decide)
  have fd := bd.fit (by decide) (by decide)
  have s3 := mulR_O (.some fw) (.some fh)
  rw [show lift2 mulQ (some (q - p)) (some (Rat.divInt (k : Int) 100)) = some ((q - p) * Rat.divInt (k : Int) 100) from mulQ_b bw bh (by decide) (by decide)] at s3
  have s4 := addR_O (.some SP.o.fit) (.some fd)
  rw [show lift2 addQ (some p) (some ((q - p) * Rat.divInt (k : Int) 100)) = some (p + (q - p) * Rat.divInt (k : Int) 100) from addQ_b (SmallQ.bq SP.o) bd (by decide) (by decide)] at s4
  have hin := part_in SH.o k (by omega)
  replace br := br.mono (n' := 1000000000000) (d' := 100000000) (by decide) (by decide)
  clear bw bh bd fw fh fd SP SQ SH CP hk
  unfold vO at s3 s4
  generalize p + (q - p) * Rat.divInt (k : Int) 100 = r at *
  generalize (q - p) * Rat.divInt (k : Int) 100 = dd at *
  go_wp2_with fail
  generalize v3.alloc (.cells #[.string (sn (some (Rat.divInt (k : Int) 100))), .string (sd (some (Rat.divInt (k : Int) 100)))] 23) = V_b at *
  generalize v3.heap.size = b_b at *
  refine (s3 _).mono ?_
  rintro e v4 ⟨rfl, g⟩
  replace u := u.trans (g.mono u.size)
  replace n_x := lkeep n_x g
  replace n_z := lkeep n_z g
  replace n_a := lkeep n_a g
  replace n_b := lkeep n_b g
  clear c_a0 c_a1 c_b0 c_b1
  clear g
  unfold resO
  clear s3 n_a n_b
  have g := (Below.refl v4.heap.size v4).alloc (Nat.le_refl _) (.cells #[.string (sn (some dd)), .string (sd (some dd))] 23)
  have n_d := World.alloc_heap_new v4 (.cells #[.string (sn (some dd)), .string (sd (some dd))] 23)
  replace u := u.trans (g.mono u.size)
  replace n_x := lkeep n_x g
  replace n_z := lkeep n_z g
  clear g
  have c_x0 := lcell n_x 0 (v := .string (txt p.num)) rfl
  have c_x1 := lcell n_x 1 (v := .string (txt (p.den : Int))) rfl
  have c_x2 := lcell n_x 2 (v := .string (txt q.num)) rfl
  have c_x3 := lcell n_x 3 (v := .string (txt (q.den : Int))) rfl
  have c_d0 := lcell n_d 0 (v := .string (sn (some dd))) rfl
  have c_d1 := lcell n_d 1 (v := .string (sd (some dd))) rfl
  go_wp2_with fail
  generalize v4.alloc (.cells #[.string (sn (some dd)), .string (sd (some dd))] 23) = V_d at *
  generalize v4.heap.size = b_d at *
  refine (s4 _).mono ?_
  rintro e v5 ⟨rfl, g⟩
  replace u := u.trans (g.mono u.size)
  replace n_x := lkeep n_x g
  replace n_z := lkeep n_z g
  replace n_d := lkeep n_d g
  clear c_x0 c_x1 c_x2 c_x3 c_d0 c_d1
  clear g
  unfold resO
  clear s4 n_x n_d
  have g := (Below.refl v5.heap.size v5).alloc (Nat.le_refl _) (.cells #[.string (sn (some r)), .string (sd (some r))] 23)
  have n_r := World.alloc_heap_new v5 (.cells #[.string (sn (some r)), .string (sd (some r))] 23)
  replace u := u.trans (g.mono u.size)
  replace n_z := lkeep n_z g
  clear g
  have c_z0 := lcell n_z 0 (v := .string ⟨#[]⟩) rfl
  have c_z1 := lcell n_z 1 (v := .string ⟨#[]⟩) rfl
  have c_r0 := lcell n_r 0 (v := .string (sn (some r))) rfl
  have c_r1 := lcell n_r 1 (v := .string (sd (some r))) rfl
  have f0 := lfree n_z 0
  have f1 := lfree n_z 1
  have s_z := box2_setx (x := .string (sn (some r))) (y := .string (sd (some r))) n_z
  have z0 := lcell s_z 0 (v := .string (sn (some r))) rfl
  have z1 := lcell s_z 1 (v := .string (sd (some r))) rfl
  have hb : ∀ i, w.heap.size ≤ (⟨w.heap.size + 1, i, none⟩ : Addr).block := fun _ => Nat.le_succ _
  go_wp2_with fail
  exact bodyPost_ret (v := .agg #[.string (sn (some r)), .string (sd (some r))]) (by simp [results, Tryz.results33, go_sem, z0, z1]) rfl ⟨r, br, hin.1, hin.2, rfl, (u.setCell (hb 0) _).setCell (hb 1) _⟩
end En
end Go.Proofs.YtbfonkabmehlmaaGreatDoor
namespace Go.Proofs.YtbfonkabmehlmaaGreatDoor
set_option maxRecDepth 1000000
namespace En
open Go.RowKit Go.Extern.Stop Go.Stop Go.Extern
open Go.Proofs.YtbfonkabmehlmaaGreatDoor.Nm Go.Proofs.YtbfonkabmehlmaaGreatDoor.Rt
theorem zero_contains {r : Rat} (hr : FitQ r) : Ret 24 #[ivl0, .agg #[.string (txt r.num), .string (txt (r.den : Int))]] (.bool false) := by
  have hne : ((⟨#[]⟩ : ByteArray).toList == (txt r.num).toList) = false := by
    rw [str_eq]
    refine decide_eq_false (fun h => ?_)
    have h2 := valid_txt r.num hr.1
    rw [← h] at h2
    exact absurd h2 (by decide +kernel)
  have hC : Ret 32 #[frc ⟨#[]⟩ ⟨#[]⟩, frc (txt r.num) (txt (r.den : Int))] (.int .i64 0) := fun W => Compare_no _ _ _ _ _ _ W (by rw [qOf_nil]; rfl) (fun W => Valid_all _ _ (Nat.zero_le _) (Nat.zero_le _) W) (fun W => Valid_all _ _ hr.size.1 hr.size.2 W)
  exact Contains_any _ _ _ _ _ _ _ _ _ _ _ (Point_any _ _ true (rValid_q hr)) (Within_any _ _ _ _ _ _ _ _ true false false (by have := iValid_q hr hr; rw [decide_eq_true Rat.le_refl] at this; exact this) (fun _ => atMost_other _ _ _ _ _ hC (.inl hne)) (fun _ h => by cases h))
theorem max_le {p q r : Rat} : maxQ p q ≤ r ↔ p ≤ r ∧ q ≤ r := by
  rw [maxQ]; split
  · rename_i h; exact ⟨fun h2 => ⟨Rat.le_trans h h2, h2⟩, fun h2 => h2.2⟩
  · rename_i h; have h := Rat.le_of_lt (Rat.not_le.1 h); exact ⟨fun h2 => ⟨h2, Rat.le_trans h h2⟩, fun h2 => h2.1⟩
theorem le_min {p q r : Rat} : r ≤ minQ p q ↔ r ≤ p ∧ r ≤ q := by
  rw [minQ]; split
  · rename_i h; exact ⟨fun h2 => ⟨Rat.le_trans h2 h, h2⟩, fun h2 => h2.2⟩
  · rename_i h; have h := Rat.le_of_lt (Rat.not_le.1 h); exact ⟨fun h2 => ⟨h2, Rat.le_trans h2 h⟩, fun h2 => h2.1⟩
theorem min_in (p q : Rat) : minQ p q = p ∨ minQ p q = q := by rw [minQ]; split <;> simp
theorem max_in (p q : Rat) : maxQ p q = p ∨ maxQ p q = q := by rw [maxQ]; split <;> simp
/-- the meet, its code, and whether it contains r -/
theorem meet_facts (a : Addr) {p1 q1 p2 q2 r : Rat} (h1 : FitQ p1) (h2 : FitQ q1) (h3 : FitQ p2) (h4 : FitQ q2) (hr : FitQ r) (o1 : p1 ≤ q1) (o2 : p2 ≤ q2) :
    ∃ (m0 m1 m2 m3 : ByteArray) (c : Int), LC a 36 #[iq p1 q1, iq p2 q2] (.tuple #[.agg #[.string m0, .string m1, .string m2, .string m3], .int .i64 c]) ∧ ((c = 0) ↔ (p1 ≤ q2 ∧ p2 ≤ q1)) ∧ Ret 24 #[.agg #[.string m0, .string m1, .string m2, .string m3], .agg #[.string (txt r.num), .string (txt (r.den : Int))]] (.bool (decide (p1 ≤ r ∧ r ≤ q1) && decide (p2 ≤ r ∧ r ≤ q2))) := by
  have hM := Meet_I a h1 h2 h3 h4 o1 o2
  have hiff : maxQ p1 p2 ≤ minQ q1 q2 ↔ (p1 ≤ q2 ∧ p2 ≤ q1) := by
    rw [max_le, le_min, le_min]
    exact ⟨fun h => ⟨h.1.2, h.2.1⟩, fun h => ⟨⟨o1, h.1⟩, ⟨h.2, o2⟩⟩⟩
  by_cases hc : maxQ p1 p2 ≤ minQ q1 q2
  · rw [if_pos hc] at hM
    refine ⟨_, _, _, _, 0, hM, ⟨fun _ => hiff.1 hc, fun _ => rfl⟩, ?_⟩
    have hC := Contains_q (FitQ.maxQ h1 h3) (FitQ.minQ h2 h4) hr
    rw [show decide (maxQ p1 p2 ≤ r ∧ r ≤ minQ q1 q2) = (decide (p1 ≤ r ∧ r ≤ q1) && decide (p2 ≤ r ∧ r ≤ q2)) by
      rw [← Bool.decide_and, decide_eq_decide, max_le, le_min]
      exact ⟨fun h => ⟨⟨h.1.1, h.2.1⟩, ⟨h.1.2, h.2.2⟩⟩, fun h => ⟨⟨h.1.1, h.2.1⟩, ⟨h.1.2, h.2.2⟩⟩⟩] at hC
    exact hC
  · rw [if_neg hc] at hM
    refine ⟨_, _, _, _, 50, hM, ⟨fun h => absurd h (by decide), fun h => absurd (hiff.2 h) hc⟩, ?_⟩
    have hC := zero_contains hr
    rw [show (decide (p1 ≤ r ∧ r ≤ q1) && decide (p2 ≤ r ∧ r ≤ q2)) = false by
      rw [← Bool.decide_and]
      exact decide_eq_false (fun h => hc (hiff.2 ⟨Rat.le_trans h.1.1 h.2.2, Rat.le_trans h.2.1 h.1.2⟩))]
    exact hC
/-- an end of the hull is one of the ends -/
theorem hull_end {m p q : Rat} (h : m = p ∨ m = q) : (txt m.num = txt p.num ∧ txt (m.den : Int) = txt (p.den : Int)) ∨ (txt m.num = txt q.num ∧ txt (m.den : Int) = txt (q.den : Int) ∧ (((txt m.num).toList == (txt p.num).toList) = false ∨ (((txt m.num).toList == (txt p.num).toList) = true ∧ ((txt (m.den : Int)).toList == (txt (p.den : Int)).toList) = false))) := by
  by_cases e : m = p
  · subst e; exact .inl ⟨rfl, rfl⟩
  · rcases h with h | h
    · exact absurd h e
    · subst h; exact .inr ⟨rfl, rfl, pq_ne e⟩
end En
end Go.Proofs.YtbfonkabmehlmaaGreatDoor
namespace Go.Proofs.YtbfonkabmehlmaaGreatDoor
set_option maxRecDepth 1000000
namespace En
open Go.RowKit Go.Extern.Stop Go.Stop Go.Extern
open Go.Proofs.YtbfonkabmehlmaaGreatDoor.Nm Go.Proofs.YtbfonkabmehlmaaGreatDoor.Rt
/-- the number whose root is taken, times the denominator -/
def xN (r : Rat) (c : Nat) : Int := r.num * 10 ^ c * 10 ^ c
theorem xN_nonneg {r : Rat} (h : 0 ≤ r.num) (c : Nat) : 0 ≤ xN r c := Int.mul_nonneg (Int.mul_nonneg h (Int.le_of_lt (Int.pow_pos (by decide)))) (Int.le_of_lt (Int.pow_pos (by decide)))
theorem mul_lt_of_div {x d k : Int} (hd : 0 < d) (h : x / d < k) : x < k * d := by
  have h1 := Int.mul_ediv_add_emod x d
  have h2 := Int.emod_lt_of_pos x hd
  have h3 := Int.mul_le_mul_of_nonneg_right (show x / d + 1 ≤ k by omega) (Int.le_of_lt hd)
  rw [Int.add_mul, Int.one_mul, Int.mul_comm (x / d)] at h3
  omega
theorem mul_le_of_div {x d k : Int} (hd : 0 < d) (h : k ≤ x / d) : k * d ≤ x := by
  have h1 := Int.mul_ediv_add_emod x d
  have h2 := Int.emod_nonneg x (show d ≠ 0 by omega)
  have h3 := Int.mul_le_mul_of_nonneg_right h (Int.le_of_lt hd)
  rw [Int.mul_comm (x / d)] at h3
  omega
theorem rt_spec {r : Rat} (h : 0 ≤ r.num) (c : Nat) : ((rtN r c : Nat) : Int) * ((rtN r c : Nat) : Int) * (r.den : Int) ≤ xN r c ∧ xN r c < (((rtN r c : Nat) : Int) + 1) * (((rtN r c : Nat) : Int) + 1) * (r.den : Int) := by
  have hD : 0 < (r.den : Int) := by have := r.den_pos; omega
  have h0 : 0 ≤ sqN r c := Int.ediv_nonneg (xN_nonneg h c) (Int.le_of_lt hD)
  obtain ⟨s1, s2⟩ := sqr_spec (sqN r c).natAbs
  have e : ((sqN r c).natAbs : Int) = sqN r c := by omega
  have t1 : ((rtN r c : Nat) : Int) * ((rtN r c : Nat) : Int) ≤ sqN r c := by rw [← e]; exact_mod_cast s1
  have t2 : sqN r c < (((rtN r c : Nat) : Int) + 1) * (((rtN r c : Nat) : Int) + 1) := by conv => lhs; rw [← e]
                                                                                          exact_mod_cast s2
  exact ⟨mul_le_of_div hD t1, mul_lt_of_div hD t2⟩
theorem up_spec {r : Rat} (h : 0 ≤ r.num) (c : Nat) : 0 ≤ upN r c ∧ xN r c ≤ upN r c * upN r c * (r.den : Int) ∧ (upN r c = 0 ∨ (upN r c - 1) * (upN r c - 1) * (r.den : Int) < xN r c) := by
  have hD : 0 < (r.den : Int) := by have := r.den_pos; omega
  obtain ⟨s1, s2⟩ := rt_spec h c
  have n0 : (0 : Int) ≤ ((rtN r c : Nat) : Int) := by omega
  have hx := Int.mul_ediv_add_emod (xN r c) (r.den : Int)
  have hex : exN r c = true ↔ ((rtN r c : Nat) : Int) * ((rtN r c : Nat) : Int) * (r.den : Int) = xN r c := by
    rw [exN, Bool.and_eq_true, decide_eq_true_eq, decide_eq_true_eq]
    constructor
    · rintro ⟨h1, h2⟩
      have h3 : xN r c % (r.den : Int) = 0 := h1
      have h4 : ((rtN r c : Nat) : Int) * ((rtN r c : Nat) : Int) = xN r c / (r.den : Int) := h2
      rw [h4, Int.mul_comm]; omega
    · intro h1
      have h2 : xN r c % (r.den : Int) = 0 := by rw [← h1]; exact Int.mul_emod_left _ _
      refine ⟨h2, ?_⟩
      show _ = xN r c / (r.den : Int)
      rw [← h1, Int.mul_ediv_cancel _ (by omega)]
  rw [upN]
  by_cases hc : exN r c = true
  · rw [if_pos hc]
    have h1 := hex.1 hc
    refine ⟨n0, by omega, ?_⟩
    by_cases hz : ((rtN r c : Nat) : Int) = 0
    · exact .inl hz
    · right
      rw [← h1]
      have h2 : (((rtN r c : Nat) : Int) - 1) * (((rtN r c : Nat) : Int) - 1) < ((rtN r c : Nat) : Int) * ((rtN r c : Nat) : Int) := by
        generalize ((rtN r c : Nat) : Int) = k at *
        rw [Int.sub_mul, Int.mul_sub]
        omega
      exact Int.mul_lt_mul_of_pos_right h2 hD
  · rw [if_neg hc]
    refine ⟨by omega, Int.le_of_lt s2, .inr ?_⟩
    rw [Int.add_sub_cancel]
    exact Int.lt_iff_le_and_ne.2 ⟨s1, fun h2 => hc (hex.2 h2)⟩
theorem xN_mono {p q : Rat} (h : p ≤ q) (c : Nat) : xN p c * q.den ≤ xN q c * p.den := by
  have h1 := (Rat.le_iff p q).1 h
  have hP : 0 ≤ (10 : Int) ^ c := Int.le_of_lt (Int.pow_pos (by decide))
  have h2 := Int.mul_le_mul_of_nonneg_right (Int.mul_le_mul_of_nonneg_right h1 hP) hP
  unfold xN
  rw [show p.num * 10 ^ c * 10 ^ c * (q.den : Int) = p.num * q.den * 10 ^ c * 10 ^ c by ac_rfl, show q.num * 10 ^ c * 10 ^ c * (p.den : Int) = q.num * p.den * 10 ^ c * 10 ^ c by ac_rfl]
  exact h2
theorem sq_lt {a b : Int} (h : a * a < b * b) (hb : 0 ≤ b) : a < b := by
  refine Int.not_le.1 (fun h1 => ?_)
  exact absurd (Int.mul_le_mul h1 h1 hb (Int.le_trans hb h1)) (Int.not_le.2 h)
/-- squares over one denominator below squares over another -/
theorem cross_lt {a b x y d e : Int} (hd : 0 < d) (he : 0 < e) (hb : 0 ≤ b) (h1 : a * a * d ≤ x) (h2 : x * e ≤ y * d) (h3 : y < b * b * e) : a < b := by
  refine sq_lt ?_ hb
  have g1 := Int.mul_le_mul_of_nonneg_right h1 (Int.le_of_lt he)
  have g2 := Int.mul_lt_mul_of_pos_right h3 hd
  have g3 : a * a * d * e < b * b * e * d := Int.lt_of_le_of_lt (Int.le_trans g1 h2) g2
  rw [show a * a * d * e = a * a * (d * e) by ac_rfl, show b * b * e * d = b * b * (d * e) by ac_rfl] at g3
  exact Int.lt_of_mul_lt_mul_right g3 (Int.le_of_lt (Int.mul_pos hd he))
theorem cross_lt2 {a b x y d e : Int} (hd : 0 < d) (he : 0 < e) (hb : 0 ≤ b) (h1 : a * a * d < x) (h2 : x * e ≤ y * d) (h3 : y ≤ b * b * e) : a < b := by
  refine sq_lt ?_ hb
  have g1 := Int.mul_lt_mul_of_pos_right h1 he
  have g2 := Int.mul_le_mul_of_nonneg_right h3 (Int.le_of_lt hd)
  have g3 : a * a * d * e < b * b * e * d := Int.lt_of_lt_of_le g1 (Int.le_trans h2 g2)
  rw [show a * a * d * e = a * a * (d * e) by ac_rfl, show b * b * e * d = b * b * (d * e) by ac_rfl] at g3
  exact Int.lt_of_mul_lt_mul_right g3 (Int.le_of_lt (Int.mul_pos hd he))
theorem den_posI (r : Rat) : 0 < (r.den : Int) := by have := r.den_pos; omega
theorem rt_mono {p q : Rat} (hp : 0 ≤ p.num) (h : p ≤ q) (c : Nat) : ((rtN p c : Nat) : Int) ≤ ((rtN q c : Nat) : Int) := by
  have hq : 0 ≤ q.num := Rat.num_nonneg.2 (Rat.le_trans (Rat.num_nonneg.1 hp) h)
  have := cross_lt (den_posI p) (den_posI q) (b := ((rtN q c : Nat) : Int) + 1) (by omega) (rt_spec hp c).1 (xN_mono h c) (rt_spec hq c).2
  omega
theorem up_mono {p q : Rat} (hp : 0 ≤ p.num) (h : p ≤ q) (c : Nat) : upN p c ≤ upN q c := by
  have hq : 0 ≤ q.num := Rat.num_nonneg.2 (Rat.le_trans (Rat.num_nonneg.1 hp) h)
  obtain ⟨a1, a2, a3⟩ := up_spec hp c
  obtain ⟨b1, b2, b3⟩ := up_spec hq c
  rcases a3 with e | a3
  · omega
  · have := cross_lt2 (den_posI p) (den_posI q) b1 a3 (xN_mono h c) b2
    omega
theorem rt_up {p q : Rat} (hp : 0 ≤ p.num) (h : p ≤ q) (c : Nat) : ((rtN p c : Nat) : Int) ≤ upN q c := by
  have hq : 0 ≤ q.num := Rat.num_nonneg.2 (Rat.le_trans (Rat.num_nonneg.1 hp) h)
  obtain ⟨b1, b2, b3⟩ := up_spec hq c
  have := cross_lt (b := upN q c + 1) (den_posI p) (den_posI q) (by omega) (rt_spec hp c).1 (xN_mono h c) (Int.lt_of_le_of_lt b2 (Int.mul_lt_mul_of_pos_right (by rw [Int.add_mul, Int.mul_add]; omega) (den_posI q)))
  omega
theorem grid_le {k m : Int} (h : k ≤ m) (c : Nat) : Rat.divInt k (10 ^ c) ≤ Rat.divInt m (10 ^ c) :=
  le_of_cmpZ (Int.pow_pos (by decide)) (Int.pow_pos (by decide)) (Int.mul_le_mul_of_nonneg_right h (Int.le_of_lt (Int.pow_pos (by decide))))
def dnI (p : Rat) (c : Nat) : Int := p.num * 10 ^ c / p.den
def hiI (p : Rat) (c : Nat) : Int := upI (p.num * 10 ^ c) p.den
theorem yN_mono {p q : Rat} (h : p ≤ q) (c : Nat) : p.num * 10 ^ c * q.den ≤ q.num * 10 ^ c * p.den := by
  have h1 := (Rat.le_iff p q).1 h
  have hP : 0 ≤ (10 : Int) ^ c := Int.le_of_lt (Int.pow_pos (by decide))
  have h2 := Int.mul_le_mul_of_nonneg_right h1 hP
  rw [show p.num * 10 ^ c * (q.den : Int) = p.num * q.den * 10 ^ c by ac_rfl, show q.num * 10 ^ c * (p.den : Int) = q.num * p.den * 10 ^ c by ac_rfl]
  exact h2
theorem dn_le (p : Rat) (c : Nat) : dnI p c * p.den ≤ p.num * 10 ^ c ∧ p.num * 10 ^ c < (dnI p c + 1) * p.den := ⟨mul_le_of_div (den_posI p) (Int.le_refl _), mul_lt_of_div (den_posI p) (by rw [dnI]; omega)⟩
theorem hi_ge (p : Rat) (c : Nat) : p.num * 10 ^ c ≤ hiI p c * p.den ∧ (hiI p c - 1) * p.den < p.num * 10 ^ c := by
  have h := dn_le (-p) c
  have e : hiI p c = - dnI (-p) c := by
    rw [hiI, upI_neg _ _ (den_posI p), dnI, Rat.neg_den, Rat.neg_num, Int.neg_mul]
  rw [Rat.neg_den, Rat.neg_num, Int.neg_mul] at h
  rw [e, Int.neg_mul, Int.sub_mul, Int.one_mul, Int.neg_mul]
  obtain ⟨h1, h2⟩ := h
  rw [Int.add_mul, Int.one_mul] at h2
  generalize dnI (-p) c * (p.den : Int) = u at *
  omega
theorem lin_lt {a b x y d e : Int} (hd : 0 < d) (he : 0 < e) (h1 : a * d ≤ x) (h2 : x * e ≤ y * d) (h3 : y < b * e) : a < b := by
  have g1 := Int.mul_le_mul_of_nonneg_right h1 (Int.le_of_lt he)
  have g2 := Int.mul_lt_mul_of_pos_right h3 hd
  have g3 : a * d * e < b * e * d := Int.lt_of_le_of_lt (Int.le_trans g1 h2) g2
  rw [show a * d * e = a * (d * e) by ac_rfl, show b * e * d = b * (d * e) by ac_rfl] at g3
  exact Int.lt_of_mul_lt_mul_right g3 (Int.le_of_lt (Int.mul_pos hd he))
theorem lin_lt2 {a b x y d e : Int} (hd : 0 < d) (he : 0 < e) (h1 : a * d < x) (h2 : x * e ≤ y * d) (h3 : y ≤ b * e) : a < b := by
  have g1 := Int.mul_lt_mul_of_pos_right h1 he
  have g2 := Int.mul_le_mul_of_nonneg_right h3 (Int.le_of_lt hd)
  have g3 : a * d * e < b * e * d := Int.lt_of_lt_of_le g1 (Int.le_trans h2 g2)
  rw [show a * d * e = a * (d * e) by ac_rfl, show b * e * d = b * (d * e) by ac_rfl] at g3
  exact Int.lt_of_mul_lt_mul_right g3 (Int.le_of_lt (Int.mul_pos hd he))
theorem dn_mono {p q : Rat} (h : p ≤ q) (c : Nat) : dnI p c ≤ dnI q c := by
  have := lin_lt (den_posI p) (den_posI q) (dn_le p c).1 (yN_mono h c) (dn_le q c).2
  omega
theorem hi_mono {p q : Rat} (h : p ≤ q) (c : Nat) : hiI p c ≤ hiI q c := by
  have := lin_lt2 (den_posI p) (den_posI q) (hi_ge p c).2 (yN_mono h c) (hi_ge q c).1
  omega
theorem dn_hi {p q : Rat} (h : p ≤ q) (c : Nat) : dnI p c ≤ hiI q c := by
  have h2 := (hi_ge q c).1
  have := lin_lt (b := hiI q c + 1) (den_posI p) (den_posI q) (dn_le p c).1 (yN_mono h c) (by rw [Int.add_mul, Int.one_mul]; have := den_posI q; omega)
  omega
def BB (q : Rat) : Prop := BQ 100000 3600 q
theorem SmallQ.bb {q : Rat} (h : SmallQ q) : BB q := (SmallQ.bq h).mono (by decide) (by decide)
theorem BB.fit {q : Rat} (h : BB q) : FitQ q := BQ.fit h (by decide) (by decide)
theorem bb_fits {p : Rat} (s : BB p) {c : Nat} (hc : c ≤ 12) : Fits (p.num * 10 ^ c) ∧ Fits (p.num * 10 ^ c * 10 ^ c) ∧ Fits (upI (p.num * 10 ^ c) p.den) := by
  have h1 := abs_mul_le s.num (pow_le12 hc)
  have h2 := abs_mul_le h1 (pow_le12 hc)
  exact ⟨fits_lt10 h1 (by decide), fits_lt10 h2 (by decide), fits_lt10 (Nat.le_trans (upI_natAbs _ _ (den_posI p)) h1) (by decide)⟩
/-- what the eight operations answer -/
structure Spec8 (p1 q1 p2 q2 : Rat) (c : Nat) (M : Nat → P4) (E : Nat → Int) : Prop where
  a0 : E 0 = 0 ∧ M 0 = (pq (p1 + p2), pq (q1 + q2))
  a1 : E 1 = 0 ∧ M 1 = (pq (p1 - q2), pq (q1 - p2))
  a2 : ∃ x y x' y', (x = p1 ∨ x = q1) ∧ (y = p2 ∨ y = q2) ∧ (x' = p1 ∨ x' = q1) ∧ (y' = p2 ∨ y' = q2) ∧ (∀ u v, (u = p1 ∨ u = q1) → (v = p2 ∨ v = q2) → x * y ≤ u * v ∧ u * v ≤ x' * y') ∧ E 2 = 0 ∧ M 2 = (pq (x * y), pq (x' * y'))
  a3 : ((p2 ≤ 0 ∧ 0 ≤ q2) ∧ E 3 = 50) ∨ (¬ (p2 ≤ 0 ∧ 0 ≤ q2) ∧ ∃ x y x' y', (x = p1 ∨ x = q1) ∧ (y = p2 ∨ y = q2) ∧ (x' = p1 ∨ x' = q1) ∧ (y' = p2 ∨ y' = q2) ∧ (∀ u v, (u = p1 ∨ u = q1) → (v = p2 ∨ v = q2) → x / y ≤ u / v ∧ u / v ≤ x' / y') ∧ E 3 = 0 ∧ M 3 = (pq (x / y), pq (x' / y')))
  a4 : E 4 = 0 ∧ M 4 = (pq (minQ p1 p2), pq (maxQ q1 q2))
  a5 : (maxQ p1 p2 ≤ minQ q1 q2 ∧ E 5 = 0 ∧ M 5 = (pq (maxQ p1 p2), pq (minQ q1 q2))) ∨ (¬ maxQ p1 p2 ≤ minQ q1 q2 ∧ E 5 = 50)
  a6 : (p1.num < 0 ∧ E 6 = 50) ∨ (0 ≤ p1.num ∧ E 6 = 0 ∧ M 6 = (pq (Rat.divInt ((rtN p1 c : Nat) : Int) (10 ^ c)), pq (Rat.divInt (upN q1 c) (10 ^ c))))
  a7 : E 7 = 0 ∧ M 7 = (pq (Rat.divInt (dnI p1 c) (10 ^ c)), pq (Rat.divInt (hiI q1 c) (10 ^ c)))
theorem calls_b (a : Addr) {p1 q1 p2 q2 : Rat} (s1 : BB p1) (t1 : BB q1) (s2 : BB p2) (t2 : BB q2) (o1 : p1 ≤ q1) (o2 : p2 ≤ q2) {c : Nat} (hc : c ≤ 12) : ∃ (M : Nat → P4) (E : Nat → Int),
    (∀ W : World, Ref a W → Calls Tryz.prog 16 #[iq p1 q1, iq p2 q2, .int .i64 (c : Int)] W fun e w' => ∃ vl ve, e = .returned (.tuple #[vl, ve]) ∧ OwnG 25 4 w' W.heap.size vl 8 (ivs M) ∧ OwnG 30 1 w' W.heap.size ve 8 (ers E) ∧ Below W.heap.size W w') ∧ Spec8 p1 q1 p2 q2 c M E := by
  have hu : ∀ u, (u = p1 ∨ u = q1) → BB u := fun u h => h.elim (fun e => e ▸ s1) (fun e => e ▸ t1)
  have hv : ∀ v, (v = p2 ∨ v = q2) → BB v := fun u h => h.elim (fun e => e ▸ s2) (fun e => e ▸ t2)
  have cA := Add_I a s1.fit t1.fit s2.fit t2.fit o1 o2
  rw [addQ_b s1 s2 (by decide) (by decide), addQ_b t1 t2 (by decide) (by decide)] at cA
  have cS := Sub_I a s1.fit t1.fit s2.fit t2.fit o1 o2
  rw [subQ_b s1 t2 (by decide) (by decide), subQ_b t1 s2 (by decide) (by decide)] at cS
  obtain ⟨x, y, x', y', hx, hy, hx', hy', hall, cM⟩ := Mul_I a s1.fit t1.fit s2.fit t2.fit o1 o2 (fun u v h1 h2 => mulQ_b (hu u h1) (hv v h2) (by decide) (by decide))
  have cH := Hull_I a s1.fit t1.fit s2.fit t2.fit o1 o2
  have c7 := (Round_I a s1.fit t1.fit o1 (c := c) (by omega) (by rw [downQ, if_pos (bb_fits s1 hc).1]) (by rw [upQ, if_pos ⟨(bb_fits t1 hc).1, (bb_fits t1 hc).2.2⟩])).some
  have f1 := bb_fits s1 hc
  have f2 := bb_fits t1 hc
  obtain ⟨m5, e5, c5, z5⟩ : ∃ m e, LCm a 36 #[iq p1 q1, iq p2 q2] m e ∧ ((maxQ p1 p2 ≤ minQ q1 q2 ∧ e = 0 ∧ m = (pq (maxQ p1 p2), pq (minQ q1 q2))) ∨ (¬ maxQ p1 p2 ≤ minQ q1 q2 ∧ e = 50)) := by
    have h := Meet_I a s1.fit t1.fit s2.fit t2.fit o1 o2
    by_cases hc : maxQ p1 p2 ≤ minQ q1 q2
    · rw [if_pos hc] at h; exact ⟨_, _, h.some, .inl ⟨hc, rfl, rfl⟩⟩
    · rw [if_neg hc] at h; exact ⟨_, _, h.none, .inr ⟨hc, rfl⟩⟩
  obtain ⟨m6, e6, c6, z6⟩ : ∃ m e, LCm a 34 #[iq p1 q1, .int .i64 (c : Int)] m e ∧ ((p1.num < 0 ∧ e = 50) ∨ (0 ≤ p1.num ∧ e = 0 ∧ m = (pq (Rat.divInt ((rtN p1 c : Nat) : Int) (10 ^ c)), pq (Rat.divInt (upN q1 c) (10 ^ c))))) := by
    by_cases hp : p1.num < 0
    · exact ⟨_, _, (Sqrt_neg a s1.fit t1.fit o1 hp (c := c) (by omega) f1.1 f1.2.1 f2.1 f2.2.1).none, .inl ⟨hp, rfl⟩⟩
    · have hq : 0 ≤ q1.num := Rat.num_nonneg.2 (Rat.le_trans (Rat.num_nonneg.1 (by omega)) o1)
      exact ⟨_, _, (Sqrt_I a s1.fit t1.fit o1 (by omega) hq (c := c) (by omega) f1.1 f1.2.1 f2.1 f2.2.1).some, .inr ⟨by omega, rfl, rfl⟩⟩
  have go := fun (m3 : P4) (e3 : Int) (c3 : LCm a 40 #[iq p1 q1, iq p2 q2] m3 e3) (W : World) (hW : Ref a W) => calls_any a _ _ _ _ _ _ _ _ (c : Int) (sel8 (pq (p1 + p2), pq (q1 + q2)) (pq (p1 - q2), pq (q1 - p2)) (pq (x * y), pq (x' * y')) m3 (pq (minQ p1 p2), pq (maxQ q1 q2)) m5 m6 (pq (Rat.divInt (dnI p1 c) (10 ^ c)), pq (Rat.divInt (hiI q1 c) (10 ^ c)))) (sel8 0 0 0 e3 0 e5 e6 0) cA.some cS.some cM.some c3 cH.some c5 c6 c7 W hW
  by_cases h0 : p2 ≤ 0 ∧ 0 ≤ q2
  · exact ⟨_, _, go _ _ (Div_none a s1.fit t1.fit s2.fit t2.fit o1 o2 h0).none, ⟨rfl, rfl⟩, ⟨rfl, rfl⟩, ⟨x, y, x', y', hx, hy, hx', hy', hall, rfl, rfl⟩, .inl ⟨h0, rfl⟩, ⟨rfl, rfl⟩, z5, z6, ⟨rfl, rfl⟩⟩
  · have nz : ∀ v, (v = p2 ∨ v = q2) → v ≠ 0 := fun v h e => by
      subst e
      rcases h with h | h
      · exact h0 ⟨by rw [← h]; exact Rat.le_refl, by rw [h]; exact o2⟩
      · exact h0 ⟨by rw [h]; exact o2, by rw [← h]; exact Rat.le_refl⟩
    obtain ⟨u, v, u', v', iu, iv, iu', iv', hall2, cD⟩ := Div_I a s1.fit t1.fit s2.fit t2.fit o1 o2 h0 (fun u v h1 h2 => divQ_b (hu u h1) (hv v h2) (nz v h2) (by decide) (by decide))
    exact ⟨_, _, go _ _ cD.some, ⟨rfl, rfl⟩, ⟨rfl, rfl⟩, ⟨x, y, x', y', hx, hy, hx', hy', hall, rfl, rfl⟩, .inr ⟨h0, u, v, u', v', iu, iv, iu', iv', hall2, rfl, rfl⟩, ⟨rfl, rfl⟩, z5, z6, ⟨rfl, rfl⟩⟩
end En
end Go.Proofs.YtbfonkabmehlmaaGreatDoor
namespace Go.Proofs.YtbfonkabmehlmaaGreatDoor
set_option maxRecDepth 1000000
namespace En
open Go.RowKit Go.Extern.Stop Go.Stop Go.Extern
open Go.Proofs.YtbfonkabmehlmaaGreatDoor.Nm Go.Proofs.YtbfonkabmehlmaaGreatDoor.Rt
def WithinM (m n : P4) : Prop := Ret 26 #[.agg #[.string m.1.1, .string m.1.2, .string m.2.1, .string m.2.2], .agg #[.string n.1.1, .string n.1.2, .string n.2.1, .string n.2.2]] (.bool true)
theorem withinM {p q r s : Rat} (hp : FitQ p) (hq : FitQ q) (hr : FitQ r) (hs : FitQ s) (h : p ≤ q) (h1 : r ≤ p) (h2 : q ≤ s) {m n : P4} (e1 : m = (pq p, pq q)) (e2 : n = (pq r, pq s)) : WithinM m n := by
  subst e1 e2
  have := Within_q hp hq hr hs
  rw [decide_eq_true ⟨h, h1, h2⟩] at this
  exact this
theorem BB.corner {p q u : Rat} (h1 : BB p) (h2 : BB q) (h : u = p ∨ u = q) : BB u := h.elim (fun e => e ▸ h1) (fun e => e ▸ h2)
theorem corner_in {p q u r s : Rat} (o : p ≤ q) (h : u = p ∨ u = q) (h1 : r ≤ p) (h2 : q ≤ s) : r ≤ u ∧ u ≤ s := by
  rcases h with rfl | rfl
  · exact ⟨h1, Rat.le_trans o h2⟩
  · exact ⟨Rat.le_trans h1 o, h2⟩
theorem nz_corner {p q v : Rat} (h0 : ¬ (p ≤ 0 ∧ 0 ≤ q)) (o : p ≤ q) (h : v = p ∨ v = q) : v ≠ 0 := fun e => by
  subst e
  rcases h with h | h
  · exact h0 ⟨by rw [← h]; exact Rat.le_refl, by rw [h]; exact o⟩
  · exact h0 ⟨by rw [h]; exact o, by rw [← h]; exact Rat.le_refl⟩
theorem grid_fit {k : Int} {c : Nat} (hc : c ≤ 12) (h : Fits k) : FitQ (Rat.divInt k (10 ^ c)) := FitQ.div h (pow_fits c (by omega)) (by have := (pow_big c (by omega)).2; omega)
theorem num_of {p : Rat} (h : 0 ≤ p) : 0 ≤ p.num := Rat.num_nonneg.2 h
theorem narrower {p1 q1 p2 q2 P1 Q1 P2 Q2 : Rat} (s1 : BB p1) (t1 : BB q1) (s2 : BB p2) (t2 : BB q2) (S1 : BB P1) (T1 : BB Q1) (S2 : BB P2) (T2 : BB Q2) (o1 : p1 ≤ q1) (o2 : p2 ≤ q2) (l1 : P1 ≤ p1) (g1 : q1 ≤ Q1) (l2 : P2 ≤ p2) (g2 : q2 ≤ Q2) {c : Nat} (hc : c ≤ 12) {M N : Nat → P4} {E F : Nat → Int} (hM : Spec8 p1 q1 p2 q2 c M E) (hN : Spec8 P1 Q1 P2 Q2 c N F) :
    ∀ i, i < 8 → F i = 0 → (E i = 0 ∧ WithinM (M i) (N i)) ∨ (E i ≠ 0 ∧ i = 5) := by
  have O1 : P1 ≤ Q1 := Rat.le_trans l1 (Rat.le_trans o1 g1)
  have O2 : P2 ≤ Q2 := Rat.le_trans l2 (Rat.le_trans o2 g2)
  have F0 : ∀ {p q : Rat}, BB p → BB q → FitQ (p + q) := fun h1 h2 => (BQ.add h1 h2).fit (by decide) (by decide)
  have F1 : ∀ {p q : Rat}, BB p → BB q → FitQ (p - q) := fun h1 h2 => (BQ.sub h1 h2).fit (by decide) (by decide)
  have F2 : ∀ {p q : Rat}, BB p → BB q → FitQ (p * q) := fun h1 h2 => (BQ.mul h1 h2).fit (by decide) (by decide)
  have F3 : ∀ {p q : Rat}, BB p → BB q → q ≠ 0 → FitQ (p / q) := fun h1 h2 h0 => FitQ.divQ (divQ_b h1 h2 h0 (by decide) (by decide))
  intro i hi hF
  match i, hi with
  | 0, _ =>
    exact .inl ⟨hM.a0.1, withinM (F0 s1 s2) (F0 t1 t2) (F0 S1 S2) (F0 T1 T2) (Rat.le_trans (Rat.add_le_add_right.2 o1) (Rat.add_le_add_left.2 o2)) (Rat.le_trans (Rat.add_le_add_right.2 l1) (Rat.add_le_add_left.2 l2)) (Rat.le_trans (Rat.add_le_add_right.2 g1) (Rat.add_le_add_left.2 g2)) hM.a0.2 hN.a0.2⟩
  | 1, _ =>
    refine .inl ⟨hM.a1.1, withinM (F1 s1 t2) (F1 t1 s2) (F1 S1 T2) (F1 T1 S2) ?_ ?_ ?_ hM.a1.2 hN.a1.2⟩
    · rw [Rat.sub_eq_add_neg, Rat.sub_eq_add_neg]; exact Rat.le_trans (Rat.add_le_add_right.2 o1) (Rat.add_le_add_left.2 (Rat.neg_le_neg o2))
    · rw [Rat.sub_eq_add_neg, Rat.sub_eq_add_neg]; exact Rat.le_trans (Rat.add_le_add_right.2 l1) (Rat.add_le_add_left.2 (Rat.neg_le_neg g2))
    · rw [Rat.sub_eq_add_neg, Rat.sub_eq_add_neg]; exact Rat.le_trans (Rat.add_le_add_right.2 g1) (Rat.add_le_add_left.2 (Rat.neg_le_neg l2))
  | 2, _ =>
    obtain ⟨x, y, x', y', hx, hy, hx', hy', hall, e, k⟩ := hM.a2
    obtain ⟨X, Y, X', Y', hX, hY, hX', hY', hAll, E2, K⟩ := hN.a2
    have b1 := corner_in o1 hx l1 g1
    have b2 := corner_in o2 hy l2 g2
    have b3 := corner_in o1 hx' l1 g1
    have b4 := corner_in o2 hy' l2 g2
    exact .inl ⟨e, withinM (F2 (s1.corner t1 hx) (s2.corner t2 hy)) (F2 (s1.corner t1 hx') (s2.corner t2 hy')) (F2 (S1.corner T1 hX) (S2.corner T2 hY)) (F2 (S1.corner T1 hX') (S2.corner T2 hY')) (hall x' y' hx' hy').1 (mul_between b1.1 b1.2 b2.1 b2.2 hAll).1 (mul_between b3.1 b3.2 b4.1 b4.2 hAll).2 k K⟩
  | 3, _ =>
    rcases hN.a3 with ⟨_, h⟩ | ⟨H0, X, Y, X', Y', hX, hY, hX', hY', hAll, E2, K⟩
    · rw [h] at hF; exact absurd hF (by decide)
    rcases hM.a3 with ⟨h, _⟩ | ⟨h0, x, y, x', y', hx, hy, hx', hy', hall, e, k⟩
    · exact absurd ⟨Rat.le_trans l2 h.1, Rat.le_trans h.2 g2⟩ H0
    have b1 := corner_in o1 hx l1 g1
    have b2 := corner_in o2 hy l2 g2
    have b3 := corner_in o1 hx' l1 g1
    have b4 := corner_in o2 hy' l2 g2
    exact .inl ⟨e, withinM (F3 (s1.corner t1 hx) (s2.corner t2 hy) (nz_corner h0 o2 hy)) (F3 (s1.corner t1 hx') (s2.corner t2 hy') (nz_corner h0 o2 hy')) (F3 (S1.corner T1 hX) (S2.corner T2 hY) (nz_corner H0 O2 hY)) (F3 (S1.corner T1 hX') (S2.corner T2 hY') (nz_corner H0 O2 hY')) (hall x' y' hx' hy').1 (div_between b1.1 b1.2 b2.1 b2.2 H0 hAll).1 (div_between b3.1 b3.2 b4.1 b4.2 H0 hAll).2 k K⟩
  | 4, _ =>
    have m1 := (le_min (p := p1) (q := p2) (r := minQ p1 p2)).1 Rat.le_refl
    have m2 := (max_le (p := q1) (q := q2) (r := maxQ q1 q2)).1 Rat.le_refl
    have m3 := (le_min (p := P1) (q := P2) (r := minQ P1 P2)).1 Rat.le_refl
    have m4 := (max_le (p := Q1) (q := Q2) (r := maxQ Q1 Q2)).1 Rat.le_refl
    exact .inl ⟨hM.a4.1, withinM (FitQ.minQ s1.fit s2.fit) (FitQ.maxQ t1.fit t2.fit) (FitQ.minQ S1.fit S2.fit) (FitQ.maxQ T1.fit T2.fit) (Rat.le_trans m1.1 (Rat.le_trans o1 m2.1)) (le_min.2 ⟨Rat.le_trans m3.1 l1, Rat.le_trans m3.2 l2⟩) (max_le.2 ⟨Rat.le_trans g1 m4.1, Rat.le_trans g2 m4.2⟩) hM.a4.2 hN.a4.2⟩
  | 5, _ =>
    rcases hN.a5 with ⟨H, E5, K⟩ | ⟨_, h⟩
    · rcases hM.a5 with ⟨h, e5, k⟩ | ⟨_, h⟩
      · have m1 := (max_le (p := p1) (q := p2) (r := maxQ p1 p2)).1 Rat.le_refl
        have m2 := (le_min (p := q1) (q := q2) (r := minQ q1 q2)).1 Rat.le_refl
        exact .inl ⟨e5, withinM (FitQ.maxQ s1.fit s2.fit) (FitQ.minQ t1.fit t2.fit) (FitQ.maxQ S1.fit S2.fit) (FitQ.minQ T1.fit T2.fit) h (max_le.2 ⟨Rat.le_trans l1 m1.1, Rat.le_trans l2 m1.2⟩) (le_min.2 ⟨Rat.le_trans m2.1 g1, Rat.le_trans m2.2 g2⟩) k K⟩
      · exact .inr ⟨by rw [h]; decide, rfl⟩
    · rw [h] at hF; exact absurd hF (by decide)
  | 6, _ =>
    rcases hN.a6 with ⟨_, h⟩ | ⟨H, E6, K⟩
    · rw [h] at hF; exact absurd hF (by decide)
    have hp : 0 ≤ p1.num := num_of (Rat.le_trans (Rat.num_nonneg.1 H) l1)
    have hq : 0 ≤ q1.num := num_of (Rat.le_trans (Rat.num_nonneg.1 hp) o1)
    have hQ : 0 ≤ Q1.num := num_of (Rat.le_trans (Rat.num_nonneg.1 hq) g1)
    rcases hM.a6 with ⟨h, _⟩ | ⟨h, e6, k⟩
    · omega
    have r1 := (rtN_fit hp (bb_fits s1 hc).2.1).1
    have r2 := (rtN_fit H (bb_fits S1 hc).2.1).1
    have u0 : ∀ {q : Rat}, BB q → 0 ≤ q.num → Fits (upN q c) := fun h1 h2 => by
      rw [upN]; split
      · exact (rtN_fit h2 (bb_fits h1 hc).2.1).1
      · exact upN_fit h2 (bb_fits h1 hc).2.1
    exact .inl ⟨e6, withinM (grid_fit hc r1) (grid_fit hc (u0 t1 hq)) (grid_fit hc r2) (grid_fit hc (u0 T1 hQ)) (grid_le (rt_up hp o1 c) c) (grid_le (rt_mono H l1 c) c) (grid_le (up_mono hq g1 c) c) k K⟩
  | 7, _ =>
    have d0 : ∀ {q : Rat}, BB q → Fits (dnI q c) := fun {q} h1 => fits_lt10 (Nat.le_trans (Int.natAbs_ediv_le_natAbs _ _) (abs_mul_le h1.num (pow_le12 hc))) (by decide)
    have u0 : ∀ {q : Rat}, BB q → Fits (hiI q c) := fun h1 => (bb_fits h1 hc).2.2
    exact .inl ⟨hM.a7.1, withinM (grid_fit hc (d0 s1)) (grid_fit hc (u0 t1)) (grid_fit hc (d0 S1)) (grid_fit hc (u0 T1)) (grid_le (dn_hi o1 c) c) (grid_le (dn_mono l1 c) c) (grid_le (hi_mono g1 c) c) hM.a7.2 hN.a7.2⟩
end En
end Go.Proofs.YtbfonkabmehlmaaGreatDoor
namespace Go.Proofs.YtbfonkabmehlmaaGreatDoor
set_option maxRecDepth 1000000
namespace En
open Go.RowKit Go.Extern.Stop Go.Stop Go.Extern
open Go.Proofs.YtbfonkabmehlmaaGreatDoor.Nm Go.Proofs.YtbfonkabmehlmaaGreatDoor.Rt
theorem pickE_any (c n : Int) (h1 : -9223372036854775808 ≤ c) (h2 : c ≤ 9223372036854775807) (n1 : 1 ≤ n) (n2 : n ≤ 9223372036854775807) (w : World) :
    Calls Tryz.prog 15 #[.int .i64 c, .int .i64 n] w fun e w' => ∃ k : Nat, (k : Int) < n ∧ e = .returned (.int .i64 (k : Int)) ∧ Below w.heap.size w w' := by
  have hw : ∀ x : Int, -9223372036854775808 ≤ x → x ≤ 9223372036854775807 → IntKind.i64.wrap x = x := fun x a b => by simp [IntKind.wrap, IntKind.signed, IntKind.bits]; omega
  have hn0 : ¬ n = 0 := by omega
  by_cases hc : c < 0
  · have e1 := hw (c + 1) (by omega) (by omega)
    have e2 := hw (-(c + 1)) (by omega) (by omega)
    obtain ⟨k, hk⟩ : ∃ k : Nat, -(c + 1) = (k : Int) := ⟨(-(c + 1)).toNat, by omega⟩
    obtain ⟨m, rfl⟩ := Int.eq_ofNat_of_zero_le (show 0 ≤ n by omega)
    have hm : k % m < m := Nat.mod_lt _ (by omega)
    go_enter Tryz.func15, Tryz.ntmps15
    go_wp2
    go_ret
    exact ⟨k % m, by omega, by congr 2, Below.refl _ _⟩
  · obtain ⟨k, rfl⟩ := Int.eq_ofNat_of_zero_le (show 0 ≤ c by omega)
    obtain ⟨m, rfl⟩ := Int.eq_ofNat_of_zero_le (show 0 ≤ n by omega)
    have hm : k % m < m := Nat.mod_lt _ (by omega)
    go_enter Tryz.func15, Tryz.ntmps15
    go_wp2
    go_ret
    exact ⟨k % m, by omega, by congr 2, Below.refl _ _⟩
end En
end Go.Proofs.YtbfonkabmehlmaaGreatDoor
