/-
  The fixed examples of the law: constants, and the law's sane.
-/
import Derived.Test.YtappobhpdpfojaaGreatRatY
namespace Go.Proofs.YtappobhpdpfojaaGreat
set_option maxRecDepth 1000000
namespace Rt
open Go.RowKit Go.Proofs.YtappobhpdpfojaaGreat.Nm

theorem bR_txt {r : Rat} {n m : ByteArray} (er : txtQ r = (n, m)) : bR (some (txtQ r)) = .tuple #[.agg #[.string n, .string m], .int .i64 0] := by rw [er]; rfl
theorem add_c {p q r : Rat} {a b c d n m : ByteArray} (hp : FitQ p) (hq : FitQ q) (ep : txtQ p = (a, b)) (eq : txtQ q = (c, d)) (h : addQ p q = some r) (er : txtQ r = (n, m)) : bR (sumR opAdd a b c d) = .tuple #[.agg #[.string n, .string m], .int .i64 0] := by
  have := addR_q hp hq
  injection ep with e1 e2
  injection eq with e3 e4
  rw [e1, e2, e3, e4] at this
  rw [this, h]; exact bR_txt er
theorem div_c {p q : Rat} {o : Option Rat} {a b c d : ByteArray} (hp : FitQ p) (hq : FitQ q) (ep : txtQ p = (a, b)) (eq : txtQ q = (c, d)) (h : divQ p q = o) : bR (divR a b c d) = bR (o.map txtQ) := by
  have := divR_q hp hq
  injection ep with e1 e2
  injection eq with e3 e4
  rw [e1, e2, e3, e4] at this
  rw [this, h]
theorem down_c {p r : Rat} {a b n m : ByteArray} (hp : FitQ p) (ep : txtQ p = (a, b)) (h : downQ p 2 = some r) (er : txtQ r = (n, m)) : bR (downR a b 2) = .tuple #[.agg #[.string n, .string m], .int .i64 0] := by
  have := downR_q hp 2 (by decide)
  injection ep with e1 e2
  rw [e1, e2] at this
  rw [show ((2 : Nat) : Int) = 2 from rfl] at this
  rw [this, h]; exact bR_txt er
theorem up_c {p r : Rat} {a b n m : ByteArray} (hp : FitQ p) (ep : txtQ p = (a, b)) (h : upQ p 2 = some r) (er : txtQ r = (n, m)) : bR (upR a b 2) = .tuple #[.agg #[.string n, .string m], .int .i64 0] := by
  have := upR_q hp 2 (by decide)
  injection ep with e1 e2
  rw [e1, e2] at this
  rw [show ((2 : Nat) : Int) = 2 from rfl] at this
  rw [this, h]; exact bR_txt er
theorem red_c {x y : Int} {n m : ByteArray} (hx : x.natAbs < 10 ^ 200) (hy : y.natAbs < 10 ^ 200) (h0 : y ≠ 0) (er : txtQ (Rat.divInt x y) = (n, m)) : redR (txt x) (txt y) = some (n, m) := by
  rw [red_q (fits_small hx) (fits_small hy) h0, er]
theorem print_c {q : Rat} {a b s : ByteArray} (hq : FitQ q) (eq : txtQ q = (a, b)) (h1 : b ≠ ⟨#[49]⟩) (h2 : a ++ ⟨#[47]⟩ ++ b = s) : printR a b = s := by
  injection eq with e1 e2
  have := qOf_txt hq
  rw [e1, e2] at this
  rw [printR, this, if_pos (show (some q).isSome = true from rfl), if_neg h1, h2]
theorem rq_eq {q : Rat} {a b : ByteArray} (h : txtQ q = (a, b)) : rq q = .agg #[.string a, .string b] := congrArg (fun p : ByteArray × ByteArray => Value.agg #[.string p.1, .string p.2]) h
theorem kOf1 : bR (redR (txt 6) (txt (-4))) = .tuple #[.agg #[.string ⟨#[45, 51]⟩, .string ⟨#[50]⟩], .int .i64 0] := by rw [red_c (by decide) (by decide) (by decide) (by decide +kernel : txtQ (Rat.divInt 6 (-4)) = (⟨#[45, 51]⟩, ⟨#[50]⟩))]; rfl
theorem kOf2 : bR (redR (txt 0) (txt (-5))) = .tuple #[.agg #[.string ⟨#[48]⟩, .string ⟨#[49]⟩], .int .i64 0] := by rw [red_c (by decide) (by decide) (by decide) (by decide +kernel : txtQ (Rat.divInt 0 (-5)) = (⟨#[48]⟩, ⟨#[49]⟩))]; rfl
theorem kOf3 : bR (redR (txt 1) (txt 0)) = .tuple #[.agg #[.string ⟨#[]⟩, .string ⟨#[]⟩], .int .i64 40] := by rw [red_q0 fits0 rfl]; rfl
theorem q12 : FitQ (mkRat (1) 2) ∧ txtQ (mkRat (1) 2) = (⟨#[49]⟩, ⟨#[50]⟩) := ⟨⟨fits_small (by decide +kernel), fits_small (by decide +kernel)⟩, by decide +kernel⟩
theorem q13 : FitQ (mkRat (1) 3) ∧ txtQ (mkRat (1) 3) = (⟨#[49]⟩, ⟨#[51]⟩) := ⟨⟨fits_small (by decide +kernel), fits_small (by decide +kernel)⟩, by decide +kernel⟩
theorem qm14 : FitQ (mkRat (-1) 4) ∧ txtQ (mkRat (-1) 4) = (⟨#[45, 49]⟩, ⟨#[52]⟩) := ⟨⟨fits_small (by decide +kernel), fits_small (by decide +kernel)⟩, by decide +kernel⟩
theorem q11 : FitQ (mkRat (1) 1) ∧ txtQ (mkRat (1) 1) = (⟨#[49]⟩, ⟨#[49]⟩) := ⟨⟨fits_small (by decide +kernel), fits_small (by decide +kernel)⟩, by decide +kernel⟩
theorem q01 : FitQ (mkRat (0) 1) ∧ txtQ (mkRat (0) 1) = (⟨#[48]⟩, ⟨#[49]⟩) := ⟨⟨fits_small (by decide +kernel), fits_small (by decide +kernel)⟩, by decide +kernel⟩
theorem qm13 : FitQ (mkRat (-1) 3) ∧ txtQ (mkRat (-1) 3) = (⟨#[45, 49]⟩, ⟨#[51]⟩) := ⟨⟨fits_small (by decide +kernel), fits_small (by decide +kernel)⟩, by decide +kernel⟩
theorem qm32 : FitQ (mkRat (-3) 2) ∧ txtQ (mkRat (-3) 2) = (⟨#[45, 51]⟩, ⟨#[50]⟩) := ⟨⟨fits_small (by decide +kernel), fits_small (by decide +kernel)⟩, by decide +kernel⟩
theorem q32 : FitQ (mkRat (3) 2) ∧ txtQ (mkRat (3) 2) = (⟨#[51]⟩, ⟨#[50]⟩) := ⟨⟨fits_small (by decide +kernel), fits_small (by decide +kernel)⟩, by decide +kernel⟩
theorem q33 : FitQ (mkRat (33333) 100000) ∧ txtQ (mkRat (33333) 100000) = (⟨#[51, 51, 51, 51, 51]⟩, ⟨#[49, 48, 48, 48, 48, 48]⟩) := ⟨⟨fits_small (by decide +kernel), fits_small (by decide +kernel)⟩, by decide +kernel⟩
theorem kAdd : bR (sumR opAdd ⟨#[49]⟩ ⟨#[50]⟩ ⟨#[49]⟩ ⟨#[51]⟩) = .tuple #[.agg #[.string ⟨#[53]⟩, .string ⟨#[54]⟩], .int .i64 0] := add_c q12.1 q13.1 q12.2 q13.2 (by rw [addQ, if_pos ⟨fits_small (by decide +kernel), fits_small (by decide +kernel), fits_small (by decide +kernel), fits_small (by decide +kernel)⟩]) (by decide +kernel)
theorem kDiv1 : bR (divR ⟨#[49]⟩ ⟨#[50]⟩ ⟨#[45, 49]⟩ ⟨#[52]⟩) = .tuple #[.agg #[.string ⟨#[45, 50]⟩, .string ⟨#[49]⟩], .int .i64 0] := (div_c (o := some (mkRat (1) 2 / mkRat (-1) 4)) q12.1 qm14.1 q12.2 qm14.2 (by rw [divQ, if_pos ⟨fits_small (by decide +kernel), fits_small (by decide +kernel), by decide⟩])).trans (bR_txt (r := mkRat (1) 2 / mkRat (-1) 4) (n := ⟨#[45, 50]⟩) (m := ⟨#[49]⟩) (by decide +kernel))
theorem kDiv2 : bR (divR ⟨#[49]⟩ ⟨#[49]⟩ ⟨#[48]⟩ ⟨#[49]⟩) = .tuple #[.agg #[.string ⟨#[]⟩, .string ⟨#[]⟩], .int .i64 40] := (div_c q11.1 q01.1 q11.2 q01.2 (by rw [divQ, if_neg (fun h => h.2.2 (by decide))])).trans rfl
theorem kDown : bR (downR ⟨#[45, 49]⟩ ⟨#[51]⟩ 2) = .tuple #[.agg #[.string ⟨#[45, 49, 55]⟩, .string ⟨#[53, 48]⟩], .int .i64 0] := down_c qm13.1 qm13.2 (by rw [downQ, if_pos (fits_small (by decide +kernel))]) (by decide +kernel)
theorem kUp : bR (upR ⟨#[49]⟩ ⟨#[51]⟩ 2) = .tuple #[.agg #[.string ⟨#[49, 55]⟩, .string ⟨#[53, 48]⟩], .int .i64 0] := up_c q13.1 q13.2 (by rw [upQ, if_pos ⟨fits_small (by decide +kernel), fits_small (by decide +kernel)⟩]) (by decide +kernel)
theorem kPrint : printR ⟨#[45, 51]⟩ ⟨#[50]⟩ = ⟨#[45, 51, 47, 50]⟩ := print_c qm32.1 qm32.2 (by decide) (by decide +kernel)
theorem kPrint2 : printR ⟨#[51]⟩ ⟨#[50]⟩ = ⟨#[51, 47, 50]⟩ := print_c q32.1 q32.2 (by decide) (by decide +kernel)
theorem kParse1 : bR (parseR ⟨#[45, 51, 47, 50]⟩) = .tuple #[.agg #[.string ⟨#[45, 51]⟩, .string ⟨#[50]⟩], .int .i64 0] := by
  have h1 : twoS ⟨#[45, 51, 47, 50]⟩ = (txt (-3), txt 2) := by decide +kernel
  rw [parseR, h1, red_c (x := -3) (y := 2) (by decide) (by decide) (by decide) (by decide +kernel : txtQ (Rat.divInt (-3) 2) = (⟨#[45, 51]⟩, ⟨#[50]⟩))]
  show bR (if printR ⟨#[45, 51]⟩ ⟨#[50]⟩ = ⟨#[45, 51, 47, 50]⟩ then _ else _) = _
  rw [if_pos kPrint]; rfl
theorem kParse2 : bR (parseR ⟨#[54, 47, 52]⟩) = .tuple #[.agg #[.string ⟨#[]⟩, .string ⟨#[]⟩], .int .i64 40] := by
  have h1 : twoS ⟨#[54, 47, 52]⟩ = (txt 6, txt 4) := by decide +kernel
  rw [parseR, h1, red_c (x := 6) (y := 4) (by decide) (by decide) (by decide) (by decide +kernel : txtQ (Rat.divInt 6 4) = (⟨#[51]⟩, ⟨#[50]⟩))]
  show bR (if printR ⟨#[51]⟩ ⟨#[50]⟩ = ⟨#[54, 47, 52]⟩ then _ else _) = _
  rw [kPrint2, if_neg (by decide)]; rfl
theorem kCmp : cmpQ (mkRat (1) 3) (mkRat (33333) 100000) = 1 := by decide +kernel
theorem kBad : (qOf (⟨#[]⟩ : ByteArray) (⟨#[]⟩ : ByteArray)).isSome = false := by rw [qOf, zOf_bad (by decide)]; rfl
set_option maxHeartbeats 1000000 in
theorem is_any (s t : ByteArray) (w : World) : Calls Tryz.prog 40 #[.string s, .string t] w fun e w' => e = .returned (.agg #[.string s, .string t]) ∧ Below w.heap.size w w' := by
  go_enter Tryz.func40, Tryz.ntmps40
  go_wp2
  refine bodyPost_ret (v := .agg #[.string s, .string t]) (by simp [results, Tryz.results40, go_sem]) rfl ⟨rfl, (Below.refl w.heap.size w).alloc (Nat.le_refl _) _⟩
theorem e_o1 : ∀ W : World, Calls Tryz.prog 30 #[.int .i64 6, .int .i64 (-4)] W fun e W' => e = .returned (.tuple #[.agg #[.string ⟨#[45, 51]⟩, .string ⟨#[50]⟩], .int .i64 0]) ∧ Below W.heap.size W W' := fun W => by have := Of_all 6 (-4) (by decide) (by decide) (by decide) (by decide) W; rwa [kOf1] at this
theorem e_o2 : ∀ W : World, Calls Tryz.prog 30 #[.int .i64 0, .int .i64 (-5)] W fun e W' => e = .returned (.tuple #[.agg #[.string ⟨#[48]⟩, .string ⟨#[49]⟩], .int .i64 0]) ∧ Below W.heap.size W W' := fun W => by have := Of_all 0 (-5) (by decide) (by decide) (by decide) (by decide) W; rwa [kOf2] at this
theorem e_o3 : ∀ W : World, Calls Tryz.prog 30 #[.int .i64 1, .int .i64 0] W fun e W' => e = .returned (.tuple #[.agg #[.string ⟨#[]⟩, .string ⟨#[]⟩], .int .i64 40]) ∧ Below W.heap.size W W' := fun W => by have := Of_all 1 0 (by decide) (by decide) (by decide) (by decide) W; rwa [kOf3] at this
theorem e_ad : ∀ W : World, Calls Tryz.prog 37 #[.agg #[.string ⟨#[49]⟩, .string ⟨#[50]⟩], .agg #[.string ⟨#[49]⟩, .string ⟨#[51]⟩]] W fun e W' => e = .returned (.tuple #[.agg #[.string ⟨#[53]⟩, .string ⟨#[54]⟩], .int .i64 0]) ∧ Below W.heap.size W W' := fun W => by have := Add_all ⟨#[49]⟩ ⟨#[50]⟩ ⟨#[49]⟩ ⟨#[51]⟩ (by decide) (by decide) (by decide) (by decide) W; rwa [kAdd] at this
theorem e_d1 : ∀ W : World, Calls Tryz.prog 44 #[.agg #[.string ⟨#[49]⟩, .string ⟨#[50]⟩], .agg #[.string ⟨#[45, 49]⟩, .string ⟨#[52]⟩]] W fun e W' => e = .returned (.tuple #[.agg #[.string ⟨#[45, 50]⟩, .string ⟨#[49]⟩], .int .i64 0]) ∧ Below W.heap.size W W' := fun W => by have := Div_all ⟨#[49]⟩ ⟨#[50]⟩ ⟨#[45, 49]⟩ ⟨#[52]⟩ (by decide) (by decide) (by decide) (by decide) W; rwa [kDiv1] at this
theorem e_d2 : ∀ W : World, Calls Tryz.prog 44 #[.agg #[.string ⟨#[49]⟩, .string ⟨#[49]⟩], .agg #[.string ⟨#[48]⟩, .string ⟨#[49]⟩]] W fun e W' => e = .returned (.tuple #[.agg #[.string ⟨#[]⟩, .string ⟨#[]⟩], .int .i64 40]) ∧ Below W.heap.size W W' := fun W => by have := Div_all ⟨#[49]⟩ ⟨#[49]⟩ ⟨#[48]⟩ ⟨#[49]⟩ (by decide) (by decide) (by decide) (by decide) W; rwa [kDiv2] at this
theorem e_dn : ∀ W : World, Calls Tryz.prog 22 #[.agg #[.string ⟨#[45, 49]⟩, .string ⟨#[51]⟩], .int .i64 2] W fun e W' => e = .returned (.tuple #[.agg #[.string ⟨#[45, 49, 55]⟩, .string ⟨#[53, 48]⟩], .int .i64 0]) ∧ Below W.heap.size W W' := fun W => by have := Down_all ⟨#[45, 49]⟩ ⟨#[51]⟩ (by decide) (by decide) 2 W; rwa [kDown] at this
theorem e_up : ∀ W : World, Calls Tryz.prog 24 #[.agg #[.string ⟨#[49]⟩, .string ⟨#[51]⟩], .int .i64 2] W fun e W' => e = .returned (.tuple #[.agg #[.string ⟨#[49, 55]⟩, .string ⟨#[53, 48]⟩], .int .i64 0]) ∧ Below W.heap.size W W' := fun W => by have := Up_all ⟨#[49]⟩ ⟨#[51]⟩ (by decide) (by decide) 2 W; rwa [kUp] at this
theorem e_p1 : ∀ W : World, Calls Tryz.prog 33 #[.string ⟨#[45, 51, 47, 50]⟩] W fun e W' => e = .returned (.tuple #[.agg #[.string ⟨#[45, 51]⟩, .string ⟨#[50]⟩], .int .i64 0]) ∧ Below W.heap.size W W' := fun W => by have := Parse_all ⟨#[45, 51, 47, 50]⟩ (by decide) W; rwa [kParse1] at this
theorem e_p2 : ∀ W : World, Calls Tryz.prog 33 #[.string ⟨#[54, 47, 52]⟩] W fun e W' => e = .returned (.tuple #[.agg #[.string ⟨#[]⟩, .string ⟨#[]⟩], .int .i64 40]) ∧ Below W.heap.size W W' := fun W => by have := Parse_all ⟨#[54, 47, 52]⟩ (by decide) W; rwa [kParse2] at this
theorem e_pr : ∀ W : World, Calls Tryz.prog 32 #[.agg #[.string ⟨#[45, 51]⟩, .string ⟨#[50]⟩]] W fun e W' => e = .returned (.string ⟨#[45, 51, 47, 50]⟩) ∧ Below W.heap.size W W' := fun W => by have := Print_all ⟨#[45, 51]⟩ ⟨#[50]⟩ (by decide) (by decide) W; rwa [kPrint] at this
theorem e_cm : ∀ W : World, Calls Tryz.prog 19 #[.agg #[.string ⟨#[49]⟩, .string ⟨#[51]⟩], .agg #[.string ⟨#[51, 51, 51, 51, 51]⟩, .string ⟨#[49, 48, 48, 48, 48, 48]⟩]] W fun e W' => e = .returned (.int .i64 1) ∧ Below W.heap.size W W' := fun W => by have := Compare_small q13.1 q33.1 (fits_small (by decide +kernel)) (fits_small (by decide +kernel)) W; rw [kCmp, rq_eq q13.2, rq_eq q33.2] at this; exact this
theorem e_v1 : ∀ W : World, Calls Tryz.prog 28 #[.agg #[.string ⟨#[45, 51]⟩, .string ⟨#[50]⟩]] W fun e W' => e = .returned (.bool true) ∧ Below W.heap.size W W' := fun W => by have := Valid_q qm32.1 W; rw [rq_eq qm32.2] at this; exact this
theorem e_v2 : ∀ W : World, Calls Tryz.prog 28 #[.agg #[.string ⟨#[]⟩, .string ⟨#[]⟩]] W fun e W' => e = .returned (.bool false) ∧ Below W.heap.size W W' := fun W => by have := Valid_all ⟨#[]⟩ ⟨#[]⟩ (by decide) (by decide) W; rwa [kBad] at this
end Rt
end Go.Proofs.YtappobhpdpfojaaGreat
