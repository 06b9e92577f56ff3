/-
  The law IntegerText: its walk.
-/
import Derived.Test.YtnlekckmkofkiaaIntLawA
import Derived.Test.YtnlekckmkofkiaaIntTo
import Derived.Lib.SmallJoins
import Derived.Lib.MinMax
namespace Go.Proofs.Ytnlekckmkofkiaa
open Go.RowKit Nm

def CFrom (n : Int) (s : ByteArray) : Prop := ∀ w : World, Calls Try.prog 33 #[.int .i64 n] w fun e w' => e = .returned (.string s) ∧ Below w.heap.size w w'
theorem cFrom (n : Int) (h1 : -9223372036854775808 ≤ n) (h2 : n ≤ 9223372036854775807) : CFrom n (txt n) := fun w => FromInt_any n h1 h2 w
theorem fits_word (n : Int) (h1 : -9223372036854775808 ≤ n) (h2 : n ≤ 9223372036854775807) : Fits n := by
  refine Bd.fits (t := 20) ?_ (by decide)
  unfold Bd
  rw [show (10 : Nat) ^ 20 = 100000000000000000000 by decide]
  omega
theorem cToX (s : ByteArray) (hs : s.size ≤ 1000000) (h : validB s = false) : CTo s 0 30 := fun w => ToInt_bad s hs h w
/-- a string, read as a number -/
theorem text_fact (s : ByteArray) (hs : s.size ≤ 1000000) : (∃ k : Int, CTo s k 0 ∧ CVal s true ∧ CFrom k s) ∨ CTo s 0 30 := by
  by_cases hv : validB s = true
  · obtain ⟨z, rfl, hz⟩ := valid_is hv
    by_cases hr : -9223372036854775808 ≤ z ∧ z ≤ 9223372036854775807
    · refine .inl ⟨z, cTo z hz hr.1 hr.2, ?_, cFrom z hr.1 hr.2⟩
      have := cVal (txt z) hs
      rwa [hv] at this
    · exact .inr (cToB z hz hr)
  · exact .inr (cToX s hs (by simpa using hv))
theorem int64_wf {n : Int} (h : (Lit.int .i64 n).wf = true) : -9223372036854775808 ≤ n ∧ n ≤ 9223372036854775807 := Joins.in64_of_wf h

set_option maxRecDepth 100000 in
set_option maxHeartbeats 4000000 in
theorem text_any2 (n : Int) (s : ByteArray) (hn : (Lit.int .i64 n).wf = true) (hs : s.size ≤ maxLen) (w : World) :
    Calls Try.prog 5 #[.int .i64 n, .string s] w fun e w' => e = .returned (.bool true) ∧ Below w.heap.size w w' := by
  have _ := hs
  have wn := int64_wf hn
  have fn := fits_word n wn.1 wn.2
  have hF := cFrom n wn.1 wn.2
  have hT := cTo n fn wn.1 wn.2
  have hV : CVal (txt n) true := by
    have := cVal (txt n) (by have := txt_size fn; omega)
    rwa [valid_txt n fn] at this
  obtain ⟨mm, hmm⟩ : ∃ mm, mm = min s.size 30 := ⟨_, rfl⟩
  have hmin : min ((s.size : Nat) : Int) 30 = (mm : Int) := by omega
  have hmin2 : (if (30 : Int) < ((s.size : Nat) : Int) then (30 : Int) else ((s.size : Nat) : Int)) = (mm : Int) := by split <;> omega
  have hm1 : mm ≤ s.size := by omega
  have hm2 : mm ≤ 30 := by omega
  have hS := text_fact (s.extract 0 mm) (by rw [ByteArray.size_extract]; omega)
  have HF : Shut _ := ⟨hF⟩
  have HT : Shut _ := ⟨hT⟩
  have HV : Shut _ := ⟨hV⟩
  have HS : Shut _ := ⟨hS⟩
  generalize txt n = t at *
  clear hmm hn hs hF hT hV hS fn
  go_enter Try.func5, Try.ntmps5
  go_wp2_with fail
  refine (sane_any _).mono ?_
  rintro e w1 ⟨rfl, hb1⟩
  go_wp2_with fail
  refine (HF.o _).mono ?_
  rintro e w2 ⟨rfl, hB⟩
  have hb2 := hb1.trans (hB.mono hb1.size)
  clear hB hb1
  go_wp2_with fail
  refine (HT.o _).mono ?_
  rintro e w3 ⟨rfl, hB⟩
  have hb3 := hb2.trans (hB.mono hb2.size)
  clear hB hb2
  rcases HS.o with ⟨k, h1, h2, h3⟩ | h1
  · have H1 : Shut _ := ⟨h1⟩
    have H2 : Shut _ := ⟨h2⟩
    have H3 : Shut _ := ⟨h3⟩
    clear h1 h2 h3 HS
    generalize s.extract 0 mm = sx at *
    go_wp2_with fail
    refine (H1.o _).mono ?_
    rintro e w4 ⟨rfl, hB⟩
    have hb4 := hb3.trans (hB.mono hb3.size)
    clear hB hb3
    go_wp2_with fail
    refine (HV.o _).mono ?_
    rintro e w5 ⟨rfl, hB⟩
    have hb5 := hb4.trans (hB.mono hb4.size)
    clear hB hb4
    go_wp2_with fail
    refine (H2.o _).mono ?_
    rintro e w6 ⟨rfl, hB⟩
    have hb6 := hb5.trans (hB.mono hb5.size)
    clear hB hb5
    go_wp2_with fail
    refine (H3.o _).mono ?_
    rintro e w7 ⟨rfl, hB⟩
    have hb7 := hb6.trans (hB.mono hb6.size)
    clear hB hb6
    go_wp2
    go_ret
    exact ⟨rfl, hb7⟩
  · have H1 : Shut _ := ⟨h1⟩
    clear h1 HS
    generalize s.extract 0 mm = sx at *
    go_wp2_with fail
    refine (H1.o _).mono ?_
    rintro e w4 ⟨rfl, hB⟩
    have hb4 := hb3.trans (hB.mono hb3.size)
    clear hB hb3
    go_wp2_with fail
    refine (HV.o _).mono ?_
    rintro e w5 ⟨rfl, hB⟩
    have hb5 := hb4.trans (hB.mono hb4.size)
    clear hB hb4
    go_wp2
    go_ret
    exact ⟨rfl, hb5⟩
end Go.Proofs.Ytnlekckmkofkiaa
