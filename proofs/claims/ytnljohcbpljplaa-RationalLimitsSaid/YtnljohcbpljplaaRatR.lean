/-
  Contracts: strings.Repeat.
-/
import Derived.Test.YtnljohcbpljplaaRatG
import Derived.Shelf.Strings.Repeat
namespace Go.Proofs.Ytnljohcbpljplaa
set_option maxRecDepth 1000000
namespace Rt
open Go.RowKit Go.Proofs.Ytnljohcbpljplaa.Nm Go.Shelf
def renR : Go.Shelf.Ren where
  f := fun x => match x with
    | 105 => 44
    | 212 => 57
    | 99 => 58
    | 165 => 59
    | 166 => 60
    | 170 => 61
    | 169 => 62
    | 263 => 77
    | 264 => 78
    | 206 => 79
    | 240 => 80
    | 241 => 81
    | 276 => 92
    | 277 => 93
    | n => n
  t := fun x => match x with
    | 9 => 9
    | 3 => 3
    | 4 => 4
    | 20 => 20
    | 0 => 0
    | 46 => 83
    | 109 => 84
    | 5 => 5
    | 72 => 90
    | 76 => 94
    | 51 => 82
    | 146 => 107
    | 53 => 71
    | 148 => 109
    | 70 => 87
    | 37 => 88
    | 75 => 93
    | 127 => 111
    | 164 => 120
    | 80 => 70
    | n => n
  g := fun n => n
theorem renR_lays : Lays.n105 Try.prog renR where
  mixed := by kernel_rfl
  f99 := (Try.func58).trans (congrArg some (by kernel_rfl))
  f105 := (Try.func44).trans (congrArg some (by kernel_rfl))
  f165 := (Try.func59).trans (congrArg some (by kernel_rfl))
  f166 := (Try.func60).trans (congrArg some (by kernel_rfl))
  f169 := (Try.func62).trans (congrArg some (by kernel_rfl))
  f170 := (Try.func61).trans (congrArg some (by kernel_rfl))
  f206 := (Try.func79).trans (congrArg some (by kernel_rfl))
  f212 := (Try.func57).trans (congrArg some (by kernel_rfl))
  f240 := (Try.func80).trans (congrArg some (by kernel_rfl))
  f241 := (Try.func81).trans (congrArg some (by kernel_rfl))
  f263 := (Try.func77).trans (congrArg some (by kernel_rfl))
  f264 := (Try.func78).trans (congrArg some (by kernel_rfl))
  f276 := (Try.func92).trans (congrArg some (by kernel_rfl))
  f277 := (Try.func93).trans (congrArg some (by kernel_rfl))
  t0 := Try.underlying0
  a0 := Try.isAgg0
  z0 := Try.sizeOf0
  v0 := Try.zeroValue0
  t3 := Try.underlying3
  a3 := Try.isAgg3
  z3 := Try.sizeOf3
  v3 := Try.zeroValue3
  t4 := Try.underlying4
  a4 := Try.isAgg4
  z4 := Try.sizeOf4
  v4 := Try.zeroValue4
  t5 := Try.underlying5
  a5 := Try.isAgg5
  z5 := Try.sizeOf5
  v5 := Try.zeroValue5
  t9 := Try.underlying9
  a9 := Try.isAgg9
  z9 := Try.sizeOf9
  v9 := Try.zeroValue9
  t20 := Try.underlying20
  a20 := Try.isAgg20
  z20 := Try.sizeOf20
  v20 := Try.zeroValue20
  t37 := Try.underlying88
  a37 := Try.isAgg88
  z37 := Try.sizeOf88
  v37 := Try.zeroValue88
  t46 := Try.underlying83
  a46 := Try.isAgg83
  z46 := Try.sizeOf83
  v46 := Try.zeroValue83
  t51 := Try.underlying82
  a51 := Try.isAgg82
  z51 := Try.sizeOf82
  v51 := Try.zeroValue82
  t53 := Try.underlying71
  a53 := Try.isAgg71
  z53 := Try.sizeOf71
  v53 := Try.zeroValue71
  t70 := Try.underlying87
  a70 := Try.isAgg87
  z70 := Try.sizeOf87
  v70 := Try.zeroValue87
  t72 := Try.underlying90
  a72 := Try.isAgg90
  z72 := Try.sizeOf90
  v72 := Try.zeroValue90
  t75 := Try.underlying93
  a75 := Try.isAgg93
  z75 := Try.sizeOf93
  v75 := Try.zeroValue93
  t76 := Try.underlying94
  a76 := Try.isAgg94
  z76 := Try.sizeOf94
  v76 := Try.zeroValue94
  t109 := Try.underlying84
  a109 := Try.isAgg84
  z109 := Try.sizeOf84
  v109 := Try.zeroValue84
  t127 := Try.underlying111
  a127 := Try.isAgg111
  z127 := Try.sizeOf111
  v127 := Try.zeroValue111
  t146 := Try.underlying107
  a146 := Try.isAgg107
  z146 := Try.sizeOf107
  v146 := Try.zeroValue107
  t148 := Try.underlying109
  a148 := Try.isAgg109
  z148 := Try.sizeOf109
  v148 := Try.zeroValue109
  t164 := Try.underlying120
  a164 := Try.isAgg120
  z164 := Try.sizeOf120
  v164 := Try.zeroValue120

theorem extraR : Builder.Extra Try.prog renR where
  sizeBuilder := by kernel_rfl
  liesBuilder := by kernel_rfl
  t5 := renR_lays.t5
  a5 := renR_lays.a5
  z5 := renR_lays.z5
  v5 := renR_lays.v5
  infoByte := by kernel_rfl
  cellsByte := by kernel_rfl
  sizeByte := by kernel_rfl
  neB5 := by decide
theorem Repeat_all (c : Nat) (hc : c ≤ 30) (w : World) : Calls Try.prog 44 #[.string ⟨#[48]⟩, .int .i64 c] w fun e w' => e = .returned (.string ⟨(Lib.repeatL [48] c).toArray⟩) ∧ Below w.heap.size w w' :=
  Any.strings_Repeat renR_lays extraR ⟨#[48]⟩ c w (by omega) (by show 1 * c ≤ _; omega)
theorem units_eq (c : Nat) (hc : c ≤ 30) : (⟨#[49]⟩ ++ ⟨(Lib.repeatL [48] c).toArray⟩ : ByteArray) = txt (10 ^ c) := by
  have h : ∀ c : Fin 31, (⟨#[49]⟩ ++ ⟨(Lib.repeatL [48] c.val).toArray⟩ : ByteArray) = txt (10 ^ c.val) := by decide +kernel
  exact h ⟨c, by omega⟩
end Rt
end Go.Proofs.Ytnljohcbpljplaa
