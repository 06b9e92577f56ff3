/-
  Contracts: strings.Repeat.
-/
import Derived.Test.YtappobhpdpfojaaGreatRatG
import Derived.Shelf.Strings.Repeat
namespace Go.Proofs.YtappobhpdpfojaaGreat
set_option maxRecDepth 1000000
namespace Rt
open Go.RowKit Go.Proofs.YtappobhpdpfojaaGreat.Nm Go.Shelf
def renR : Go.Shelf.Ren where
  f := fun x => match x with
    | 105 => 86
    | 212 => 106
    | 99 => 107
    | 165 => 108
    | 166 => 109
    | 170 => 110
    | 169 => 111
    | 263 => 126
    | 264 => 127
    | 206 => 128
    | 240 => 129
    | 241 => 130
    | 276 => 140
    | 277 => 141
    | n => n
  t := fun x => match x with
    | 9 => 9
    | 3 => 3
    | 4 => 4
    | 20 => 20
    | 0 => 0
    | 46 => 120
    | 109 => 121
    | 5 => 5
    | 72 => 126
    | 76 => 130
    | 51 => 119
    | 146 => 144
    | 53 => 109
    | 148 => 146
    | 70 => 124
    | 37 => 48
    | 75 => 129
    | 127 => 148
    | 164 => 156
    | 80 => 102
    | n => n
  g := fun n => n
theorem renR_lays : Lays.n105 Tryz.prog renR where
  mixed := by kernel_rfl
  f99 := (Tryz.func107).trans (congrArg some (by kernel_rfl))
  f105 := (Tryz.func86).trans (congrArg some (by kernel_rfl))
  f165 := (Tryz.func108).trans (congrArg some (by kernel_rfl))
  f166 := (Tryz.func109).trans (congrArg some (by kernel_rfl))
  f169 := (Tryz.func111).trans (congrArg some (by kernel_rfl))
  f170 := (Tryz.func110).trans (congrArg some (by kernel_rfl))
  f206 := (Tryz.func128).trans (congrArg some (by kernel_rfl))
  f212 := (Tryz.func106).trans (congrArg some (by kernel_rfl))
  f240 := (Tryz.func129).trans (congrArg some (by kernel_rfl))
  f241 := (Tryz.func130).trans (congrArg some (by kernel_rfl))
  f263 := (Tryz.func126).trans (congrArg some (by kernel_rfl))
  f264 := (Tryz.func127).trans (congrArg some (by kernel_rfl))
  f276 := (Tryz.func140).trans (congrArg some (by kernel_rfl))
  f277 := (Tryz.func141).trans (congrArg some (by kernel_rfl))
  t0 := Tryz.underlying0
  a0 := Tryz.isAgg0
  z0 := Tryz.sizeOf0
  v0 := Tryz.zeroValue0
  t3 := Tryz.underlying3
  a3 := Tryz.isAgg3
  z3 := Tryz.sizeOf3
  v3 := Tryz.zeroValue3
  t4 := Tryz.underlying4
  a4 := Tryz.isAgg4
  z4 := Tryz.sizeOf4
  v4 := Tryz.zeroValue4
  t5 := Tryz.underlying5
  a5 := Tryz.isAgg5
  z5 := Tryz.sizeOf5
  v5 := Tryz.zeroValue5
  t9 := Tryz.underlying9
  a9 := Tryz.isAgg9
  z9 := Tryz.sizeOf9
  v9 := Tryz.zeroValue9
  t20 := Tryz.underlying20
  a20 := Tryz.isAgg20
  z20 := Tryz.sizeOf20
  v20 := Tryz.zeroValue20
  t37 := Tryz.underlying48
  a37 := Tryz.isAgg48
  z37 := Tryz.sizeOf48
  v37 := Tryz.zeroValue48
  t46 := Tryz.underlying120
  a46 := Tryz.isAgg120
  z46 := Tryz.sizeOf120
  v46 := Tryz.zeroValue120
  t51 := Tryz.underlying119
  a51 := Tryz.isAgg119
  z51 := Tryz.sizeOf119
  v51 := Tryz.zeroValue119
  t53 := Tryz.underlying109
  a53 := Tryz.isAgg109
  z53 := Tryz.sizeOf109
  v53 := Tryz.zeroValue109
  t70 := Tryz.underlying124
  a70 := Tryz.isAgg124
  z70 := Tryz.sizeOf124
  v70 := Tryz.zeroValue124
  t72 := Tryz.underlying126
  a72 := Tryz.isAgg126
  z72 := Tryz.sizeOf126
  v72 := Tryz.zeroValue126
  t75 := Tryz.underlying129
  a75 := Tryz.isAgg129
  z75 := Tryz.sizeOf129
  v75 := Tryz.zeroValue129
  t76 := Tryz.underlying130
  a76 := Tryz.isAgg130
  z76 := Tryz.sizeOf130
  v76 := Tryz.zeroValue130
  t109 := Tryz.underlying121
  a109 := Tryz.isAgg121
  z109 := Tryz.sizeOf121
  v109 := Tryz.zeroValue121
  t127 := Tryz.underlying148
  a127 := Tryz.isAgg148
  z127 := Tryz.sizeOf148
  v127 := Tryz.zeroValue148
  t146 := Tryz.underlying144
  a146 := Tryz.isAgg144
  z146 := Tryz.sizeOf144
  v146 := Tryz.zeroValue144
  t148 := Tryz.underlying146
  a148 := Tryz.isAgg146
  z148 := Tryz.sizeOf146
  v148 := Tryz.zeroValue146
  t164 := Tryz.underlying156
  a164 := Tryz.isAgg156
  z164 := Tryz.sizeOf156
  v164 := Tryz.zeroValue156

theorem extraR : Builder.Extra Tryz.prog renR where
  sizeBuilder := by kernel_rfl
  liesBuilder := by kernel_rfl
  t5 := renR_lays.t5
  a5 := renR_lays.a5
  z5 := renR_lays.z5
  v5 := renR_lays.v5
  infoByte := by kernel_rfl
  cellsByte := by kernel_rfl
  sizeByte := by kernel_rfl
  neB5 := by decide
theorem Repeat_all (c : Nat) (hc : c ≤ 30) (w : World) : Calls Tryz.prog 86 #[.string ⟨#[48]⟩, .int .i64 c] w fun e w' => e = .returned (.string ⟨(Lib.repeatL [48] c).toArray⟩) ∧ Below w.heap.size w w' :=
  Any.strings_Repeat renR_lays extraR ⟨#[48]⟩ c w (by omega) (by show 1 * c ≤ _; omega)
theorem units_eq (c : Nat) (hc : c ≤ 30) : (⟨#[49]⟩ ++ ⟨(Lib.repeatL [48] c).toArray⟩ : ByteArray) = txt (10 ^ c) := by
  have h : ∀ c : Fin 31, (⟨#[49]⟩ ++ ⟨(Lib.repeatL [48] c.val).toArray⟩ : ByteArray) = txt (10 ^ c.val) := by decide +kernel
  exact h ⟨c, by omega⟩
end Rt
end Go.Proofs.YtappobhpdpfojaaGreat
