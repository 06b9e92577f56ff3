/-
  The law IntegerRing: its walk.
-/
import Derived.Test.YtnlekckmkofkiaaIntSane
import Derived.Test.YtnlekckmkofkiaaIntMade
namespace Go.Proofs.Ytnlekckmkofkiaa
open Go.RowKit Nm

def Bd (z : Int) (t : Nat) : Prop := z.natAbs < 10 ^ t
theorem Bd.of {z : Int} {t : Nat} (h : (decN z.natAbs).length ≤ t) : Bd z t := Nat.lt_of_lt_of_le (decN_lt z.natAbs) (Nat.pow_le_pow_right (by decide) h)
theorem Bd.fits {z : Int} {t : Nat} (h : Bd z t) (ht : t ≤ 200) : Fits z := Nat.le_trans (decN_len_le h) ht
theorem Bd.up {z : Int} {s t : Nat} (h : Bd z s) (hst : s ≤ t) : Bd z t := Nat.lt_of_lt_of_le h (Nat.pow_le_pow_right (by decide) hst)
theorem Bd.add {x y : Int} {t : Nat} (hx : Bd x t) (hy : Bd y t) : Bd (x + y) (t + 1) := by
  unfold Bd at *; rw [Nat.pow_succ]; generalize 10 ^ t = P at *; omega
theorem Bd.sub {x y : Int} {t : Nat} (hx : Bd x t) (hy : Bd y t) : Bd (x - y) (t + 1) := by
  unfold Bd at *; rw [Nat.pow_succ]; generalize 10 ^ t = P at *; omega
theorem Bd.mul {x y : Int} {s t : Nat} (hx : Bd x s) (hy : Bd y t) : Bd (x * y) (s + t) := by
  unfold Bd at *
  rw [Nat.pow_add, Int.natAbs_mul]
  have hp : 0 < 10 ^ s := Nat.pow_pos (by decide)
  generalize 10 ^ t = P at *
  generalize 10 ^ s = R at *
  calc x.natAbs * y.natAbs ≤ x.natAbs * P := Nat.mul_le_mul_left _ (by omega)
    _ < R * P := Nat.mul_lt_mul_of_pos_right hx (by omega)
def CAdd (s t r : ByteArray) : Prop := ∀ w : World, Calls Try.prog 15 #[.string s, .string t] w fun e w' => e = .returned (.tuple #[.string r, .int .i64 0]) ∧ Below w.heap.size w w'
theorem cAdd (x y : Int) (hx : Fits x) (hy : Fits y) (hf : Fits (x + y)) : CAdd (txt x) (txt y) (txt (x + y)) := fun w => by
  have := Add_ok x y hx hy w
  rwa [calcR_fit hf] at this
def CSub (s t r : ByteArray) : Prop := ∀ w : World, Calls Try.prog 17 #[.string s, .string t] w fun e w' => e = .returned (.tuple #[.string r, .int .i64 0]) ∧ Below w.heap.size w w'
theorem cSub (x y : Int) (hx : Fits x) (hy : Fits y) (hf : Fits (x - y)) : CSub (txt x) (txt y) (txt (x - y)) := fun w => by
  have := Sub_ok x y hx hy w
  rwa [calcR_fit hf] at this
def CMul (s t r : ByteArray) : Prop := ∀ w : World, Calls Try.prog 19 #[.string s, .string t] w fun e w' => e = .returned (.tuple #[.string r, .int .i64 0]) ∧ Below w.heap.size w w'
theorem cMul (x y : Int) (hx : Fits x) (hy : Fits y) (hf : Fits (x * y)) : CMul (txt x) (txt y) (txt (x * y)) := fun w => by
  have := Mul_ok x y hx hy w
  rwa [calcR_fit hf] at this

def RingF (sx sy sz s1 s2 s3 p1 p2 p3 p4 l1 d1 : ByteArray) : Prop :=
  CAdd sx sy s1 ∧ CAdd sy sx s1 ∧ CAdd s1 sz s2 ∧ CAdd sy sz s3 ∧ CAdd sx s3 s2 ∧ CMul sx sy p1 ∧ CMul sy sx p1 ∧ CMul p1 sz p2 ∧ CMul sy sz p3 ∧ CMul sx p3 p2 ∧ CMul s1 sz l1 ∧ CMul sx sz p4 ∧ CAdd p4 p3 l1 ∧ CSub sx sy d1 ∧ CAdd d1 sy sx ∧ CMul sx ⟨#[49]⟩ sx ∧ CMul sx ⟨#[48]⟩ ⟨#[48]⟩
theorem ring_facts (x y z : Int) (hx : Bd x 60) (hy : Bd y 60) (hz : Bd z 60) : RingF (txt x) (txt y) (txt z) (txt (x + y)) (txt (x + y + z)) (txt (y + z)) (txt (x * y)) (txt (x * y * z)) (txt (y * z)) (txt (x * z)) (txt ((x + y) * z)) (txt (x - y)) := by
  have fx := hx.fits (by decide)
  have fy := hy.fits (by decide)
  have fz := hz.fits (by decide)
  have b1 := hx.add hy
  have b2 := b1.add (hz.up (by decide : 60 ≤ 61))
  have b3 := hy.add hz
  have bp1 := hx.mul hy
  have bp2 := bp1.mul hz
  have bp3 := hy.mul hz
  have bp4 := hx.mul hz
  have bl := b1.mul hz
  have bd := hx.sub hy
  have f1 := b1.fits (by decide)
  have f2 := b2.fits (by decide)
  have f3 := b3.fits (by decide)
  have fp1 := bp1.fits (by decide)
  have fp2 := bp2.fits (by decide)
  have fp3 := bp3.fits (by decide)
  have fp4 := bp4.fits (by decide)
  have fl := bl.fits (by decide)
  have fd := bd.fits (by decide)
  have q2 := cAdd y x fy fx (by rw [Int.add_comm]; exact f1)
  rw [Int.add_comm y x] at q2
  have q5 := cAdd x (y + z) fx f3 (by rw [← Int.add_assoc]; exact f2)
  rw [← Int.add_assoc] at q5
  have q7 := cMul y x fy fx (by rw [Int.mul_comm]; exact fp1)
  rw [Int.mul_comm y x] at q7
  have q10 := cMul x (y * z) fx fp3 (by rw [← Int.mul_assoc]; exact fp2)
  rw [← Int.mul_assoc] at q10
  have q13 := cAdd (x * z) (y * z) fp4 fp3 (by rw [← Int.add_mul]; exact fl)
  rw [← Int.add_mul] at q13
  have q15 := cAdd (x - y) y fd fy (by rw [Int.sub_add_cancel]; exact fx)
  rw [Int.sub_add_cancel] at q15
  have q16 := cMul x 1 fx ft_1 (by rw [Int.mul_one]; exact fx)
  rw [Int.mul_one, t_1] at q16
  have q17 := cMul x 0 fx ft_0 (by rw [Int.mul_zero]; exact ft_0)
  rw [Int.mul_zero, t_0] at q17
  exact ⟨cAdd x y fx fy f1, q2, cAdd _ _ f1 fz f2, cAdd _ _ fy fz f3, q5, cMul x y fx fy fp1, q7, cMul _ _ fp1 fz fp2, cMul _ _ fy fz fp3, q10, cMul _ _ f1 fz fl, cMul _ _ fx fz fp4, q13, cSub x y fx fy fd, q15, q16, q17⟩

set_option maxRecDepth 100000 in
set_option maxHeartbeats 2000000 in
theorem ring_any (a b c : ByteArray) (ha : a.size ≤ maxLen) (hb : b.size ≤ maxLen) (hc : c.size ≤ maxLen) (w : World) :
    Calls Try.prog 6 #[.string a, .string b, .string c] w fun e w' => e = .returned (.bool true) ∧ Below w.heap.size w w' := by
  have ma := fun W => made_any a 60 (by decide) ha W
  have mb := fun W => made_any b 60 (by decide) hb W
  have mc := fun W => made_any c 60 (by decide) hc W
  clear ha hb hc
  go_enter Try.func6, Try.ntmps6
  go_wp2_with fail
  refine (sane_any _).mono ?_
  rintro e w1 ⟨rfl, hb1⟩
  go_wp2_with fail
  refine (ma _).mono ?_
  rintro e w2 ⟨x, rfl, hx, hB⟩
  have hb2 := hb1.trans (hB.mono hb1.size)
  clear hB hb1
  go_wp2_with fail
  refine (mb _).mono ?_
  rintro e w3 ⟨y, rfl, hy, hB⟩
  have hb3 := hb2.trans (hB.mono hb2.size)
  clear hB hb2
  go_wp2_with fail
  refine (mc _).mono ?_
  rintro e w4 ⟨z, rfl, hz, hB⟩
  have hb4 := hb3.trans (hB.mono hb3.size)
  have hR := ring_facts x y z (.of hx) (.of hy) (.of hz)
  clear hB hb3 hx hy hz ma mb mc
  generalize txt (x + y) = s1 at *
  generalize txt (x + y + z) = s2 at *
  generalize txt (y + z) = s3 at *
  generalize txt (x * y) = p1 at *
  generalize txt (x * y * z) = p2 at *
  generalize txt (y * z) = p3 at *
  generalize txt (x * z) = p4 at *
  generalize txt ((x + y) * z) = l1 at *
  generalize txt (x - y) = d1 at *
  generalize txt x = sx at *
  generalize txt y = sy at *
  generalize txt z = sz at *
  have HR : Shut _ := ⟨hR⟩
  clear hR
  go_wp2_with fail
  refine (HR.o.1 _).mono ?_
  rintro e w5 ⟨rfl, hB⟩
  have hb5 := hb4.trans (hB.mono hb4.size)
  clear hB hb4
  go_wp2_with fail
  refine (HR.o.2.1 _).mono ?_
  rintro e w6 ⟨rfl, hB⟩
  have hb6 := hb5.trans (hB.mono hb5.size)
  clear hB hb5
  go_wp2_with fail
  refine (HR.o.2.2.1 _).mono ?_
  rintro e w7 ⟨rfl, hB⟩
  have hb7 := hb6.trans (hB.mono hb6.size)
  clear hB hb6
  go_wp2_with fail
  refine (HR.o.2.2.2.1 _).mono ?_
  rintro e w8 ⟨rfl, hB⟩
  have hb8 := hb7.trans (hB.mono hb7.size)
  clear hB hb7
  go_wp2_with fail
  refine (HR.o.2.2.2.2.1 _).mono ?_
  rintro e w9 ⟨rfl, hB⟩
  have hb9 := hb8.trans (hB.mono hb8.size)
  clear hB hb8
  go_wp2_with fail
  refine (HR.o.2.2.2.2.2.1 _).mono ?_
  rintro e w10 ⟨rfl, hB⟩
  have hb10 := hb9.trans (hB.mono hb9.size)
  clear hB hb9
  go_wp2_with fail
  refine (HR.o.2.2.2.2.2.2.1 _).mono ?_
  rintro e w11 ⟨rfl, hB⟩
  have hb11 := hb10.trans (hB.mono hb10.size)
  clear hB hb10
  go_wp2_with fail
  refine (HR.o.2.2.2.2.2.2.2.1 _).mono ?_
  rintro e w12 ⟨rfl, hB⟩
  have hb12 := hb11.trans (hB.mono hb11.size)
  clear hB hb11
  go_wp2_with fail
  refine (HR.o.2.2.2.2.2.2.2.2.1 _).mono ?_
  rintro e w13 ⟨rfl, hB⟩
  have hb13 := hb12.trans (hB.mono hb12.size)
  clear hB hb12
  go_wp2_with fail
  refine (HR.o.2.2.2.2.2.2.2.2.2.1 _).mono ?_
  rintro e w14 ⟨rfl, hB⟩
  have hb14 := hb13.trans (hB.mono hb13.size)
  clear hB hb13
  go_wp2_with fail
  refine (HR.o.2.2.2.2.2.2.2.2.2.2.1 _).mono ?_
  rintro e w15 ⟨rfl, hB⟩
  have hb15 := hb14.trans (hB.mono hb14.size)
  clear hB hb14
  go_wp2_with fail
  refine (HR.o.2.2.2.2.2.2.2.2.2.2.2.1 _).mono ?_
  rintro e w16 ⟨rfl, hB⟩
  have hb16 := hb15.trans (hB.mono hb15.size)
  clear hB hb15
  go_wp2_with fail
  refine (HR.o.2.2.2.2.2.2.2.2.2.2.2.2.1 _).mono ?_
  rintro e w17 ⟨rfl, hB⟩
  have hb17 := hb16.trans (hB.mono hb16.size)
  clear hB hb16
  go_wp2_with fail
  refine (HR.o.2.2.2.2.2.2.2.2.2.2.2.2.2.1 _).mono ?_
  rintro e w18 ⟨rfl, hB⟩
  have hb18 := hb17.trans (hB.mono hb17.size)
  clear hB hb17
  go_wp2_with fail
  refine (HR.o.2.2.2.2.2.2.2.2.2.2.2.2.2.2.1 _).mono ?_
  rintro e w19 ⟨rfl, hB⟩
  have hb19 := hb18.trans (hB.mono hb18.size)
  clear hB hb18
  go_wp2_with fail
  refine (HR.o.2.2.2.2.2.2.2.2.2.2.2.2.2.2.2.1 _).mono ?_
  rintro e w20 ⟨rfl, hB⟩
  have hb20 := hb19.trans (hB.mono hb19.size)
  clear hB hb19
  go_wp2_with fail
  refine (HR.o.2.2.2.2.2.2.2.2.2.2.2.2.2.2.2.2 _).mono ?_
  rintro e w21 ⟨rfl, hB⟩
  have hb21 := hb20.trans (hB.mono hb20.size)
  clear hB hb20
  go_wp2
  go_ret
  exact ⟨rfl, hb21⟩
end Go.Proofs.Ytnlekckmkofkiaa
