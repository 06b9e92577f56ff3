/-
  The law IntegerOrder: its walk.
-/
import Derived.Test.YtnlekckmkofkiaaIntLawA
import Derived.Deep.RegionWith
namespace Go.Proofs.Ytnlekckmkofkiaa
open Go.RowKit Nm

def OrderF (sx sy sz s1 s2 s3 : ByteArray) (k k' m n : Int) : Prop :=
  CCmp sx sy k ∧ CSub sx sy s1 ∧ CAdd sx sz s2 ∧ CAdd sy sz s3 ∧ CCmp sy sx k' ∧ CCmp s1 ⟨#[48]⟩ k ∧ CCmp s2 s3 k ∧ CCmp sy sz m ∧ CCmp sx sz n
theorem order_facts (x y z : Int) (hx : Bd x 60) (hy : Bd y 60) (hz : Bd z 60) : OrderF (txt x) (txt y) (txt z) (txt (x - y)) (txt (x + z)) (txt (y + z)) (cmpZ x y) (cmpZ y x) (cmpZ y z) (cmpZ x z) := by
  have fx := hx.fits (by decide)
  have fy := hy.fits (by decide)
  have fz := hz.fits (by decide)
  have fd := (hx.sub hy).fits (by decide)
  have f1 := (hx.add hz).fits (by decide)
  have f2 := (hy.add hz).fits (by decide)
  have q := cCmp (x - y) 0 fd ft_0
  rw [t_0, cmpZ_shift (show x - y - 0 = x - y by omega)] at q
  have q2 := cCmp (x + z) (y + z) f1 f2
  rw [cmpZ_shift (show x + z - (y + z) = x - y by omega)] at q2
  exact ⟨cCmp x y fx fy, cSub x y fx fy fd, cAdd x z fx fz f1, cAdd y z fy fz f2, cCmp y x fy fx, q, q2, cCmp y z fy fz, cCmp x z fx fz⟩

set_option maxRecDepth 100000 in
set_option maxHeartbeats 4000000 in
theorem order_any (a b c : ByteArray) (ha : a.size ≤ maxLen) (hb : b.size ≤ maxLen) (hc : c.size ≤ maxLen) (w : World) :
    Calls Try.prog 10 #[.string a, .string b, .string c] w fun e w' => e = .returned (.bool true) ∧ Below w.heap.size w w' := by
  have ma := fun W => made_any a 60 (by decide) ha W
  have mb := fun W => made_any b 60 (by decide) hb W
  have mc := fun W => made_any c 60 (by decide) hc W
  clear ha hb hc
  go_enter Try.func10, Try.ntmps10
  go_wp2_with fail
  refine (sane_any _).mono ?_
  rintro e w1 ⟨rfl, hb1⟩
  go_wp2_with fail
  refine (ma _).mono ?_
  rintro e w2 ⟨x, rfl, hx, hB⟩
  have hb2 := hb1.trans (hB.mono hb1.size)
  clear hB hb1
  go_wp2_with fail
  refine (mb _).mono ?_
  rintro e w3 ⟨y, rfl, hy, hB⟩
  have hb3 := hb2.trans (hB.mono hb2.size)
  clear hB hb2
  go_wp2_with fail
  refine (mc _).mono ?_
  rintro e w4 ⟨z, rfl, hz, hB⟩
  have hb4 := hb3.trans (hB.mono hb3.size)
  have hR := order_facts x y z (.of hx) (.of hy) (.of hz)
  have h1 : (cmpZ x y = -1 ∧ cmpZ y x = 1 ∧ ((txt x).toList == (txt y).toList) = false) ∨ (cmpZ x y = 0 ∧ cmpZ y x = 0 ∧ txt x = txt y) ∨ (cmpZ x y = 1 ∧ cmpZ y x = -1 ∧ ((txt x).toList == (txt y).toList) = false) := by
    rcases cmpZ_cases x y with h | h | h
    · exact .inl ⟨h.1, h.2.1, txt_ne (by omega)⟩
    · exact .inr (.inl ⟨h.1, h.2.1, by rw [h.2.2]⟩)
    · exact .inr (.inr ⟨h.1, h.2.1, txt_ne (by omega)⟩)
  have h2 : cmpZ x y = 1 ∨ cmpZ y z = 1 ∨ ((cmpZ y z = -1 ∨ cmpZ y z = 0) ∧ (cmpZ x z = -1 ∨ cmpZ x z = 0)) := by
    rcases cmpZ_cases x y with h | h | h <;> rcases cmpZ_cases y z with g | g | g <;> rcases cmpZ_cases x z with f | f | f <;> omega
  clear hB hb3 hx hy hz ma mb mc
  generalize txt (x - y) = s1 at *
  generalize txt (x + z) = s2 at *
  generalize txt (y + z) = s3 at *
  generalize txt x = sx at *
  generalize txt y = sy at *
  generalize txt z = sz at *
  generalize cmpZ x y = k at *
  generalize cmpZ y x = k' at *
  generalize cmpZ y z = m at *
  generalize cmpZ x z = n at *
  have HR : Shut _ := ⟨hR⟩
  clear hR
  go_wp2_with fail
  refine (HR.o.1 _).mono ?_
  rintro e w5 ⟨rfl, hB⟩
  have hb5 := hb4.trans (hB.mono hb4.size)
  clear hB hb4
  go_wp2_with fail
  refine (HR.o.2.1 _).mono ?_
  rintro e w6 ⟨rfl, hB⟩
  have hb6 := hb5.trans (hB.mono hb5.size)
  clear hB hb5
  go_wp2_with fail
  refine (HR.o.2.2.1 _).mono ?_
  rintro e w7 ⟨rfl, hB⟩
  have hb7 := hb6.trans (hB.mono hb6.size)
  clear hB hb6
  go_wp2_with fail
  refine (HR.o.2.2.2.1 _).mono ?_
  rintro e w8 ⟨rfl, hB⟩
  have hb8 := hb7.trans (hB.mono hb7.size)
  clear hB hb7
  rcases h1 with ⟨rfl, rfl, hq⟩ | ⟨rfl, rfl, rfl⟩ | ⟨rfl, rfl, hq⟩
  · skip
    go_wp2_with fail
    refine (HR.o.2.2.2.2.1 _).mono ?_
    rintro e w9 ⟨rfl, hB⟩
    have hb9 := hb8.trans (hB.mono hb8.size)
    clear hB hb8
    go_wp2_with fail
    refine (HR.o.2.2.2.2.2.1 _).mono ?_
    rintro e w10 ⟨rfl, hB⟩
    have hb10 := hb9.trans (hB.mono hb9.size)
    clear hB hb9
    go_wp2_with fail
    refine (HR.o.2.2.2.2.2.2.1 _).mono ?_
    rintro e w11 ⟨rfl, hB⟩
    have hb11 := hb10.trans (hB.mono hb10.size)
    clear hB hb10
    clear hq
    rcases h2 with h2 | rfl | ⟨rfl | rfl, rfl | rfl⟩
    · exact absurd h2 (by decide)
    · go_wp2_with fail
      refine (HR.o.2.2.2.2.2.2.2.1 _).mono ?_
      rintro e w12 ⟨rfl, hB⟩
      have hb12 := hb11.trans (hB.mono hb11.size)
      clear hB hb11
      go_wp2
      go_ret
      exact ⟨rfl, hb12⟩
    · go_wp2_with fail
      refine (HR.o.2.2.2.2.2.2.2.1 _).mono ?_
      rintro e w12 ⟨rfl, hB⟩
      have hb12 := hb11.trans (hB.mono hb11.size)
      clear hB hb11
      go_wp2_with fail
      refine (HR.o.2.2.2.2.2.2.2.2 _).mono ?_
      rintro e w13 ⟨rfl, hB⟩
      have hb13 := hb12.trans (hB.mono hb12.size)
      clear hB hb12
      go_wp2
      go_ret
      exact ⟨rfl, hb13⟩
    · go_wp2_with fail
      refine (HR.o.2.2.2.2.2.2.2.1 _).mono ?_
      rintro e w12 ⟨rfl, hB⟩
      have hb12 := hb11.trans (hB.mono hb11.size)
      clear hB hb11
      go_wp2_with fail
      refine (HR.o.2.2.2.2.2.2.2.2 _).mono ?_
      rintro e w13 ⟨rfl, hB⟩
      have hb13 := hb12.trans (hB.mono hb12.size)
      clear hB hb12
      go_wp2
      go_ret
      exact ⟨rfl, hb13⟩
    · go_wp2_with fail
      refine (HR.o.2.2.2.2.2.2.2.1 _).mono ?_
      rintro e w12 ⟨rfl, hB⟩
      have hb12 := hb11.trans (hB.mono hb11.size)
      clear hB hb11
      go_wp2_with fail
      refine (HR.o.2.2.2.2.2.2.2.2 _).mono ?_
      rintro e w13 ⟨rfl, hB⟩
      have hb13 := hb12.trans (hB.mono hb12.size)
      clear hB hb12
      go_wp2
      go_ret
      exact ⟨rfl, hb13⟩
    · go_wp2_with fail
      refine (HR.o.2.2.2.2.2.2.2.1 _).mono ?_
      rintro e w12 ⟨rfl, hB⟩
      have hb12 := hb11.trans (hB.mono hb11.size)
      clear hB hb11
      go_wp2_with fail
      refine (HR.o.2.2.2.2.2.2.2.2 _).mono ?_
      rintro e w13 ⟨rfl, hB⟩
      have hb13 := hb12.trans (hB.mono hb12.size)
      clear hB hb12
      go_wp2
      go_ret
      exact ⟨rfl, hb13⟩
  · have hq : (sx.toList == sx.toList) = true := beq_self_eq_true _
    go_wp2_with fail
    refine (HR.o.2.2.2.2.1 _).mono ?_
    rintro e w9 ⟨rfl, hB⟩
    have hb9 := hb8.trans (hB.mono hb8.size)
    clear hB hb8
    go_wp2_with fail
    refine (HR.o.2.2.2.2.2.1 _).mono ?_
    rintro e w10 ⟨rfl, hB⟩
    have hb10 := hb9.trans (hB.mono hb9.size)
    clear hB hb9
    go_wp2_with fail
    refine (HR.o.2.2.2.2.2.2.1 _).mono ?_
    rintro e w11 ⟨rfl, hB⟩
    have hb11 := hb10.trans (hB.mono hb10.size)
    clear hB hb10
    clear hq
    rcases h2 with h2 | rfl | ⟨rfl | rfl, rfl | rfl⟩
    · exact absurd h2 (by decide)
    · go_wp2_with fail
      refine (HR.o.2.2.2.2.2.2.2.1 _).mono ?_
      rintro e w12 ⟨rfl, hB⟩
      have hb12 := hb11.trans (hB.mono hb11.size)
      clear hB hb11
      go_wp2
      go_ret
      exact ⟨rfl, hb12⟩
    · go_wp2_with fail
      refine (HR.o.2.2.2.2.2.2.2.1 _).mono ?_
      rintro e w12 ⟨rfl, hB⟩
      have hb12 := hb11.trans (hB.mono hb11.size)
      clear hB hb11
      go_wp2_with fail
      refine (HR.o.2.2.2.2.2.2.2.2 _).mono ?_
      rintro e w13 ⟨rfl, hB⟩
      have hb13 := hb12.trans (hB.mono hb12.size)
      clear hB hb12
      go_wp2
      go_ret
      exact ⟨rfl, hb13⟩
    · go_wp2_with fail
      refine (HR.o.2.2.2.2.2.2.2.1 _).mono ?_
      rintro e w12 ⟨rfl, hB⟩
      have hb12 := hb11.trans (hB.mono hb11.size)
      clear hB hb11
      go_wp2_with fail
      refine (HR.o.2.2.2.2.2.2.2.2 _).mono ?_
      rintro e w13 ⟨rfl, hB⟩
      have hb13 := hb12.trans (hB.mono hb12.size)
      clear hB hb12
      go_wp2
      go_ret
      exact ⟨rfl, hb13⟩
    · go_wp2_with fail
      refine (HR.o.2.2.2.2.2.2.2.1 _).mono ?_
      rintro e w12 ⟨rfl, hB⟩
      have hb12 := hb11.trans (hB.mono hb11.size)
      clear hB hb11
      go_wp2_with fail
      refine (HR.o.2.2.2.2.2.2.2.2 _).mono ?_
      rintro e w13 ⟨rfl, hB⟩
      have hb13 := hb12.trans (hB.mono hb12.size)
      clear hB hb12
      go_wp2
      go_ret
      exact ⟨rfl, hb13⟩
    · go_wp2_with fail
      refine (HR.o.2.2.2.2.2.2.2.1 _).mono ?_
      rintro e w12 ⟨rfl, hB⟩
      have hb12 := hb11.trans (hB.mono hb11.size)
      clear hB hb11
      go_wp2_with fail
      refine (HR.o.2.2.2.2.2.2.2.2 _).mono ?_
      rintro e w13 ⟨rfl, hB⟩
      have hb13 := hb12.trans (hB.mono hb12.size)
      clear hB hb12
      go_wp2
      go_ret
      exact ⟨rfl, hb13⟩
  · skip
    go_wp2_with fail
    refine (HR.o.2.2.2.2.1 _).mono ?_
    rintro e w9 ⟨rfl, hB⟩
    have hb9 := hb8.trans (hB.mono hb8.size)
    clear hB hb8
    go_wp2_with fail
    refine (HR.o.2.2.2.2.2.1 _).mono ?_
    rintro e w10 ⟨rfl, hB⟩
    have hb10 := hb9.trans (hB.mono hb9.size)
    clear hB hb9
    go_wp2_with fail
    refine (HR.o.2.2.2.2.2.2.1 _).mono ?_
    rintro e w11 ⟨rfl, hB⟩
    have hb11 := hb10.trans (hB.mono hb10.size)
    clear hB hb10
    go_wp2
    go_ret
    exact ⟨rfl, hb11⟩
end Go.Proofs.Ytnlekckmkofkiaa
