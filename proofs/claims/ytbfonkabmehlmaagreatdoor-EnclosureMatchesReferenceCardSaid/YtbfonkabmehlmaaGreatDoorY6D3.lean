/-
  The walk of EnclosureMeets.
-/
import Derived.Test.YtbfonkabmehlmaaGreatDoorY6C8
import Derived.Test.YtbfonkabmehlmaaGreatDoorY6C7
import Derived.Deep.DeepCutAuto
import Derived.Test.YtbfonkabmehlmaaGreatDoorY6D1
import Derived.Test.YtbfonkabmehlmaaGreatDoorY6D2
set_option maxRecDepth 1000000
set_option maxHeartbeats 40000000
open Go.Value renaming string→Z
open Go.Obj renaming cells→O
namespace Go.Proofs.YtbfonkabmehlmaaGreatDoor
section
namespace En
open Go.RowKit Go.Extern.Stop Go.Stop Go.Extern
open Go.Proofs.YtbfonkabmehlmaaGreatDoor.Nm Go.Proofs.YtbfonkabmehlmaaGreatDoor.Rt
end En
end
section
namespace En
open Go.RowKit Go.Extern.Stop Go.Stop Go.Extern
open Go.Proofs.YtbfonkabmehlmaaGreatDoor.Nm Go.Proofs.YtbfonkabmehlmaaGreatDoor.Rt
def xN (r:Rat) (c:Nat):Int:=r.num*10^c*10^c
theorem xN_nonneg {r:Rat} (h:0≤r.num) (c:Nat):0≤xN r c:=Int.mul_nonneg (Int.mul_nonneg h (Int.le_of_lt (Int.pow_pos (by decide)))) (Int.le_of_lt (Int.pow_pos (by decide)))
theorem mul_lt_of_div {x d k:Int} (hd:0<d) (h:x / d<k):x<k*d:=by
 have h1:=Int.mul_ediv_add_emod x d
 have h2:=Int.emod_lt_of_pos x hd
 have h3:=Int.mul_le_mul_of_nonneg_right (show x / d+1≤k by omega) (Int.le_of_lt hd)
 rw [Int.add_mul,Int.one_mul,Int.mul_comm (x / d)] at h3
 omega
theorem mul_le_of_div {x d k:Int} (hd:0<d) (h:k≤x / d):k*d≤x:=by
 have h1:=Int.mul_ediv_add_emod x d
 have h2:=Int.emod_nonneg x (show d≠0 by omega)
 have h3:=Int.mul_le_mul_of_nonneg_right h (Int.le_of_lt hd)
 rw [Int.mul_comm (x / d)] at h3
 omega
theorem rt_spec {r : Rat} (h : 0 ≤ r.num) (c : Nat) : ((rtN r c : Nat) : Int) * ((rtN r c : Nat) : Int) * (r.den : Int) ≤ xN r c ∧ xN r c < (((rtN r c : Nat) : Int) + 1) * (((rtN r c : Nat) : Int) + 1) * (r.den : Int) := by
  have hD : 0 < (r.den : Int) := by have := r.den_pos; omega
  have h0 : 0 ≤ sqN r c := Int.ediv_nonneg (xN_nonneg h c) (Int.le_of_lt hD)
  obtain ⟨s1, s2⟩ := sqr_spec (sqN r c).natAbs
  have e : ((sqN r c).natAbs : Int) = sqN r c := by omega
  have t1 : ((rtN r c : Nat) : Int) * ((rtN r c : Nat) : Int) ≤ sqN r c := by rw [← e]; exact_mod_cast s1
  have t2 : sqN r c < (((rtN r c : Nat) : Int) + 1) * (((rtN r c : Nat) : Int) + 1) := by conv => lhs; rw [← e]
                                                                                          exact_mod_cast s2
  exact ⟨mul_le_of_div hD t1, mul_lt_of_div hD t2⟩
theorem up_spec {r:Rat} (h:0≤r.num) (c:Nat):0≤upN r c∧xN r c≤upN r c*upN r c*(r.den:Int)∧(upN r c=0∨(upN r c-1)*(upN r c-1)*(r.den:Int)<xN r c):=by
 have hD:0<(r.den:Int):=by have:=r.den_pos;omega
 obtain ⟨s1,s2⟩:=rt_spec h c
 have n0:(0:Int)≤((rtN r c:Nat):Int):=by omega
 have hx:=Int.mul_ediv_add_emod (xN r c) (r.den:Int)
 have hex:exN r c=true↔((rtN r c:Nat):Int)*((rtN r c:Nat):Int)*(r.den:Int)=xN r c:=by
  rw [exN,Bool.and_eq_true,decide_eq_true_eq,decide_eq_true_eq]
  constructor
  ·rintro ⟨h1,h2⟩
   have h3:xN r c % (r.den:Int)=0:=h1
   have h4:((rtN r c:Nat):Int)*((rtN r c:Nat):Int)=xN r c / (r.den:Int):=h2
   rw [h4,Int.mul_comm];omega
  ·intro h1
   have h2:xN r c % (r.den:Int)=0:=by rw [←h1];exact Int.mul_emod_left _ _
   refine ⟨h2, ?_⟩
   show _=xN r c / (r.den:Int)
   rw [←h1,Int.mul_ediv_cancel _ (by omega)]
 rw [upN]
 by_cases hc:exN r c=true
 ·rw [if_pos hc]
  have h1:=hex.1 hc
  refine ⟨n0,by omega, ?_⟩
  by_cases hz:((rtN r c:Nat):Int)=0
  ·exact .inl hz
  ·right
   rw [←h1]
   have h2:(((rtN r c:Nat):Int)-1)*(((rtN r c:Nat):Int)-1)<((rtN r c:Nat):Int)*((rtN r c:Nat):Int):=by
    generalize ((rtN r c:Nat):Int)=k at *
    rw [Int.sub_mul,Int.mul_sub]
    omega
   exact Int.mul_lt_mul_of_pos_right h2 hD
 ·rw [if_neg hc]
  refine ⟨by omega,Int.le_of_lt s2,.inr ?_⟩
  rw [Int.add_sub_cancel]
  exact Int.lt_iff_le_and_ne.2 ⟨s1,fun h2=>hc (hex.2 h2)⟩
theorem sq_lt {a b:Int} (h:a*a<b*b) (hb:0≤b):a<b:=by
 refine Int.not_le.1 (fun h1 => ?_)
 exact absurd (Int.mul_le_mul h1 h1 hb (Int.le_trans hb h1)) (Int.not_le.2 h)
theorem cross_lt2 {a b x y d e:Int} (hd:0<d) (he:0<e) (hb:0≤b) (h1:a*a*d<x) (h2:x*e≤y*d) (h3:y≤b*b*e):a<b:=by
 refine sq_lt ?_ hb
 have g1:=Int.mul_lt_mul_of_pos_right h1 he
 have g2:=Int.mul_le_mul_of_nonneg_right h3 (Int.le_of_lt hd)
 have g3:a*a*d*e<b*b*e*d:=Int.lt_of_lt_of_le g1 (Int.le_trans h2 g2)
 rw [show a*a*d*e=a*a*(d*e) by ac_rfl,show b*b*e*d=b*b*(d*e) by ac_rfl] at g3
 exact Int.lt_of_mul_lt_mul_right g3 (Int.le_of_lt (Int.mul_pos hd he))
theorem den_posI (r:Rat):0<(r.den:Int):=by have:=r.den_pos;omega
def dnI (p:Rat) (c:Nat):Int:=p.num*10^c / p.den
def hiI (p:Rat) (c:Nat):Int:=upI (p.num*10^c) p.den
def BB (q:Rat):Prop:=BQ 100000 3600 q
theorem BB.fit {q:Rat} (h:BB q):FitQ q:=BQ.fit h (by decide) (by decide)
structure Spec8 (p1 q1 p2 q2:Rat) (c:Nat) (M:Nat→P4) (E:Nat→Int):Prop where
 a0:E 0=0∧M 0=(pq (p1+p2),pq (q1+q2))
 a1:E 1=0∧M 1=(pq (p1-q2),pq (q1-p2))
 a2:∃ x y x' y',(x=p1∨x=q1)∧(y=p2∨y=q2)∧(x'=p1∨x'=q1)∧(y'=p2∨y'=q2)∧(∀ u v,(u=p1∨u=q1)→(v=p2∨v=q2)→x*y≤u*v∧u*v≤x'*y')∧E 2=0∧M 2=(pq (x*y),pq (x'*y'))
 a3:((p2≤0∧0≤q2)∧E 3=50)∨(¬(p2≤0∧0≤q2)∧∃ x y x' y',(x=p1∨x=q1)∧(y=p2∨y=q2)∧(x'=p1∨x'=q1)∧(y'=p2∨y'=q2)∧(∀ u v,(u=p1∨u=q1)→(v=p2∨v=q2)→x / y≤u / v∧u / v≤x' / y')∧E 3=0∧M 3=(pq (x / y),pq (x' / y')))
 a4:E 4=0∧M 4=(pq (minQ p1 p2),pq (maxQ q1 q2))
 a5:(maxQ p1 p2≤minQ q1 q2∧E 5=0∧M 5=(pq (maxQ p1 p2),pq (minQ q1 q2)))∨(¬ maxQ p1 p2≤minQ q1 q2∧E 5=50)
 a6:(p1.num<0∧E 6=50)∨(0≤p1.num∧E 6=0∧M 6=(pq (Rat.divInt ((rtN p1 c:Nat):Int) (10^c)),pq (Rat.divInt (upN q1 c) (10^c))))
 a7:E 7=0∧M 7=(pq (Rat.divInt (dnI p1 c) (10^c)),pq (Rat.divInt (hiI q1 c) (10^c)))
end En
end
section
namespace En
open Go.RowKit Go.Extern.Stop Go.Stop Go.Extern
open Go.Proofs.YtbfonkabmehlmaaGreatDoor.Nm Go.Proofs.YtbfonkabmehlmaaGreatDoor.Rt
end En
end
section
namespace En
open Go.RowKit Go.Extern.Stop Go.Stop Go.Extern
open Go.Proofs.YtbfonkabmehlmaaGreatDoor.Nm Go.Proofs.YtbfonkabmehlmaaGreatDoor.Rt
theorem pickE_any (c n:Int) (h1 : -9223372036854775808≤c) (h2:c≤9223372036854775807) (n1:1≤n) (n2:n≤9223372036854775807) (w:World) :
  Calls Tryz.prog 15 #[.int .i64 c,.int .i64 n] w fun e w'=>∃ k:Nat,(k:Int)<n∧e = .returned (.int .i64 (k:Int))∧Below w.heap.size w w':=by
 have hw:∀ x:Int, -9223372036854775808≤x→x≤9223372036854775807→IntKind.i64.wrap x=x:=fun x a b=>by simp [IntKind.wrap,IntKind.signed,IntKind.bits];omega
 have hn0:¬ n=0:=by omega
 by_cases hc:c<0
 ·have e1:=hw (c+1) (by omega) (by omega)
  have e2:=hw (-(c+1)) (by omega) (by omega)
  obtain ⟨k,hk⟩:∃ k:Nat, -(c+1)=(k:Int):=⟨(-(c+1)).toNat,by omega⟩
  obtain ⟨m,rfl⟩:=Int.eq_ofNat_of_zero_le (show 0≤n by omega)
  have hm:k % m<m:=Nat.mod_lt _ (by omega)
  go_enter Tryz.func15, Tryz.ntmps15
  go_wp2
  go_ret
  exact ⟨k % m,by omega,by congr 2,Below.refl _ _⟩
 ·obtain ⟨k,rfl⟩:=Int.eq_ofNat_of_zero_le (show 0≤c by omega)
  obtain ⟨m,rfl⟩:=Int.eq_ofNat_of_zero_le (show 0≤n by omega)
  have hm:k % m<m:=Nat.mod_lt _ (by omega)
  go_enter Tryz.func15, Tryz.ntmps15
  go_wp2
  go_ret
  exact ⟨k % m,by omega,by congr 2,Below.refl _ _⟩
end En
end
end Go.Proofs.YtbfonkabmehlmaaGreatDoor
