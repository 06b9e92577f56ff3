/-
  Order, grid.
-/
import Derived.Test.YtbfonkabmehlmaaGreatDoorY6B7
set_option maxRecDepth 1000000
set_option maxHeartbeats 40000000
open Go.Value renaming string→Z
open Go.Obj renaming cells→O
namespace Go.Proofs.YtbfonkabmehlmaaGreatDoor
section
namespace Rt
open Go.RowKit Go.Proofs.YtbfonkabmehlmaaGreatDoor.Nm
open N10 (Two)

theorem cmpQ_lt {p q:Rat} (h:p<q):cmpQ p q = -1:=by rw [cmpQ,cmpZ,if_pos ((Rat.lt_iff p q).1 h)]
theorem cmpQ_gt {p q:Rat} (h:q<p):cmpQ p q=1:=by
 have:=(Rat.lt_iff q p).1 h
 rw [cmpQ,cmpZ,if_neg (by omega),if_neg (by omega)]
theorem rat_tri (p q:Rat):p<q∨p=q∨q<p:=by
 by_cases h:p<q
 ·exact .inl h
 ·have h1:=Rat.not_lt.1 h
  by_cases h2:q<p
  ·exact .inr (.inr h2)
  ·exact .inr (.inl (Rat.le_antisymm (Rat.not_lt.1 h2) h1))
theorem cmpQ_ways (p q:Rat):(cmpQ p q = -1∧p<q)∨(cmpQ p q=0∧p=q)∨(cmpQ p q=1∧q<p):=by
 rcases rat_tri p q with h | h | h
 ·exact .inl ⟨cmpQ_lt h,h⟩
 ·exact .inr (.inl ⟨by rw [h,cmpQ_same],h⟩)
 ·exact .inr (.inr ⟨cmpQ_gt h,h⟩)
theorem cmp_le {p q:Rat}:cmpQ p q≤0↔p≤q:=by
 rcases cmpQ_ways p q with ⟨h,hl⟩ | ⟨h,rfl⟩ | ⟨h,hl⟩
 ·exact ⟨fun _=>Rat.le_iff_lt_or_eq.2 (.inl hl),fun _=>by omega⟩
 ·exact ⟨fun _=>Rat.le_refl,fun _=>by omega⟩
 ·exact ⟨fun x=>by omega,fun x=>absurd hl (Rat.not_lt.2 x)⟩
def CmC (o1 o2:Option Rat) (k:Int):Prop:=∀ W:World,Calls Tryz.prog 32 #[.agg #[Z (sn o1),Z (sd o1)],.agg #[Z (sn o2),Z (sd o2)]] W fun e W'=>e = .returned (.int .i64 k)∧Below W.heap.size W W'
theorem CmC.run {o1 o2:Option Rat} {k:Int} (h:CmC o1 o2 k) (W:World):Calls Tryz.prog 32 #[.agg #[Z (sn o1),Z (sd o1)],.agg #[Z (sn o2),Z (sd o2)]] W fun e W'=>e = .returned (.int .i64 k)∧Below W.heap.size W W':=h W
def CmZ (o:Option Rat) (k:Int):Prop:=∀ W:World,Calls Tryz.prog 32 #[.agg #[Z (sn o),Z (sd o)],.agg #[Z ⟨#[48]⟩,Z ⟨#[49]⟩]] W fun e W'=>e = .returned (.int .i64 k)∧Below W.heap.size W W'
theorem CmZ.run {o:Option Rat} {k:Int} (h:CmZ o k) (W:World):Calls Tryz.prog 32 #[.agg #[Z (sn o),Z (sd o)],.agg #[Z ⟨#[48]⟩,Z ⟨#[49]⟩]] W fun e W'=>e = .returned (.int .i64 k)∧Below W.heap.size W W':=h W
end Rt
end
section
namespace Rt
open Go.RowKit Go.Proofs.YtbfonkabmehlmaaGreatDoor.Nm
open N10 (Two)

def T10 (k:Nat):ByteArray:=txt ((10^k:Nat):Int)
theorem T10_zero:T10 0=⟨#[49]⟩:=by decide +kernel
theorem T10_succ (k:Nat):T10 k ++ ⟨#[48]⟩=T10 (k+1):=by
 have hp:∀ k,0<10^k:=fun k=>Nat.pow_pos (by decide)
 have h0:∀ k,txt ((10^k:Nat):Int)=ba (decN (10^k)):=fun k=>by
  have:=hp k
  rw [txt,if_neg (by omega),if_neg (by omega),Int.natAbs_natCast]
 have hd:decN (10^(k+1))=decN (10^k) ++ [48]:=by
  have h1:=hp k
  have h2:10^(k+1)=10^k*10:=Nat.pow_succ ..
  rw [decN_pos (by omega),h2,Nat.mul_div_cancel _ (by decide),Nat.mul_mod_left]
 rw [T10,T10,h0,h0,hd,ba_append];rfl
theorem T10_size (k:Nat):(T10 k).size=k+1:=by
 induction k with
 | zero=>rw [T10_zero];rfl
 | succ k ih=>rw [←T10_succ,ByteArray.size_append,ih];rfl
theorem upI_neg (x y:Int) (hy:0<y):upI x y = -((-x) / y):=by
 have e:=Int.mul_ediv_add_emod x y
 have l1:=Int.emod_nonneg x (show y≠0 by omega)
 have l2:=Int.emod_lt_of_pos x hy
 rw [upI]
 generalize x / y=m at *
 generalize x % y=s at *
 by_cases h:s=0
 ·rw [if_pos h]
  have : -x=y*(-m):=by rw [Int.mul_neg];omega
  rw [this,Int.mul_ediv_cancel_left _ (by omega)];omega
 ·rw [if_neg h]
  have hu:(-x) / y = -m-1∧(-x) % y=y-s:=(Int.ediv_emod_unique hy).2 ⟨by rw [Int.mul_sub,Int.mul_neg];omega,by omega,by omega⟩
  rw [hu.1];omega
theorem upI_natAbs (x y:Int) (hy:0<y):(upI x y).natAbs≤x.natAbs:=by
 rw [upI_neg x y hy,Int.natAbs_neg]
 exact Nat.le_trans (Int.natAbs_ediv_le_natAbs _ _) (by rw [Int.natAbs_neg];exact Nat.le_refl _)
theorem div_bds {x y:Int} (h0:y≠0):(Rat.divInt x y).num.natAbs≤x.natAbs∧(Rat.divInt x y).den≤y.natAbs:=by
 rw [Rat.num_divInt,Rat.den_divInt,if_neg h0]
 refine ⟨Nat.le_trans (Int.natAbs_ediv_le_natAbs _ _) ?_,Nat.div_le_self _ _⟩
 rw [Int.natAbs_mul]
 rcases Int.lt_trichotomy y 0 with h | h | h
 ·rw [Int.sign_eq_neg_one_of_neg h];simp
 ·omega
 ·rw [Int.sign_eq_one_of_pos h];simp
end Rt
end
section
namespace Rt
open Go.RowKit Go.Proofs.YtbfonkabmehlmaaGreatDoor.Nm
open N10 (Two)

theorem rq0:rq 0 = .agg #[Z ⟨#[48]⟩,Z ⟨#[49]⟩]:=by
 rw [rq,rv,show (0:Rat).num=0 from rfl,show (((0:Rat).den:Nat):Int)=1 from rfl,txt_0,txt_1]
theorem downO {q r:Rat} {c:Nat} (hq:FitQ q) (hc:c≤30) (h:downQ q c=some r):Two 96 #[rq q,.int .i64 (c:Int)] (.tuple #[.agg #[Z (txt r.num),Z (txt (r.den:Int))],.int .i64 0]):=fun W=>by
 have:=Down_all (txt q.num) (txt (q.den:Int)) hq.size.1 hq.size.2 (c:Int) W
 rw [downR_q hq c hc,h] at this
 exact this
theorem upO {q r:Rat} {c:Nat} (hq:FitQ q) (hc:c≤30) (h:upQ q c=some r):Two 97 #[rq q,.int .i64 (c:Int)] (.tuple #[.agg #[Z (txt r.num),Z (txt (r.den:Int))],.int .i64 0]):=fun W=>by
 have:=Up_all (txt q.num) (txt (q.den:Int)) hq.size.1 hq.size.2 (c:Int) W
 rw [upR_q hq c hc,h] at this
 exact this
end Rt
end
section
namespace Rt
open Go.RowKit Go.Proofs.YtbfonkabmehlmaaGreatDoor.Nm
open N10 (Two)

theorem T10_int (c:Nat):T10 c=txt ((10:Int)^c):=by
 rw [T10];congr 1
theorem pow_big (c:Nat) (hc:c≤30):((10:Int)^c).natAbs≤10^30∧0<(10:Int)^c:=by
 refine ⟨?_,Int.pow_pos (by decide)⟩
 rw [Int.natAbs_pow];exact Nat.pow_le_pow_right (by decide) hc
end Rt
end
end Go.Proofs.YtbfonkabmehlmaaGreatDoor
