/-
  Fractions of small numbers: what the operations answer; the law's Inside.
-/
import Derived.Test.YtbfonkabmehlmaaGreatDoorY6C7
import Derived.Test.YtbfonkabmehlmaaGreatDoorY6C6
set_option maxRecDepth 1000000
set_option maxHeartbeats 40000000
open Go.Value renaming string→Z
open Go.Obj renaming cells→O
namespace Go.Proofs.YtbfonkabmehlmaaGreatDoor
section
namespace En
open Go.RowKit Go.Extern.Stop Go.Stop Go.Extern
open Go.Proofs.YtbfonkabmehlmaaGreatDoor.Nm Go.Proofs.YtbfonkabmehlmaaGreatDoor.Rt
open N10 (Two)
structure BQ (n d:Nat) (q:Rat):Prop where
 num:q.num.natAbs≤n
 den:q.den≤d
theorem BQ.mono {n d n' d':Nat} {q:Rat} (h:BQ n d q) (hn:n≤n') (hd:d≤d'):BQ n' d' q:=⟨Nat.le_trans h.num hn,Nat.le_trans h.den hd⟩
theorem BQ.fit {n d:Nat} {q:Rat} (h:BQ n d q) (hn:n<10^200) (hd:d<10^200):FitQ q:=⟨fits_small (Nat.lt_of_le_of_lt h.num hn),fits_small (by rw [Int.natAbs_natCast];exact Nat.lt_of_le_of_lt h.den hd)⟩
theorem BQ.of_div {x y:Int} {n d:Nat} (h0:y≠0) (hx:x.natAbs≤n) (hy:y.natAbs≤d):BQ n d (Rat.divInt x y):=⟨Nat.le_trans (div_bds h0).1 hx,Nat.le_trans (div_bds h0).2 hy⟩
theorem as_div (q:Rat):q=Rat.divInt q.num q.den:=(Rat.num_divInt_den q).symm
theorem abs_mul_le {x y:Int} {m n:Nat} (hx:x.natAbs≤m) (hy:y.natAbs≤n):(x*y).natAbs≤m*n:=by rw [Int.natAbs_mul];exact Nat.mul_le_mul hx hy
theorem den_abs {n d:Nat} {q:Rat} (h:BQ n d q):(q.den:Int).natAbs≤d:=by rw [Int.natAbs_natCast];exact h.den
theorem BQ.add {n1 d1 n2 d2:Nat} {p q:Rat} (hp:BQ n1 d1 p) (hq:BQ n2 d2 q):BQ (n1*d2+n2*d1) (d1*d2) (p+q):=by
 have e1:=p.den_pos
 have e2:=q.den_pos
 rw [as_div p,as_div q,Rat.divInt_add_divInt _ _ (by omega) (by omega)]
 refine .of_div (Int.mul_ne_zero (by omega) (by omega)) ?_ (abs_mul_le (den_abs hp) (den_abs hq))
 exact Nat.le_trans (Int.natAbs_add_le _ _) (Nat.add_le_add (abs_mul_le hp.num (den_abs hq)) (abs_mul_le hq.num (den_abs hp)))
theorem BQ.sub {n1 d1 n2 d2:Nat} {p q:Rat} (hp:BQ n1 d1 p) (hq:BQ n2 d2 q):BQ (n1*d2+n2*d1) (d1*d2) (p-q):=by
 have e1:=p.den_pos
 have e2:=q.den_pos
 rw [as_div p,as_div q,Rat.divInt_sub_divInt _ _ (by omega) (by omega)]
 refine .of_div (Int.mul_ne_zero (by omega) (by omega)) ?_ (abs_mul_le (den_abs hp) (den_abs hq))
 exact Nat.le_trans (Int.natAbs_sub_le _ _) (Nat.add_le_add (abs_mul_le hp.num (den_abs hq)) (abs_mul_le hq.num (den_abs hp)))
theorem fits_lt10 {z:Int} {n:Nat} (h:z.natAbs≤n) (hn:n<10^200):Fits z:=fits_small (Nat.lt_of_le_of_lt h hn)
theorem addR_O {o1 o2:Option Rat} (h1:FitO o1) (h2:FitO o2):Ret 80 #[vO o1,vO o2] (resO (lift2 addQ o1 o2)):=fun W=>by
 have:=AddR_all (sn o1) (sd o1) (sn o2) (sd o2) h1.sizes.1 h1.sizes.2 h2.sizes.1 h2.sizes.2 W
 rw [addB h1 h2] at this
 exact this
theorem subR_O {o1 o2:Option Rat} (h1:FitO o1) (h2:FitO o2):Ret 11 #[vO o1,vO o2] (resO (lift2 subQ o1 o2)):=fun W=>by
 have:=SubR_all (sn o1) (sd o1) (sn o2) (sd o2) h1.sizes.1 h1.sizes.2 h2.sizes.1 h2.sizes.2 W
 rw [subB h1 h2] at this
 exact this
theorem mulR_O {o1 o2:Option Rat} (h1:FitO o1) (h2:FitO o2):Ret 79 #[vO o1,vO o2] (resO (lift2 mulQ o1 o2)):=fun W=>by
 have:=MulR_all (sn o1) (sd o1) (sn o2) (sd o2) h1.sizes.1 h1.sizes.2 h2.sizes.1 h2.sizes.2 W
 rw [mulB h1 h2] at this
 exact this
end En
end
section
namespace En
open Go.RowKit Go.Extern.Stop Go.Stop Go.Extern
open Go.Proofs.YtbfonkabmehlmaaGreatDoor.Nm Go.Proofs.YtbfonkabmehlmaaGreatDoor.Rt
theorem sqN_neg {r:Rat} {c:Nat} (h0:r.num<0) (hf2:Fits (r.num*10^c*10^c)):Fits (sqN r c)∧sqN r c<0:=by
 have hd:(0:Int)<(r.den:Int):=by have:=r.den_pos;omega
 have hP:(0:Int)<10^c:=Int.pow_pos (by decide)
 have hn:r.num*10^c*10^c<0:=Int.mul_neg_of_neg_of_pos (Int.mul_neg_of_neg_of_pos h0 hP) hP
 have h1:sqN r c<0:=Int.ediv_neg_of_neg_of_pos hn hd
 refine ⟨fits_le hf2 ?_,h1⟩
 have h2:=Int.natAbs_ediv_le_natAbs (r.num*10^c*10^c) (r.den:Int)
 exact h2
theorem root_neg_q (a:Addr) {r:Rat} (hr:FitQ r) (h0:r.num<0) {c:Nat} (hc:Fits ((10:Int)^c)) (hf1:Fits (r.num*10^c)) (hf2:Fits (r.num*10^c*10^c)) (o:ByteArray) (ex:Bool):RootC a (txt r.num) (txt (r.den:Int)) (txt (10^c)) o ex true:=by
 intro W hW
 obtain ⟨h1,h2⟩:=sqN_neg h0 hf2
 have c':=root_any a (txt r.num) (txt (r.den:Int)) (txt (10^c)) (txt (r.num*10^c)) (txt (r.num*10^c*10^c)) (txt (sqN r c)) (txt (r.num*10^c*10^c % (r.den:Int))) ⟨#[]⟩ ⟨#[]⟩ 0 0 0 30 (decide (r.num*10^c*10^c % (r.den:Int)=0)) ((⟨#[]⟩:ByteArray).toList == (txt (sqN r c)).toList)
  (fun V=>by have:=Mul_ok r.num (10^c) hr.1 hc V;rw [calcR_fit hf1] at this;exact this)
  (fun _ V=>by have:=Mul_ok (r.num*10^c) (10^c) hf1 hc V;rw [calcR_fit hf2] at this;exact this)
  (fun _ _ V=>Div_ok _ _ hf2 hr.2 (by have:=r.den_pos;omega) V)
  (fun _ _ V=>Root_neg (sqN r c) h1 h2 V)
  (txt_eq0 _)
  (fun _ _ h=>absurd h (by decide))
  rfl W hW
 rw [if_neg (fun h=>absurd h.2.2 (by decide))] at c'
 rw [if_neg (by decide)]
 exact c'
end En
end
section
namespace En
end En
end
section
namespace En
open Go.RowKit Go.Extern.Stop Go.Stop Go.Extern
open Go.Proofs.YtbfonkabmehlmaaGreatDoor.Nm Go.Proofs.YtbfonkabmehlmaaGreatDoor.Rt
open N10 (Two)
end En
end
end Go.Proofs.YtbfonkabmehlmaaGreatDoor
