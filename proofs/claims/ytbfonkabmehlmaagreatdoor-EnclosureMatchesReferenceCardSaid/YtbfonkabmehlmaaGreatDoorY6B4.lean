/-
  Contracts.
-/
import Derived.Test.YtbfonkabmehlmaaGreatDoorY6B3
import Derived.Test.YtbfonkabmehlmaaGreatDoorY6A4
set_option maxRecDepth 1000000
set_option maxHeartbeats 40000000
open Go.Value renaming string→Z
open Go.Obj renaming cells→O
namespace Go.Proofs.YtbfonkabmehlmaaGreatDoor
section
namespace N10
open Go.RowKit
open Nm (decN decN_zero decN_pos decN_dig decN_head decN_nil dvl dvl_snoc dvl_append decN_dvl)

theorem txt_nonneg (z:Int) (h:0≤z):(∀ y∈bl (txt z),48≤y∧y<58)∧dvl (bl (txt z))=z.natAbs∧bl (txt z) ≠ []:=by
 rw [txt_bl]
 by_cases h0:z=0
 ·rw [if_pos h0,h0];exact ⟨by simp,rfl,by simp⟩
 ·rw [if_neg h0,if_neg (by omega)]
  exact ⟨decN_dig _,decN_dvl _,fun e=>by have:=decN_nil.1 e;omega⟩
theorem size_pos {s:ByteArray} (h:bl s ≠ []):0<s.size:=by
 rw [←bl_len];exact List.length_pos_iff.2 h
theorem getD_mem {l:List Nat} {k:Nat} (h:k<l.length):l.getD k 0∈l:=by
 rw [List.getD_eq_getElem?_getD,List.getElem?_eq_getElem h];exact List.getElem_mem h
end N10
end
section
namespace N10
open Go.RowKit

theorem tmod_neg (m:Nat):Int.tmod (-(m:Int)) 10 = -((m % 10:Nat):Int):=by
 rw [Int.neg_tmod,Int.tmod_eq_emod_of_nonneg (by omega)];omega
theorem tdiv_neg (m:Nat):Int.tdiv (-(m:Int)) 10 = -((m / 10:Nat):Int):=by
 rw [Int.neg_tdiv,Int.tdiv_eq_ediv_of_nonneg (by omega)];omega
theorem tmod_pos (m:Nat):Int.tmod (m:Int) 10=((m % 10:Nat):Int):=by
 rw [Int.tmod_eq_emod_of_nonneg (by omega)];omega
theorem tdiv_pos (m:Nat):Int.tdiv (m:Int) 10=((m / 10:Nat):Int):=by
 rw [Int.tdiv_eq_ediv_of_nonneg (by omega)];omega
theorem natL_word {n:Nat} (h:n<18446744073709551616):(natL n).length≤20:=natL_len_le (Nat.lt_of_lt_of_le h (by decide +kernel))
def FI (w wr:World) (lv:Value) (ds:List Nat) (m n:Nat):Prop :=
 OwnJ wr w.heap.size lv ds∧natL n=ds++natL m∧Below w.heap.size w wr∧ds.length≤20
set_option maxRecDepth 100000 in
theorem FromInt_ref (n:Int) (h1 : -9223372036854775808≤n) (h2:n≤9223372036854775807) (w:World) :
  Calls Tryz.prog 102 #[.int .i64 n] w fun e w'=>e = .returned (Z (txt n))∧Below w.heap.size w w':=by
 obtain ⟨i0,hinf,hz0,hz1,hz2⟩:=info_parts infoI8
 obtain ⟨neg,hneg⟩:∃ neg,neg=decide (n<0):=⟨_,rfl⟩
 obtain ⟨N,hN⟩:∃ N,N=n.natAbs:=⟨_,rfl⟩
 have hsg:=sg_of n
 rw [←hneg,←hN] at hsg
 have hNb:N≤9223372036854775808:=by omega
 have ct:=fun v W h=>text_ref2 N neg v W h (by have:=natL_word (n:=N) (by omega);omega)
 rw [hsg] at ct
 have hNp:neg=false→N≤9223372036854775807:=fun h=>by rw [hneg,decide_eq_false_iff_not] at h;omega
 have hnl:=natL_word (n:=N) (by omega)
 have HD:Shut (decide (n<0)=neg):=⟨hneg.symm⟩
 have HSG:Shut (sg neg N=n):=⟨hsg⟩
 have HNL:Shut _:=⟨hnl⟩
 clear hneg hN hsg hnl
 generalize hs:txt n=s at *
 clear hs
 go_enter Tryz.func102, Tryz.ntmps102
 go_wp2
 go_loopw [3,4] (fun lv mv wr=>∃ (ds:List Nat) (m:Nat),mv = .int .i64 (sg neg m)∧m≤N∧Shut (FI w wr lv ds m N)) (fun _ mv _=>(intOf mv).natAbs)
 case atStart=>exact ⟨[],N,by rw [HSG.o],Nat.le_refl _,⟨⟨OwnJ.nil _ _,rfl,Below.refl _ _,by simp⟩⟩⟩
 case round =>
  rename World=>wo
  obtain ⟨ds,m,rfl,hm,hS⟩:=hrel
  cases neg
  ·have hM:sg false m=(m:Int):=rfl
   rw [hM]
   by_cases hm0:m=0
   ·subst hm0
    have hr:=hS.o.1.ni
    have hE:=hS.o.2.1
    rw [natL_zero,List.append_nil] at hE
    rw [←hE] at hr
    have c9:=ct u3 wo hr
    have HB9:Shut _:=⟨hS.o.2.2.1⟩
    have hd9:=HD.o
    clear hS hr hE ct HSG HNL
    go_wp2_with (go_at_call 149; refine (c9).mono ?_;rintro e w5 ⟨rfl,hb5⟩)
    go_ret
    exact ⟨rfl,HB9.o.trans (hb5.mono HB9.o.size)⟩
   ·have hO2:=hS.o.1
    have hE:=hS.o.2.1
    rw [natL_pos hm0] at hE
    obtain ⟨d,hd⟩:∃ d,d=m % 10:=⟨_,rfl⟩
    obtain ⟨q,hq⟩:∃ q,q=m / 10:=⟨_,rfl⟩
    rw [←hd,←hq] at hE
    have t1:=tmod_pos m
    have t2:=tdiv_pos m
    rw [←hd] at t1
    rw [←hq] at t2
    have hql:q<m:=by omega
    have hd10:d<10:=by omega
    have hq2:q≤N:=by omega
    have hdl:ds.length≤19:=by
     have:=congrArg List.length hE
     have:=HNL.o
     rw [List.length_append,List.length_cons] at *
     omega
    have HQL:Shut (q<m):=⟨hql⟩
    have HE9:Shut (natL N=(ds ++ [d])++natL q):=⟨by rw [hE,List.append_assoc];rfl⟩
    have HB9:Shut _:=⟨hS.o.2.2.1⟩
    have hbs:=HB9.o.size
    have hM0:¬(m:Int)=0:=by omega
    have hMa:(intOf (Value.int .i64 (m:Int))).natAbs=m:=by simp [intOf]
    have HMA:Shut _:=⟨hMa⟩
    clear hS hE hd hq hql hM ct hm0 hMa
    have hb1 : -9223372036854775808≤(m:Int):=by omega
    have hb2:(m:Int)≤9223372036854775807:=by have:=hNp rfl;omega
    have hq3:(q:Int)≤9223372036854775807:=by have:=HQL.o;omega
    clear hNp
    generalize hZZ:(m:Int)=M at *
    clear hZZ
    by_cases hd0:d=0
    ·subst hd0
     go_wp2_with (at_builtin;go_must (refine wpList_append_own _ rfl _ _ 39 rfl w.heap.size 3 i0 (.int .i64 0) 1 8 Tryz.underlying39 hinf hz0 hz1 hz2 rfl (by decide) _ _ _ rfl (World.ownsRow.alloc hO2 _) ⟨_,0,none⟩ 1 1 [.int .i64 0] rfl rfl (cell_one_new _ _ _) (by simp [Value.oneCell']) (by unfold maxLen;omega) (by omega) (by rw [World.size_alloc];omega) ?_);intro v' w' hown' hgrow _;have hB':=below_grownV (HB9.o.alloc hbs _) (Nat.le_refl _) (World.ownsRow.alloc hO2 _) hgrow)
     exact ⟨⟨ds ++ [0],q,rfl,hq2,⟨⟨OwnJ.snoc hown',HE9.o,hB',by simp;omega⟩⟩⟩,by rw [HMA.o];simp [intOf];exact HQL.o⟩
    ·have hdn:¬((d:Nat):Int)<0:=by omega
     go_wp2_with (at_builtin;go_must (refine wpList_append_own _ rfl _ _ 39 rfl w.heap.size 3 i0 (.int .i64 0) 1 8 Tryz.underlying39 hinf hz0 hz1 hz2 rfl (by decide) _ _ _ rfl (World.ownsRow.alloc hO2 _) ⟨_,0,none⟩ 1 1 [.int .i64 ((d:Nat):Int)] rfl rfl (cell_one_new _ _ _) (by simp [Value.oneCell']) (by unfold maxLen;omega) (by omega) (by rw [World.size_alloc];omega) ?_);intro v' w' hown' hgrow _;have hB':=below_grownV (HB9.o.alloc hbs _) (Nat.le_refl _) (World.ownsRow.alloc hO2 _) hgrow)
     exact ⟨⟨ds ++ [d],q,rfl,hq2,⟨⟨OwnJ.snoc hown',HE9.o,hB',by simp;omega⟩⟩⟩,by rw [HMA.o];simp [intOf];exact HQL.o⟩
  ·have hM:sg true m=(-(m:Int)):=rfl
   rw [hM]
   by_cases hm0:m=0
   ·subst hm0
    have hr:=hS.o.1.ni
    have hE:=hS.o.2.1
    rw [natL_zero,List.append_nil] at hE
    rw [←hE] at hr
    have c9:=ct u3 wo hr
    have HB9:Shut _:=⟨hS.o.2.2.1⟩
    have hd9:=HD.o
    clear hS hr hE ct HSG HNL
    go_wp2_with (go_at_call 149; refine (c9).mono ?_;rintro e w5 ⟨rfl,hb5⟩)
    go_ret
    exact ⟨rfl,HB9.o.trans (hb5.mono HB9.o.size)⟩
   ·have hO2:=hS.o.1
    have hE:=hS.o.2.1
    rw [natL_pos hm0] at hE
    obtain ⟨d,hd⟩:∃ d,d=m % 10:=⟨_,rfl⟩
    obtain ⟨q,hq⟩:∃ q,q=m / 10:=⟨_,rfl⟩
    rw [←hd,←hq] at hE
    have t1:=tmod_neg m
    have t2:=tdiv_neg m
    rw [←hd] at t1
    rw [←hq] at t2
    have hql:q<m:=by omega
    have hd10:d<10:=by omega
    have hq2:q≤N:=by omega
    have hdl:ds.length≤19:=by
     have:=congrArg List.length hE
     have:=HNL.o
     rw [List.length_append,List.length_cons] at *
     omega
    have HQL:Shut (q<m):=⟨hql⟩
    have HE9:Shut (natL N=(ds ++ [d])++natL q):=⟨by rw [hE,List.append_assoc];rfl⟩
    have HB9:Shut _:=⟨hS.o.2.2.1⟩
    have hbs:=HB9.o.size
    have hM0:¬(-(m:Int))=0:=by omega
    have hMa:(intOf (Value.int .i64 (-(m:Int)))).natAbs=m:=by simp [intOf]
    have HMA:Shut _:=⟨hMa⟩
    clear hS hE hd hq hql hM ct hm0 hMa
    have hb1 : -9223372036854775808≤(-(m:Int)):=by omega
    have hb2:(-(m:Int))≤9223372036854775807:=by omega
    clear hNp
    generalize hZZ:(-(m:Int))=M at *
    clear hZZ
    by_cases hd0:d=0
    ·subst hd0
     go_wp2_with (at_builtin;go_must (refine wpList_append_own _ rfl _ _ 39 rfl w.heap.size 3 i0 (.int .i64 0) 1 8 Tryz.underlying39 hinf hz0 hz1 hz2 rfl (by decide) _ _ _ rfl (World.ownsRow.alloc hO2 _) ⟨_,0,none⟩ 1 1 [.int .i64 0] rfl rfl (cell_one_new _ _ _) (by simp [Value.oneCell']) (by unfold maxLen;omega) (by omega) (by rw [World.size_alloc];omega) ?_);intro v' w' hown' hgrow _;have hB':=below_grownV (HB9.o.alloc hbs _) (Nat.le_refl _) (World.ownsRow.alloc hO2 _) hgrow)
     exact ⟨⟨ds ++ [0],q,rfl,hq2,⟨⟨OwnJ.snoc hown',HE9.o,hB',by simp;omega⟩⟩⟩,by rw [HMA.o];simp [intOf];exact HQL.o⟩
    ·have hdn : -((d:Nat):Int)<0:=by omega
     go_wp2_with (at_builtin;go_must (refine wpList_append_own _ rfl _ _ 39 rfl w.heap.size 3 i0 (.int .i64 0) 1 8 Tryz.underlying39 hinf hz0 hz1 hz2 rfl (by decide) _ _ _ rfl (World.ownsRow.alloc hO2 _) ⟨_,0,none⟩ 1 1 [.int .i64 ((d:Nat):Int)] rfl rfl (cell_one_new _ _ _) (by simp [Value.oneCell']) (by unfold maxLen;omega) (by omega) (by rw [World.size_alloc];omega) ?_);intro v' w' hown' hgrow _;have hB':=below_grownV (HB9.o.alloc hbs _) (Nat.le_refl _) (World.ownsRow.alloc hO2 _) hgrow)
     exact ⟨⟨ds ++ [d],q,rfl,hq2,⟨⟨OwnJ.snoc hown',HE9.o,hB',by simp;omega⟩⟩⟩,by rw [HMA.o];simp [intOf];exact HQL.o⟩
end N10
end
section
namespace N10
open Go.RowKit

theorem OwnJ.zero (W:World) (B:Nat) (h:B≤W.heap.size):OwnJ (W.alloc (O #[] 3)) B (.slice (some ⟨W.heap.size,0,none⟩) 0 0) [] :=
 ⟨by simp,.inr ⟨W.heap.size,0,#[],rfl,h,RowAt.new W _ _,by simp,by unfold maxLen;omega,by simp,by simp⟩⟩
theorem root_end (s j d X:Nat) (hX:X=10^(j+1)*(s / 10^(j+1))+10^j*d) (h1:s<X+10^j) (h2:d=0∨X≤s):X=10^j*(s / 10^j):=by
 have hp:0<10^j:=Nat.pow_pos (by decide)
 have hle:X≤s:=by
  rcases h2 with rfl | h
  ·rw [hX,Nat.mul_zero,Nat.add_zero];exact Nat.mul_div_le _ _
  ·exact h
 have e:X=10^j*(10*(s / 10^(j+1))+d):=by rw [hX,Nat.pow_succ,Nat.mul_add,Nat.mul_assoc]
 generalize 10*(s / 10^(j+1))+d=t at *
 have:s / 10^j=t:=by
  refine Nat.div_eq_of_lt_le ?_ ?_
  ·rw [Nat.mul_comm,←e];exact hle
  ·rw [Nat.mul_comm,Nat.mul_succ,←e];exact h1
 rw [this];exact e
theorem root_room (s j h d:Nat) (hj:j<h) (hs:s<10^h) (hd:d≤9):10^(j+1)*(s / 10^(j+1))+10^j*d<10^h:=by
 have hq:s / 10^(j+1)<10^(h-(j+1)):=by
  rw [Nat.div_lt_iff_lt_mul (Nat.pow_pos (by decide)),←Nat.pow_add,show h-(j+1)+(j+1)=h by omega];exact hs
 have h1:10^(j+1)*(s / 10^(j+1)+1)≤10^(j+1)*10^(h-(j+1)):=Nat.mul_le_mul_left _ hq
 rw [←Nat.pow_add,show j+1+(h-(j+1))=h by omega,Nat.mul_add,Nat.mul_one] at h1
 have h2:10^j*d<10^(j+1):=by
  rw [Nat.pow_succ];exact Nat.mul_lt_mul_of_pos_left (by omega) (Nat.pow_pos (by decide))
 omega
theorem root_first (s j:Nat):s<10^(j+1)*(s / 10^(j+1))+10^j*9+10^j:=by
 have h1:=Nat.div_add_mod s (10^(j+1))
 have h2:=Nat.mod_lt s (show 0<10^(j+1) from Nat.pow_pos (by decide))
 have:10^(j+1)=10^j*9+10^j:=by rw [Nat.pow_succ];omega
 omega
def dgt (W:World) (g j:Nat):Nat:=match W.cell? ⟨g,j,none⟩ with | some (.int _ d)=>d.toNat | _=>0

end N10
end
section
namespace N10
open Go.RowKit

def Two (f:Nat) (args:Array Value) (v:Value):Prop:=∀ W:World,Calls Tryz.prog f args W fun e W'=>e = .returned v∧Below W.heap.size W W'
theorem Two.run {f:Nat} {args:Array Value} {v:Value} (h:Two f args v) (W:World):Calls Tryz.prog f args W fun e W'=>e = .returned v∧Below W.heap.size W W':=h W
theorem both (s t:ByteArray):(∃ x y:Int,s=txt x∧t=txt y∧Fits x∧Fits y)∨(validB s=false∨validB t=false):=by
 cases h1:validB s with
 | false=>exact .inr (.inl rfl)
 | true =>
  cases h2:validB t with
  | false=>exact .inr (.inr rfl)
  | true =>
   obtain ⟨x,e1,f1⟩:=valid_is h1
   obtain ⟨y,e2,f2⟩:=valid_is h2
   exact .inl ⟨x,y,e1,e2,f1,f2⟩
theorem one (s:ByteArray):(∃ x:Int,s=txt x∧Fits x)∨validB s=false:=by
 cases h1:validB s with
 | false=>exact .inr rfl
 | true =>
  obtain ⟨x,e1,f1⟩:=valid_is h1
  exact .inl ⟨x,e1,f1⟩
theorem nb {s t:ByteArray} (h:validB s=false∨validB t=false):(validB s && validB t)=false:=by
 rcases h with h | h <;> rw [h] <;> simp
theorem pair_Add (s t:ByteArray) (hs:s.size≤1000000) (ht:t.size≤1000000):∃ (r:ByteArray) (k:Int),Two 70 #[Z s,Z t] (.tuple #[Z r,.int .i64 k])∧Two 133 #[Z s,Z t] (.tuple #[Z r,.int .i64 k]):=by
 rcases both s t with ⟨x,y,rfl,rfl,hx,hy⟩ | h
 ·obtain ⟨r,k,h⟩:=calcR_two (x+y)
  exact ⟨r,k,fun W=>h▸Add_ok x y hx hy W,fun W=>h▸Add_ref x y hx hy W⟩
 ·exact ⟨_,_,fun W=>Go.Proofs.YtbfonkabmehlmaaGreatDoor.Add_bad s t hs ht (nb h) W,fun W=>Add_bad s t hs ht h W⟩
theorem pair_Sub (s t:ByteArray) (hs:s.size≤1000000) (ht:t.size≤1000000):∃ (r:ByteArray) (k:Int),Two 71 #[Z s,Z t] (.tuple #[Z r,.int .i64 k])∧Two 46 #[Z s,Z t] (.tuple #[Z r,.int .i64 k]):=by
 rcases both s t with ⟨x,y,rfl,rfl,hx,hy⟩ | h
 ·obtain ⟨r,k,h⟩:=calcR_two (x-y)
  exact ⟨r,k,fun W=>h▸Sub_ok x y hx hy W,fun W=>h▸Sub_ref x y hx hy W⟩
 ·exact ⟨_,_,fun W=>Go.Proofs.YtbfonkabmehlmaaGreatDoor.Sub_bad s t hs ht (nb h) W,fun W=>Sub_bad s t hs ht h W⟩
theorem pair_Mul (s t:ByteArray) (hs:s.size≤1000000) (ht:t.size≤1000000):∃ (r:ByteArray) (k:Int),Two 75 #[Z s,Z t] (.tuple #[Z r,.int .i64 k])∧Two 99 #[Z s,Z t] (.tuple #[Z r,.int .i64 k]):=by
 rcases both s t with ⟨x,y,rfl,rfl,hx,hy⟩ | h
 ·obtain ⟨r,k,h⟩:=calcR_two (x*y)
  exact ⟨r,k,fun W=>h▸Mul_ok x y hx hy W,fun W=>h▸Mul_ref x y hx hy W⟩
 ·exact ⟨_,_,fun W=>Go.Proofs.YtbfonkabmehlmaaGreatDoor.Mul_bad s t hs ht (nb h) W,fun W=>Mul_bad s t hs ht h W⟩
theorem pair_Div (s t:ByteArray) (hs:s.size≤1000000) (ht:t.size≤1000000):∃ (q r:ByteArray) (k:Int),Two 77 #[Z s,Z t] (.tuple #[Z q,Z r,.int .i64 k])∧Two 98 #[Z s,Z t] (.tuple #[Z q,Z r,.int .i64 k]):=by
 rcases both s t with ⟨x,y,rfl,rfl,hx,hy⟩ | h
 ·by_cases h0:y=0
  ·subst h0
   exact ⟨_,_,_,fun W=>Div_zero x hx W,fun W=>Div_zeroR x hx W⟩
  ·exact ⟨_,_,_,fun W=>Div_ok x y hx hy h0 W,fun W=>Div_ref x y hx hy h0 W⟩
 ·exact ⟨_,_,_,fun W=>Div_bad s t hs ht (nb h) W,fun W=>Div_badR s t hs ht h W⟩
theorem fits_gcd (x y:Int) (hx:Fits x) (hy:Fits y):Fits ((Nat.gcd x.natAbs y.natAbs:Nat):Int):=by
 unfold Fits
 rw [Int.natAbs_natCast,decN_len]
 rcases Nat.eq_zero_or_pos x.natAbs with h | h
 ·rw [h,Nat.gcd_zero_left];exact fitsL hy
 ·exact Nat.le_trans (natL_len_mono (Nat.gcd_le_left _ h)) (fitsL hx)
end N10
end
end Go.Proofs.YtbfonkabmehlmaaGreatDoor
