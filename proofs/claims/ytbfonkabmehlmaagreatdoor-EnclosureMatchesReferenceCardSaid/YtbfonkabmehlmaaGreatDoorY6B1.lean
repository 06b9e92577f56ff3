/-
  The reference: plus, minus.
  The reference: minus.
  The reference: times.
  The reference: divided.
-/
import Derived.Test.YtbfonkabmehlmaaGreatDoorY6A9
set_option maxRecDepth 1000000
set_option maxHeartbeats 40000000
open Go.Value renaming string→Z
open Go.Obj renaming cells→O
namespace Go.Proofs.YtbfonkabmehlmaaGreatDoor
section
namespace N10
open Go.RowKit

theorem nv_take_all (l:List Nat) (i:Nat):nv (l.take (i+1))=nv (l.take i)+10^i*l.getD i 0:=by
 rcases Nat.lt_or_ge i l.length with h | h
 ·exact nv_take_succ l i h
 ·rw [List.take_of_length_le (by omega),List.take_of_length_le h,List.getD_eq_getElem?_getD,List.getElem?_eq_none h];simp
theorem padL_nat (n v:Nat) (h1:v<10^n) (h2:n=0∨10^(n-1)≤v):padL n v=natL v:=by
 have hle:=natL_len_le h1
 have hlen:(natL v).length=n:=by
  rcases Nat.lt_or_ge (natL v).length n with h | h
  ·exfalso
   have h3:=natL_lt v
   have h4:10^(natL v).length≤10^(n-1):=Nat.pow_le_pow_right (by decide) (by omega)
   rcases h2 with h2 | h2
   ·omega
   ·omega
  ·omega
 have:=padL_eq (natL_dig v)
 rwa [hlen,natL_nv] at this
theorem plus_round {A B:List Nat} (i r c n:Nat) (he:nv (A.take i)+nv (B.take i)=r+10^i*c) (hn:n=c+A.getD i 0+B.getD i 0) :
  nv (A.take (i+1))+nv (B.take (i+1))=(r+10^i*(n % 10))+10^(i+1)*(n / 10):=by
 rw [nv_take_all,nv_take_all,Nat.pow_succ]
 have hm:n=n % 10+10*(n / 10):=by omega
 generalize n % 10=d at *
 generalize n / 10=c' at *
 generalize 10^i=P at *
 grind
theorem dig_pow (i r d:Nat) (hr:r<10^i) (hd:d<10):r+10^i*d<10^(i+1):=by
 rw [Nat.pow_succ]
 have:10^i*d≤10^i*9:=Nat.mul_le_mul_left _ (by omega)
 omega
theorem getD_out {l:List Nat} {i:Nat} (h:l.length≤i):l.getD i 0=0:=by rw [List.getD_eq_getElem?_getD,List.getElem?_eq_none h];rfl

theorem plus_ref (x y:Nat) (va vb:Value) (w:World) (ha:NI w va (natL x)) (hb:NI w vb (natL y)) (hla:(natL x).length≤2000) (hlb:(natL y).length≤2000) :
  Calls Tryz.prog 147 #[va,vb] w fun e w'=>∃ v,e = .returned v∧NI w' v (natL (x+y))∧Below w.heap.size w w':=by
 obtain ⟨pa,ca,ga,oa,rfl,_,_,hpa,hua⟩:=ha.open
 obtain ⟨pb,cb,gb,ob,rfl,_,_,hpb,hub⟩:=hb.open
 obtain ⟨i0,hinf,hz0,hz1,hz2⟩:=info_parts infoI8
 obtain ⟨la,hla2⟩:∃ la,la=(natL x).length:=⟨_,rfl⟩
 obtain ⟨lb,hlb2⟩:∃ lb,lb=(natL y).length:=⟨_,rfl⟩
 have HLA:Shut _:=⟨hla2⟩
 have HLB:Shut _:=⟨hlb2⟩
 have HUA:Shut _:=⟨hua⟩
 have HUB:Shut _:=⟨hub⟩
 have HPA:Shut _:=⟨hpa⟩
 have HPB:Shut _:=⟨hpb⟩
 rw [←hla2,←hlb2]
 rw [←hla2] at hla
 rw [←hlb2] at hlb
 clear hla2 hlb2 hua hub hpa hpb ha hb
 go_enter Tryz.func147, Tryz.ntmps147
 go_wp2
 go_loopw [5,6,7] (fun v cv iv wr=>∃ i c r:Nat,i≤max la lb+1∧c≤1∧cv = .int .i64 (c:Int)∧iv = .int .i64 (i:Int)∧Shut (OwnJ wr w.heap.size v (padL i r))∧Shut (Below w.heap.size w wr)∧Shut (r<10^i∧nv ((natL x).take i)+nv ((natL y).take i)=r+10^i*c∧(i≤max la lb∨10^(i-1)≤x+y)∧(i≤max la lb∨c=0))) (fun _ _ iv _=>max la lb+1-(intOf iv).toNat)
 case atStart=>exact ⟨0,0,0,by omega,by omega,rfl,rfl,⟨OwnJ.nil _ _⟩,⟨Below.refl _ _⟩,⟨by decide,by simp [nv],.inl (by omega),.inl (by omega)⟩⟩
 case round =>
  obtain ⟨i,c,r,hi,hc,rfl,rfl,hO,hB,hE⟩:=hrel
  have hdx:=(natL_dig x).getD i
  have hdy:=(natL_dig y).getD i
  have hO2:=hO.o
  have hbs:=hB.o.size
  have hpl:(padL i r).length≤3000:=by rw [padL_len];omega
  have HST:Shut (∀ n:Nat,n=c+(natL x).getD i 0+(natL y).getD i 0→i≤max la lb→(i<max la lb∨0<c)→padL (i+1) (r+10^i*(n % 10))=padL i r ++ [n % 10]∧n / 10≤1∧r+10^i*(n % 10)<10^(i+1)∧nv ((natL x).take (i+1))+nv ((natL y).take (i+1))=(r+10^i*(n % 10))+10^(i+1)*(n / 10)∧(i+1≤max la lb∨10^(i+1-1)≤x+y)∧(i+1≤max la lb∨n / 10=0)):=⟨fun n hn him hgo=>by
   have h1:=plus_round i r c n hE.o.2.1 hn
   refine ⟨padL_succ i r _ hE.o.1 (by omega),by omega,dig_pow i r _ hE.o.1 (by omega),h1, ?_, ?_⟩
   rotate_left
   ·by_cases h2:i<max la lb
    ·exact .inl (by omega)
    ·right
     have e1:(natL x).getD i 0=0:=getD_out (by have:=HLA.o;omega)
     have e2:(natL y).getD i 0=0:=getD_out (by have:=HLB.o;omega)
     omega
   rcases hgo with h | h
   ·exact .inl (by omega)
   ·by_cases h2:i<max la lb
    ·exact .inl (by omega)
    ·right
     have h3:=hE.o.2.1
     rw [List.take_of_length_le (show (natL x).length≤i by have:=HLA.o;omega),List.take_of_length_le (show (natL y).length≤i by have:=HLB.o;omega),natL_nv,natL_nv] at h3
     rw [Nat.add_sub_cancel,h3]
     have:10^i*1≤10^i*c:=Nat.mul_le_mul_left _ h
     omega⟩
  by_cases h1:i<la
  ·by_cases h2:i<lb
   ·have hia:(i:Int)<(la:Int):=by omega
    have hib:(i:Int)<(lb:Int):=by omega
    obtain ⟨hpa1,hga⟩:=HPA.o (by rw [←HLA.o];omega)
    subst hpa1
    have hca:=(hB.o.cell (p:=⟨ga,oa+i,none⟩) hga).trans (HUA.o i (by rw [←HLA.o];omega))
    obtain ⟨hpb1,hgb⟩:=HPB.o (by rw [←HLB.o];omega)
    subst hpb1
    have hcb:=(hB.o.cell (p:=⟨gb,ob+i,none⟩) hgb).trans (HUB.o i (by rw [←HLB.o];omega))
    have hS:=HST.o (c+(natL x).getD i 0+(natL y).getD i 0) (by omega) (by omega) (by omega)
    have HS:Shut _:=⟨hS⟩
    have HB9:Shut _:=⟨hB.o⟩
    clear HST hS hE hO
    generalize (natL x).getD i 0=a at *
    generalize (natL y).getD i 0=b at *
    generalize padL i r=xs at *
    go_wp2_with (at_builtin;go_must (refine wpList_append_own _ rfl _ _ 39 rfl w.heap.size 3 i0 (.int .i64 0) 1 8 Tryz.underlying39 hinf hz0 hz1 hz2 rfl (by decide) _ _ _ rfl (World.ownsRow.alloc hO2 _) ⟨_,0,none⟩ 1 1 [.int .i64 (((c:Int)+(a:Int)+(b:Int)) % 10)] rfl rfl (cell_one_new _ _ _) (by simp [Value.oneCell']) (by unfold maxLen;omega) (by omega) (by rw [World.size_alloc];omega) ?_);intro v' w' hown' hgrow _;have hB':=below_grownV (HB9.o.alloc hbs _) (Nat.le_refl _) (World.ownsRow.alloc hO2 _) hgrow)
    rw [show (((c:Int)+(a:Int)+(b:Int)) % 10)=(((c+a+b) % 10:Nat):Int) by omega] at hown'
    exact ⟨⟨i+1,(c+a+b) / 10,_,by omega,HS.o.2.1,by congr 1;try omega,by go_num,⟨by rw [HS.o.1];exact OwnJ.snoc hown'⟩,⟨hB'⟩,⟨HS.o.2.2⟩⟩,by simp [intOf];omega⟩
   ·have hia:(i:Int)<(la:Int):=by omega
    have hib:¬(i:Int)<(lb:Int):=by omega
    obtain ⟨hpa1,hga⟩:=HPA.o (by rw [←HLA.o];omega)
    subst hpa1
    have hca:=(hB.o.cell (p:=⟨ga,oa+i,none⟩) hga).trans (HUA.o i (by rw [←HLA.o];omega))
    have hxb:(natL y).getD i 0=0:=getD_out (by rw [←HLB.o];omega)
    have hS:=HST.o (c+(natL x).getD i 0) (by omega) (by omega) (by omega)
    have HS:Shut _:=⟨hS⟩
    have HB9:Shut _:=⟨hB.o⟩
    clear HST hS hE hO
    generalize (natL x).getD i 0=a at *
    generalize padL i r=xs at *
    go_wp2_with (at_builtin;go_must (refine wpList_append_own _ rfl _ _ 39 rfl w.heap.size 3 i0 (.int .i64 0) 1 8 Tryz.underlying39 hinf hz0 hz1 hz2 rfl (by decide) _ _ _ rfl (World.ownsRow.alloc hO2 _) ⟨_,0,none⟩ 1 1 [.int .i64 (((c:Int)+(a:Int)) % 10)] rfl rfl (cell_one_new _ _ _) (by simp [Value.oneCell']) (by unfold maxLen;omega) (by omega) (by rw [World.size_alloc];omega) ?_);intro v' w' hown' hgrow _;have hB':=below_grownV (HB9.o.alloc hbs _) (Nat.le_refl _) (World.ownsRow.alloc hO2 _) hgrow)
    rw [show (((c:Int)+(a:Int)) % 10)=(((c+a) % 10:Nat):Int) by omega] at hown'
    exact ⟨⟨i+1,(c+a) / 10,_,by omega,HS.o.2.1,by congr 1;try omega,by go_num,⟨by rw [HS.o.1];exact OwnJ.snoc hown'⟩,⟨hB'⟩,⟨HS.o.2.2⟩⟩,by simp [intOf];omega⟩
  ·by_cases h2:i<lb
   ·have hia:¬(i:Int)<(la:Int):=by omega
    have hib:(i:Int)<(lb:Int):=by omega
    have hxa:(natL x).getD i 0=0:=getD_out (by rw [←HLA.o];omega)
    obtain ⟨hpb1,hgb⟩:=HPB.o (by rw [←HLB.o];omega)
    subst hpb1
    have hcb:=(hB.o.cell (p:=⟨gb,ob+i,none⟩) hgb).trans (HUB.o i (by rw [←HLB.o];omega))
    have hS:=HST.o (c+(natL y).getD i 0) (by omega) (by omega) (by omega)
    have HS:Shut _:=⟨hS⟩
    have HB9:Shut _:=⟨hB.o⟩
    clear HST hS hE hO
    generalize (natL y).getD i 0=b at *
    generalize padL i r=xs at *
    go_wp2_with (at_builtin;go_must (refine wpList_append_own _ rfl _ _ 39 rfl w.heap.size 3 i0 (.int .i64 0) 1 8 Tryz.underlying39 hinf hz0 hz1 hz2 rfl (by decide) _ _ _ rfl (World.ownsRow.alloc hO2 _) ⟨_,0,none⟩ 1 1 [.int .i64 (((c:Int)+(b:Int)) % 10)] rfl rfl (cell_one_new _ _ _) (by simp [Value.oneCell']) (by unfold maxLen;omega) (by omega) (by rw [World.size_alloc];omega) ?_);intro v' w' hown' hgrow _;have hB':=below_grownV (HB9.o.alloc hbs _) (Nat.le_refl _) (World.ownsRow.alloc hO2 _) hgrow)
    rw [show (((c:Int)+(b:Int)) % 10)=(((c+b) % 10:Nat):Int) by omega] at hown'
    exact ⟨⟨i+1,(c+b) / 10,_,by omega,HS.o.2.1,by congr 1;try omega,by go_num,⟨by rw [HS.o.1];exact OwnJ.snoc hown'⟩,⟨hB'⟩,⟨HS.o.2.2⟩⟩,by simp [intOf];omega⟩
   ·by_cases hc0:0<c
    ·have hia:¬(i:Int)<(la:Int):=by omega
     have hib:¬(i:Int)<(lb:Int):=by omega
     have hxa:(natL x).getD i 0=0:=getD_out (by rw [←HLA.o];omega)
     have hxb:(natL y).getD i 0=0:=getD_out (by rw [←HLB.o];omega)
     have hcc:(0:Int)<(c:Int):=by omega
     have him:i≤max la lb:=by rcases hE.o.2.2.2 with h | h <;> omega
     have hS:=HST.o (c) (by omega) (by omega) (by omega)
     have HS:Shut _:=⟨hS⟩
     have HB9:Shut _:=⟨hB.o⟩
     clear HST hS hE hO
     generalize padL i r=xs at *
     go_wp2_with (at_builtin;go_must (refine wpList_append_own _ rfl _ _ 39 rfl w.heap.size 3 i0 (.int .i64 0) 1 8 Tryz.underlying39 hinf hz0 hz1 hz2 rfl (by decide) _ _ _ rfl (World.ownsRow.alloc hO2 _) ⟨_,0,none⟩ 1 1 [.int .i64 (((c:Int)) % 10)] rfl rfl (cell_one_new _ _ _) (by simp [Value.oneCell']) (by unfold maxLen;omega) (by omega) (by rw [World.size_alloc];omega) ?_);intro v' w' hown' hgrow _;have hB':=below_grownV (HB9.o.alloc hbs _) (Nat.le_refl _) (World.ownsRow.alloc hO2 _) hgrow)
     rw [show (((c:Int)) % 10)=(((c) % 10:Nat):Int) by omega] at hown'
     exact ⟨⟨i+1,(c) / 10,_,by omega,HS.o.2.1,by congr 1;try omega,by go_num,⟨by rw [HS.o.1];exact OwnJ.snoc hown'⟩,⟨hB'⟩,⟨HS.o.2.2⟩⟩,by simp [intOf];omega⟩
    ·obtain rfl:c=0:=by omega
     have hF:padL i r=natL (x+y):=by
      have h3:=hE.o.2.1
      rw [List.take_of_length_le (show (natL x).length≤i by have:=HLA.o;omega),List.take_of_length_le (show (natL y).length≤i by have:=HLB.o;omega),natL_nv,natL_nv,Nat.mul_zero,Nat.add_zero] at h3
      rw [←h3]
      refine padL_nat i _ (by rw [h3];exact hE.o.1) ?_
      rcases hE.o.2.2.1 with h4 | h4
      ·rcases Nat.eq_zero_or_pos i with h5 | h5
       ·exact .inl h5
       ·right
        have e1:=HLA.o
        have e2:=HLB.o
        rcases Nat.le_total lb la with h6 | h6
        ·have:=natL_ge x (fun e=>by rw [e,natL_zero] at e1;simp at e1;omega)
         rw [←e1,show la=i by omega] at this
         omega
        ·have:=natL_ge y (fun e=>by rw [e,natL_zero] at e2;simp at e2;omega)
         rw [←e2,show lb=i by omega] at this
         omega
      ·exact .inr h4
     have hia:¬(i:Int)<(la:Int):=by omega
     have hib:¬(i:Int)<(lb:Int):=by omega
     rw [hF] at hO2
     have HO:Shut _:=⟨hO2⟩
     clear hO2 hO hE HST hF
     go_wp2
     go_ret
     exact ⟨_,rfl,HO.o.ni,hB.o⟩
end N10
end
section
namespace N10
open Go.RowKit

theorem minus_round {A B:List Nat} (i r c c' d:Nat) (he:nv (A.take i)+10^i*c=r+nv (B.take i)) (hd:A.getD i 0+10*c'=c+B.getD i 0+d) :
  nv (A.take (i+1))+10^(i+1)*c'=(r+10^i*d)+nv (B.take (i+1)):=by
 rw [nv_take_all,nv_take_all,Nat.pow_succ]
 generalize 10^i=P at *
 grind

theorem minus_ref (x y:Nat) (hyx:y≤x) (va vb:Value) (w:World) (ha:NI w va (natL x)) (hb:NI w vb (natL y)) (hla:(natL x).length≤2000) :
  Calls Tryz.prog 148 #[va,vb] w fun e w'=>∃ v,e = .returned v∧NI w' v (natL (x-y))∧(∀ g,v.ownBlock=some g→w.heap.size≤g)∧Below w.heap.size w w':=by
 have hlb:=natL_len_mono hyx
 obtain ⟨pa,ca,ga,oa,rfl,_,_,hpa,hua⟩:=ha.open
 obtain ⟨pb,cb,gb,ob,rfl,_,_,hpb,hub⟩:=hb.open
 obtain ⟨i0,hinf,hz0,hz1,hz2⟩:=info_parts infoI8
 obtain ⟨la,hla2⟩:∃ la,la=(natL x).length:=⟨_,rfl⟩
 obtain ⟨lb,hlb2⟩:∃ lb,lb=(natL y).length:=⟨_,rfl⟩
 have HLA:Shut _:=⟨hla2⟩
 have HLB:Shut _:=⟨hlb2⟩
 have HUA:Shut _:=⟨hua⟩
 have HUB:Shut _:=⟨hub⟩
 have HPA:Shut _:=⟨hpa⟩
 have HPB:Shut _:=⟨hpb⟩
 rw [←hla2,←hlb2]
 rw [←hla2] at hla hlb
 rw [←hlb2] at hlb
 clear hla2 hlb2 hua hub hpa hpb ha hb
 go_enter Tryz.func148, Tryz.ntmps148
 go_wp2
 go_loopw [5,6,7] (fun v cv iv wr=>∃ i c r:Nat,i≤la∧c≤1∧cv = .int .i64 (c:Int)∧iv = .int .i64 (i:Int)∧Shut (OwnJ wr w.heap.size v (padL i r))∧Shut (Below w.heap.size w wr)∧Shut (r<10^i∧nv ((natL x).take i)+10^i*c=r+nv ((natL y).take i))) (fun _ _ iv _=>la-(intOf iv).toNat)
 case atStart=>exact ⟨0,0,0,by omega,by omega,rfl,rfl,⟨OwnJ.nil _ _⟩,⟨Below.refl _ _⟩,⟨by decide,by simp [nv]⟩⟩
 case round =>
  obtain ⟨i,c,r,hi,hc,rfl,rfl,hO,hB,hE⟩:=hrel
  have hdx:=(natL_dig x).getD i
  have hdy:=(natL_dig y).getD i
  have hO2:=hO.o
  have hbs:=hB.o.size
  have hpl:(padL i r).length≤3000:=by rw [padL_len];omega
  have HST:Shut (∀ c' d:Nat,(natL x).getD i 0+10*c'=c+(natL y).getD i 0+d→d<10→padL (i+1) (r+10^i*d)=padL i r ++ [d]∧r+10^i*d<10^(i+1)∧nv ((natL x).take (i+1))+10^(i+1)*c'=(r+10^i*d)+nv ((natL y).take (i+1))):=⟨fun c' d hd hd10 =>
   ⟨padL_succ i r _ hE.o.1 hd10,dig_pow i r _ hE.o.1 hd10,minus_round i r c c' d hE.o.2 hd⟩⟩
  by_cases h1:i<la
  ·obtain ⟨hpa1,hga⟩:=HPA.o (by rw [←HLA.o];omega)
   subst hpa1
   have hca:=(hB.o.cell (p:=⟨ga,oa+i,none⟩) hga).trans (HUA.o i (by rw [←HLA.o];omega))
   have hia:(i:Int)<(la:Int):=by omega
   by_cases h2:i<lb
   ·obtain ⟨hpb1,hgb⟩:=HPB.o (by rw [←HLB.o];omega)
    subst hpb1
    have hcb:=(hB.o.cell (p:=⟨gb,ob+i,none⟩) hgb).trans (HUB.o i (by rw [←HLB.o];omega))
    have hib:(i:Int)<(lb:Int):=by omega
    have HB9:Shut _:=⟨hB.o⟩
    generalize (natL x).getD i 0=a at *
    generalize (natL y).getD i 0=b at *
    by_cases hneg:a<c+b
    ·have hn:(a:Int)-(c:Int)-(b:Int)<0:=by omega
     have HS:Shut _:=⟨HST.o 1 (a+10-c-b) (by omega) (by omega)⟩
     clear HST hE hO
     generalize padL i r=xs at *
     go_wp2_with (at_builtin;go_must (refine wpList_append_own _ rfl _ _ 39 rfl w.heap.size 3 i0 (.int .i64 0) 1 8 Tryz.underlying39 hinf hz0 hz1 hz2 rfl (by decide) _ _ _ rfl (World.ownsRow.alloc hO2 _) ⟨_,0,none⟩ 1 1 [.int .i64 ((a:Int)-(c:Int)-(b:Int)+10)] rfl rfl (cell_one_new _ _ _) (by simp [Value.oneCell']) (by unfold maxLen;omega) (by omega) (by rw [World.size_alloc];omega) ?_);intro v' w' hown' hgrow _;have hB':=below_grownV (HB9.o.alloc hbs _) (Nat.le_refl _) (World.ownsRow.alloc hO2 _) hgrow)
     rw [show ((a:Int)-(c:Int)-(b:Int)+10)=((a+10-c-b:Nat):Int) by omega] at hown'
     exact ⟨⟨i+1,1,_,by omega,by omega,rfl,by go_num,⟨by rw [HS.o.1];exact OwnJ.snoc hown'⟩,⟨hB'⟩,⟨HS.o.2⟩⟩,by simp [intOf];omega⟩
    ·have hn:¬(a:Int)-(c:Int)-(b:Int)<0:=by omega
     have HS:Shut _:=⟨HST.o 0 (a-c-b) (by omega) (by omega)⟩
     clear HST hE hO
     generalize padL i r=xs at *
     go_wp2_with (at_builtin;go_must (refine wpList_append_own _ rfl _ _ 39 rfl w.heap.size 3 i0 (.int .i64 0) 1 8 Tryz.underlying39 hinf hz0 hz1 hz2 rfl (by decide) _ _ _ rfl (World.ownsRow.alloc hO2 _) ⟨_,0,none⟩ 1 1 [.int .i64 ((a:Int)-(c:Int)-(b:Int))] rfl rfl (cell_one_new _ _ _) (by simp [Value.oneCell']) (by unfold maxLen;omega) (by omega) (by rw [World.size_alloc];omega) ?_);intro v' w' hown' hgrow _;have hB':=below_grownV (HB9.o.alloc hbs _) (Nat.le_refl _) (World.ownsRow.alloc hO2 _) hgrow)
     rw [show ((a:Int)-(c:Int)-(b:Int))=((a-c-b:Nat):Int) by omega] at hown'
     exact ⟨⟨i+1,0,_,by omega,by omega,rfl,by go_num,⟨by rw [HS.o.1];exact OwnJ.snoc hown'⟩,⟨hB'⟩,⟨HS.o.2⟩⟩,by simp [intOf];omega⟩
   ·have hib:¬(i:Int)<(lb:Int):=by omega
    have hxb:(natL y).getD i 0=0:=getD_out (by rw [←HLB.o];omega)
    rw [hxb,Nat.add_zero] at HST
    have HB9:Shut _:=⟨hB.o⟩
    clear hxb hdy
    generalize (natL x).getD i 0=a at *
    by_cases hneg:a<c
    ·have hn:(a:Int)-(c:Int)<0:=by omega
     have HS:Shut _:=⟨HST.o 1 (a+10-c) (by omega) (by omega)⟩
     clear HST hE hO
     generalize padL i r=xs at *
     go_wp2_with (at_builtin;go_must (refine wpList_append_own _ rfl _ _ 39 rfl w.heap.size 3 i0 (.int .i64 0) 1 8 Tryz.underlying39 hinf hz0 hz1 hz2 rfl (by decide) _ _ _ rfl (World.ownsRow.alloc hO2 _) ⟨_,0,none⟩ 1 1 [.int .i64 ((a:Int)-(c:Int)+10)] rfl rfl (cell_one_new _ _ _) (by simp [Value.oneCell']) (by unfold maxLen;omega) (by omega) (by rw [World.size_alloc];omega) ?_);intro v' w' hown' hgrow _;have hB':=below_grownV (HB9.o.alloc hbs _) (Nat.le_refl _) (World.ownsRow.alloc hO2 _) hgrow)
     rw [show ((a:Int)-(c:Int)+10)=((a+10-c:Nat):Int) by omega] at hown'
     exact ⟨⟨i+1,1,_,by omega,by omega,rfl,by go_num,⟨by rw [HS.o.1];exact OwnJ.snoc hown'⟩,⟨hB'⟩,⟨HS.o.2⟩⟩,by simp [intOf];omega⟩
    ·have hn:¬(a:Int)-(c:Int)<0:=by omega
     have HS:Shut _:=⟨HST.o 0 (a-c) (by omega) (by omega)⟩
     clear HST hE hO
     generalize padL i r=xs at *
     go_wp2_with (at_builtin;go_must (refine wpList_append_own _ rfl _ _ 39 rfl w.heap.size 3 i0 (.int .i64 0) 1 8 Tryz.underlying39 hinf hz0 hz1 hz2 rfl (by decide) _ _ _ rfl (World.ownsRow.alloc hO2 _) ⟨_,0,none⟩ 1 1 [.int .i64 ((a:Int)-(c:Int))] rfl rfl (cell_one_new _ _ _) (by simp [Value.oneCell']) (by unfold maxLen;omega) (by omega) (by rw [World.size_alloc];omega) ?_);intro v' w' hown' hgrow _;have hB':=below_grownV (HB9.o.alloc hbs _) (Nat.le_refl _) (World.ownsRow.alloc hO2 _) hgrow)
     rw [show ((a:Int)-(c:Int))=((a-c:Nat):Int) by omega] at hown'
     exact ⟨⟨i+1,0,_,by omega,by omega,rfl,by go_num,⟨by rw [HS.o.1];exact OwnJ.snoc hown'⟩,⟨hB'⟩,⟨HS.o.2⟩⟩,by simp [intOf];omega⟩
  ·obtain rfl:i=la:=by omega
   have hF:r=x-y:=by
    have h3:=hE.o.2
    have h5:=hE.o.1
    rw [List.take_of_length_le (show (natL x).length≤i by have:=HLA.o;omega),List.take_of_length_le (show (natL y).length≤i by have:=HLB.o;omega),natL_nv,natL_nv] at h3
    rcases Nat.eq_zero_or_pos c with h6 | h6
    ·rw [h6,Nat.mul_zero,Nat.add_zero] at h3;omega
    ·have:10^i*1≤10^i*c:=Nat.mul_le_mul_left _ h6
     omega
   have hia:¬(i:Int)<(i:Int):=by omega
   have ct:=trim_ref (padL i r) _ wr hO2.ni (padL_dig _ _) (by omega)
   rw [padL_nv i r hE.o.1,hF] at ct
   have HFR:Shut _:=⟨OwnJ.fresh hO2⟩
   clear hO2 hO hE HST hF
   go_wp2_with (go_at_call 151; refine ct.mono ?_;rintro e w1 ⟨u,rfl,hu,hob,rfl⟩)
   go_ret
   exact ⟨u,rfl,hu,by rw [hob];exact HFR.o,hB.o⟩
end N10
end
section
namespace N10
open Go.RowKit

theorem padL_zero:∀ n,padL n 0=List.replicate n 0
 | 0=>rfl
 | n+1=>by rw [padL,List.replicate_succ,show 0 / 10=0 from rfl,padL_zero n]
theorem padL_getD:∀ (n R j:Nat),j<n→(padL n R).getD j 0=R / 10^j % 10
 | 0,_,_,h=>by omega
 | n+1,R,0,_=>by rw [padL,List.getD_cons_zero,Nat.pow_zero,Nat.div_one]
 | n+1,R,j+1,h=>by
  rw [padL,List.getD_cons_succ,padL_getD n (R / 10) j (by omega),Nat.pow_succ,Nat.mul_comm,Nat.div_div_eq_div_mul]
theorem padL_set:∀ (n R j d:Nat),j<n→d<10→(padL n R).set j d=padL n (R+10^j*d-10^j*(R / 10^j % 10))
 | 0,_,_,_,h,_=>by omega
 | n+1,R,0,d,_,hd=>by
  rw [padL,List.set_cons_zero,Nat.pow_zero,Nat.one_mul,Nat.one_mul,Nat.div_one,padL]
  rw [show (R+d-R % 10) % 10=d by omega,show (R+d-R % 10) / 10=R / 10 by omega]
 | n+1,R,j+1,d,h,hd=>by
  have ih:=padL_set n (R / 10) j d (by omega) hd
  have e1:R / 10^(j+1) % 10=R / 10 / 10^j % 10:=by rw [Nat.pow_succ,Nat.mul_comm,Nat.div_div_eq_div_mul]
  have e2:10^(j+1)=10*10^j:=by rw [Nat.pow_succ,Nat.mul_comm]
  have hle:10^j*(R / 10 / 10^j % 10)≤R / 10:=Nat.le_trans (Nat.mul_le_mul_left _ (Nat.mod_le _ _)) (Nat.mul_div_le _ _)
  rw [padL,List.set_cons_succ,ih,padL,e1,e2,Nat.mul_assoc,Nat.mul_assoc]
  generalize 10^j*d=D at *
  generalize 10^j*(R / 10 / 10^j % 10)=E at *
  rw [show (R+10*D-10*E) % 10=R % 10 by omega,show (R+10*D-10*E) / 10=R / 10+D-E by omega]
theorem times_step (n R j c a b V d c' k:Nat) (hj:j<n) (hR:R<10^n) (hd:d=R / 10^j % 10+c+a*b) (hc:c'=d / 10) (hk:k=d % 10) (hE:R+10^j*c=V) :
  R+10^j*k-10^j*(R / 10^j % 10)<10^n∧(R+10^j*k-10^j*(R / 10^j % 10))+10^(j+1)*c'=V+10^j*(a*b):=by
 have hle:10^j*(R / 10^j % 10)≤R:=Nat.le_trans (Nat.mul_le_mul_left _ (Nat.mod_le _ _)) (Nat.mul_div_le _ _)
 have hk9:k<10:=by omega
 refine ⟨?_, ?_⟩
 ·have h1:=padL_set n R j k hj hk9
  have h2:=nv_lt (show Dig ((padL n R).set j k) from fun z hz=>by
   rcases List.mem_or_eq_of_mem_set hz with h | h
   ·exact padL_dig n R z h
   ·omega)
  rw [List.length_set,padL_len] at h2
  have h3:nv ((padL n R).set j k)+10^j*(R / 10^j % 10)=R+10^j*k:=by
   have hlen:j<(padL n R).length:=by rw [padL_len];exact hj
   have e1:(padL n R).set j k=(padL n R).take j++k :: (padL n R).drop (j+1):=by rw [List.set_eq_take_append_cons_drop,if_pos hlen]
   have e2:=nv_take_drop (padL n R) j (by omega)
   rw [padL_nv n R hR,List.drop_eq_getElem_cons hlen,nv] at e2
   have hg:(padL n R)[j]=R / 10^j % 10:=by
    have:=padL_getD n R j hj
    rwa [List.getD_eq_getElem?_getD,List.getElem?_eq_getElem hlen,Option.getD_some] at this
   rw [hg] at e2
   rw [e1,nv_append,nv,List.length_take,Nat.min_eq_left (by omega)]
   rw [Nat.mul_add] at e2 ⊢
   omega
  omega
 ·have h4:d=k+10*c':=by omega
  rw [Nat.pow_succ]
  have e:10^j*k+10^j*10*c'=10^j*(R / 10^j % 10)+10^j*c+10^j*(a*b):=by
   have:10^j*d=10^j*(k+10*c'):=by rw [h4]
   rw [hd] at this
   grind
  omega

theorem ti_alg (A i k a Y b:Nat):A+10^i*(a*Y)+10^(i+k)*(a*b)=A+10^i*(a*(Y+10^k*b)):=by
 rw [Nat.pow_add];grind
def TI (w wr:World) (n i k c R x y:Nat):Prop :=
 IR wr w.heap.size (padL n R)∧Below w.heap.size w wr∧R<10^n∧R+10^(i+k)*c=nv ((natL x).take i)*y+10^i*((natL x).getD i 0*nv ((natL y).take k))
theorem times_room (x y i:Nat) (hi:i<(natL x).length):nv ((natL x).take i)*y+10^i*((natL x).getD i 0*y)=nv ((natL x).take (i+1))*y∧nv ((natL x).take (i+1))*y<10^((natL x).length+(natL y).length):=by
 refine ⟨by rw [nv_take_all];grind, ?_⟩
 have h1:=nv_lt ((natL_dig x).take (i+1))
 rw [List.length_take,Nat.min_eq_left (by omega)] at h1
 have h2:=natL_lt y
 have h3:10^(i+1)≤10^(natL x).length:=Nat.pow_le_pow_right (by decide) hi
 rw [Nat.pow_add]
 generalize nv ((natL x).take (i+1))=A at *
 have hp:0<10^(natL y).length:=Nat.pow_pos (by decide)
 calc A*y≤A*10^(natL y).length:=Nat.mul_le_mul_left _ (by omega)
  _<10^(natL x).length*10^(natL y).length:=Nat.mul_lt_mul_of_pos_right (by omega) hp

set_option maxRecDepth 100000 in
theorem times_ref (x y:Nat) (va vb:Value) (w:World) (ha:NI w va (natL x)) (hb:NI w vb (natL y)) (hla:(natL x).length≤1000) (hlb:(natL y).length≤1000) :
  Calls Tryz.prog 150 #[va,vb] w fun e w'=>∃ v,e = .returned v∧NI w' v (natL (x*y))∧Below w.heap.size w w':=by
 obtain ⟨pa,ca,ga,oa,rfl,_,_,hpa,hua⟩:=ha.open
 obtain ⟨pb,cb,gb,ob,rfl,_,_,hpb,hub⟩:=hb.open
 obtain ⟨la,hla2⟩:∃ la,la=(natL x).length:=⟨_,rfl⟩
 obtain ⟨lb,hlb2⟩:∃ lb,lb=(natL y).length:=⟨_,rfl⟩
 obtain ⟨n,hn⟩:∃ n,n=la+lb:=⟨_,rfl⟩
 have HLA:Shut _:=⟨hla2⟩
 have HLB:Shut _:=⟨hlb2⟩
 have HUA:Shut _:=⟨hua⟩
 have HUB:Shut _:=⟨hub⟩
 have HPA:Shut _:=⟨hpa⟩
 have HPB:Shut _:=⟨hpb⟩
 have HN:Shut _:=⟨hn⟩
 rw [←hla2,←hlb2]
 rw [←hla2] at hla
 rw [←hlb2] at hlb
 have HNI:Shut (((la:Int)+(lb:Int))=(n:Int)):=⟨by omega⟩
 have hn2:n≤2000:=by omega
 clear hla2 hlb2 hua hub hpa hpb ha hb hn
 go_enter Tryz.func150, Tryz.ntmps150
 go_upto_region 3 with (at_make;refine make_j64 rfl _ _ rfl w.heap.size n (congrArg (Value.int .i64) HNI.o) (congrArg (Value.int .i64) HNI.o) (by omega) (Nat.le_refl _) ?_;intro w1 hO1 hB1)
 obtain ⟨_,hu1, -,_,hm1⟩:=hO1.openS
 have HS:Shut (IR w1 w.heap.size (padL n 0)∧Below w.heap.size w w1):=⟨by
  refine ⟨?_,hB1⟩
  have e:padL n 0=List.replicate n 0:=by
   exact padL_zero n
  rw [e];exact hu1⟩
 clear hO1 hB1 hu1
 go_loopw [6] (fun iv wr=>∃ i:Nat,i≤la∧iv = .int .i64 (i:Int)∧Shut (IR wr w.heap.size (padL n (nv ((natL x).take i)*y))∧Below w.heap.size w wr)) (fun iv _=>la-(intOf iv).toNat)
 case atStart=>exact ⟨0,Nat.zero_le _,rfl,⟨by rw [List.take_zero,nv,Nat.zero_mul];exact HS.o⟩⟩
 case round =>
  clear HS
  obtain ⟨i,hi,rfl,hS⟩:=hrel
  by_cases hil:i<la
  ·have d1:decide ((i:Int)<(la:Int))=true:=decide_eq_true (by omega)
   have d1':decide (i<la)=true:=decide_eq_true hil
   have hroom:=times_room x y i (by rw [←HLA.o];exact hil)
   rw [←HLA.o,←HLB.o,←HN.o] at hroom
   have hV:nv ((natL x).take i)*y<10^n:=by omega
   have HI0:Shut (TI w wr n i 0 0 (nv ((natL x).take i)*y) x y):=⟨⟨hS.o.1,hS.o.2,hV,by simp [nv]⟩⟩
   have HRM:Shut _:=⟨hroom⟩
   have hda:=(natL_dig x).getD i
   obtain ⟨hpa1,hga⟩:=HPA.o (by rw [←HLA.o];omega)
   have HGA:Shut (ga<w.heap.size):=⟨hga⟩
   subst hpa1
   have HCA:Shut (∀ W,Below w.heap.size w W→W.cell? ⟨ga,oa+i,none⟩=some (.int .i64 (((natL x).getD i 0:Nat):Int))):=⟨fun W hW=>(hW.cell (p:=⟨ga,oa+i,none⟩) hga).trans (HUA.o i (by rw [←HLA.o];omega))⟩
   clear hV hroom hS hga
   go_upto_region 7 with fail
   rename World=>wo
   go_loopw [7,8] (fun cv kv wr=>∃ k c R:Nat,i+k≤n∧c≤9∧cv = .int .i64 (c:Int)∧kv = .int .i64 (k:Int)∧Shut (TI w wr n i k c R x y)) (fun _ kv _=>n-(intOf kv).toNat)
   case atStart=>exact ⟨0,0,_,by have:=HN.o;omega,by omega,rfl,rfl,HI0⟩
   case round =>
    clear HI0
    obtain ⟨k,c,R,hik,hc,rfl,rfl,hT⟩:=hrel
    have hpos:∀ h:(k<lb∨0<c),i+k<n:=fun h=>by
     rcases Nat.lt_or_ge (i+k) n with h1 | h1
     ·exact h1
     ·exfalso
      have hkl:¬ k<lb:=by have:=HN.o;omega
      have hc0:=h.resolve_left hkl
      have h2:=hT.o.2.2.2
      rw [List.take_of_length_le (show (natL y).length≤k by have:=HLB.o;omega),natL_nv,HRM.o.1] at h2
      have h3:10^n*1≤10^(i+k)*c:=Nat.mul_le_mul (Nat.pow_le_pow_right (by decide) h1) hc0
      have h4:=HRM.o.2
      omega
    by_cases hgo:k<lb∨0<c
    ·have hj:=hpos hgo
     obtain ⟨j,hje⟩:∃ j,j=i+k:=⟨_,rfl⟩
     have hji:((i:Int)+(k:Int))=(j:Int):=by omega
     have hjn:(j:Int)<(n:Int):=by omega
     have hj0:(0:Int)≤(j:Int):=by omega
     have hcj:=hT.o.1.j64 j (by rw [padL_len];omega)
     rw [padL_getD n R j (by omega)] at hcj
     have hfj:=hT.o.1.frozen j
     have hed:R / 10^j % 10<10:=Nat.mod_lt _ (by decide)
     have HST:Shut (∀ b d m:Nat,b=(natL y).getD k 0→d=R / 10^j % 10+c+(natL x).getD i 0*b→TI w ((wr.drewN m).setCell ⟨w.heap.size,j,none⟩ (.int .i64 ((d % 10:Nat):Int))) n i (k+1) (d / 10) (R+10^j*(d % 10)-10^j*(R / 10^j % 10)) x y):=⟨fun b d m hb hd=>by
      have h1:=times_step n R j c ((natL x).getD i 0) b (nv ((natL x).take i)*y+10^i*((natL x).getD i 0*nv ((natL y).take k))) d (d / 10) (d % 10) (by omega) hT.o.2.2.1 hd rfl rfl (by rw [hje];exact hT.o.2.2.2)
      refine ⟨?_,(below_drewN hT.o.2.1 m).setCell (p:=⟨w.heap.size,j,none⟩) (Nat.le_refl _) _,h1.1, ?_⟩
      ·have h2:=(hT.o.1.drewN m).set64 j (d % 10) (by rw [padL_len];omega)
       rwa [padL_set n R j (d % 10) (by omega) (by omega)] at h2
      ·rw [show i+(k+1)=j+1 by omega,h1.2,nv_take_all,hb,hje];exact ti_alg _ _ _ _ _ _⟩
     have hca:=HCA.o wr hT.o.2.1
     have HT:Shut _:=⟨hT.o.2.1⟩
     have hjn2:j<n:=by omega
     have hik2:i+(k+1)≤n:=by omega
     clear hT hpos hje
     generalize R / 10^j % 10=ed at *
     by_cases hkl:k<lb
     ·obtain ⟨hpb1,hgb⟩:=HPB.o (by rw [←HLB.o];omega)
      subst hpb1
      have hcb:=(HT.o.cell (p:=⟨gb,ob+k,none⟩) hgb).trans (HUB.o k (by rw [←HLB.o];omega))
      have hdb:=(natL_dig y).getD k
      have hkb:(k:Int)<(lb:Int):=by omega
      have hS:=fun m=>HST.o _ _ m rfl rfl
      have hm:(natL x).getD i 0*(natL y).getD k 0≤9*9:=Nat.mul_le_mul (by omega) (by omega)
      obtain ⟨mm,hmm⟩:∃ mm,mm=(natL x).getD i 0*(natL y).getD k 0:=⟨_,rfl⟩
      rw [←hmm] at hm
      simp only [←hmm] at hS
      have hmi:((((natL x).getD i 0:Nat):Int)*(((natL y).getD k 0:Nat):Int))=(mm:Int):=by rw [hmm,Int.natCast_mul]
      have HS9:Shut _:=⟨hS⟩
      clear HST hS hmm
      generalize (natL x).getD i 0=a at *
      generalize (natL y).getD k 0=b at *
      go_wp2
      go_quiet (fail)
      have hcj2:(wr.drewN nq).cell? ⟨w.heap.size,j,none⟩=some (.int .i64 (ed:Int)):=hcj
      go_wp2
      have e1:(((ed:Int)+(c:Int)+(mm:Int)) % 10)=(((ed+c+mm) % 10:Nat):Int):=by omega
      have e2:(((ed:Int)+(c:Int)+(mm:Int)) / 10)=(((ed+c+mm) / 10:Nat):Int):=by omega
      rw [e1,e2]
      exact ⟨⟨k+1,(ed+c+mm) / 10,_,hik2,by omega,rfl,by go_num,⟨HS9.o nq⟩⟩,by simp [intOf];omega⟩
     ·have hkb:¬(k:Int)<(lb:Int):=by omega
      have hcc:0<c:=hgo.resolve_left hkl
      have hcci:(0:Int)<(c:Int):=by omega
      have hxb:(natL y).getD k 0=0:=getD_out (by rw [←HLB.o];omega)
      have hS:=HST.o _ _ 0 rfl rfl
      rw [hxb,Nat.mul_zero,Nat.add_zero] at hS
      have HS9:Shut _:=⟨hS⟩
      clear HST hS hxb
      go_wp2
      have e1:(((ed:Int)+(c:Int)) % 10)=(((ed+c) % 10:Nat):Int):=by omega
      have e2:(((ed:Int)+(c:Int)) / 10)=(((ed+c) / 10:Nat):Int):=by omega
      rw [e1,e2]
      exact ⟨⟨k+1,(ed+c) / 10,_,hik2,by omega,rfl,by go_num,⟨HS9.o⟩⟩,by simp [intOf];omega⟩
    ·have hkb:¬(k:Int)<(lb:Int):=by omega
     obtain rfl:c=0:=by omega
     have hE:=hT.o.2.2.2
     rw [List.take_of_length_le (show (natL y).length≤k by have:=HLB.o;omega),natL_nv,HRM.o.1,Nat.mul_zero,Nat.add_zero] at hE
     have HF:Shut (IR wr w.heap.size (padL n (nv ((natL x).take (i+1))*y))∧Below w.heap.size w wr):=⟨by rw [←hE];exact hT.o.1,hT.o.2.1⟩
     clear hT hE hpos
     go_wp2
     exact ⟨⟨i+1,by omega,by go_num,HF⟩,by simp [intOf];omega⟩
  ·obtain rfl:i=la:=by omega
   have hu:=hS.o.1
   rw [List.take_of_length_le (show (natL x).length≤i by have:=HLA.o;omega),natL_nv] at hu
   have hlt:x*y<10^n:=by
    have h1:=natL_lt x
    have h2:=natL_lt y
    rw [HN.o,Nat.pow_add,HLA.o,HLB.o]
    have hp:0<10^(natL y).length:=Nat.pow_pos (by decide)
    calc x*y≤x*10^(natL y).length:=Nat.mul_le_mul_left _ (by omega)
     _<_:=Nat.mul_lt_mul_of_pos_right h1 hp
   have hl:=padL_len n (x*y)
   have hni2:NI wr (.slice (some ⟨w.heap.size,0,none⟩) n n) (padL n (x*y)):=⟨_,n,by rw [hl],by rw [hl];exact Nat.le_refl _,hm1,.inr ⟨_,0,rfl,hu.lt,hu.ia⟩⟩
   have ct:=trim_ref (padL n (x*y)) _ wr hni2 (padL_dig _ _) (by omega)
   rw [padL_nv n (x*y) hlt] at ct
   have d1:¬(i:Int)<(i:Int):=by omega
   clear hu hlt hni2
   go_wp2_with (go_at_call 151; refine ct.mono ?_;rintro e w2 ⟨u,rfl,hu2,_,rfl⟩)
   go_ret
   exact ⟨_,rfl,hu2,hS.o.2⟩
end N10
end
section
namespace N10
open Go.RowKit

theorem NI.one_num {W:World} {v:Value} {a b:Nat} (h1:NI W v (natL a)) (h2:NI W v (natL b)):a=b:=by
 obtain ⟨p,c,g,o,e,_,_,hp,hu⟩:=h1.open
 obtain ⟨p',c',g',o',e',_,_,hp',hu'⟩:=h2.open
 rw [e] at e'
 injection e' with e1 e2 e3
 subst e1
 have hl:natL a=natL b:=by
  apply List.ext_getElem e2
  intro i hi hi'
  have k1:=hu i hi
  have k2:=hu' i hi'
  have q:=(hp (by omega)).1
  have q':=(hp' (by omega)).1
  rw [q] at q'
  injection q' with q'
  injection q' with g1 g2 _
  subst g1;subst g2
  rw [k1] at k2
  injection k2 with k2
  injection k2 with _ k3
  have k4:(natL a).getD i 0=(natL b).getD i 0:=by omega
  simpa [List.getD,hi,hi'] using k4
 have:=congrArg nv hl
 rwa [natL_nv,natL_nv] at this
open Classical in
noncomputable def numI (W:World) (v:Value):Nat:=if h:∃ n,NI W v (natL n) then Classical.choose h else 0
theorem numI_eq {W:World} {v:Value} {n:Nat} (h:NI W v (natL n)):numI W v=n:=by
 have hex:∃ n,NI W v (natL n):=⟨n,h⟩
 rw [numI,dif_pos hex]
 exact NI.one_num (Classical.choose_spec hex) h
theorem OwnJ.one (W:World) (B:Nat) (d:Nat) (h:B≤W.heap.size):OwnJ (W.alloc (O #[.int .i64 (d:Int)] 3)) B (.slice (some ⟨W.heap.size,0,none⟩) 1 1) [d] :=
 ⟨by simp,.inr ⟨W.heap.size,1,#[.int .i64 (d:Int)],rfl,h,RowAt.new W _ _,by simp,by unfold maxLen;omega,by simp,by simp⟩⟩
theorem drop_step (x j:Nat) (hj:j<(natL x).length):x / 10^j=(natL x).getD j 0+10*(x / 10^(j+1)):=by
 have h1:∀ k,k≤(natL x).length→nv ((natL x).drop k)=x / 10^k:=fun k hk=>by
  have h2:=nv_take_drop (natL x) k hk
  have h3:=nv_lt ((natL_dig x).take k)
  rw [List.length_take,Nat.min_eq_left hk] at h3
  rw [natL_nv] at h2
  have h4:x / 10^k=(nv ((natL x).take k)+10^k*nv ((natL x).drop k)) / 10^k:=by rw [←h2]
  rw [h4,Nat.add_mul_div_left _ _ (Nat.pow_pos (by decide)),Nat.div_eq_of_lt h3,Nat.zero_add]
 rw [←h1 j (by omega),←h1 (j+1) (by omega),List.drop_eq_getElem_cons hj,nv]
 simp [List.getD,hj]
def DO (w wr:World) (rv:Value) (n x y j:Nat):Prop :=
 IR wr w.heap.size (padL n (10^j*(x / 10^j / y)))∧NI wr rv (natL (x / 10^j % y))∧(∀ k,rv.ownBlock=some k→w.heap.size<k)∧Below w.heap.size w wr
def DI (w wr:World) (rv:Value) (n x y j t ρ:Nat):Prop :=
 IR wr w.heap.size (padL n (10^(j+1)*(x / 10^(j+1) / y)+10^j*t))∧NI wr rv (natL ρ)∧(∀ k,rv.ownBlock=some k→w.heap.size<k)∧Below w.heap.size w wr∧ρ+t*y=(natL x).getD j 0+10*(x / 10^(j+1) % y)
theorem div_end (x y j t ρ:Nat) (hj:j<(natL x).length) (hy:0<y) (hρ:ρ<y) (h:ρ+t*y=(natL x).getD j 0+10*(x / 10^(j+1) % y)) :
  10^(j+1)*(x / 10^(j+1) / y)+10^j*t=10^j*(x / 10^j / y)∧ρ=x / 10^j % y:=by
 have h1:=drop_step x j hj
 have h2:=Nat.div_add_mod (x / 10^(j+1)) y
 have h3:x / 10^j=y*(10*(x / 10^(j+1) / y)+t) + ρ:=by
  rw [h1]
  generalize x / 10^(j+1) % y=a at *
  generalize x / 10^(j+1) / y=b at *
  have:y*(10*b+t)=10*(y*b)+t*y:=by rw [Nat.mul_add];grind
  omega
 refine ⟨?_, ?_⟩
 ·rw [h3,Nat.mul_add_div hy,Nat.div_eq_of_lt hρ,Nat.add_zero,Nat.mul_add,Nat.pow_succ];grind
 ·rw [h3,Nat.mul_add_mod,Nat.mod_eq_of_lt hρ]
theorem digit_of (Q j t:Nat) (ht:t<10):(10^(j+1)*Q+10^j*t) / 10^j % 10=t:=by
 have hp:0<10^j:=Nat.pow_pos (by decide)
 rw [Nat.pow_succ,Nat.mul_assoc,←Nat.mul_add,Nat.mul_div_cancel_left _ hp,Nat.mul_add_mod,Nat.mod_eq_of_lt ht]

set_option maxRecDepth 100000 in
theorem divided_ref (x y:Nat) (hy:y≠0) (va vb:Value) (w:World) (ha:NI w va (natL x)) (hb:NI w vb (natL y)) (hla:(natL x).length≤1000) (hlb:(natL y).length≤900) :
  Calls Tryz.prog 104 #[va,vb] w fun e w'=>∃ v u,e = .returned (.tuple #[v,u])∧NI w' v (natL (x / y))∧NI w' u (natL (x % y))∧Below w.heap.size w w':=by
 have hb0:=hb
 obtain ⟨pa,ca,ga,oa,rfl,_,_,hpa,hua⟩:=ha.open
 obtain ⟨la,hla2⟩:∃ la,la=(natL x).length:=⟨_,rfl⟩
 have HLA:Shut _:=⟨hla2⟩
 have HUA:Shut _:=⟨hua⟩
 have HPA:Shut _:=⟨hpa⟩
 have HB:Shut _:=⟨And.intro hb0 (And.intro hlb hy)⟩
 rw [←hla2]
 rw [←hla2] at hla
 obtain ⟨i0,hinf,hz0,hz1,hz2⟩:=info_parts infoI8
 clear hla2 hua hpa ha hb hb0 hlb hy
 go_enter Tryz.func104, Tryz.ntmps104
 go_upto_region 4 with (at_make;refine make_j64 rfl _ _ rfl w.heap.size la rfl rfl (by omega) (Nat.le_refl _) ?_;intro w1 hO1 hB1)
 obtain ⟨_,hu1, -,_,hm1⟩:=hO1.openS
 have hs1:=hB1.size
 have HS:Shut (DO w w1 (.slice none 0 0) la x y la):=⟨by
  have hx0:x / 10^la=0:=Nat.div_eq_of_lt (by rw [HLA.o];exact natL_lt x)
  refine ⟨?_, ?_,fun k hk=>(by cases hk),hB1⟩
  ·rw [hx0,Nat.zero_div,Nat.mul_zero,padL_zero];exact hu1
  ·rw [hx0,Nat.zero_mod,natL_zero];exact ⟨none,0,rfl,Nat.le_refl _,by unfold maxLen;omega,.inl ⟨rfl,rfl,rfl⟩⟩⟩
 clear hO1 hB1 hu1 hs1
 go_loopw [7,8] (fun rv iv wr=>∃ j:Nat,j≤la∧iv = .int .i64 ((j:Int)-1)∧Shut (DO w wr rv la x y j)) (fun _ iv _=>(intOf iv+1).toNat)
 case atStart=>exact ⟨la,Nat.le_refl _,rfl,HS⟩
 case round =>
  clear HS
  obtain ⟨j,hj,rfl,hS⟩:=hrel
  by_cases hj0:j=0
  ·subst hj0
   have hu:=hS.o.1
   rw [Nat.pow_zero,Nat.div_one,Nat.one_mul] at hu
   have hlt:x / y<10^la:=by rw [HLA.o];exact Nat.lt_of_le_of_lt (Nat.div_le_self _ _) (natL_lt x)
   have hl:=padL_len la (x / y)
   have hni2:NI wr (.slice (some ⟨w.heap.size,0,none⟩) la la) (padL la (x / y)):=⟨_,la,by rw [hl],by rw [hl];exact Nat.le_refl _,hm1,.inr ⟨_,0,rfl,hu.lt,hu.ia⟩⟩
   have ct:=trim_ref (padL la (x / y)) _ wr hni2 (padL_dig _ _) (by omega)
   rw [padL_nv la (x / y) hlt] at ct
   have hr:=hS.o.2.1
   rw [Nat.pow_zero,Nat.div_one] at hr
   have HR:Shut _:=⟨hr⟩
   have HBB:Shut _:=⟨hS.o.2.2.2⟩
   clear hu hlt hni2 hl hr hS
   go_wp2_with (go_at_call 151; refine ct.mono ?_;rintro e w2 ⟨u,rfl,hu2,_,rfl⟩)
   go_ret2
   exact ⟨_,_,rfl,hu2,HR.o,HBB.o⟩
  ·obtain ⟨j,rfl⟩:∃ j',j=j'+1:=⟨j-1,by omega⟩
   have hji:(((j+1:Nat):Int)-1)=(j:Int):=by omega
   rw [hji]
   obtain ⟨hpa1,hga⟩:=HPA.o (by rw [←HLA.o];omega)
   have HGA:Shut (ga<w.heap.size):=⟨hga⟩
   subst hpa1
   have hca:=(hS.o.2.2.2.cell (p:=⟨ga,oa+j,none⟩) hga).trans (HUA.o j (by rw [←HLA.o];omega))
   have hdx:=(natL_dig x).getD j
   have hjl:(j:Int)<(la:Int):=by omega
   have hr0:(natL x).getD j 0+10*(x / 10^(j+1) % y)<10*y:=by
    have:=Nat.mod_lt (x / 10^(j+1)) (Nat.pos_of_ne_zero HB.o.2.2)
    omega
   have hyl:∀ ρ,ρ<10*y→(natL ρ).length≤901:=fun ρ hρ=>by
    have h9:(natL ρ).length≤(natL y).length+1:=natL_len_le (by have:=natL_lt y;rw [Nat.pow_succ];omega)
    have:=HB.o.2.1
    omega
   have hrl:(natL (x / 10^(j+1) % y)).length≤900:=Nat.le_trans (natL_len_mono (Nat.le_of_lt (Nat.mod_lt _ (Nat.pos_of_ne_zero HB.o.2.2)))) HB.o.2.1
   have hgs:w.heap.size+1≤wr.heap.size:=hS.o.1.lt
   have hal:Below wr.heap.size wr (wr.alloc (O #[.int .i64 (((natL x).getD j 0:Nat):Int)] 3)):=(Below.refl _ _).alloc (Nat.le_refl _) _
   have hni:=hS.o.2.1.below hal (Nat.le_refl _)
   have hone:=OwnJ.one wr (w.heap.size+1) ((natL x).getD j 0) hgs
   have hnv:nv ((natL x).getD j 0 :: natL (x / 10^(j+1) % y))=(natL x).getD j 0+10*(x / 10^(j+1) % y):=by rw [nv,natL_nv]
   have hdg:Dig ((natL x).getD j 0 :: natL (x / 10^(j+1) % y)):=fun z hz=>by
    rcases List.mem_cons.1 hz with rfl | hz
    ·exact hdx
    ·exact natL_dig _ z hz
   have ct:=fun (v:Value) (W:World) (h:NI W v ((natL x).getD j 0 :: natL (x / 10^(j+1) % y)))=>trim_ref _ v W h hdg (by rw [List.length_cons];omega)
   rw [hnv] at ct
   have HDO:Shut _:=⟨And.intro hS.o.1 (And.intro hS.o.2.2.2 hgs)⟩
   have HR0:Shut _:=⟨And.intro hr0 hyl⟩
   have HNI:Shut _:=⟨hni⟩
   have HONE:Shut _:=⟨hone⟩
   have HAL:Shut _:=⟨hal⟩
   clear hS hr0 hyl hnv hdg hdx hni hone hal
   obtain ⟨r0,hr0e⟩:∃ r0,r0=(natL x).getD j 0+10*(x / 10^(j+1) % y):=⟨_,rfl⟩
   have HRE:Shut _:=⟨hr0e⟩
   rw [←hr0e] at ct
   generalize hd:(natL x).getD j 0=d at *
   have HD:Shut _:=⟨hd⟩
   clear hd hr0e
   go_upto_region 7 with (first | (at_builtin;refine append_j64 rfl _ _ rfl (w.heap.size+1) _ [d] rfl HONE.o _ (natL (x / 10^(j+1) % y)) rfl HNI.o (by simp;omega) (by rw [World.size_alloc];omega) ?_;intro v5 w5 hO5 _ hB5) | (go_at_call 151; refine (ct v5 w5 hO5.ni).mono ?_;rintro e w6 ⟨u6,rfl,hu6,hob6,rfl⟩))
   have hwr5:Below wr.heap.size wr (wr.alloc (O #[.int .i64 (d:Int)] 3)):=HAL.o
   have hB6:Below (w.heap.size+1) wr w6:=⟨(hB5.os).trans hwr5.os,(hB5.tape).trans hwr5.tape,(hB5.output).trans hwr5.output,Nat.le_trans hwr5.size hB5.size,fun k hk=>(hB5.block k hk).trans (hwr5.block k (Nat.lt_of_lt_of_le hk HDO.o.2.2))⟩
   have hir6:=HDO.o.1.below hB6 (Nat.lt_succ_self _)
   have hB6':Below w.heap.size w w6:=HDO.o.2.1.trans ⟨hB6.os,hB6.tape,hB6.output,hB6.size,fun k hk=>hB6.block k (Nat.lt_of_lt_of_le hk (Nat.le_succ _))⟩
   have hfr6:∀ k,u6.ownBlock=some k→w.heap.size<k:=fun k hk=>by
    rw [hob6] at hk;exact OwnJ.fresh hO5 k hk
   have HI0:Shut (DI w w6 u6 la x y j 0 r0):=⟨⟨by rw [Nat.mul_zero,Nat.add_zero];exact hir6,hu6,hfr6,hB6',by rw [Nat.zero_mul,Nat.add_zero,HD.o];exact HRE.o⟩⟩
   clear ct hO5 hob6 hu6 hB5 hwr5 hB6 hir6 hB6' hfr6 HONE HNI HAL HDO
   rename World=>wo2
   go_loopw [7] (fun rv wr=>∃ t ρ:Nat,t≤9∧Shut (DI w wr rv la x y j t ρ)) (fun rv wr=>numI wr rv)
   case atStart=>exact ⟨0,r0,by omega,HI0⟩
   case round =>
    clear HI0
    obtain ⟨t,ρ,ht,hT⟩:=hrel
    have hE:=hT.o.2.2.2.2
    rw [HD.o] at hE
    have hE9:ρ<10*y:=by have:=HR0.o.1;omega
    have hρl:=HR0.o.2 ρ hE9
    have hyl:(natL y).length≤900:=HB.o.2.1
    have hy0:0<y:=Nat.pos_of_ne_zero HB.o.2.2
    have co:=order_ref ρ y _ vb wr hT.o.2.1 (HB.o.1.below hT.o.2.2.2.1 (Nat.le_refl _)) (by omega) (by omega)
    by_cases hle:y≤ρ
    ·have hcm:0≤cmpN ρ y:=by unfold cmpN;(repeat' split) <;> omega
     have ht9:t+1≤9:=by
      have h1:(t+1)*y<10*y:=by rw [Nat.add_mul,Nat.one_mul];have:=HR0.o.1;omega
      have:=Nat.lt_of_mul_lt_mul_right h1
      omega
     have cm:=fun (m:Nat)=>minus_ref ρ y hle _ vb (wr.drewN m) (hT.o.2.1.below (below_drewN (Below.refl _ wr) m) (Nat.le_refl _)) (HB.o.1.below (below_drewN hT.o.2.2.2.1 m) (Nat.le_refl _)) (by omega)
     have hnum:=numI_eq hT.o.2.1
     have hgw:w.heap.size<wr.heap.size:=hT.o.1.lt
     have HFIN:Shut (∀ (m:Nat) (W:World) (v:Value),Below (wr.drewN m).heap.size (wr.drewN m) W→NI W v (natL (ρ-y))→(∀ g,v.ownBlock=some g→(wr.drewN m).heap.size≤g)→W.cell? ⟨w.heap.size,j,none⟩=some (.int .i64 (t:Int))∧W.frozen? ⟨w.heap.size,j,none⟩=false∧DI w (W.setCell ⟨w.heap.size,j,none⟩ (.int .i64 ((t+1:Nat):Int))) v la x y j (t+1) (ρ-y)):=⟨fun m W v hB hN hF=>by
      have hir:=(hT.o.1.drewN m).below hB hgw
      have hc:=hir.j64 j (by rw [padL_len];omega)
      rw [padL_getD la _ j (by omega),digit_of _ j t (by omega)] at hc
      refine ⟨hc,hir.frozen j, ?_, ?_, ?_, ?_, ?_⟩
      ·have h2:=hir.set64 j (t+1) (by rw [padL_len];omega)
       rw [padL_set la _ j (t+1) (by omega) (by omega),digit_of _ j t (by omega)] at h2
       rwa [show 10^(j+1)*(x / 10^(j+1) / y)+10^j*t+10^j*(t+1)-10^j*t=10^(j+1)*(x / 10^(j+1) / y)+10^j*(t+1) by omega] at h2
      ·exact NI.setOther hN (fun k hk=>by have:wr.heap.size≤k:=hF k hk;omega)
      ·exact fun k hk=>by have:wr.heap.size≤k:=hF k hk;omega
      ·exact ((below_drewN hT.o.2.2.2.1 m).trans (hB.mono (below_drewN hT.o.2.2.2.1 m).size)).setCell (p:=⟨w.heap.size,j,none⟩) (Nat.le_refl _) _
      ·rw [HD.o,Nat.add_mul,Nat.one_mul];omega⟩
     have HNUM:Shut _:=⟨hnum⟩
     have hlt:ρ-y < ρ:=by omega
     clear hE hE9 hρl hT hnum
     generalize cmpN ρ y=cv at *
     go_upto_region 8 with (go_at_call 103; refine co.mono ?_;rintro e w7 ⟨rfl,m,rfl⟩)
     go_upto_region 9 with (go_at_call 148; refine (cm m).mono ?_;rintro e w8 ⟨v8,rfl,hN8,hF8,hB8⟩)
     obtain ⟨c8,f8,hDI⟩:=HFIN.o m w8 v8 hB8 hN8 hF8
     have HDI:Shut _:=⟨hDI⟩
     have HM:Shut (numI (w8.setCell ⟨w.heap.size,j,none⟩ (.int .i64 ((t+1:Nat):Int))) v8=ρ-y):=⟨numI_eq hDI.2.1⟩
     clear hDI hN8 hF8 hB8 HFIN cm co
     go_wp2
     rw [show ((t:Int)+1)=((t+1:Nat):Int) by omega]
     exact ⟨⟨t+1,ρ-y,ht9,HDI⟩,by rw [HM.o,HNUM.o];exact hlt⟩
    ·have hcm:cmpN ρ y<0:=by unfold cmpN;(repeat' split) <;> omega
     have hend:=div_end x y j t ρ (by rw [←HLA.o];omega) hy0 (by omega) hT.o.2.2.2.2
     have HF:Shut (∀ m,DO w (wr.drewN m) _ la x y j):=⟨fun m=>⟨by rw [←hend.1];exact hT.o.1.drewN m,by rw [←hend.2];exact hT.o.2.1.below (below_drewN (Below.refl _ wr) m) (Nat.le_refl _),hT.o.2.2.1,below_drewN hT.o.2.2.2.1 m⟩⟩
     have hcm2:¬ 0≤cmpN ρ y:=by omega
     clear hE hE9 hρl hT hend
     generalize cmpN ρ y=cv at *
     go_wp2_with (go_at_call 103; refine co.mono ?_;rintro e w7 ⟨rfl,m,rfl⟩)
     exact ⟨⟨j,by omega,rfl,⟨HF.o m⟩⟩,by simp [intOf]⟩
end N10
end
end Go.Proofs.YtbfonkabmehlmaaGreatDoor
