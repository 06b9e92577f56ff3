import Derived.Test.YtihlgifojjeoaaaGreatDoorZ5H6
import Derived.Test.YtihlgifojjeoaaaGreatDoorZ5H1
set_option maxRecDepth 1000000
set_option maxHeartbeats 40000000
open Go.Value renaming string→J
open Go.Obj renaming cells→Jc
namespace Go.Proofs.YtihlgifojjeoaaaGreatDoor
namespace Tw
open Go.RowKit Go.Extern.Stop Go.Stop Go.Extern
open En Go.Proofs.YtihlgifojjeoaaaGreatDoor.Nm Go.Proofs.YtihlgifojjeoaaaGreatDoor.Rt
def pickN (c:Int) (n:Nat):Nat:=(if c<0 then (-(c+1)).toNat else c.toNat) % n
theorem pickN_lt (c:Int) {n:Nat} (h:0<n):pickN c n<n:=Nat.mod_lt _ h
theorem pickR_val (c:Int) (m:Nat) (h1 : -9223372036854775808≤c) (h2:c≤9223372036854775807) (n1:1≤m):∀ w:World,Calls Tryz.prog 87 #[.int .i64 c,.int .i64 (m:Int)] w fun e w'=>e = .returned (.int .i64 (pickN c m:Int))∧Below w.heap.size w w':=by
 have hw:∀ x:Int, -9223372036854775808≤x→x≤9223372036854775807→IntKind.i64.wrap x=x:=fun x a b=>by simp [IntKind.wrap,IntKind.signed,IntKind.bits];omega
 have hn0:¬(m:Int)=0:=by omega
 intro w;by_cases hc:c<0
 ·have e1:=hw (c+1) (by omega) (by omega);have e2:=hw (-(c+1)) (by omega) (by omega);obtain ⟨k,hk⟩:∃ k:Nat, -(c+1)=(k:Int):=⟨(-(c+1)).toNat,by omega⟩;have hp:pickN c m=k % m:=by rw [pickN,if_pos hc,hk,Int.toNat_natCast]
  rw [hp];clear hp;have hd:decide (c<0)=true:=decide_eq_true hc;go_enter Tryz.func87, Tryz.ntmps87;go_wp2;go_ret;exact ⟨by first | rfl | simp,Below.refl _ _⟩
 ·obtain ⟨k,rfl⟩:=Int.eq_ofNat_of_zero_le (show 0≤c by omega);have hp:pickN (k:Int) m=k % m:=by rw [pickN,if_neg hc,Int.toNat_natCast]
  rw [hp];clear hp;have hd:decide ((k:Int)<0)=false:=decide_eq_false hc;go_enter Tryz.func87, Tryz.ntmps87;go_wp2;go_ret;exact ⟨by first | rfl | simp,Below.refl _ _⟩
theorem ofR_q (n d:Int) (hn:n.natAbs≤1000000) (hd:d.natAbs≤1000000) (d0:d≠0) (W:World):Calls Tryz.prog 88 #[.int .i64 n,.int .i64 d] W fun e w'=>e = .returned (.tuple #[.agg #[J (pq (Rat.divInt n d)).1,J (pq (Rat.divInt n d)).2],.int .i64 0])∧Below W.heap.size W w':=by
 have f1:Fits n:=fits_small (Nat.lt_trans (show n.natAbs<10^20 by omega) (by decide));have f2:Fits d:=fits_small (Nat.lt_trans (show d.natAbs<10^20 by omega) (by decide));have:=OfR_all n d (by omega) (by omega) (by omega) (by omega) W;rw [red_q f1 f2 d0] at this;exact this
theorem tdiv11 {x:Int} (h1 : -9223372036854775808≤x) (h2:x≤9223372036854775807) : -9223372036854775808≤x.tdiv 11∧x.tdiv 11≤9223372036854775807:=by
 rcases Int.le_total 0 x with h | h
 ·rw [Int.tdiv_eq_ediv_of_nonneg h];omega
 ·obtain ⟨k,rfl⟩:∃ k:Int,x = -k:=⟨-x,by omega⟩;rw [Int.neg_tdiv,Int.tdiv_eq_ediv_of_nonneg (by omega)];omega
def elQ (X:Nat→Int) (i:Nat):Rat:=Rat.divInt ((pickN (X i) 11:Int)-5) (1+(pickN ((X i).tdiv 11) 3:Int))
def elL (X:Nat→Int) (n:Nat):List Rat:=(List.range n).map (elQ X)
theorem elL_len (X:Nat→Int) (n:Nat):(elL X n).length=n:=by rw [elL,List.length_map,List.length_range]
theorem elL_at (X:Nat→Int) (n i:Nat) (h:i<n):pqs (elL X n) i=pq (elQ X i):=by
 rw [pqs,List.getD_eq_getElem?_getD,elL,List.getElem?_map,List.getElem?_range h];rfl
theorem elQ_lat (X:Nat→Int) (i:Nat):Lat 6 30 (elQ X i):=by
 have h1:=pickN_lt (X i) (n:=11) (by decide);have h2:=pickN_lt ((X i).tdiv 11) (n:=3) (by decide);rw [elQ];generalize pickN (X i) 11=a at *
 generalize pickN ((X i).tdiv 11) 3=b at *
 obtain ⟨z,hz⟩:∃ z:Int,z=(a:Int)-5:=⟨_,rfl⟩;rw [←hz];rcases (by omega:b=0∨b=1∨b=2) with rfl | rfl | rfl
 ·exact ⟨by decide,z*6,by show Rat.divInt z 1=Rat.divInt (z*6) (1*6);exact (Rat.divInt_mul_right (by decide)).symm,by omega⟩
 ·exact ⟨by decide,z*3,by show Rat.divInt z 2=Rat.divInt (z*3) (2*3);exact (Rat.divInt_mul_right (by decide)).symm,by omega⟩
 ·exact ⟨by decide,z*2,by show Rat.divInt z 3=Rat.divInt (z*2) (3*2);exact (Rat.divInt_mul_right (by decide)).symm,by omega⟩
theorem elL_all (X:Nat→Int) (n:Nat):AllL 6 30 (elL X n):=fun q hq=>by
 obtain ⟨i,_,rfl⟩:=List.mem_map.1 hq;exact elQ_lat X i
structure Ar (cs:Array Value) (X:Nat→Int):Prop where
 size:cs.size=16
 at_:∀ i,i<16→cs[i]? = some (.int .i64 (X i))∧(-9223372036854775808≤X i∧X i≤9223372036854775807)
theorem Ar.cell {cs:Array Value} {X:Nat→Int} (h:Ar cs X) {W:World} {b:Nat} {T:TypeId} (hb:W.heap[b]? = some (.cells cs T (0,0))) {i:Nat} (hi:i<16):W.cell? ⟨b,i,none⟩=some (.int .i64 (X i)):=En.lcell hb i (h.at_ i hi).1
theorem Element_c {cs:Array Value} {X:Nat→Int} (hX:Ar cs X) {p:Option Addr} {n cap:Nat} (hn:n≤4) (w:World) :
  Calls Tryz.prog 35 #[.agg #[.slice p n cap],.agg cs] w fun e w'=>(∃ v,e = .returned v∧El w' v (elL X (2^n)))∧Below w.heap.size w w':=by
 have hp:=pow_le hn;have u0:=((Below.refl w.heap.size w).alloc Lr (Jc #[.slice p n cap] 28)).alloc (by simp) (.cells cs 22);have n0:((w.alloc (Jc #[.slice p n cap] 28)).alloc (.cells cs 22)).heap[w.heap.size]? = _:=lold (World.alloc_heap_new w _);have n1:((w.alloc (Jc #[.slice p n cap] 28)).alloc (.cells cs 22)).heap[w.heap.size+1]? = some (.cells cs 22 (0,0)):=(by have:=World.alloc_heap_new (w.alloc (Jc #[.slice p n cap] 28)) (.cells cs 22);simpa using this);have s1:=shl_one hn;obtain ⟨K,hK⟩:∃ K:Nat,K=2^n:=⟨_,rfl⟩;rw [←hK] at s1 hp ⊢;have HA:Sh _:=⟨hX⟩;have HS:Sh (cs.size=16):=⟨hX.size⟩
 have HO:Sh (∀ (W:World) (B:Nat) (v:Value),OwnL W B v K (fun i=>pq (elQ X i))→El W v (elL X K)):=⟨fun W B v h=>by
  obtain ⟨g,c,rfl,_,k1,_,k3⟩:=ownL_cl h hp.1;exact ⟨g,0,c,by rw [elL_len],by rw [elL_len];exact k1,by rw [elL_len];exact k3.congr fun i hi=>(elL_at X K i hi).symm⟩⟩
 clear hX hK;go_enter Tryz.func35, Tryz.ntmps35;go_wp2_with fail;have hz0:((w.alloc (Jc #[.slice p n cap] 28)).alloc (.cells cs 22)).heap.size=w.heap.size+2:=by simp
 have N0:Sh _:=⟨n0⟩;have N1:Sh _:=⟨n1⟩;have U0:Sh _:=⟨u0⟩;clear n0 n1 u0;generalize (w.alloc (Jc #[.slice p n cap] 28)).alloc (.cells cs 22)=W0 at *
 go_loopw [5,6] (fun vv iv wr=>∃ i:Nat,i≤K∧iv = .int .i64 (i:Int)∧Sh (OwnL wr (w.heap.size+2) vv i (fun i=>pq (elQ X i))∧Below (w.heap.size+2) W0 wr)) (fun _ iv _=>K-(intOf iv).toNat)
 case atStart=>exact ⟨0,Nat.zero_le _,rfl,⟨OwnL.nil _ _ _,by rw [←hz0];exact Below.refl _ _⟩⟩
 case round =>
  obtain ⟨i,hi,rfl,HR⟩:=hrel;obtain ⟨hO,u⟩:=HR.o;have na:=(u.block w.heap.size (by omega)).trans N0.o;have nb:=(u.block (w.heap.size+1) (by omega)).trans N1.o;have hsz:w.heap.size+2≤wr.heap.size:=by rw [←hz0];exact u.size
  clear HR;have x0:=En.lcell na 0 (v:=.slice p n cap) rfl;by_cases hin:i=K
  ·subst hin;go_wp2_with fail;go_ret;exact ⟨⟨_,rfl,HO.o _ _ _ hO⟩,U0.o.trans (u.mono (by omega))⟩
  ·have hil:i<K:=by omega
   have hi2:(i:Int)<(K:Int):=by omega
   have hi3:(0:Int)≤(i:Int):=by omega
   have hi5:(i:Int)<16:=by omega
   have hw1:IntKind.i64.wrap ((i:Int)+1)=(i:Int)+1:=by simp [IntKind.wrap,IntKind.signed,IntKind.bits];omega
   have x1:=HA.o.cell nb (show i<16 by omega);have hr:=(HA.o.at_ i (by omega)).2;have hdv:=tdiv11 hr.1 hr.2;have h1:=pickN_lt (X i) (n:=11) (by decide);have h2:=pickN_lt ((X i).tdiv 11) (n:=3) (by decide);have P1:Sh (∀ W:World,Calls Tryz.prog 87 #[.int .i64 (X i),.int .i64 11] W fun e w'=>e = .returned (.int .i64 (pickN (X i) 11:Int))∧Below W.heap.size W w'):=⟨pickR_val (X i) 11 hr.1 hr.2 (by decide)⟩;have P2:Sh (∀ W:World,Calls Tryz.prog 87 #[.int .i64 ((X i).tdiv 11),.int .i64 3] W fun e w'=>e = .returned (.int .i64 (pickN ((X i).tdiv 11) 3:Int))∧Below W.heap.size W w'):=⟨pickR_val ((X i).tdiv 11) 3 hdv.1 hdv.2 (by decide)⟩;have O3:Sh (∀ W:World,Calls Tryz.prog 88 #[.int .i64 ((pickN (X i) 11:Int)-5),.int .i64 (1+(pickN ((X i).tdiv 11) 3:Int))] W fun e w'=>e = .returned (.tuple #[.agg #[J (pq (elQ X i)).1,J (pq (elQ X i)).2],.int .i64 0])∧Below W.heap.size W w'):=⟨fun W=>ofR_q _ _ (by omega) (by omega) (by omega) W⟩;have w2:IntKind.i64.wrap ((pickN (X i) 11:Int)-5)=(pickN (X i) 11:Int)-5:=by simp [IntKind.wrap,IntKind.signed,IntKind.bits];omega
   have w3:IntKind.i64.wrap (1+(pickN ((X i).tdiv 11) 3:Int))=1+(pickN ((X i).tdiv 11) 3:Int):=by simp [IntKind.wrap,IntKind.signed,IntKind.bits];omega
   have w4:IntKind.i64.wrap ((X i).tdiv 11)=(X i).tdiv 11:=by simp [IntKind.wrap,IntKind.signed,IntKind.bits];omega
   have hO:Sh _:=⟨hO⟩;have HQ:Sh ((fun i=>pq (elQ X i)) i=pq (elQ X i)):=⟨rfl⟩;generalize hA1:(pickN (X i) 11:Int)=a1 at *
   generalize hA2:(pickN ((X i).tdiv 11) 3:Int)=a2 at *
   generalize X i=xi at *
   clear hA1 hA2;generalize hG:pq (elQ X i)=g at *
   have HG:Sh (pq (elQ X i)=g):=⟨hG⟩;clear hG h1 h2 hr hdv;have SS:Sh (∀ X,Below wr.heap.size wr X→X.cell? ⟨w.heap.size+1,i,none⟩=some (.int .i64 xi)):=⟨fun X hX=>kcell x1 hX⟩;go_wp2_with fail
   go_cut [7,8] from 22 to 35 (fun s1 s2 wx=>∃ br,s1 = .pointer (some ⟨br,0,none⟩)∧s2 = .int .i64 0∧wx.heap[br]? = some (Jc #[J g.1,J g.2] 42 (0,0))∧wr.heap.size≤br∧Below wr.heap.size wr wx)
   case first =>
    (go_region_held (fun X=>X.cell? ⟨w.heap.size+1,i,none⟩=some (.int .i64 xi)) (first | exact SS.o _ u3 | exact SS.o _ (u3.alloc u3.size _) | exact SS.o _ (u3.setCell (by first | exact Nat.le_refl _ | exact u3.size | exact u2.size | exact u1.size | (simp;done)) _) | exact SS.o _ ((u3.setCell (by first | exact Nat.le_refl _ | exact u3.size | exact u2.size | exact u1.size | (simp;done)) _).setCell (by first | exact Nat.le_refl _ | exact u3.size | exact u2.size | exact u1.size | (simp;done)) _) | exact SS.o _ u2 | exact SS.o _ (u2.alloc u2.size _) | exact SS.o _ u1 | exact SS.o _ (u1.alloc u1.size _) | exact SS.o _ (ldrew (Below.refl _ _)) | exact SS.o _ (ldrew ((Below.refl _ _).alloc Lr _)) | fail)
     (first | (go_at_call 87; have hq:=P1.o wr.drew;(with_reducible refine hq.mono ?_);rintro e x1 ⟨rfl,g⟩;have u1:Below wr.heap.size wr x1:=lundrew2 g;clear hq g) | (go_at_call 87; have hq:=P1.o (wr.alloc (Jc #[J ⟨#[]⟩,J ⟨#[]⟩] 42)).drew;(with_reducible refine hq.mono ?_);rintro e x1 ⟨rfl,g⟩;have u1:Below wr.heap.size wr x1:=((Below.refl _ _).alloc Lr (Jc #[J ⟨#[]⟩,J ⟨#[]⟩] 42)).trans ((lundrew2 g).mono (by simp));have n1:=En.lkeep (World.alloc_heap_new wr (Jc #[J ⟨#[]⟩,J ⟨#[]⟩] 42)) (lundrew2 g);clear hq g) | (go_at_call 87; have hq:=P2.o x1;(with_reducible refine hq.mono ?_);rintro e x2 ⟨rfl,g⟩;have u2:Below wr.heap.size wr x2:=u1.trans (g.mono u1.size);have n2:=En.lkeep n1 g;clear hq g n1) | (go_at_call 87; have hq:=P2.o x1;(with_reducible refine hq.mono ?_);rintro e x2 ⟨rfl,g⟩;have u2:Below wr.heap.size wr x2:=u1.trans (g.mono u1.size);clear hq g) | (go_at_call 87; have hq:=P2.o (x1.alloc (Jc #[J ⟨#[]⟩,J ⟨#[]⟩] 42));(with_reducible refine hq.mono ?_);rintro e x2 ⟨rfl,g⟩;have u2:Below wr.heap.size wr x2:=(u1.alloc u1.size (Jc #[J ⟨#[]⟩,J ⟨#[]⟩] 42)).trans (g.mono (u1.alloc u1.size (Jc #[J ⟨#[]⟩,J ⟨#[]⟩] 42)).size);have n2:=En.lkeep (World.alloc_heap_new x1 (Jc #[J ⟨#[]⟩,J ⟨#[]⟩] 42)) g;clear hq g) | (go_at_call 88; have hq:=O3.o x2;(with_reducible refine hq.mono ?_);rintro e x3 ⟨rfl,g⟩;have u3:Below wr.heap.size wr x3:=u2.trans (g.mono u2.size);have n3:=En.lkeep n2 g;clear hq g n2;have z0:=En.lcell n3 0 (v:=J ⟨#[]⟩) rfl;have z1:=En.lcell n3 1 (v:=J ⟨#[]⟩) rfl;have y0:=En.lfree n3 0;have y1:=En.lfree n3 1) | (go_at_call 88; have hq:=O3.o x2;(with_reducible refine hq.mono ?_);rintro e x3 ⟨rfl,g⟩;have u3:Below wr.heap.size wr x3:=u2.trans (g.mono u2.size);clear hq g;have m3:=World.alloc_heap_new x3 (Jc #[J ⟨#[]⟩,J ⟨#[]⟩] 42);have z0:=En.lcell m3 0 (v:=J ⟨#[]⟩) rfl;have z1:=En.lcell m3 1 (v:=J ⟨#[]⟩) rfl;have y0:=En.lfree m3 0;have y1:=En.lfree m3 1) | (go_at_call 88; have hq:=O3.o (x2.alloc (Jc #[J ⟨#[]⟩,J ⟨#[]⟩] 42));(with_reducible refine hq.mono ?_);rintro e x3 ⟨rfl,g⟩;have u3:Below wr.heap.size wr x3:=(u2.alloc u2.size (Jc #[J ⟨#[]⟩,J ⟨#[]⟩] 42)).trans (g.mono (u2.alloc u2.size (Jc #[J ⟨#[]⟩,J ⟨#[]⟩] 42)).size);have n3:=En.lkeep (World.alloc_heap_new x2 (Jc #[J ⟨#[]⟩,J ⟨#[]⟩] 42)) g;clear hq g;have z0:=En.lcell n3 0 (v:=J ⟨#[]⟩) rfl;have z1:=En.lcell n3 1 (v:=J ⟨#[]⟩) rfl;have y0:=En.lfree n3 0;have y1:=En.lfree n3 1) | fail);all_goals (try clear SS))
    all_goals
     go_wp2_with fail
     go_meet
     first
      | exact ⟨_,rfl,rfl,box2_setx n3,Nat.le_refl _,(u3.setCell Lr _).setCell Lr _⟩
      | exact ⟨_,rfl,rfl,box2_setx n3,u1.size,(u3.setCell u1.size _).setCell u1.size _⟩
      | exact ⟨_,rfl,rfl,box2_setx n3,u2.size,(u3.setCell u2.size _).setCell u2.size _⟩
      | exact ⟨_,rfl,rfl,World.alloc_heap_new x3 _,u3.size,u3.alloc u3.size _⟩
   case rest =>
   obtain ⟨br,rfl,rfl,nr,hbr,ux⟩:=hcut;clear SS P1 P2 O3 x0 x1 na nb;have r0:=En.lcell nr 0 (v:=J g.1) rfl;have r1:=En.lcell nr 1 (v:=J g.2) rfl;have ha:=((Below.refl wc.heap.size wc).alloc Lr (Jc #[J g.1,J g.2] 42));have n_n:(wc.alloc (Jc #[J g.1,J g.2] 42)).heap[wc.heap.size]? = some (Jc #[J g.1,J g.2] 42 (0,0)):=World.alloc_heap_new wc _;have hO:=(hO.o.below ux).below ha;have u1:=(u.trans (ux.mono hsz)).trans (ha.mono (Nat.le_trans hsz ux.size));have hij:i≤1000:=by omega
   have hsz2:w.heap.size+2≤(wc.alloc (Jc #[J g.1,J g.2] 42)).heap.size:=Nat.le_trans hsz (Nat.le_trans ux.size ha.size);clear ha;go_wp2_with (at_builtin;go_must (refine En.append_one rfl _ _ rfl (w.heap.size+2) _ i (fun i=>pq (elQ X i)) rfl hO wc.heap.size _ rfl (by rw [HG.o];exact n_n) hij hsz2 ?_);intro v' w' hO' hg hat);have u2:=below_app u1 (by rw [hz0];exact Nat.le_refl _) Lr hO hg;clear hO hg hat n_n
   go_roundw
   case rel=>exact ⟨i+1,by omega,by first | rfl | go_num | simp,⟨hO',u2⟩⟩
   case measure=>simp [intOf];omega
end Tw
end Go.Proofs.YtihlgifojjeoaaaGreatDoor
