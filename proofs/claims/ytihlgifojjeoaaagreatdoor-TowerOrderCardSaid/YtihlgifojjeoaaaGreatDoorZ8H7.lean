import Derived.Test.YtihlgifojjeoaaaGreatDoorZ8H5
import Derived.Test.YtihlgifojjeoaaaGreatDoorZ8H1
set_option maxRecDepth 1000000
set_option maxHeartbeats 40000000
open Go.Value renaming string→J
open Go.Obj renaming cells→Jc
namespace Go.Proofs.YtihlgifojjeoaaaGreatDoor
section
namespace Tw
open Go.RowKit Go.Extern.Stop Go.Stop Go.Extern
open En Go.Proofs.YtihlgifojjeoaaaGreatDoor.Nm Go.Proofs.YtihlgifojjeoaaaGreatDoor.Rt
def QaG (c:Int) (n:Nat):Nat:=(if c<0 then (-(c+1)).toNat else c.toNat) % n
theorem QbM (c:Int) {n:Nat} (h:0<n):QaG c n<n:=Nat.mod_lt _ h
theorem QdS (c:Int) (m:Nat) (h1 : -9223372036854775808≤c) (h2:c≤9223372036854775807) (n1:1≤m):∀ w:World,Calls Tryz.prog 87 #[.int .i64 c,.int .i64 (m:Int)] w fun e w'=>e = .returned (.int .i64 (QaG c m:Int))∧Below w.heap.size w w':=by
 have hw:∀ x:Int, -9223372036854775808≤x→x≤9223372036854775807→IntKind.i64.wrap x=x:=fun x a b=>by simp [IntKind.wrap,IntKind.signed,IntKind.bits];omega
 have hn0:¬(m:Int)=0:=by omega
 intro w;by_cases hc:c<0
 ·have e1:=hw (c+1) (by omega) (by omega);have e2:=hw (-(c+1)) (by omega) (by omega);obtain ⟨k,hk⟩:∃ k:Nat, -(c+1)=(k:Int):=⟨(-(c+1)).toNat,by omega⟩;have hp:QaG c m=k % m:=by rw [QaG,if_pos hc,hk,Int.toNat_natCast]
  rw [hp];clear hp;have hd:decide (c<0)=true:=decide_eq_true hc;go_enter Tryz.func87, Tryz.ntmps87;go_wp2;go_ret;exact ⟨by first | rfl | simp,Below.refl _ _⟩
 ·obtain ⟨k,rfl⟩:=Int.eq_ofNat_of_zero_le (show 0≤c by omega);have hp:QaG (k:Int) m=k % m:=by rw [QaG,if_neg hc,Int.toNat_natCast]
  rw [hp];clear hp;have hd:decide ((k:Int)<0)=false:=decide_eq_false hc;go_enter Tryz.func87, Tryz.ntmps87;go_wp2;go_ret;exact ⟨by first | rfl | simp,Below.refl _ _⟩
theorem QtK (n d:Int) (hn:n.natAbs≤1000000) (hd:d.natAbs≤1000000) (d0:d≠0) (W:World):Calls Tryz.prog 88 #[.int .i64 n,.int .i64 d] W fun e w'=>e = .returned (.tuple #[.agg #[J (pq (Rat.divInt n d)).1,J (pq (Rat.divInt n d)).2],.int .i64 0])∧Below W.heap.size W w':=by
 have f1:Fits n:=Qas (Nat.lt_trans (show n.natAbs<10^20 by omega) (by decide));have f2:Fits d:=Qas (Nat.lt_trans (show d.natAbs<10^20 by omega) (by decide));have:=QsI n d (by omega) (by omega) (by omega) (by omega) W;rw [Qfz f1 f2 d0] at this;exact this
theorem Qvv {x:Int} (h1 : -9223372036854775808≤x) (h2:x≤9223372036854775807) : -9223372036854775808≤x.tdiv 11∧x.tdiv 11≤9223372036854775807:=by
 rcases Int.le_total 0 x with h | h
 ·rw [Int.tdiv_eq_ediv_of_nonneg h];omega
 ·obtain ⟨k,rfl⟩:∃ k:Int,x = -k:=⟨-x,by omega⟩;rw [Int.neg_tdiv,Int.tdiv_eq_ediv_of_nonneg (by omega)];omega
def elQ (X:Nat→Int) (i:Nat):Rat:=Rat.divInt ((QaG (X i) 11:Int)-5) (1+(QaG ((X i).tdiv 11) 3:Int))
def elL (X:Nat→Int) (n:Nat):List Rat:=(List.range n).map (elQ X)
theorem Qdx (X:Nat→Int) (n:Nat):(elL X n).length=n:=by rw [elL,List.length_map,List.length_range]
theorem Qvw (X:Nat→Int) (n i:Nat) (h:i<n):pqs (elL X n) i=pq (elQ X i):=by
 rw [pqs,List.getD_eq_getElem?_getD,elL,List.getElem?_map,List.getElem?_range h];rfl
theorem QtL (X:Nat→Int) (i:Nat):Lat 6 30 (elQ X i):=by
 have h1:=QbM (X i) (n:=11) (by decide);have h2:=QbM ((X i).tdiv 11) (n:=3) (by decide);rw [elQ];generalize QaG (X i) 11=a at *
 generalize QaG ((X i).tdiv 11) 3=b at *
 obtain ⟨z,hz⟩:∃ z:Int,z=(a:Int)-5:=⟨_,rfl⟩;rw [←hz];rcases (by omega:b=0∨b=1∨b=2) with rfl | rfl | rfl
 ·exact ⟨by decide,z*6,by show Rat.divInt z 1=Rat.divInt (z*6) (1*6);exact (Rat.divInt_mul_right (by decide)).symm,by omega⟩
 ·exact ⟨by decide,z*3,by show Rat.divInt z 2=Rat.divInt (z*3) (2*3);exact (Rat.divInt_mul_right (by decide)).symm,by omega⟩
 ·exact ⟨by decide,z*2,by show Rat.divInt z 3=Rat.divInt (z*2) (3*2);exact (Rat.divInt_mul_right (by decide)).symm,by omega⟩
theorem Qfo (X:Nat→Int) (n:Nat):AllL 6 30 (elL X n):=fun q hq=>by
 obtain ⟨i,_,rfl⟩:=List.mem_map.1 hq;exact QtL X i
structure Ar (cs:Array Value) (X:Nat→Int):Prop where
 size:cs.size=16
 at_:∀ i,i<16→cs[i]? = some (.int .i64 (X i))∧(-9223372036854775808≤X i∧X i≤9223372036854775807)
theorem Ar.cell {cs:Array Value} {X:Nat→Int} (h:Ar cs X) {W:World} {b:Nat} {T:TypeId} (hb:W.heap[b]? = some (.cells cs T (0,0))) {i:Nat} (hi:i<16):W.cell? ⟨b,i,none⟩=some (.int .i64 (X i)):=En.Qaa hb i (h.at_ i hi).1
theorem QgW {cs:Array Value} {X:Nat→Int} (hX:Ar cs X) {p:Option Addr} {n cap:Nat} (hn:n≤4) (w:World) :
  Calls Tryz.prog 35 #[.agg #[.slice p n cap],.agg cs] w fun e w'=>(∃ v,e = .returned v∧El w' v (elL X (2^n)))∧Below w.heap.size w w':=by
 have hp:=QbG hn;have u0:=((Below.refl w.heap.size w).alloc Lr (Jc #[.slice p n cap] 28)).alloc (by simp) (.cells cs 22);have n0:((w.alloc (Jc #[.slice p n cap] 28)).alloc (.cells cs 22)).heap[w.heap.size]? = _:=lold (World.alloc_heap_new w _);have n1:((w.alloc (Jc #[.slice p n cap] 28)).alloc (.cells cs 22)).heap[w.heap.size+1]? = some (.cells cs 22 (0,0)):=(by have:=World.alloc_heap_new (w.alloc (Jc #[.slice p n cap] 28)) (.cells cs 22);simpa using this);have s1:=Qiu hn;obtain ⟨K,hK⟩:∃ K:Nat,K=2^n:=⟨_,rfl⟩;rw [←hK] at s1 hp ⊢;have HA:Sh _:=⟨hX⟩;have HS:Sh (cs.size=16):=⟨hX.size⟩
 have HO:Sh (∀ (W:World) (B:Nat) (v:Value),OwnL W B v K (fun i=>pq (elQ X i))→El W v (elL X K)):=⟨fun W B v h=>by
  obtain ⟨g,c,rfl,_,k1,_,k3⟩:=Qdc h hp.1;exact ⟨g,0,c,by rw [Qdx],by rw [Qdx];exact k1,by rw [Qdx];exact k3.congr fun i hi=>(Qvw X K i hi).symm⟩⟩
 clear hX hK;go_enter Tryz.func35, Tryz.ntmps35;go_wp2_with fail;have hz0:((w.alloc (Jc #[.slice p n cap] 28)).alloc (.cells cs 22)).heap.size=w.heap.size+2:=by simp
 have N0:Sh _:=⟨n0⟩;have N1:Sh _:=⟨n1⟩;have U0:Sh _:=⟨u0⟩;clear n0 n1 u0;generalize (w.alloc (Jc #[.slice p n cap] 28)).alloc (.cells cs 22)=W0 at *
 go_loopw [5,6] (fun vv iv wr=>∃ i:Nat,i≤K∧iv = .int .i64 (i:Int)∧Sh (OwnL wr (w.heap.size+2) vv i (fun i=>pq (elQ X i))∧Below (w.heap.size+2) W0 wr)) (fun _ iv _=>K-(intOf iv).toNat)
 case atStart=>exact ⟨0,Nat.zero_le _,rfl,⟨OwnL.nil _ _ _,by rw [←hz0];exact Below.refl _ _⟩⟩
 case round =>
  obtain ⟨i,hi,rfl,HR⟩:=hrel;obtain ⟨hO,u⟩:=HR.o;have na:=(u.block w.heap.size (by omega)).trans N0.o;have nb:=(u.block (w.heap.size+1) (by omega)).trans N1.o;have hsz:w.heap.size+2≤wr.heap.size:=by rw [←hz0];exact u.size
  clear HR;have x0:=En.Qaa na 0 (v:=.slice p n cap) rfl;by_cases hin:i=K
  ·subst hin;go_wp2_with fail;go_ret;exact ⟨⟨_,rfl,HO.o _ _ _ hO⟩,U0.o.trans (u.mono (by omega))⟩
  ·have hil:i<K:=by omega
   have hi2:(i:Int)<(K:Int):=by omega
   have hi3:(0:Int)≤(i:Int):=by omega
   have hi5:(i:Int)<16:=by omega
   have hw1:IntKind.i64.wrap ((i:Int)+1)=(i:Int)+1:=by simp [IntKind.wrap,IntKind.signed,IntKind.bits];omega
   have x1:=HA.o.cell nb (show i<16 by omega);have hr:=(HA.o.at_ i (by omega)).2;have hdv:=Qvv hr.1 hr.2;have h1:=QbM (X i) (n:=11) (by decide);have h2:=QbM ((X i).tdiv 11) (n:=3) (by decide);have P1:Sh (∀ W:World,Calls Tryz.prog 87 #[.int .i64 (X i),.int .i64 11] W fun e w'=>e = .returned (.int .i64 (QaG (X i) 11:Int))∧Below W.heap.size W w'):=⟨QdS (X i) 11 hr.1 hr.2 (by decide)⟩;have P2:Sh (∀ W:World,Calls Tryz.prog 87 #[.int .i64 ((X i).tdiv 11),.int .i64 3] W fun e w'=>e = .returned (.int .i64 (QaG ((X i).tdiv 11) 3:Int))∧Below W.heap.size W w'):=⟨QdS ((X i).tdiv 11) 3 hdv.1 hdv.2 (by decide)⟩;have O3:Sh (∀ W:World,Calls Tryz.prog 88 #[.int .i64 ((QaG (X i) 11:Int)-5),.int .i64 (1+(QaG ((X i).tdiv 11) 3:Int))] W fun e w'=>e = .returned (.tuple #[.agg #[J (pq (elQ X i)).1,J (pq (elQ X i)).2],.int .i64 0])∧Below W.heap.size W w'):=⟨fun W=>QtK _ _ (by omega) (by omega) (by omega) W⟩;have w2:IntKind.i64.wrap ((QaG (X i) 11:Int)-5)=(QaG (X i) 11:Int)-5:=by simp [IntKind.wrap,IntKind.signed,IntKind.bits];omega
   have w3:IntKind.i64.wrap (1+(QaG ((X i).tdiv 11) 3:Int))=1+(QaG ((X i).tdiv 11) 3:Int):=by simp [IntKind.wrap,IntKind.signed,IntKind.bits];omega
   have w4:IntKind.i64.wrap ((X i).tdiv 11)=(X i).tdiv 11:=by simp [IntKind.wrap,IntKind.signed,IntKind.bits];omega
   have hO:Sh _:=⟨hO⟩;have HQ:Sh ((fun i=>pq (elQ X i)) i=pq (elQ X i)):=⟨rfl⟩;generalize hA1:(QaG (X i) 11:Int)=a1 at *
   generalize hA2:(QaG ((X i).tdiv 11) 3:Int)=a2 at *
   generalize X i=xi at *
   clear hA1 hA2;generalize hG:pq (elQ X i)=g at *
   have HG:Sh (pq (elQ X i)=g):=⟨hG⟩;clear hG h1 h2 hr hdv;have SS:Sh (∀ X,Below wr.heap.size wr X→X.cell? ⟨w.heap.size+1,i,none⟩=some (.int .i64 xi)):=⟨fun X hX=>Qae x1 hX⟩;go_wp2_with fail
   go_cut [7,8] from 22 to 35 (fun s1 s2 wx=>∃ br,s1 = .pointer (some ⟨br,0,none⟩)∧s2 = .int .i64 0∧wx.heap[br]? = some (Jc #[J g.1,J g.2] 42 (0,0))∧wr.heap.size≤br∧Below wr.heap.size wr wx)
   case first =>
    (go_region_held (fun X=>X.cell? ⟨w.heap.size+1,i,none⟩=some (.int .i64 xi)) (first | exact SS.o _ u3 | exact SS.o _ (u3.alloc u3.size _) | exact SS.o _ (u3.setCell (by first | exact Nat.le_refl _ | exact u3.size | exact u2.size | exact u1.size | (simp;done)) _) | exact SS.o _ ((u3.setCell (by first | exact Nat.le_refl _ | exact u3.size | exact u2.size | exact u1.size | (simp;done)) _).setCell (by first | exact Nat.le_refl _ | exact u3.size | exact u2.size | exact u1.size | (simp;done)) _) | exact SS.o _ u2 | exact SS.o _ (u2.alloc u2.size _) | exact SS.o _ u1 | exact SS.o _ (u1.alloc u1.size _) | exact SS.o _ (QaS (Below.refl _ _)) | exact SS.o _ (QaS ((Below.refl _ _).alloc Lr _)) | fail)
     (first | (go_at_call 87; have hq:=P1.o wr.drew;(with_reducible refine hq.mono ?_);rintro e x1 ⟨rfl,g⟩;have u1:Below wr.heap.size wr x1:=Qah g;clear hq g) | (go_at_call 87; have hq:=P1.o (wr.alloc (Jc #[J ⟨#[]⟩,J ⟨#[]⟩] 42)).drew;(with_reducible refine hq.mono ?_);rintro e x1 ⟨rfl,g⟩;have u1:Below wr.heap.size wr x1:=((Below.refl _ _).alloc Lr (Jc #[J ⟨#[]⟩,J ⟨#[]⟩] 42)).trans ((Qah g).mono (by simp));have n1:=En.Qac (World.alloc_heap_new wr (Jc #[J ⟨#[]⟩,J ⟨#[]⟩] 42)) (Qah g);clear hq g) | (go_at_call 87; have hq:=P2.o x1;(with_reducible refine hq.mono ?_);rintro e x2 ⟨rfl,g⟩;have u2:Below wr.heap.size wr x2:=u1.trans (g.mono u1.size);have n2:=En.Qac n1 g;clear hq g n1) | (go_at_call 87; have hq:=P2.o x1;(with_reducible refine hq.mono ?_);rintro e x2 ⟨rfl,g⟩;have u2:Below wr.heap.size wr x2:=u1.trans (g.mono u1.size);clear hq g) | (go_at_call 87; have hq:=P2.o (x1.alloc (Jc #[J ⟨#[]⟩,J ⟨#[]⟩] 42));(with_reducible refine hq.mono ?_);rintro e x2 ⟨rfl,g⟩;have u2:Below wr.heap.size wr x2:=(u1.alloc u1.size (Jc #[J ⟨#[]⟩,J ⟨#[]⟩] 42)).trans (g.mono (u1.alloc u1.size (Jc #[J ⟨#[]⟩,J ⟨#[]⟩] 42)).size);have n2:=En.Qac (World.alloc_heap_new x1 (Jc #[J ⟨#[]⟩,J ⟨#[]⟩] 42)) g;clear hq g) | (go_at_call 88; have hq:=O3.o x2;(with_reducible refine hq.mono ?_);rintro e x3 ⟨rfl,g⟩;have u3:Below wr.heap.size wr x3:=u2.trans (g.mono u2.size);have n3:=En.Qac n2 g;clear hq g n2;have z0:=En.Qaa n3 0 (v:=J ⟨#[]⟩) rfl;have z1:=En.Qaa n3 1 (v:=J ⟨#[]⟩) rfl;have y0:=En.Qad n3 0;have y1:=En.Qad n3 1) | (go_at_call 88; have hq:=O3.o x2;(with_reducible refine hq.mono ?_);rintro e x3 ⟨rfl,g⟩;have u3:Below wr.heap.size wr x3:=u2.trans (g.mono u2.size);clear hq g;have m3:=World.alloc_heap_new x3 (Jc #[J ⟨#[]⟩,J ⟨#[]⟩] 42);have z0:=En.Qaa m3 0 (v:=J ⟨#[]⟩) rfl;have z1:=En.Qaa m3 1 (v:=J ⟨#[]⟩) rfl;have y0:=En.Qad m3 0;have y1:=En.Qad m3 1) | (go_at_call 88; have hq:=O3.o (x2.alloc (Jc #[J ⟨#[]⟩,J ⟨#[]⟩] 42));(with_reducible refine hq.mono ?_);rintro e x3 ⟨rfl,g⟩;have u3:Below wr.heap.size wr x3:=(u2.alloc u2.size (Jc #[J ⟨#[]⟩,J ⟨#[]⟩] 42)).trans (g.mono (u2.alloc u2.size (Jc #[J ⟨#[]⟩,J ⟨#[]⟩] 42)).size);have n3:=En.Qac (World.alloc_heap_new x2 (Jc #[J ⟨#[]⟩,J ⟨#[]⟩] 42)) g;clear hq g;have z0:=En.Qaa n3 0 (v:=J ⟨#[]⟩) rfl;have z1:=En.Qaa n3 1 (v:=J ⟨#[]⟩) rfl;have y0:=En.Qad n3 0;have y1:=En.Qad n3 1) | fail);all_goals (try clear SS))
    all_goals
     go_wp2_with fail
     go_meet
     first
      | exact ⟨_,rfl,rfl,Qbc n3,Nat.le_refl _,(u3.setCell Lr _).setCell Lr _⟩
      | exact ⟨_,rfl,rfl,Qbc n3,u1.size,(u3.setCell u1.size _).setCell u1.size _⟩
      | exact ⟨_,rfl,rfl,Qbc n3,u2.size,(u3.setCell u2.size _).setCell u2.size _⟩
      | exact ⟨_,rfl,rfl,World.alloc_heap_new x3 _,u3.size,u3.alloc u3.size _⟩
   case rest =>
   obtain ⟨br,rfl,rfl,nr,hbr,ux⟩:=hcut;clear SS P1 P2 O3 x0 x1 na nb;have r0:=En.Qaa nr 0 (v:=J g.1) rfl;have r1:=En.Qaa nr 1 (v:=J g.2) rfl;have ha:=((Below.refl wc.heap.size wc).alloc Lr (Jc #[J g.1,J g.2] 42));have n_n:(wc.alloc (Jc #[J g.1,J g.2] 42)).heap[wc.heap.size]? = some (Jc #[J g.1,J g.2] 42 (0,0)):=World.alloc_heap_new wc _;have hO:=(hO.o.below ux).below ha;have u1:=(u.trans (ux.mono hsz)).trans (ha.mono (Nat.le_trans hsz ux.size));have hij:i≤1000:=by omega
   have hsz2:w.heap.size+2≤(wc.alloc (Jc #[J g.1,J g.2] 42)).heap.size:=Nat.le_trans hsz (Nat.le_trans ux.size ha.size);clear ha;go_wp2_with (at_builtin;go_must (refine En.Qbt rfl _ _ rfl (w.heap.size+2) _ i (fun i=>pq (elQ X i)) rfl hO wc.heap.size _ rfl (by rw [HG.o];exact n_n) hij hsz2 ?_);intro v' w' hO' hg hat);have u2:=QbA u1 (by rw [hz0];exact Nat.le_refl _) Lr hO hg;clear hO hg hat n_n
   go_roundw
   case rel=>exact ⟨i+1,by omega,by first | rfl | go_num | simp,⟨hO',u2⟩⟩
   case measure=>simp [intOf];omega
theorem QhH:∀ {rs:List (List Rat)},Qaw rs (zeros (2^rs.length))=some 0
 | []=>by show some (cmpQ 0 0)=some 0;rw [Qgv]
 | d :: rs=>by
  rw [List.length_cons,QgT,QgO rfl,QhH,Option.bind_some,Option.bind_some,if_pos rfl]
theorem Qly {q:Rat} (hq:0<q):∀ {rs:List (List Rat)},Qaw rs (q :: zeros (2^rs.length-1))=some 1
 | []=>by show some (cmpQ q 0)=some 1;rw [QtB hq]
 | d :: rs=>by
  have hp:0<2^rs.length:=Nat.pos_of_ne_zero (by simp)
  have e:q :: zeros (2^(rs.length+1)-1)=(q :: zeros (2^rs.length-1))++zeros (2^rs.length):=by
   rw [List.cons_append,zeros,zeros,zeros,List.replicate_append_replicate,show 2^rs.length-1+2^rs.length=2^(rs.length+1)-1 by rw [Nat.pow_succ];omega]
  rw [List.length_cons,e,QgO (by rw [List.length_cons,zl,zl];omega),Qly hq,QhH,Option.bind_some,Option.bind_some,if_pos rfl]
structure MadeT (L:List (List Rat)) (k:Nat):Prop where
 len:L.length=k
 fld:∃ rs,Qam [] L=some rs
 lat:∀ x∈L,AllL 1 7 x
 fit:FitT L
theorem MadeT.nil:MadeT [] 0:=⟨rfl,⟨[],rfl⟩,fun _ h=>(by cases h),fun _ h=>(by cases h)⟩
theorem MadeT.snoc {L rs:List (List Rat)} {k:Nat} {d:List Rat} (h:MadeT L k) (hf:Qam [] L=some rs) (ha:Adj rs d) (hd:AllL 1 7 d) (hl:d.length≤1000):MadeT (L ++ [d]) (k+1):=by
 refine ⟨by rw [List.length_append,h.len];rfl,⟨d :: rs,by rw [QcG,hf,Option.bind_some,Qam,if_pos ha];rfl⟩,fun x hx => ?_,fun x hx => ?_⟩
 ·rcases List.mem_append.1 hx with hx | hx
  ·exact h.lat x hx
  ·rw [List.mem_singleton.1 hx];exact hd
 ·rcases List.mem_append.1 hx with hx | hx
  ·exact h.fit x hx
  ·rw [List.mem_singleton.1 hx];exact ⟨hd.fit (by decide +kernel),hl⟩
def rdQ (X:Nat→Int) (K k:Nat):Rat:=Rat.divInt ((QaG (X (K+k)) 9:Int)-2) 1
def rdL (X:Nat→Int) (K:Nat):List Rat:=(List.range K).map (rdQ X K)
theorem Qfp (X:Nat→Int) (K:Nat):(rdL X K).length=K:=by rw [rdL,List.length_map,List.length_range]
theorem Qvx (X:Nat→Int) (K i:Nat) (h:i<K):pqs (rdL X K) i=pq (rdQ X K i):=by
 rw [pqs,List.getD_eq_getElem?_getD,rdL,List.getElem?_map,List.getElem?_range h];rfl
theorem Qph (X:Nat→Int) (K:Nat):AllL 1 7 (rdL X K):=fun q hq=>by
 obtain ⟨i,_,rfl⟩:=List.mem_map.1 hq;have:=QbM (X (K+i)) (n:=9) (by decide);exact Lat.int _ (by omega)
theorem Qpi {W:World} {g n:Nat} (h:Cl W g 0 n (fun _=>(⟨#[48]⟩,⟨#[49]⟩))) (hn:1≤n) (q:Rat) :
  Cl ((W.setCell ⟨g,0,none⟩ (J (pq q).1)).setCell ⟨g,1,none⟩ (J (pq q).2)) g 0 n (pqs (q :: zeros (n-1))):=by
 have h0:=h.at_ 0 (by omega);refine ⟨fun i hi => ?_⟩;have hs:∀ (V:World) (k j:Nat) (y:Value),k≠j→(V.setCell ⟨g,k,none⟩ y).cell? ⟨g,j,none⟩=V.cell? ⟨g,j,none⟩:=fun V k j y hk=>World.cell?_setCell_other V ⟨g,k,none⟩ ⟨g,j,none⟩ y (by intro e;injection e with _ e _;exact hk e);by_cases hi0:i=0
 ·subst hi0;rw [show pqs (q :: zeros (n-1)) 0=pq q from rfl];have k1:W.cell? ⟨g,0,none⟩=some _:=h0.1;have k2:W.cell? ⟨g,1,none⟩=some _:=h0.2;refine ⟨?_, ?_⟩
  ·show ((W.setCell ⟨g,0,none⟩ (J (pq q).1)).setCell ⟨g,1,none⟩ (J (pq q).2)).cell? ⟨g,0,none⟩=_;rw [hs _ 1 0 _ (by decide)];exact World.cell?_setCell_same W _ _ k1
  ·show ((W.setCell ⟨g,0,none⟩ (J (pq q).1)).setCell ⟨g,1,none⟩ (J (pq q).2)).cell? ⟨g,1,none⟩=_;exact World.cell?_setCell_same _ _ _ ((hs _ 0 1 _ (by decide)).trans k2)
 ·have e:pqs (q :: zeros (n-1)) i=(⟨#[48]⟩,⟨#[49]⟩):=by
   obtain ⟨j,rfl⟩:∃ j,i=j+1:=⟨i-1,by omega⟩;rw [show pqs (q :: zeros (n-1)) (j+1)=pqs (zeros (n-1)) j from rfl,QgM]
  rw [e];obtain ⟨k1,k2⟩:=h.at_ i hi;rw [hs _ _ _ _ (by omega),hs _ _ _ _ (by omega),hs _ _ _ _ (by omega),hs _ _ _ _ (by omega)];exact ⟨k1,k2⟩
theorem Qvy {cs:Array Value} {X:Nat→Int} (hX:Ar cs X) (lv:Int) (l1 : -9223372036854775808≤lv) (l2:lv≤9223372036854775807) (w:World) :
  Calls Tryz.prog 34 #[.int .i64 lv,.agg cs] w fun e w'=>(∃ L vt,e = .returned vt∧(TwC w' vt L∧TwN w.heap.size w' vt L)∧MadeT L (QaG lv 4))∧Below w.heap.size w w':=by
 have PL:Sh (∀ W:World,Calls Tryz.prog 87 #[.int .i64 lv,.int .i64 4] W fun e w'=>e = .returned (.int .i64 (QaG lv 4:Int))∧Below W.heap.size W w'):=⟨QdS lv 4 l1 l2 (by decide)⟩;have hN:=QbM lv (n:=4) (by decide);generalize QaG lv 4=N at *
 have u0:=((Below.refl w.heap.size w).alloc Lr (.cells cs 22)).alloc (by simp) (Jc #[.slice none 0 0] 28);have n0:((w.alloc (.cells cs 22)).alloc (Jc #[.slice none 0 0] 28)).heap[w.heap.size]? = _:=lold (World.alloc_heap_new w _);have n1:((w.alloc (.cells cs 22)).alloc (Jc #[.slice none 0 0] 28)).heap[w.heap.size+1]? = some (Jc #[.slice none 0 0] 28 (0,0)):=(by have:=World.alloc_heap_new (w.alloc (.cells cs 22)) (Jc #[.slice none 0 0] 28);simpa using this);have hz1:((w.alloc (.cells cs 22)).alloc (Jc #[.slice none 0 0] 28)).heap.size=w.heap.size+2:=by simp
 have HA:Sh _:=⟨hX⟩;have HS:Sh (cs.size=16):=⟨hX.size⟩;clear hX l1 l2;have n2:(((w.alloc (.cells cs 22)).alloc (Jc #[.slice none 0 0] 28)).alloc (Jc #[.slice none 0 0] 28)).heap[w.heap.size+2]? = some (Jc #[.slice none 0 0] 28 (0,0)):=(by have:=World.alloc_heap_new ((w.alloc (.cells cs 22)).alloc (Jc #[.slice none 0 0] 28)) (Jc #[.slice none 0 0] 28);rwa [hz1] at this);replace n0:=lold (o':=(Jc #[.slice none 0 0] 28)) n0;replace n1:=lold (o':=(Jc #[.slice none 0 0] 28)) n1;replace u0:=u0.alloc (by rw [hz1];omega) (Jc #[.slice none 0 0] 28);have H0:Sh (w.heap.size+3≤(((w.alloc (.cells cs 22)).alloc (Jc #[.slice none 0 0] 28)).alloc (Jc #[.slice none 0 0] 28)).heap.size):=⟨by simp⟩;have N0:Sh _:=⟨n0⟩;have N1:Sh _:=⟨n1⟩;have N2:Sh _:=⟨n2⟩;have U0:Sh _:=⟨u0⟩;clear n0 n1 n2 u0 hz1;go_enter Tryz.func34, Tryz.ntmps34;go_wp2_with fail
 go_loopw [6] (fun iv wr=>∃ i:Nat,i≤N∧iv = .int .i64 (i:Int)∧∃ L v,Sh (Below w.heap.size w wr∧wr.heap[w.heap.size]? = some (.cells cs 22 (0,0))∧wr.heap[w.heap.size+1]? = some (Jc #[.slice none 0 0] 28 (0,0))∧wr.heap[w.heap.size+2]? = some (Jc #[v] 28 (0,0)))∧Sh (TwC wr (.agg #[v]) L∧TwN (w.heap.size+3) wr (.agg #[v]) L∧MadeT L i∧w.heap.size+3≤wr.heap.size)) (fun iv _=>N-(intOf iv).toNat)
 case atStart=>exact ⟨0,Nat.zero_le _,rfl, [],.slice none 0 0,⟨U0.o,N0.o,N1.o,N2.o⟩,⟨⟨⟨none,0,rfl,.inl rfl⟩,⟨none,0,rfl,Nat.le_refl _,fun a h=>by cases h⟩⟩,⟨none,0,rfl,.inl rfl⟩,MadeT.nil,H0.o⟩⟩
 case round =>
  obtain ⟨wo,hwo⟩:∃ x,x=wr:=⟨wr,rfl⟩;subst hwo;obtain ⟨i,hi,rfl,L,v,HF,HT⟩:=hrel;obtain ⟨u,na,nb,nc⟩:=HF.o;obtain ⟨hC,hTN,hM,hsz⟩:=HT.o;clear HF HT N0 N1 N2 U0 H0;obtain ⟨p,cap,hv,_⟩:=hC.parts;rw [hM.len] at hv;obtain rfl:v = .slice p i cap:=by simpa using hv
  have HC:Sh (∀ W,Below wo.heap.size wo W→TwC W (.agg #[.slice p i cap]) L):=⟨fun W g=>hC.keep g⟩;have HTN:Sh (∀ W,Below wo.heap.size wo W→TwN (w.heap.size+3) W (.agg #[.slice p i cap]) L):=⟨fun W g=>hTN.keep g⟩;have HM:Sh (MadeT L i):=⟨hM⟩;clear hC hTN hM hv;go_wp2_with fail;refine (PL.o wo).mono ?_;rintro e V ⟨rfl,gV⟩;replace u:=u.trans (gV.mono (by omega));replace na:=En.Qac na gV;replace nb:=En.Qac nb gV;replace nc:=En.Qac nc gV;have hsV:w.heap.size+3≤V.heap.size:=Nat.le_trans hsz gV.size;have x5:=En.Qaa nc 0 (v:=.slice p i cap) rfl;by_cases hin:i=N
  ·subst hin;have x4:=En.Qaa nb 0 (v:=.slice none 0 0) rfl;have y4:=En.Qad nb 0;have b4:=QbH (y:=.slice p i cap) nb;have z4:=En.Qaa b4 0 (v:=.slice p i cap) rfl;have hT:=(HTN.o V gV).set (b:=w.heap.size+1) (by omega) (.slice p i cap);have RF:Sh ((TwC (V.setCell ⟨w.heap.size+1,0,none⟩ (.slice p i cap)) (.agg #[.slice p i cap]) L∧TwN w.heap.size (V.setCell ⟨w.heap.size+1,0,none⟩ (.slice p i cap)) (.agg #[.slice p i cap]) L)∧Below w.heap.size w (V.setCell ⟨w.heap.size+1,0,none⟩ (.slice p i cap))):=⟨⟨(HC.o V gV).of hT (by simp [World.setCell]),hT.mono (by omega)⟩,u.setCell (Nat.le_succ _) _⟩;clear hT b4;go_wp2_with fail;exact bodyPost_ret (v:=.agg #[.slice p i cap]) (by simp [results,Tryz.results34, go_sem,z4]) rfl ⟨⟨L,_,rfl,RF.o.1,HM.o⟩,RF.o.2⟩
  ·have hil:i<N:=by omega
   have hi2:(i:Int)<(N:Int):=by omega
   have hi3:(0:Int)≤(i:Int):=by omega
   have hw1:IntKind.i64.wrap ((i:Int)+1)=(i:Int)+1:=by simp [IntKind.wrap,IntKind.signed,IntKind.bits];omega
   have s1:=Qiu (i:=i) (by omega);have hK8:=(by rcases (by omega:i=0∨i=1∨i=2) with rfl | rfl | rfl <;> decide:1≤2^i∧2^i≤4);obtain ⟨K,hK⟩:∃ K:Nat,K=2^i:=⟨_,rfl⟩;rw [←hK] at s1 hK8;have HK:Sh (K=2^i):=⟨hK⟩;have NA:Sh _:=⟨na⟩;have NB:Sh _:=⟨nb⟩;have NC:Sh _:=⟨nc⟩;clear hK na nb nc x5;go_wp2_with fail
   go_loopw [7,8] (fun dv kv wi=>∃ k:Nat,k≤K∧kv = .int .i64 (k:Int)∧Sh (OwnL wi V.heap.size dv k (fun j=>pq (rdQ X K j))∧Below V.heap.size V wi)) (fun _ kv _=>K-(intOf kv).toNat)
   case atStart=>exact ⟨0,Nat.zero_le _,rfl,⟨OwnL.nil _ _ _,Below.refl _ _⟩⟩
   case round =>
    obtain ⟨k,hk,rfl,HR⟩:=hrel;obtain ⟨hO,uI⟩:=HR.o;clear HR;by_cases hkn:k=K
    ·subst hkn;have na1:=En.Qac NA.o uI;have nb1:=En.Qac NB.o uI;have nc1:=En.Qac NC.o uI;have x5:=En.Qaa nc1 0 (v:=.slice p i cap) rfl;obtain ⟨g0,c0,rfl,hg0,kc,_,hcl⟩:=Qdc hO (by omega);have hEl:El wr (.slice (some ⟨g0,0,none⟩) k c0) (rdL X k):=⟨g0,0,c0,by rw [Qfp],by rw [Qfp];exact kc,by rw [Qfp];exact hcl.congr fun j hj=>(Qvx X k j hj).symm⟩;obtain ⟨rs,hrs⟩:=HM.o.fld;have hgi:Below wo.heap.size wo wr:=gV.trans (uI.mono gV.size);have hwi:w.heap.size+3≤wr.heap.size:=Nat.le_trans hsV uI.size;have uW:Sh (Below w.heap.size w wr):=⟨u.trans (uI.mono (by omega))⟩;have hxl:(rdL X k).length=2^L.length:=by rw [Qfp,HM.o.len,HK.o]
     have hq:=Qjx HM.o.fit (by rw [Qfp];omega) ((Qph X k).fit (by decide +kernel)) wr (HC.o wr hgi) hEl hrs hxl;have hgi:Sh _:=⟨hgi⟩;by_cases hA:Adj rs (rdL X k)
     ·have M2:Sh (MadeT (L ++ [rdL X k]) (i+1)):=⟨HM.o.snoc hrs hA (Qph X k) (by rw [Qfp];omega)⟩;replace hq:Sh (Calls Tryz.prog 89 #[.agg #[.slice p i cap],.slice (some ⟨g0,0,none⟩) k c0] wr fun e w'=>(∃ v,e = .returned (.tuple #[v,.int .i64 0])∧TwC w' v (L ++ [rdL X k])∧TwN wr.heap.size w' v (L ++ [rdL X k]))∧Below wr.heap.size wr w'):=⟨hq.mono fun e w' h=>⟨h.1.1 hA,h.2⟩⟩;generalize rdL X k=d at *
      clear hO hcl hEl hA hxl hrs NA NB NC gV;go_wp2_with fail;refine hq.o.mono ?_;rintro e V2 ⟨⟨v2,rfl,hC2,hN2⟩,g2⟩;obtain ⟨p2,cap2,hv2,_⟩:=hC2.parts;rw [M2.o.len] at hv2;subst hv2;have n11:=World.alloc_heap_new V2 (Jc #[.slice p2 (i+1) cap2] 28);have z11:=En.Qaa n11 0 (v:=.slice p2 (i+1) cap2) rfl;have uA:=(Below.refl V2.heap.size V2).alloc Lr (Jc #[.slice p2 (i+1) cap2] 28);have u3:=g2.trans (uA.mono g2.size);have nc3:=En.Qac nc1 u3;have x53:=En.Qaa nc3 0 (v:=.slice p i cap) rfl;have y53:=En.Qad nc3 0;have b5:=QbH (y:=.slice p2 (i+1) cap2) nc3;have uS:=(u3.mono (show w.heap.size+2≤wr.heap.size by omega)).setCell (p:=⟨w.heap.size+2,0,none⟩) Lr (.slice p2 (i+1) cap2);have hN4:=((hN2.keep uA).mono hwi).set (b:=w.heap.size+2) (by omega) (.slice p2 (i+1) cap2);have RF:Sh (Below w.heap.size w ((V2.alloc (Jc #[.slice p2 (i+1) cap2] 28)).setCell ⟨w.heap.size+2,0,none⟩ (.slice p2 (i+1) cap2))∧((V2.alloc (Jc #[.slice p2 (i+1) cap2] 28)).setCell ⟨w.heap.size+2,0,none⟩ (.slice p2 (i+1) cap2)).heap[w.heap.size]? = some (.cells cs 22 (0,0))∧((V2.alloc (Jc #[.slice p2 (i+1) cap2] 28)).setCell ⟨w.heap.size+2,0,none⟩ (.slice p2 (i+1) cap2)).heap[w.heap.size+1]? = some (Jc #[.slice none 0 0] 28 (0,0))∧((V2.alloc (Jc #[.slice p2 (i+1) cap2] 28)).setCell ⟨w.heap.size+2,0,none⟩ (.slice p2 (i+1) cap2)).heap[w.heap.size+2]? = some (Jc #[.slice p2 (i+1) cap2] 28 (0,0))):=⟨uW.o.trans (uS.mono (by omega)),(uS.block w.heap.size (by omega)).trans na1,(uS.block (w.heap.size+1) (by omega)).trans nb1,b5⟩;have RG:Sh (TwC ((V2.alloc (Jc #[.slice p2 (i+1) cap2] 28)).setCell ⟨w.heap.size+2,0,none⟩ (.slice p2 (i+1) cap2)) (.agg #[.slice p2 (i+1) cap2]) (L ++ [d])∧TwN (w.heap.size+3) ((V2.alloc (Jc #[.slice p2 (i+1) cap2] 28)).setCell ⟨w.heap.size+2,0,none⟩ (.slice p2 (i+1) cap2)) (.agg #[.slice p2 (i+1) cap2]) (L ++ [d])∧MadeT (L ++ [d]) (i+1)∧w.heap.size+3≤((V2.alloc (Jc #[.slice p2 (i+1) cap2] 28)).setCell ⟨w.heap.size+2,0,none⟩ (.slice p2 (i+1) cap2)).heap.size):=⟨hC2.of hN4 (by simp [World.setCell]),hN4,M2.o,Nat.le_trans hwi uS.size⟩;clear n11 uA u3 nc3 b5 uS hN4 hC2 hN2 hq x5 na1 nb1 nc1;go_wp2_with fail
      go_roundw
      case rel=>exact ⟨i+1,by omega,by first | rfl | go_num | simp,L ++ [d],_,RF,RG⟩
      case measure=>simp [intOf];omega
     ·replace hq:Sh (Calls Tryz.prog 89 #[.agg #[.slice p i cap],.slice (some ⟨g0,0,none⟩) k c0] wr fun e w'=>e = .returned (.tuple #[.agg #[.slice none 0 0],.int .i64 60])∧Below wr.heap.size wr w'):=⟨hq.mono fun e w' h=>⟨h.1.2 hA,h.2⟩⟩;have HRS:Sh (Qam [] L=some rs):=⟨hrs⟩
      have RL:Sh (rs.length=i∧k=2^rs.length):=by
       have hl:rs.length=L.length:=by have:=Qcc hrs;rw [this];simp
       exact ⟨by rw [hl,HM.o.len],by rw [hl,HM.o.len];exact HK.o⟩
      clear hO hcl hEl hA hxl hrs NA NB NC gV;go_wp2_with fail;refine hq.o.mono ?_;rintro e V2 ⟨rfl,g2⟩;have n11:=World.alloc_heap_new V2 (Jc #[.slice none 0 0] 28);have uA:=(Below.refl V2.heap.size V2).alloc Lr (Jc #[.slice none 0 0] 28);have u3:=g2.trans (uA.mono g2.size);have hV2:wr.heap.size≤V2.heap.size:=g2.size;clear hq g2 uA;go_wp2_with fail;generalize V2.alloc (Jc #[.slice none 0 0] 28)=V3 at *
      generalize V2.heap.size=b11 at *
      clear V2;refine (Qlu k (by omega) V3).mono ?_;rintro e V4 ⟨⟨dz,rfl,hOz⟩,g4⟩;obtain ⟨gz,cz,rfl,hgz,kcz,_,hclz⟩:=Qdc hOz (by omega)
      obtain ⟨cur,hbz⟩:∃ cur,V4.heap[gz]? = some (.cells cur 42 (0,0)):=by
       rcases hOz.2 with ⟨h,_⟩ | ⟨g',c',cur,e,_,hb,_⟩
       ·cases h
       ·injection e with e;injection e with e;injection e with e;subst e;exact ⟨cur,hb⟩
      have u4:=u3.trans (g4.mono u3.size);have hb3:=(Array.getElem?_eq_some_iff.1 n11).1;replace n11:=En.Qac n11 g4;have hgr:wr.heap.size≤gz:=Nat.le_trans u3.size hgz;have h11:b11<gz:=Nat.lt_of_lt_of_le hb3 hgz;clear u3 g4 hOz x5;have hr:=(HA.o.at_ k (by omega)).2;have x1:=HA.o.cell (En.Qac na1 u4) (show k<16 by omega);have h7:=QbM (X k) (n:=7) (by decide);have P7:Sh (∀ W:World,Calls Tryz.prog 87 #[.int .i64 (X k),.int .i64 7] W fun e w'=>e = .returned (.int .i64 (QaG (X k) 7:Int))∧Below W.heap.size W w'):=⟨QdS _ 7 hr.1 hr.2 (by decide)⟩;have O7:Sh (∀ W:World,Calls Tryz.prog 88 #[.int .i64 (1+(QaG (X k) 7:Int)),.int .i64 1] W fun e w'=>e = .returned (.tuple #[.agg #[J (pq (Rat.divInt (1+(QaG (X k) 7:Int)) 1)).1,J (pq (Rat.divInt (1+(QaG (X k) 7:Int)) 1)).2],.int .i64 0])∧Below W.heap.size W w'):=⟨fun W=>QtK _ _ (by omega) (by decide) (by decide) W⟩;have w7:IntKind.i64.wrap (1+(QaG (X k) 7:Int))=1+(QaG (X k) 7:Int):=by simp [IntKind.wrap,IntKind.signed,IntKind.bits];omega
      have Q7:Sh (0<Rat.divInt (1+(QaG (X k) 7:Int)) 1∧Lat 1 7 (Rat.divInt (1+(QaG (X k) 7:Int)) 1)):=⟨Qhb (by omega),Lat.int _ (by omega)⟩;generalize (QaG (X k) 7:Int)=a7 at *
      generalize X k=xk at *
      generalize Rat.divInt (1+a7) 1=q at *
      have hk16:(k:Int)<16:=by omega
      have hk0:(0:Int)≤(k:Int):=by omega
      have hk1:(0:Int)<(k:Int):=by omega
      clear h7 hr;go_wp2_with fail;refine (P7.o _).mono ?_;rintro e V5 ⟨rfl,g5⟩;have u5:=u4.trans (g5.mono u4.size);replace n11:=En.Qac n11 g5;replace hbz:=En.Qac hbz g5;replace hclz:=hclz.keep g5;clear u4 g5 P7 x1;go_wp2_with fail;refine (O7.o _).mono ?_;rintro e V6 ⟨rfl,g6⟩;have u6:=u5.trans (g6.mono u5.size);replace n11:=En.Qac n11 g6;replace hbz:=En.Qac hbz g6;replace hclz:=hclz.keep g6;clear u5 g6 O7;have hF:=Qpi hclz (by omega) q;obtain ⟨c0,c1⟩:=hclz.at_ 0 (by omega);have c0:V6.cell? ⟨gz,0,none⟩=some (J ⟨#[48]⟩):=c0;have c1:V6.cell? ⟨gz,1,none⟩=some (J ⟨#[49]⟩):=c1;have f0:=En.Qad hbz 0;have f1:=En.Qad hbz 1;have u7:=(u6.setCell (p:=⟨gz,0,none⟩) hgr (J (pq q).1)).setCell (p:=⟨gz,1,none⟩) hgr (J (pq q).2);have x57:=En.Qaa (En.Qac nc1 u7) 0 (v:=.slice p i cap) rfl;have hEl:El ((V6.setCell ⟨gz,0,none⟩ (J (pq q).1)).setCell ⟨gz,1,none⟩ (J (pq q).2)) (.slice (some ⟨gz,0,none⟩) k cz) (q :: zeros (k-1)):=⟨gz,0,cz,by rw [List.length_cons,zl];congr 1;omega,by rw [List.length_cons,zl];omega,by rw [List.length_cons,zl,show k-1+1=k by omega];exact hF⟩;have D7:Sh (AllL 1 7 (q :: zeros (k-1))∧(q :: zeros (k-1)).length=k):=⟨AllL.cons Q7.o.2 (AllL.zeros _ _ (by decide)),by rw [List.length_cons,zl];omega⟩;have hA:Adj rs (q :: zeros (k-1)):=⟨by rw [RL.o.1];omega,by rw [D7.o.2,RL.o.2],by rw [RL.o.2];exact Qly Q7.o.1⟩;have hq:=Qjx HM.o.fit (by rw [D7.o.2];omega) (D7.o.1.fit (by decide +kernel)) _ (HC.o _ (hgi.o.trans (u7.mono hgi.o.size))) hEl HRS.o (by rw [D7.o.2,HM.o.len];exact HK.o);have M2:Sh (MadeT (L ++ [q :: zeros (k-1)]) (i+1)):=⟨HM.o.snoc HRS.o hA D7.o.1 (by rw [D7.o.2];omega)⟩;have n117:=(show ((V6.setCell ⟨gz,0,none⟩ (J (pq q).1)).setCell ⟨gz,1,none⟩ (J (pq q).2)).heap[b11]? = _ from ((Qar (fb:=gz) 1 _).block b11 (by have:=(Array.getElem?_eq_some_iff.1 n11).1;simpa [World.setCell] using this) (fun e=>by injection e with e;omega)).trans (((Qar (fb:=gz) 0 _).block b11 (Array.getElem?_eq_some_iff.1 n11).1 (fun e=>by injection e with e;omega)).trans n11));replace hq:=Sh.mk (hq.mono fun e w' h=>(⟨h.1.1 hA,h.2⟩:(∃ v,e = .returned (.tuple #[v,.int .i64 0])∧TwC w' v (L ++ [q :: zeros (k-1)])∧TwN _ w' v (L ++ [q :: zeros (k-1)]))∧Below _ _ w'));have hb11:b11<((V6.setCell ⟨gz,0,none⟩ (J (pq q).1)).setCell ⟨gz,1,none⟩ (J (pq q).2)).heap.size:=(Array.getElem?_eq_some_iff.1 n117).1;have hwr7:wr.heap.size≤((V6.setCell ⟨gz,0,none⟩ (J (pq q).1)).setCell ⟨gz,1,none⟩ (J (pq q).2)).heap.size:=u7.size;generalize q :: zeros (k-1)=d at *
      clear hEl hA hF D7 Q7 HRS RL n11 hbz hclz u6;go_wp2_with fail;refine hq.o.mono ?_;rintro e V8 ⟨⟨v2,rfl,hC2,hN2⟩,g8⟩;obtain ⟨p2,cap2,hv2,_⟩:=hC2.parts;rw [M2.o.len] at hv2;subst hv2;have u8:=u7.trans (g8.mono u7.size);have n118:=En.Qac n117 g8;have z11:=En.Qaa n118 0 (v:=.slice none 0 0) rfl;have y11:=En.Qad n118 0;have b118:=QbH (y:=.slice p2 (i+1) cap2) n118;have zz:=En.Qaa b118 0 (v:=.slice p2 (i+1) cap2) rfl;have u9:=u8.setCell (p:=⟨b11,0,none⟩) hV2 (.slice p2 (i+1) cap2);have nc9:=En.Qac nc1 u9;have x59:=En.Qaa nc9 0 (v:=.slice p i cap) rfl;have y59:=En.Qad nc9 0;have b5:=QbH (y:=.slice p2 (i+1) cap2) nc9;have uS:=(u9.mono (show w.heap.size+2≤wr.heap.size by omega)).setCell (p:=⟨w.heap.size+2,0,none⟩) Lr (.slice p2 (i+1) cap2);have hN4:=((hN2.set (b:=b11) hb11 (.slice p2 (i+1) cap2)).mono (Nat.le_trans hwi hwr7)).set (b:=w.heap.size+2) (by omega) (.slice p2 (i+1) cap2);have RF:Sh (Below w.heap.size w ((V8.setCell ⟨b11,0,none⟩ (.slice p2 (i+1) cap2)).setCell ⟨w.heap.size+2,0,none⟩ (.slice p2 (i+1) cap2))∧((V8.setCell ⟨b11,0,none⟩ (.slice p2 (i+1) cap2)).setCell ⟨w.heap.size+2,0,none⟩ (.slice p2 (i+1) cap2)).heap[w.heap.size]? = some (.cells cs 22 (0,0))∧((V8.setCell ⟨b11,0,none⟩ (.slice p2 (i+1) cap2)).setCell ⟨w.heap.size+2,0,none⟩ (.slice p2 (i+1) cap2)).heap[w.heap.size+1]? = some (Jc #[.slice none 0 0] 28 (0,0))∧((V8.setCell ⟨b11,0,none⟩ (.slice p2 (i+1) cap2)).setCell ⟨w.heap.size+2,0,none⟩ (.slice p2 (i+1) cap2)).heap[w.heap.size+2]? = some (Jc #[.slice p2 (i+1) cap2] 28 (0,0))):=⟨uW.o.trans (uS.mono (by omega)),(uS.block w.heap.size (by omega)).trans na1,(uS.block (w.heap.size+1) (by omega)).trans nb1,b5⟩;have RG:Sh (TwC ((V8.setCell ⟨b11,0,none⟩ (.slice p2 (i+1) cap2)).setCell ⟨w.heap.size+2,0,none⟩ (.slice p2 (i+1) cap2)) (.agg #[.slice p2 (i+1) cap2]) (L ++ [d])∧TwN (w.heap.size+3) ((V8.setCell ⟨b11,0,none⟩ (.slice p2 (i+1) cap2)).setCell ⟨w.heap.size+2,0,none⟩ (.slice p2 (i+1) cap2)) (.agg #[.slice p2 (i+1) cap2]) (L ++ [d])∧MadeT (L ++ [d]) (i+1)∧w.heap.size+3≤((V8.setCell ⟨b11,0,none⟩ (.slice p2 (i+1) cap2)).setCell ⟨w.heap.size+2,0,none⟩ (.slice p2 (i+1) cap2)).heap.size):=⟨hC2.of hN4 (by simp [World.setCell]),hN4,M2.o,Nat.le_trans hwi uS.size⟩;clear b5 uS hN4 hC2 hN2 hq u9 u8 u7 nc9 b118 n118 n117 g8;go_wp2_with fail
      go_roundw
      case rel=>exact ⟨i+1,by omega,by first | rfl | go_num | simp,L ++ [d],_,RF,RG⟩
      case measure=>simp [intOf];omega
    ·have hkl:k<K:=by omega
     have hk2:(k:Int)<(K:Int):=by omega
     have hk3:(0:Int)≤(k:Int):=by omega
     have hwk:IntKind.i64.wrap ((k:Int)+1)=(k:Int)+1:=by simp [IntKind.wrap,IntKind.signed,IntKind.bits];omega
     have hwi:IntKind.i64.wrap ((K:Int)+(k:Int))=(K:Int)+(k:Int):=by simp [IntKind.wrap,IntKind.signed,IntKind.bits];omega
     have hi16:(K:Int)+(k:Int)<16:=by omega
     have hi0:(0:Int)≤(K:Int)+(k:Int):=by omega
     have hnat:((K:Int)+(k:Int)).toNat=K+k:=by omega
     have x1:=HA.o.cell (En.Qac NA.o uI) (show K+k<16 by omega);have hr:=(HA.o.at_ (K+k) (by omega)).2;have h9:=QbM (X (K+k)) (n:=9) (by decide);have P9:Sh (∀ W:World,Calls Tryz.prog 87 #[.int .i64 (X (K+k)),.int .i64 9] W fun e w'=>e = .returned (.int .i64 (QaG (X (K+k)) 9:Int))∧Below W.heap.size W w'):=⟨QdS _ 9 hr.1 hr.2 (by decide)⟩;have O9:Sh (∀ W:World,Calls Tryz.prog 88 #[.int .i64 ((QaG (X (K+k)) 9:Int)-2),.int .i64 1] W fun e w'=>e = .returned (.tuple #[.agg #[J (pq (rdQ X K k)).1,J (pq (rdQ X K k)).2],.int .i64 0])∧Below W.heap.size W w'):=⟨fun W=>QtK _ _ (by omega) (by decide) (by decide) W⟩;have w2:IntKind.i64.wrap ((QaG (X (K+k)) 9:Int)-2)=(QaG (X (K+k)) 9:Int)-2:=by simp [IntKind.wrap,IntKind.signed,IntKind.bits];omega
     have hO:Sh _:=⟨hO⟩;generalize hA1:(QaG (X (K+k)) 9:Int)=a1 at *
     generalize X (K+k)=xi at *
     generalize hG:pq (rdQ X K k)=g at *
     have HG:Sh (pq (rdQ X K k)=g):=⟨hG⟩;clear hA1 hG h9 hr;go_wp2_with fail;refine (P9.o _).mono ?_;rintro e x1w ⟨rfl,g1⟩;go_wp2_with fail;refine (O9.o _).mono ?_;rintro e x2w ⟨rfl,g2⟩;have ux:=g1.trans (g2.mono g1.size);have n3:=World.alloc_heap_new x2w (Jc #[J g.1,J g.2] 42);have r0:=En.Qaa n3 0 (v:=J g.1) rfl;have r1:=En.Qaa n3 1 (v:=J g.2) rfl;have hz:(x2w.alloc (Jc #[J g.1,J g.2] 42)).heap.size=x2w.heap.size+1:=by simp
     have n4:((x2w.alloc (Jc #[J g.1,J g.2] 42)).alloc (Jc #[J g.1,J g.2] 42)).heap[x2w.heap.size+1]? = some (Jc #[J g.1,J g.2] 42 (0,0)):=(by have:=World.alloc_heap_new (x2w.alloc (Jc #[J g.1,J g.2] 42)) (Jc #[J g.1,J g.2] 42);rwa [hz] at this);have ha:=((Below.refl x2w.heap.size x2w).alloc Lr (Jc #[J g.1,J g.2] 42)).alloc (by rw [hz];omega) (Jc #[J g.1,J g.2] 42);have hO:=(hO.o.below ux).below ha;have u1:=(uI.trans (ux.mono uI.size)).trans (ha.mono (Nat.le_trans uI.size ux.size));have hkj:k≤1000:=by omega
     have hsz2:=u1.size;clear ha ux g1 g2 n3 P9 O9;go_wp2_with (at_builtin;go_must (refine En.Qbt rfl _ _ rfl V.heap.size _ k (fun j=>pq (rdQ X K j)) rfl hO (x2w.heap.size+1) _ rfl (by rw [HG.o];exact n4) hkj hsz2 ?_);intro v' w' hO' hg hat);have u2:=QbA u1 Lr Lr hO hg;clear hO hg hat n4
     go_roundw
     case rel=>exact ⟨k+1,by omega,by first | rfl | go_num | simp,⟨hO',u2⟩⟩
     case measure=>simp [intOf];omega
end Tw
end
end Go.Proofs.YtihlgifojjeoaaaGreatDoor
