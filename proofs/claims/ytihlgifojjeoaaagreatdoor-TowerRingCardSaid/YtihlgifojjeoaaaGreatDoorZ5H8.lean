import Derived.Test.YtihlgifojjeoaaaGreatDoorZ5H7
set_option maxRecDepth 1000000
set_option maxHeartbeats 40000000
open Go.Value renaming string→J
open Go.Obj renaming cells→Jc
namespace Go.Proofs.YtihlgifojjeoaaaGreatDoor
namespace Tw
open Go.RowKit Go.Extern.Stop Go.Stop Go.Extern
open En Go.Proofs.YtihlgifojjeoaaaGreatDoor.Nm Go.Proofs.YtihlgifojjeoaaaGreatDoor.Rt
theorem sign_zeros:∀ {rs:List (List Rat)},signO rs (zeros (2^rs.length))=some 0
 | []=>by show some (cmpQ 0 0)=some 0;rw [cmpQ_same]
 | d :: rs=>by
  rw [List.length_cons,zeros_two,signO_app rfl,sign_zeros,Option.bind_some,Option.bind_some,if_pos rfl]
theorem sign_emb {q:Rat} (hq:0<q):∀ {rs:List (List Rat)},signO rs (q :: zeros (2^rs.length-1))=some 1
 | []=>by show some (cmpQ q 0)=some 1;rw [cmp_pos hq]
 | d :: rs=>by
  have hp:0<2^rs.length:=Nat.pos_of_ne_zero (by simp)
  have e:q :: zeros (2^(rs.length+1)-1)=(q :: zeros (2^rs.length-1))++zeros (2^rs.length):=by
   rw [List.cons_append,zeros,zeros,zeros,List.replicate_append_replicate,show 2^rs.length-1+2^rs.length=2^(rs.length+1)-1 by rw [Nat.pow_succ];omega]
  rw [List.length_cons,e,signO_app (by rw [List.length_cons,zl,zl];omega),sign_emb hq,sign_zeros,Option.bind_some,Option.bind_some,if_pos rfl]
structure MadeT (L:List (List Rat)) (k:Nat):Prop where
 len:L.length=k
 fld:∃ rs,fieldO [] L=some rs
 lat:∀ x∈L,AllL 1 7 x
 fit:FitT L
theorem MadeT.nil:MadeT [] 0:=⟨rfl,⟨[],rfl⟩,fun _ h=>(by cases h),fun _ h=>(by cases h)⟩
theorem MadeT.snoc {L rs:List (List Rat)} {k:Nat} {d:List Rat} (h:MadeT L k) (hf:fieldO [] L=some rs) (ha:Adj rs d) (hd:AllL 1 7 d) (hl:d.length≤1000):MadeT (L ++ [d]) (k+1):=by
 refine ⟨by rw [List.length_append,h.len];rfl,⟨d :: rs,by rw [fieldO_app,hf,Option.bind_some,fieldO,if_pos ha];rfl⟩,fun x hx => ?_,fun x hx => ?_⟩
 ·rcases List.mem_append.1 hx with hx | hx
  ·exact h.lat x hx
  ·rw [List.mem_singleton.1 hx];exact hd
 ·rcases List.mem_append.1 hx with hx | hx
  ·exact h.fit x hx
  ·rw [List.mem_singleton.1 hx];exact ⟨hd.fit (by decide +kernel),hl⟩
def rdQ (X:Nat→Int) (K k:Nat):Rat:=Rat.divInt ((pickN (X (K+k)) 9:Int)-2) 1
def rdL (X:Nat→Int) (K:Nat):List Rat:=(List.range K).map (rdQ X K)
theorem rdL_len (X:Nat→Int) (K:Nat):(rdL X K).length=K:=by rw [rdL,List.length_map,List.length_range]
theorem rdL_at (X:Nat→Int) (K i:Nat) (h:i<K):pqs (rdL X K) i=pq (rdQ X K i):=by
 rw [pqs,List.getD_eq_getElem?_getD,rdL,List.getElem?_map,List.getElem?_range h];rfl
theorem rdL_all (X:Nat→Int) (K:Nat):AllL 1 7 (rdL X K):=fun q hq=>by
 obtain ⟨i,_,rfl⟩:=List.mem_map.1 hq;have:=pickN_lt (X (K+i)) (n:=9) (by decide);exact Lat.int _ (by omega)
theorem set_first {W:World} {g n:Nat} (h:Cl W g 0 n (fun _=>(⟨#[48]⟩,⟨#[49]⟩))) (hn:1≤n) (q:Rat) :
  Cl ((W.setCell ⟨g,0,none⟩ (J (pq q).1)).setCell ⟨g,1,none⟩ (J (pq q).2)) g 0 n (pqs (q :: zeros (n-1))):=by
 have h0:=h.at_ 0 (by omega);refine ⟨fun i hi => ?_⟩;have hs:∀ (V:World) (k j:Nat) (y:Value),k≠j→(V.setCell ⟨g,k,none⟩ y).cell? ⟨g,j,none⟩=V.cell? ⟨g,j,none⟩:=fun V k j y hk=>World.cell?_setCell_other V ⟨g,k,none⟩ ⟨g,j,none⟩ y (by intro e;injection e with _ e _;exact hk e);by_cases hi0:i=0
 ·subst hi0;rw [show pqs (q :: zeros (n-1)) 0=pq q from rfl];have k1:W.cell? ⟨g,0,none⟩=some _:=h0.1;have k2:W.cell? ⟨g,1,none⟩=some _:=h0.2;refine ⟨?_, ?_⟩
  ·show ((W.setCell ⟨g,0,none⟩ (J (pq q).1)).setCell ⟨g,1,none⟩ (J (pq q).2)).cell? ⟨g,0,none⟩=_;rw [hs _ 1 0 _ (by decide)];exact World.cell?_setCell_same W _ _ k1
  ·show ((W.setCell ⟨g,0,none⟩ (J (pq q).1)).setCell ⟨g,1,none⟩ (J (pq q).2)).cell? ⟨g,1,none⟩=_;exact World.cell?_setCell_same _ _ _ ((hs _ 0 1 _ (by decide)).trans k2)
 ·have e:pqs (q :: zeros (n-1)) i=(⟨#[48]⟩,⟨#[49]⟩):=by
   obtain ⟨j,rfl⟩:∃ j,i=j+1:=⟨i-1,by omega⟩;rw [show pqs (q :: zeros (n-1)) (j+1)=pqs (zeros (n-1)) j from rfl,pqs_zeros]
  rw [e];obtain ⟨k1,k2⟩:=h.at_ i hi;rw [hs _ _ _ _ (by omega),hs _ _ _ _ (by omega),hs _ _ _ _ (by omega),hs _ _ _ _ (by omega)];exact ⟨k1,k2⟩
theorem Made_c {cs:Array Value} {X:Nat→Int} (hX:Ar cs X) (lv:Int) (l1 : -9223372036854775808≤lv) (l2:lv≤9223372036854775807) (w:World) :
  Calls Tryz.prog 34 #[.int .i64 lv,.agg cs] w fun e w'=>(∃ L vt,e = .returned vt∧(TwC w' vt L∧TwN w.heap.size w' vt L)∧MadeT L (pickN lv 4))∧Below w.heap.size w w':=by
 have PL:Sh (∀ W:World,Calls Tryz.prog 87 #[.int .i64 lv,.int .i64 4] W fun e w'=>e = .returned (.int .i64 (pickN lv 4:Int))∧Below W.heap.size W w'):=⟨pickR_val lv 4 l1 l2 (by decide)⟩;have hN:=pickN_lt lv (n:=4) (by decide);generalize pickN lv 4=N at *
 have u0:=((Below.refl w.heap.size w).alloc Lr (.cells cs 22)).alloc (by simp) (Jc #[.slice none 0 0] 28);have n0:((w.alloc (.cells cs 22)).alloc (Jc #[.slice none 0 0] 28)).heap[w.heap.size]? = _:=lold (World.alloc_heap_new w _);have n1:((w.alloc (.cells cs 22)).alloc (Jc #[.slice none 0 0] 28)).heap[w.heap.size+1]? = some (Jc #[.slice none 0 0] 28 (0,0)):=(by have:=World.alloc_heap_new (w.alloc (.cells cs 22)) (Jc #[.slice none 0 0] 28);simpa using this);have hz1:((w.alloc (.cells cs 22)).alloc (Jc #[.slice none 0 0] 28)).heap.size=w.heap.size+2:=by simp
 have HA:Sh _:=⟨hX⟩;have HS:Sh (cs.size=16):=⟨hX.size⟩;clear hX l1 l2;have n2:(((w.alloc (.cells cs 22)).alloc (Jc #[.slice none 0 0] 28)).alloc (Jc #[.slice none 0 0] 28)).heap[w.heap.size+2]? = some (Jc #[.slice none 0 0] 28 (0,0)):=(by have:=World.alloc_heap_new ((w.alloc (.cells cs 22)).alloc (Jc #[.slice none 0 0] 28)) (Jc #[.slice none 0 0] 28);rwa [hz1] at this);replace n0:=lold (o':=(Jc #[.slice none 0 0] 28)) n0;replace n1:=lold (o':=(Jc #[.slice none 0 0] 28)) n1;replace u0:=u0.alloc (by rw [hz1];omega) (Jc #[.slice none 0 0] 28);have H0:Sh (w.heap.size+3≤(((w.alloc (.cells cs 22)).alloc (Jc #[.slice none 0 0] 28)).alloc (Jc #[.slice none 0 0] 28)).heap.size):=⟨by simp⟩;have N0:Sh _:=⟨n0⟩;have N1:Sh _:=⟨n1⟩;have N2:Sh _:=⟨n2⟩;have U0:Sh _:=⟨u0⟩;clear n0 n1 n2 u0 hz1;go_enter Tryz.func34, Tryz.ntmps34;go_wp2_with fail
 go_loopw [6] (fun iv wr=>∃ i:Nat,i≤N∧iv = .int .i64 (i:Int)∧∃ L v,Sh (Below w.heap.size w wr∧wr.heap[w.heap.size]? = some (.cells cs 22 (0,0))∧wr.heap[w.heap.size+1]? = some (Jc #[.slice none 0 0] 28 (0,0))∧wr.heap[w.heap.size+2]? = some (Jc #[v] 28 (0,0)))∧Sh (TwC wr (.agg #[v]) L∧TwN (w.heap.size+3) wr (.agg #[v]) L∧MadeT L i∧w.heap.size+3≤wr.heap.size)) (fun iv _=>N-(intOf iv).toNat)
 case atStart=>exact ⟨0,Nat.zero_le _,rfl, [],.slice none 0 0,⟨U0.o,N0.o,N1.o,N2.o⟩,⟨⟨⟨none,0,rfl,.inl rfl⟩,⟨none,0,rfl,Nat.le_refl _,fun a h=>by cases h⟩⟩,⟨none,0,rfl,.inl rfl⟩,MadeT.nil,H0.o⟩⟩
 case round =>
  obtain ⟨wo,hwo⟩:∃ x,x=wr:=⟨wr,rfl⟩;subst hwo;obtain ⟨i,hi,rfl,L,v,HF,HT⟩:=hrel;obtain ⟨u,na,nb,nc⟩:=HF.o;obtain ⟨hC,hTN,hM,hsz⟩:=HT.o;clear HF HT N0 N1 N2 U0 H0;obtain ⟨p,cap,hv,_⟩:=hC.parts;rw [hM.len] at hv;obtain rfl:v = .slice p i cap:=by simpa using hv
  have HC:Sh (∀ W,Below wo.heap.size wo W→TwC W (.agg #[.slice p i cap]) L):=⟨fun W g=>hC.keep g⟩;have HTN:Sh (∀ W,Below wo.heap.size wo W→TwN (w.heap.size+3) W (.agg #[.slice p i cap]) L):=⟨fun W g=>hTN.keep g⟩;have HM:Sh (MadeT L i):=⟨hM⟩;clear hC hTN hM hv;go_wp2_with fail;refine (PL.o wo).mono ?_;rintro e V ⟨rfl,gV⟩;replace u:=u.trans (gV.mono (by omega));replace na:=En.lkeep na gV;replace nb:=En.lkeep nb gV;replace nc:=En.lkeep nc gV;have hsV:w.heap.size+3≤V.heap.size:=Nat.le_trans hsz gV.size;have x5:=En.lcell nc 0 (v:=.slice p i cap) rfl;by_cases hin:i=N
  ·subst hin;have x4:=En.lcell nb 0 (v:=.slice none 0 0) rfl;have y4:=En.lfree nb 0;have b4:=box1_set (y:=.slice p i cap) nb;have z4:=En.lcell b4 0 (v:=.slice p i cap) rfl;have hT:=(HTN.o V gV).set (b:=w.heap.size+1) (by omega) (.slice p i cap);have RF:Sh ((TwC (V.setCell ⟨w.heap.size+1,0,none⟩ (.slice p i cap)) (.agg #[.slice p i cap]) L∧TwN w.heap.size (V.setCell ⟨w.heap.size+1,0,none⟩ (.slice p i cap)) (.agg #[.slice p i cap]) L)∧Below w.heap.size w (V.setCell ⟨w.heap.size+1,0,none⟩ (.slice p i cap))):=⟨⟨(HC.o V gV).of hT (by simp [World.setCell]),hT.mono (by omega)⟩,u.setCell (Nat.le_succ _) _⟩;clear hT b4;go_wp2_with fail;exact bodyPost_ret (v:=.agg #[.slice p i cap]) (by simp [results,Tryz.results34, go_sem,z4]) rfl ⟨⟨L,_,rfl,RF.o.1,HM.o⟩,RF.o.2⟩
  ·have hil:i<N:=by omega
   have hi2:(i:Int)<(N:Int):=by omega
   have hi3:(0:Int)≤(i:Int):=by omega
   have hw1:IntKind.i64.wrap ((i:Int)+1)=(i:Int)+1:=by simp [IntKind.wrap,IntKind.signed,IntKind.bits];omega
   have s1:=shl_one (i:=i) (by omega);have hK8:=(by rcases (by omega:i=0∨i=1∨i=2) with rfl | rfl | rfl <;> decide:1≤2^i∧2^i≤4);obtain ⟨K,hK⟩:∃ K:Nat,K=2^i:=⟨_,rfl⟩;rw [←hK] at s1 hK8;have HK:Sh (K=2^i):=⟨hK⟩;have NA:Sh _:=⟨na⟩;have NB:Sh _:=⟨nb⟩;have NC:Sh _:=⟨nc⟩;clear hK na nb nc x5;go_wp2_with fail
   go_loopw [7,8] (fun dv kv wi=>∃ k:Nat,k≤K∧kv = .int .i64 (k:Int)∧Sh (OwnL wi V.heap.size dv k (fun j=>pq (rdQ X K j))∧Below V.heap.size V wi)) (fun _ kv _=>K-(intOf kv).toNat)
   case atStart=>exact ⟨0,Nat.zero_le _,rfl,⟨OwnL.nil _ _ _,Below.refl _ _⟩⟩
   case round =>
    obtain ⟨k,hk,rfl,HR⟩:=hrel;obtain ⟨hO,uI⟩:=HR.o;clear HR;by_cases hkn:k=K
    ·subst hkn;have na1:=En.lkeep NA.o uI;have nb1:=En.lkeep NB.o uI;have nc1:=En.lkeep NC.o uI;have x5:=En.lcell nc1 0 (v:=.slice p i cap) rfl;obtain ⟨g0,c0,rfl,hg0,kc,_,hcl⟩:=ownL_cl hO (by omega);have hEl:El wr (.slice (some ⟨g0,0,none⟩) k c0) (rdL X k):=⟨g0,0,c0,by rw [rdL_len],by rw [rdL_len];exact kc,by rw [rdL_len];exact hcl.congr fun j hj=>(rdL_at X k j hj).symm⟩;obtain ⟨rs,hrs⟩:=HM.o.fld;have hgi:Below wo.heap.size wo wr:=gV.trans (uI.mono gV.size);have hwi:w.heap.size+3≤wr.heap.size:=Nat.le_trans hsV uI.size;have uW:Sh (Below w.heap.size w wr):=⟨u.trans (uI.mono (by omega))⟩;have hxl:(rdL X k).length=2^L.length:=by rw [rdL_len,HM.o.len,HK.o]
     have hq:=extR_some HM.o.fit (by rw [rdL_len];omega) ((rdL_all X k).fit (by decide +kernel)) wr (HC.o wr hgi) hEl hrs hxl;have hgi:Sh _:=⟨hgi⟩;by_cases hA:Adj rs (rdL X k)
     ·have M2:Sh (MadeT (L ++ [rdL X k]) (i+1)):=⟨HM.o.snoc hrs hA (rdL_all X k) (by rw [rdL_len];omega)⟩;replace hq:Sh (Calls Tryz.prog 89 #[.agg #[.slice p i cap],.slice (some ⟨g0,0,none⟩) k c0] wr fun e w'=>(∃ v,e = .returned (.tuple #[v,.int .i64 0])∧TwC w' v (L ++ [rdL X k])∧TwN wr.heap.size w' v (L ++ [rdL X k]))∧Below wr.heap.size wr w'):=⟨hq.mono fun e w' h=>⟨h.1.1 hA,h.2⟩⟩;generalize rdL X k=d at *
      clear hO hcl hEl hA hxl hrs NA NB NC gV;go_wp2_with fail;refine hq.o.mono ?_;rintro e V2 ⟨⟨v2,rfl,hC2,hN2⟩,g2⟩;obtain ⟨p2,cap2,hv2,_⟩:=hC2.parts;rw [M2.o.len] at hv2;subst hv2;have n11:=World.alloc_heap_new V2 (Jc #[.slice p2 (i+1) cap2] 28);have z11:=En.lcell n11 0 (v:=.slice p2 (i+1) cap2) rfl;have uA:=(Below.refl V2.heap.size V2).alloc Lr (Jc #[.slice p2 (i+1) cap2] 28);have u3:=g2.trans (uA.mono g2.size);have nc3:=En.lkeep nc1 u3;have x53:=En.lcell nc3 0 (v:=.slice p i cap) rfl;have y53:=En.lfree nc3 0;have b5:=box1_set (y:=.slice p2 (i+1) cap2) nc3;have uS:=(u3.mono (show w.heap.size+2≤wr.heap.size by omega)).setCell (p:=⟨w.heap.size+2,0,none⟩) Lr (.slice p2 (i+1) cap2);have hN4:=((hN2.keep uA).mono hwi).set (b:=w.heap.size+2) (by omega) (.slice p2 (i+1) cap2);have RF:Sh (Below w.heap.size w ((V2.alloc (Jc #[.slice p2 (i+1) cap2] 28)).setCell ⟨w.heap.size+2,0,none⟩ (.slice p2 (i+1) cap2))∧((V2.alloc (Jc #[.slice p2 (i+1) cap2] 28)).setCell ⟨w.heap.size+2,0,none⟩ (.slice p2 (i+1) cap2)).heap[w.heap.size]? = some (.cells cs 22 (0,0))∧((V2.alloc (Jc #[.slice p2 (i+1) cap2] 28)).setCell ⟨w.heap.size+2,0,none⟩ (.slice p2 (i+1) cap2)).heap[w.heap.size+1]? = some (Jc #[.slice none 0 0] 28 (0,0))∧((V2.alloc (Jc #[.slice p2 (i+1) cap2] 28)).setCell ⟨w.heap.size+2,0,none⟩ (.slice p2 (i+1) cap2)).heap[w.heap.size+2]? = some (Jc #[.slice p2 (i+1) cap2] 28 (0,0))):=⟨uW.o.trans (uS.mono (by omega)),(uS.block w.heap.size (by omega)).trans na1,(uS.block (w.heap.size+1) (by omega)).trans nb1,b5⟩;have RG:Sh (TwC ((V2.alloc (Jc #[.slice p2 (i+1) cap2] 28)).setCell ⟨w.heap.size+2,0,none⟩ (.slice p2 (i+1) cap2)) (.agg #[.slice p2 (i+1) cap2]) (L ++ [d])∧TwN (w.heap.size+3) ((V2.alloc (Jc #[.slice p2 (i+1) cap2] 28)).setCell ⟨w.heap.size+2,0,none⟩ (.slice p2 (i+1) cap2)) (.agg #[.slice p2 (i+1) cap2]) (L ++ [d])∧MadeT (L ++ [d]) (i+1)∧w.heap.size+3≤((V2.alloc (Jc #[.slice p2 (i+1) cap2] 28)).setCell ⟨w.heap.size+2,0,none⟩ (.slice p2 (i+1) cap2)).heap.size):=⟨hC2.of hN4 (by simp [World.setCell]),hN4,M2.o,Nat.le_trans hwi uS.size⟩;clear n11 uA u3 nc3 b5 uS hN4 hC2 hN2 hq x5 na1 nb1 nc1;go_wp2_with fail
      go_roundw
      case rel=>exact ⟨i+1,by omega,by first | rfl | go_num | simp,L ++ [d],_,RF,RG⟩
      case measure=>simp [intOf];omega
     ·replace hq:Sh (Calls Tryz.prog 89 #[.agg #[.slice p i cap],.slice (some ⟨g0,0,none⟩) k c0] wr fun e w'=>e = .returned (.tuple #[.agg #[.slice none 0 0],.int .i64 60])∧Below wr.heap.size wr w'):=⟨hq.mono fun e w' h=>⟨h.1.2 hA,h.2⟩⟩;have HRS:Sh (fieldO [] L=some rs):=⟨hrs⟩
      have RL:Sh (rs.length=i∧k=2^rs.length):=by
       have hl:rs.length=L.length:=by have:=field_rev hrs;rw [this];simp
       exact ⟨by rw [hl,HM.o.len],by rw [hl,HM.o.len];exact HK.o⟩
      clear hO hcl hEl hA hxl hrs NA NB NC gV;go_wp2_with fail;refine hq.o.mono ?_;rintro e V2 ⟨rfl,g2⟩;have n11:=World.alloc_heap_new V2 (Jc #[.slice none 0 0] 28);have uA:=(Below.refl V2.heap.size V2).alloc Lr (Jc #[.slice none 0 0] 28);have u3:=g2.trans (uA.mono g2.size);have hV2:wr.heap.size≤V2.heap.size:=g2.size;clear hq g2 uA;go_wp2_with fail;generalize V2.alloc (Jc #[.slice none 0 0] 28)=V3 at *
      generalize V2.heap.size=b11 at *
      clear V2;refine (zeros_cl k (by omega) V3).mono ?_;rintro e V4 ⟨⟨dz,rfl,hOz⟩,g4⟩;obtain ⟨gz,cz,rfl,hgz,kcz,_,hclz⟩:=ownL_cl hOz (by omega)
      obtain ⟨cur,hbz⟩:∃ cur,V4.heap[gz]? = some (.cells cur 42 (0,0)):=by
       rcases hOz.2 with ⟨h,_⟩ | ⟨g',c',cur,e,_,hb,_⟩
       ·cases h
       ·injection e with e;injection e with e;injection e with e;subst e;exact ⟨cur,hb⟩
      have u4:=u3.trans (g4.mono u3.size);have hb3:=(Array.getElem?_eq_some_iff.1 n11).1;replace n11:=En.lkeep n11 g4;have hgr:wr.heap.size≤gz:=Nat.le_trans u3.size hgz;have h11:b11<gz:=Nat.lt_of_lt_of_le hb3 hgz;clear u3 g4 hOz x5;have hr:=(HA.o.at_ k (by omega)).2;have x1:=HA.o.cell (En.lkeep na1 u4) (show k<16 by omega);have h7:=pickN_lt (X k) (n:=7) (by decide);have P7:Sh (∀ W:World,Calls Tryz.prog 87 #[.int .i64 (X k),.int .i64 7] W fun e w'=>e = .returned (.int .i64 (pickN (X k) 7:Int))∧Below W.heap.size W w'):=⟨pickR_val _ 7 hr.1 hr.2 (by decide)⟩;have O7:Sh (∀ W:World,Calls Tryz.prog 88 #[.int .i64 (1+(pickN (X k) 7:Int)),.int .i64 1] W fun e w'=>e = .returned (.tuple #[.agg #[J (pq (Rat.divInt (1+(pickN (X k) 7:Int)) 1)).1,J (pq (Rat.divInt (1+(pickN (X k) 7:Int)) 1)).2],.int .i64 0])∧Below W.heap.size W w'):=⟨fun W=>ofR_q _ _ (by omega) (by decide) (by decide) W⟩;have w7:IntKind.i64.wrap (1+(pickN (X k) 7:Int))=1+(pickN (X k) 7:Int):=by simp [IntKind.wrap,IntKind.signed,IntKind.bits];omega
      have Q7:Sh (0<Rat.divInt (1+(pickN (X k) 7:Int)) 1∧Lat 1 7 (Rat.divInt (1+(pickN (X k) 7:Int)) 1)):=⟨divInt_one_pos (by omega),Lat.int _ (by omega)⟩;generalize (pickN (X k) 7:Int)=a7 at *
      generalize X k=xk at *
      generalize Rat.divInt (1+a7) 1=q at *
      have hk16:(k:Int)<16:=by omega
      have hk0:(0:Int)≤(k:Int):=by omega
      have hk1:(0:Int)<(k:Int):=by omega
      clear h7 hr;go_wp2_with fail;refine (P7.o _).mono ?_;rintro e V5 ⟨rfl,g5⟩;have u5:=u4.trans (g5.mono u4.size);replace n11:=En.lkeep n11 g5;replace hbz:=En.lkeep hbz g5;replace hclz:=hclz.keep g5;clear u4 g5 P7 x1;go_wp2_with fail;refine (O7.o _).mono ?_;rintro e V6 ⟨rfl,g6⟩;have u6:=u5.trans (g6.mono u5.size);replace n11:=En.lkeep n11 g6;replace hbz:=En.lkeep hbz g6;replace hclz:=hclz.keep g6;clear u5 g6 O7;have hF:=set_first hclz (by omega) q;obtain ⟨c0,c1⟩:=hclz.at_ 0 (by omega);have c0:V6.cell? ⟨gz,0,none⟩=some (J ⟨#[48]⟩):=c0;have c1:V6.cell? ⟨gz,1,none⟩=some (J ⟨#[49]⟩):=c1;have f0:=En.lfree hbz 0;have f1:=En.lfree hbz 1;have u7:=(u6.setCell (p:=⟨gz,0,none⟩) hgr (J (pq q).1)).setCell (p:=⟨gz,1,none⟩) hgr (J (pq q).2);have x57:=En.lcell (En.lkeep nc1 u7) 0 (v:=.slice p i cap) rfl;have hEl:El ((V6.setCell ⟨gz,0,none⟩ (J (pq q).1)).setCell ⟨gz,1,none⟩ (J (pq q).2)) (.slice (some ⟨gz,0,none⟩) k cz) (q :: zeros (k-1)):=⟨gz,0,cz,by rw [List.length_cons,zl];congr 1;omega,by rw [List.length_cons,zl];omega,by rw [List.length_cons,zl,show k-1+1=k by omega];exact hF⟩;have D7:Sh (AllL 1 7 (q :: zeros (k-1))∧(q :: zeros (k-1)).length=k):=⟨AllL.cons Q7.o.2 (AllL.zeros _ _ (by decide)),by rw [List.length_cons,zl];omega⟩;have hA:Adj rs (q :: zeros (k-1)):=⟨by rw [RL.o.1];omega,by rw [D7.o.2,RL.o.2],by rw [RL.o.2];exact sign_emb Q7.o.1⟩;have hq:=extR_some HM.o.fit (by rw [D7.o.2];omega) (D7.o.1.fit (by decide +kernel)) _ (HC.o _ (hgi.o.trans (u7.mono hgi.o.size))) hEl HRS.o (by rw [D7.o.2,HM.o.len];exact HK.o);have M2:Sh (MadeT (L ++ [q :: zeros (k-1)]) (i+1)):=⟨HM.o.snoc HRS.o hA D7.o.1 (by rw [D7.o.2];omega)⟩;have n117:=(show ((V6.setCell ⟨gz,0,none⟩ (J (pq q).1)).setCell ⟨gz,1,none⟩ (J (pq q).2)).heap[b11]? = _ from ((grown_set (fb:=gz) 1 _).block b11 (by have:=(Array.getElem?_eq_some_iff.1 n11).1;simpa [World.setCell] using this) (fun e=>by injection e with e;omega)).trans (((grown_set (fb:=gz) 0 _).block b11 (Array.getElem?_eq_some_iff.1 n11).1 (fun e=>by injection e with e;omega)).trans n11));replace hq:=Sh.mk (hq.mono fun e w' h=>(⟨h.1.1 hA,h.2⟩:(∃ v,e = .returned (.tuple #[v,.int .i64 0])∧TwC w' v (L ++ [q :: zeros (k-1)])∧TwN _ w' v (L ++ [q :: zeros (k-1)]))∧Below _ _ w'));have hb11:b11<((V6.setCell ⟨gz,0,none⟩ (J (pq q).1)).setCell ⟨gz,1,none⟩ (J (pq q).2)).heap.size:=(Array.getElem?_eq_some_iff.1 n117).1;have hwr7:wr.heap.size≤((V6.setCell ⟨gz,0,none⟩ (J (pq q).1)).setCell ⟨gz,1,none⟩ (J (pq q).2)).heap.size:=u7.size;generalize q :: zeros (k-1)=d at *
      clear hEl hA hF D7 Q7 HRS RL n11 hbz hclz u6;go_wp2_with fail;refine hq.o.mono ?_;rintro e V8 ⟨⟨v2,rfl,hC2,hN2⟩,g8⟩;obtain ⟨p2,cap2,hv2,_⟩:=hC2.parts;rw [M2.o.len] at hv2;subst hv2;have u8:=u7.trans (g8.mono u7.size);have n118:=En.lkeep n117 g8;have z11:=En.lcell n118 0 (v:=.slice none 0 0) rfl;have y11:=En.lfree n118 0;have b118:=box1_set (y:=.slice p2 (i+1) cap2) n118;have zz:=En.lcell b118 0 (v:=.slice p2 (i+1) cap2) rfl;have u9:=u8.setCell (p:=⟨b11,0,none⟩) hV2 (.slice p2 (i+1) cap2);have nc9:=En.lkeep nc1 u9;have x59:=En.lcell nc9 0 (v:=.slice p i cap) rfl;have y59:=En.lfree nc9 0;have b5:=box1_set (y:=.slice p2 (i+1) cap2) nc9;have uS:=(u9.mono (show w.heap.size+2≤wr.heap.size by omega)).setCell (p:=⟨w.heap.size+2,0,none⟩) Lr (.slice p2 (i+1) cap2);have hN4:=((hN2.set (b:=b11) hb11 (.slice p2 (i+1) cap2)).mono (Nat.le_trans hwi hwr7)).set (b:=w.heap.size+2) (by omega) (.slice p2 (i+1) cap2);have RF:Sh (Below w.heap.size w ((V8.setCell ⟨b11,0,none⟩ (.slice p2 (i+1) cap2)).setCell ⟨w.heap.size+2,0,none⟩ (.slice p2 (i+1) cap2))∧((V8.setCell ⟨b11,0,none⟩ (.slice p2 (i+1) cap2)).setCell ⟨w.heap.size+2,0,none⟩ (.slice p2 (i+1) cap2)).heap[w.heap.size]? = some (.cells cs 22 (0,0))∧((V8.setCell ⟨b11,0,none⟩ (.slice p2 (i+1) cap2)).setCell ⟨w.heap.size+2,0,none⟩ (.slice p2 (i+1) cap2)).heap[w.heap.size+1]? = some (Jc #[.slice none 0 0] 28 (0,0))∧((V8.setCell ⟨b11,0,none⟩ (.slice p2 (i+1) cap2)).setCell ⟨w.heap.size+2,0,none⟩ (.slice p2 (i+1) cap2)).heap[w.heap.size+2]? = some (Jc #[.slice p2 (i+1) cap2] 28 (0,0))):=⟨uW.o.trans (uS.mono (by omega)),(uS.block w.heap.size (by omega)).trans na1,(uS.block (w.heap.size+1) (by omega)).trans nb1,b5⟩;have RG:Sh (TwC ((V8.setCell ⟨b11,0,none⟩ (.slice p2 (i+1) cap2)).setCell ⟨w.heap.size+2,0,none⟩ (.slice p2 (i+1) cap2)) (.agg #[.slice p2 (i+1) cap2]) (L ++ [d])∧TwN (w.heap.size+3) ((V8.setCell ⟨b11,0,none⟩ (.slice p2 (i+1) cap2)).setCell ⟨w.heap.size+2,0,none⟩ (.slice p2 (i+1) cap2)) (.agg #[.slice p2 (i+1) cap2]) (L ++ [d])∧MadeT (L ++ [d]) (i+1)∧w.heap.size+3≤((V8.setCell ⟨b11,0,none⟩ (.slice p2 (i+1) cap2)).setCell ⟨w.heap.size+2,0,none⟩ (.slice p2 (i+1) cap2)).heap.size):=⟨hC2.of hN4 (by simp [World.setCell]),hN4,M2.o,Nat.le_trans hwi uS.size⟩;clear b5 uS hN4 hC2 hN2 hq u9 u8 u7 nc9 b118 n118 n117 g8;go_wp2_with fail
      go_roundw
      case rel=>exact ⟨i+1,by omega,by first | rfl | go_num | simp,L ++ [d],_,RF,RG⟩
      case measure=>simp [intOf];omega
    ·have hkl:k<K:=by omega
     have hk2:(k:Int)<(K:Int):=by omega
     have hk3:(0:Int)≤(k:Int):=by omega
     have hwk:IntKind.i64.wrap ((k:Int)+1)=(k:Int)+1:=by simp [IntKind.wrap,IntKind.signed,IntKind.bits];omega
     have hwi:IntKind.i64.wrap ((K:Int)+(k:Int))=(K:Int)+(k:Int):=by simp [IntKind.wrap,IntKind.signed,IntKind.bits];omega
     have hi16:(K:Int)+(k:Int)<16:=by omega
     have hi0:(0:Int)≤(K:Int)+(k:Int):=by omega
     have hnat:((K:Int)+(k:Int)).toNat=K+k:=by omega
     have x1:=HA.o.cell (En.lkeep NA.o uI) (show K+k<16 by omega);have hr:=(HA.o.at_ (K+k) (by omega)).2;have h9:=pickN_lt (X (K+k)) (n:=9) (by decide);have P9:Sh (∀ W:World,Calls Tryz.prog 87 #[.int .i64 (X (K+k)),.int .i64 9] W fun e w'=>e = .returned (.int .i64 (pickN (X (K+k)) 9:Int))∧Below W.heap.size W w'):=⟨pickR_val _ 9 hr.1 hr.2 (by decide)⟩;have O9:Sh (∀ W:World,Calls Tryz.prog 88 #[.int .i64 ((pickN (X (K+k)) 9:Int)-2),.int .i64 1] W fun e w'=>e = .returned (.tuple #[.agg #[J (pq (rdQ X K k)).1,J (pq (rdQ X K k)).2],.int .i64 0])∧Below W.heap.size W w'):=⟨fun W=>ofR_q _ _ (by omega) (by decide) (by decide) W⟩;have w2:IntKind.i64.wrap ((pickN (X (K+k)) 9:Int)-2)=(pickN (X (K+k)) 9:Int)-2:=by simp [IntKind.wrap,IntKind.signed,IntKind.bits];omega
     have hO:Sh _:=⟨hO⟩;generalize hA1:(pickN (X (K+k)) 9:Int)=a1 at *
     generalize X (K+k)=xi at *
     generalize hG:pq (rdQ X K k)=g at *
     have HG:Sh (pq (rdQ X K k)=g):=⟨hG⟩;clear hA1 hG h9 hr;go_wp2_with fail;refine (P9.o _).mono ?_;rintro e x1w ⟨rfl,g1⟩;go_wp2_with fail;refine (O9.o _).mono ?_;rintro e x2w ⟨rfl,g2⟩;have ux:=g1.trans (g2.mono g1.size);have n3:=World.alloc_heap_new x2w (Jc #[J g.1,J g.2] 42);have r0:=En.lcell n3 0 (v:=J g.1) rfl;have r1:=En.lcell n3 1 (v:=J g.2) rfl;have hz:(x2w.alloc (Jc #[J g.1,J g.2] 42)).heap.size=x2w.heap.size+1:=by simp
     have n4:((x2w.alloc (Jc #[J g.1,J g.2] 42)).alloc (Jc #[J g.1,J g.2] 42)).heap[x2w.heap.size+1]? = some (Jc #[J g.1,J g.2] 42 (0,0)):=(by have:=World.alloc_heap_new (x2w.alloc (Jc #[J g.1,J g.2] 42)) (Jc #[J g.1,J g.2] 42);rwa [hz] at this);have ha:=((Below.refl x2w.heap.size x2w).alloc Lr (Jc #[J g.1,J g.2] 42)).alloc (by rw [hz];omega) (Jc #[J g.1,J g.2] 42);have hO:=(hO.o.below ux).below ha;have u1:=(uI.trans (ux.mono uI.size)).trans (ha.mono (Nat.le_trans uI.size ux.size));have hkj:k≤1000:=by omega
     have hsz2:=u1.size;clear ha ux g1 g2 n3 P9 O9;go_wp2_with (at_builtin;go_must (refine En.append_one rfl _ _ rfl V.heap.size _ k (fun j=>pq (rdQ X K j)) rfl hO (x2w.heap.size+1) _ rfl (by rw [HG.o];exact n4) hkj hsz2 ?_);intro v' w' hO' hg hat);have u2:=below_app u1 Lr Lr hO hg;clear hO hg hat n4
     go_roundw
     case rel=>exact ⟨k+1,by omega,by first | rfl | go_num | simp,⟨hO',u2⟩⟩
     case measure=>simp [intOf];omega
end Tw
end Go.Proofs.YtihlgifojjeoaaaGreatDoor
