import Derived.Test.YtihlgifojjeoaaaGreatDoorZ6B6
set_option maxRecDepth 1000000
set_option maxHeartbeats 40000000
open Go.Value renaming string→Z
open Go.Obj renaming cells→O
namespace Go.Proofs.YtihlgifojjeoaaaGreatDoor
section
namespace Rt
open Go.RowKit Nm
def bR (o:Option (ByteArray×ByteArray)):Value:=match o with | some (n,d) => .tuple #[rv n d,.int .i64 0] | none => .tuple #[rv ⟨#[]⟩ ⟨#[]⟩,.int .i64 40]
noncomputable def outR (ps:Ps) (st:St):Option (ByteArray×ByteArray):=(run (ps.map Prod.snd) st).bind fun s=>redR (s 0) (s 1)
theorem QaM (w:World) (b:Nat) (u v x y:Value) (h0:w.cell? ⟨b,0,none⟩=some x) (h1:w.cell? ⟨b,1,none⟩=some y) :
  ((w.setCell ⟨b,0,none⟩ u).setCell ⟨b,1,none⟩ v).cell? ⟨b,0,none⟩=some u∧((w.setCell ⟨b,0,none⟩ u).setCell ⟨b,1,none⟩ v).cell? ⟨b,1,none⟩=some v:=by
 have hne:(⟨b,1,none⟩:Addr)≠⟨b,0,none⟩:=fun e=>by injection e with _ e;cases e
 refine ⟨?_, ?_⟩
 ·rw [World.cell?_setCell_other _ ⟨b,1,none⟩ ⟨b,0,none⟩ _ hne,World.cell?_setCell_same w ⟨b,0,none⟩ _ h0]
 ·exact World.cell?_setCell_same _ ⟨b,1,none⟩ _ (by rw [World.cell?_setCell_other w ⟨b,0,none⟩ ⟨b,1,none⟩ _ hne.symm];exact h1)
theorem QdI (base rb:Nat) (ps:Ps) (v:Value) (rest:List Addr) (st:St) (w:World) (hR:Ready base rb ps v rest st w) :
  Calls Tryz.prog 141 #[.pointer (some ⟨rb,0,none⟩),v] w fun e w'=>e = .returned (bR (outR ps st))∧Below base w w'∧Rim (fun k=>blk (⟨rb,0,none⟩ :: ⟨rb,1,none⟩ :: rest) k∨v.ownBlock=some k) w w':=by
 have HR:Shut _:=⟨hR⟩;have hn:=hR.len;have hown:=hR.own;have hbase:=hR.low;clear hR;obtain ⟨i0,hinf,hz0,hz1,hz2⟩:=info_parts QvK;have hOw:∀ W,Below w.heap.size w W→W.ownsRow base 155 1 v ps.length (ps.map fun p=>fval p.1):=fun W hW=>(Rim.of_below (bs:=fun _=>False) hW).row hown (fun _ _ h=>h);clear hown;go_enter Tryz.func141, Tryz.ntmps141;go_wp2
 go_region_held3 (fun _=>True) (exact trivial) (first | (go_at_call 143; (have q:=hI3;clear q);refine (QbE _ _ _ _ _).mono ?_;rintro e w4 ⟨rfl,hI4,hB4,hs4⟩;have hW4:=Qub hB1 hs1 hB2 hs2 hB3 hs3 hB4 hs4) | (go_at_call 143; (have q:=hI2;clear q);refine (QbE _ _ _ _ _).mono ?_;rintro e w3 ⟨rfl,hI3,hB3,hs3⟩) | (go_at_call 143; (have q:=hI1;clear q);refine (QbE _ _ _ _ _).mono ?_;rintro e w2 ⟨rfl,hI2,hB2,hs2⟩) | (go_at_call 143; refine (QbE _ _ _ _ _).mono ?_;rintro e w1 ⟨rfl,hI1,hB1,hs1⟩) | (refine QcP rfl (.tmp 9) (.tmp 35) 191 rfl base 155 i0 .nilFunc 1 8 Tryz.underlying191 hinf hz0 hz1 hz2 rfl (by decide) _ ps.length (ps.map fun p=>fval p.1) rfl (hOw _ (hW4.alloc hW4.size _)) ⟨w4.heap.size,0,none⟩ 4 4 [_,_,_,_] rfl rfl (new4 _ _ _ _ _ _) ?_ (by unfold maxLen;omega) (by omega) (by rw [World.size_alloc];have:=hW4.size;omega) ?_;(intro u hu;simp at hu;rcases hu with rfl | rfl | rfl | rfl <;> rfl);intro v' w5 hown' hgrow) | fail)
 obtain ⟨g,cap,rfl⟩:=ownsRow_succ (k:=ps.length+3) hown';have hT:=QnK (g:=g) (cap:=cap) HR.o rfl rfl hI1 hI2 hI3 hI4 hB1 hB2 hB3 hB4 hs1 hs2 hs3 hs4 hgrow (by rw [List.map_append];exact hown');clear hI1 hI2 hI3 hI4 hB1 hB2 hB3 hB4 hs1 hs2 hs3 hs4 hown' hgrow hOw;have hlen:(ps++four (rest.length+2) (w.heap.size+1+1) w1.heap.size w2.heap.size w3.heap.size).length=ps.length+3+1:=by simp [four]
 have hout:Shut (outR ps st=(run ((ps++four (rest.length+2) (w.heap.size+1+1) w1.heap.size w2.heap.size w3.heap.size).map Prod.snd) st).map fun s=>(s 0,s 1)):=⟨by
  rw [outR,List.map_append,Qff];cases run (ps.map Prod.snd) st with
  | none=>rfl
  | some s=>rw [Option.bind_some,Option.bind_some,QpR _ _ _ _ _ (by omega)]⟩
 generalize ps++four (rest.length+2) (w.heap.size+1+1) w1.heap.size w2.heap.size w3.heap.size=qs at *
 obtain ⟨d,hd⟩:∃ d:Addr,d=⟨w.heap.size+1,0,none⟩:=⟨_,rfl⟩;rw [←hd] at hT;have HD:Shut _:=⟨hd⟩;have hsz5:=hT.new;have HT:Shut _:=⟨hT⟩;have HRN:Shut (¬ blk (adr rb rest d) w.heap.size):=⟨hT.resn⟩;have hTB:Shut _:=⟨hT.below⟩;have hRimW:Shut _:=⟨hT.rim⟩;have hSub:Shut _:=⟨hT.sub⟩;have hlow:Shut (base≤w5.heap.size):=⟨Nat.le_trans hbase (Nat.le_of_lt hT.new)⟩;have hup:Shut (∀ k,blk (adr rb rest d) k→base≤k):=⟨by rintro k ⟨a,ha,rfl⟩;exact hT.up a ha⟩;clear hd hT HR;generalize hal:adr rb rest d=al at *
 have HA:Shut _:=⟨hal⟩;clear hal;have HQ:Shut _:=⟨hlen⟩;have hN14:ps.length+3+1≤14:=by omega
 generalize hN:ps.length+3+1=N at *
 clear hN;go_wp2
 go_loopw [39] (fun iv wr=>∃ (k:Nat) (s:St),iv = .int .i64 k∧k≤N∧Shut (run ((qs.map Prod.snd).take k) st=some s)∧Shut (Holds al s wr)∧Shut (Rim (blk al) w5 wr)) (fun iv _=>N-(intOf iv).toNat)
 case atStart=>exact ⟨0,st,rfl,by omega,⟨rfl⟩,⟨HA.o▸HT.o.holds⟩,⟨Rim.refl _ _⟩⟩
 case round =>
  obtain ⟨k,s,rfl,hk,hrun,hH,hRm⟩:=hrel;have f1:w.heap.size<wr.heap.size:=by have:=hRm.o.size;omega
  have hres:=hRm.o.heap HT.o.res (by rw [←HA.o];exact HT.o.resn);by_cases hlt:k<N
  ·have hlt':k<qs.length:=by have:=HQ.o;omega
   have ck0:=HT.o.cells k hlt';have ck:wr.cell? ⟨g,k,none⟩=some (fval qs[k].1):=(World.cell?_of_block (a:=⟨g,k,none⟩) (hRm.o.block g (World.block_lt_of_cell? _ _ ck0) (by rw [←HA.o];exact HT.o.row))).trans ck0;have hst:=HT.o.steps qs[k] (List.getElem_mem hlt');rw [HA.o] at hst;have hstep:=hst.2 wr s hRm.o hH.o;have hen:=fun a w=>hst.1 a w
   have hnext:Shut (run ((qs.map Prod.snd).take (k+1)) st=qs[k].2 s):=⟨by
    rw [QpQ (by rw [List.length_map];exact hlt'),hrun.o,Option.bind_some,List.getElem_map]⟩
   have hfail:Shut (qs[k].2 s=none→run (qs.map Prod.snd) st=none):=⟨fun h=>by
    have:=Qff ((qs.map Prod.snd).take (k+1)) ((qs.map Prod.snd).drop (k+1)) st;rw [List.take_append_drop,hnext.o,h] at this;exact this⟩
   clear hst ck0;obtain ⟨x,hx⟩:∃ x,x=qs[k]:=⟨_,rfl⟩;rw [←hx] at ck hstep hen hnext hfail;clear hx hlt';obtain ⟨⟨fk,fc⟩,gk⟩:=x;simp only [fval] at ck hstep hen;simp only at hnext hfail;cases hgk:gk s with
   | some s' =>
    rw [hgk] at hnext hstep
    have hstep':Calls Tryz.prog fk fc wr fun e W'=>e = .returned (.int .i64 0)∧Rim (blk al) wr W'∧Holds al s' W':=hstep.mono (by
     rintro e W' ⟨h1,⟨s'',h2,h3,h4⟩ | ⟨h2,_⟩⟩
     ·injection h2 with h2;subst h2;exact ⟨h3,h1,h4⟩
     ·cases h2)
    clear hstep hfail hgk;go_wp2_with ((refine hstep'.mono ?_;rintro e w6 ⟨rfl,hr6,hh6⟩))
    go_roundw
    case rel=>exact ⟨k+1,s',by go_num,by omega,hnext,⟨hh6⟩,⟨hRm.o.trans hr6⟩⟩
    case measure=>simp [intOf];omega
   | none =>
    rw [hgk] at hstep;have hno:Shut (run (qs.map Prod.snd) st=none):=⟨hfail.o hgk⟩
    have hstep':Calls Tryz.prog fk fc wr fun e W'=>∃ n:Int,e = .returned (.int .i64 n)∧(n != 0)=true∧Rim (blk al) wr W'∧W'.cell? ⟨w.heap.size,0,none⟩=some (Z ⟨#[]⟩)∧W'.cell? ⟨w.heap.size,1,none⟩=some (Z ⟨#[]⟩)∧W'.frozen? ⟨w.heap.size,0,none⟩=false∧W'.frozen? ⟨w.heap.size,1,none⟩=false:=hstep.mono (by
     rintro e W' ⟨h1,⟨s'',h2,_⟩ | ⟨_,n,hn,rfl⟩⟩
     ·cases h2
     ·have hR6:=h1.heap hres HRN.o;exact ⟨n,rfl,by simp [hn],h1,cell_of_row W' w.heap.size 0 _ _ _ hR6,cell_of_row W' w.heap.size 1 _ _ _ hR6,by simp [World.frozen?,hR6],by simp [World.frozen?,hR6]⟩)
    clear hstep hfail hgk hnext hres;go_wp2_with ((refine hstep'.mono ?_;rintro e w6 ⟨n,rfl,hn1,hr6,c0,c1,z0,z1⟩));have k0:=QaM w6 w.heap.size (Z ⟨#[]⟩) (Z ⟨#[]⟩) _ _ c0 c1;have hB5:=hTB.o.trans (((hRm.o.trans hr6).below hlow.o hup.o));clear hen ck;refine bodyPost_ret (v:=.tuple #[.agg #[Z ⟨#[]⟩,Z ⟨#[]⟩],.int .i64 40]) (by simp [results,Tryz.results141, go_sem,k0.1,k0.2]) rfl ⟨?_,(hB5.setCell hbase _).setCell hbase _,QhU (QhU (QhT hRimW.o (hRm.o.trans hr6) hSub.o) _ _ rfl) _ _ rfl⟩;rw [hout.o,hno.o];rfl
  ·have hkN:k=N:=by omega
   have hb0:=hH.o.box 0 (by rw [←HA.o];simp [adr]);have hb1:=hH.o.box 1 (by rw [←HA.o];simp [adr]);have r0:wr.cell? ⟨rb,0,none⟩=some (Z (s 0)):=by have:=hb0.cell;simp only [←HA.o] at this;exact this
   have r1:wr.cell? ⟨rb,1,none⟩=some (Z (s 1)):=by have:=hb1.cell;simp only [←HA.o] at this;exact this
   have c0:wr.cell? ⟨w.heap.size,0,none⟩=some (Z ⟨#[]⟩):=cell_of_row wr w.heap.size 0 _ _ _ hres;have c1:wr.cell? ⟨w.heap.size,1,none⟩=some (Z ⟨#[]⟩):=cell_of_row wr w.heap.size 1 _ _ _ hres;have z0:wr.frozen? ⟨w.heap.size,0,none⟩=false:=by simp [World.frozen?,hres]
   have z1:wr.frozen? ⟨w.heap.size,1,none⟩=false:=by simp [World.frozen?,hres]
   have hyes:Shut (run (qs.map Prod.snd) st=some s):=⟨by have:=hrun.o;rwa [hkN,←HQ.o,←List.length_map (f:=Prod.snd),List.take_length] at this⟩;subst hkN;clear hres hb0 hb1 hrun hH;go_wp2;have k0:=QaM wr w.heap.size (Z (s 0)) (Z (s 1)) _ _ c0 c1;have hB5:=hTB.o.trans ((hRm.o.below hlow.o hup.o));refine bodyPost_ret (v:=.tuple #[.agg #[Z (s 0),Z (s 1)],.int .i64 0]) (by simp [results,Tryz.results141, go_sem,k0.1,k0.2]) rfl ⟨?_,(hB5.setCell hbase _).setCell hbase _,QhU (QhU (QhT hRimW.o hRm.o hSub.o) _ _ rfl) _ _ rfl⟩;rw [hout.o,hyes.o];rfl
def st2 (s t:ByteArray):St:=fun i=>if i=0 then s else if i=1 then t else ⟨#[]⟩
theorem Quc (W:World) (s t:ByteArray) (T:TypeId):Box (W.alloc (O #[Z s,Z t] T)) ⟨W.heap.size,0,none⟩ s∧Box (W.alloc (O #[Z s,Z t] T)) ⟨W.heap.size,1,none⟩ t:=by
 have h:(W.alloc (O #[Z s,Z t] T)).heap[W.heap.size]? = some (O #[Z s,Z t] T (0,0)):=World.alloc_heap_new W _;generalize W.alloc (O #[Z s,Z t] T)=w at *
 exact ⟨⟨cell_of_row w _ 0 _ _ _ h,by simp [World.frozen?,h]⟩,⟨cell_of_row w _ 1 _ _ _ h,by simp [World.frozen?,h]⟩⟩
theorem Qcw (o:Option (ByteArray×ByteArray)):∃ (n d:ByteArray) (c:Int),bR o = .tuple #[.agg #[Z n,Z d],.int .i64 c]:=by
 cases o with
 | none=>exact ⟨_,_,_,rfl⟩
 | some p=>exact ⟨_,_,_,rfl⟩
theorem Qgn (w:World) (r o:Obj):((w.alloc r).alloc o).heap[w.heap.size]? = some r:=(Below.heap_alloc (w.alloc r) o w.heap.size (by simp)).trans (World.alloc_heap_new w r)
theorem Qud {w1:World} (w:World) (T:TypeId) {a b:Value} (h:w1.heap[w.heap.size]? = some (O #[a,b] T (0,0))):w1.cell? ⟨w.heap.size,0,none⟩=some a∧w1.cell? ⟨w.heap.size,1,none⟩=some b∧w1.frozen? ⟨w.heap.size,0,none⟩=false∧w1.frozen? ⟨w.heap.size,1,none⟩=false :=
 ⟨cell_of_row w1 _ 0 _ _ _ h,cell_of_row w1 _ 1 _ _ _ h,by simp [World.frozen?,h],by simp [World.frozen?,h]⟩
theorem QkF (s t:ByteArray) (hs:s.size≤1000000) (ht:t.size≤1000000) (w:World) :
  Calls Tryz.prog 105 #[Z s,Z t] w fun e w'=>e = .returned (bR (redR s t))∧Below w.heap.size w w':=by
 have hR:∀ W:World,Ready W.heap.size W.heap.size [] (.slice none 0 0) [] (st2 s t) (W.alloc (O #[Z s,Z t] 42)):=fun W=>by
  obtain ⟨b0,b1⟩:=Quc W s t 42;refine ⟨by simp,World.ownsRow_nil _ _ _ _,by simp,⟨fun i hi => ?_,fun i _ => ?_⟩,by simp,rfl, ?_,fun k hk=>by simp [Value.ownBlock] at hk,fun d _ p hp=>by cases hp⟩
  ·match i,hi with
   | 0,_=>exact b0
   | 1,_=>exact b1
  ·unfold st2;split
   ·exact hs
   ·split
    ·exact ht
    ·decide
  ·intro a ha;have hh:(W.alloc (O #[Z s,Z t] 42)).heap[W.heap.size]? = some (O #[Z s,Z t] 42 (0,0)):=World.alloc_heap_new W _;simp only [List.mem_cons,List.not_mem_nil,or_false] at ha;rcases ha with rfl | rfl <;> exact ⟨Nat.le_refl _,_,_,hh,by decide⟩
 have hC:∀ (W:World) (b:Nat),b=W.heap.size→Calls Tryz.prog 141 #[.pointer (some ⟨b,0,none⟩),.slice none 0 0] (W.alloc (O #[Z s,Z t] 42)) fun e w'=>e = .returned (bR (redR s t))∧Below W.heap.size (W.alloc (O #[Z s,Z t] 42)) w':=fun W b hb=>by
  subst hb;exact (QdI W.heap.size W.heap.size [] (.slice none 0 0) [] (st2 s t) _ (hR W)).mono fun e w' h=>⟨h.1,h.2.1⟩
 obtain ⟨n,d,c,ho⟩:=Qcw (redR s t);rw [ho] at hC ⊢;clear hR ho;go_enter Tryz.func105, Tryz.ntmps105;go_wp2_with (go_at_call 141; refine (hC _ _ (by simp)).mono ?_;rintro e w1 ⟨rfl,hB⟩;obtain ⟨c0,c1,z0,z1⟩:=Qud w _ ((hB.block w.heap.size (by simp)).trans (Qgn w _ _)));have k0:=QaM w1 w.heap.size (Z n) (Z d) _ _ c0 c1;have hB5:Below w.heap.size w w1:=(((Below.refl w.heap.size w).alloc Lr _).alloc (by simp) _).trans (hB.mono (by simp));refine bodyPost_ret (v:=.tuple #[.agg #[Z n,Z d],.int .i64 c]) (by simp [results,Tryz.results105, go_sem,k0.1,k0.2]) rfl ⟨rfl,(hB5.setCell Lr _).setCell Lr _⟩
theorem Qab {w1:World} {b:Nat} {T:TypeId} {x y:Value} (h:w1.heap[b]? = some (O #[x,y] T (0,0))):w1.cell? ⟨b,0,none⟩=some x∧w1.cell? ⟨b,1,none⟩=some y∧w1.frozen? ⟨b,0,none⟩=false∧w1.frozen? ⟨b,1,none⟩=false :=
 ⟨cell_of_row w1 _ 0 _ _ _ h,cell_of_row w1 _ 1 _ _ _ h,by simp [World.frozen?,h],by simp [World.frozen?,h]⟩
def QaU (w:World) (os:List Obj):World:=os.foldl (fun W o=>W.alloc o) w
theorem QcQ (w:World):∀ os:List Obj,(QaU w os).heap.size=w.heap.size+os.length:=by
 intro os
 induction os generalizing w with
 | nil=>rfl
 | cons o os ih =>
  show (QaU (w.alloc o) os).heap.size=_;rw [ih,World.size_alloc,List.length_cons];omega
theorem Qcr (w:World):∀ os:List Obj,Below w.heap.size w (QaU w os):=by
 intro os
 induction os generalizing w with
 | nil=>exact Below.refl _ _
 | cons o os ih =>
  have:=ih (w.alloc o);rw [World.size_alloc] at this;exact ((Below.refl w.heap.size w).alloc Lr o).trans (this.mono (by omega))
theorem QaY (w:World):∀ (os:List Obj) (i:Nat) (o:Obj),os[i]? = some o→(QaU w os).heap[w.heap.size+i]? = some o:=by
 intro os
 induction os generalizing w with
 | nil=>intro i o h;cases h
 | cons p os ih =>
  intro i o h;cases i with
  | zero =>
   injection h with h;subst h;have hb:=Qcr (w.alloc p) os;rw [World.size_alloc] at hb;exact (hb.block w.heap.size (by omega)).trans (World.alloc_heap_new w p)
  | succ i =>
   have:=ih (w.alloc p) i o (by simpa using h);rw [World.size_alloc] at this;rw [show w.heap.size+(i+1)=w.heap.size+1+i from by omega];exact this
abbrev Ent:=Nat×Nat×ByteArray
def adE (b:Nat) (e:Ent):Addr:=⟨b+e.1,e.2.1,none⟩
def stE (es:List Ent):St:=fun i=>(es.getD i (0,0,⟨#[]⟩)).2.2
def InOs (os:List Obj) (e:Ent):Prop:=∃ (cs:Array Value) (T:TypeId),os[e.1]? = some (.cells cs T (0,0))∧cs[e.2.1]? = some (Z e.2.2)∧T ≠ 155
structure IntoSpec (w:World) (os:List Obj) (es:List Ent) (W:World) (p:(Nat×Array Value)×(St→Option St)):Prop where
 it:∃ (i j l k:Nat) (op:ByteArray→ByteArray→Option ByteArray) (B:Nat) (hi:i<es.length) (hj:j<es.length) (hl:l<es.length),p=(cloF B,fun st=>(op (st j) (st l)).map (upd st i))∧Enters Tryz.prog k∧OpC k op∧(∀ s t u:ByteArray,s.size≤1000000→op s t=some u→u.size≤1000000)∧l≠i ∧
  IntoAt W B (adE w.heap.size es[i]) (.func (.func k) #[] #[]) (adE w.heap.size es[j]) (adE w.heap.size es[l])∧w.heap.size+os.length≤B∧B+3<W.heap.size
structure ValidSpec (w:World) (os:List Obj) (es:List Ent) (W:World) (p:(Nat×Array Value)×(St→Option St)):Prop where
 it:∃ (b g cap:Nat) (l:List (ByteArray×ByteArray)),p=((183, #[.pointer (some ⟨b,0,none⟩)]),fun st=>if qsOk l then some st else none)∧Boxed W b 29 (.slice (some ⟨g,0,none⟩) l.length cap)∧l.length≤1000 ∧
  (∀ (i:Nat) (h:i<l.length),W.cell? ⟨g,i*2,none⟩=some (Z l[i].1)∧W.cell? ⟨g,i*2+1,none⟩=some (Z l[i].2)∧l[i].1.size≤1000000∧l[i].2.size≤1000000) ∧
  (∀ e∈es,w.heap.size+e.1≠b∧w.heap.size+e.1≠g)∧b<W.heap.size∧g<W.heap.size
theorem Qgo {w W:World} {os:List Obj} {rI:Nat} {n0 d0:ByteArray} {es':List Ent} {ps:Ps} (hes:∀ e∈((rI,0,n0) :: (rI,1,d0) :: es':List Ent),InOs os e∧e.2.2.size≤1000000)
  (hnd:(((rI,0,n0) :: (rI,1,d0) :: es':List Ent).map fun e=>(e.1,e.2.1)).Nodup) (hb:Below (w.heap.size+os.length) (QaU w os) W) (hlen:ps.length≤10)
  (hst:∀ p∈ps,IntoSpec w os ((rI,0,n0) :: (rI,1,d0) :: es') W p∨ValidSpec w os ((rI,0,n0) :: (rI,1,d0) :: es') W p) :
  Ready w.heap.size (w.heap.size+rI) ps (.slice (some ⟨W.heap.size,0,none⟩) ps.length ps.length) (es'.map (adE w.heap.size)) (stE ((rI,0,n0) :: (rI,1,d0) :: es')) (W.alloc (.cells (ps.map fun p=>fval p.1).toArray 155)):=by
 have eAd:(⟨w.heap.size+rI,0,none⟩ :: ⟨w.heap.size+rI,1,none⟩ :: es'.map (adE w.heap.size):List Addr)=((rI,0,n0) :: (rI,1,d0) :: es':List Ent).map (adE w.heap.size):=rfl;have eLen:es'.length+2=((rI,0,n0) :: (rI,1,d0) :: es':List Ent).length:=rfl;have hWl:w.heap.size+os.length≤W.heap.size:=by have:=hb.size;rw [QcQ] at this;exact this
 have hos:∀ e∈((rI,0,n0) :: (rI,1,d0) :: es':List Ent),e.1<os.length:=fun e he=>by
  obtain ⟨⟨cs,T,h,_⟩,_⟩:=hes e he;exact (List.getElem?_eq_some_iff.1 h).1
 have hblk:∀ e∈((rI,0,n0) :: (rI,1,d0) :: es':List Ent),∃ cs T,(W.alloc (.cells (ps.map fun p=>fval p.1).toArray 155)).heap[w.heap.size+e.1]? = some (.cells cs T (0,0))∧cs[e.2.1]? = some (Z e.2.2)∧T ≠ 155 := fun e he=>by
  obtain ⟨⟨cs,T,h,h2,h3⟩,_⟩:=hes e he;have:=hos e he;refine ⟨cs,T, ?_,h2,h3⟩;rw [Below.heap_alloc _ _ _ (by omega),hb.block _ (by omega)];exact QaY w os _ _ h
 have hrow:(W.alloc (.cells (ps.map fun p=>fval p.1).toArray 155)).heap[W.heap.size]? = some (.cells (ps.map fun p=>fval p.1).toArray 155 (0,0)):=World.alloc_heap_new W _;have hsz:(W.alloc (.cells (ps.map fun p=>fval p.1).toArray 155)).heap.size=W.heap.size+1:=World.size_alloc _ _;have hB1:Rim (fun _=>False) W (W.alloc (.cells (ps.map fun p=>fval p.1).toArray 155)):=Rim.of_below ((Below.refl _ W).alloc Lr _);generalize hWe:W.alloc (.cells (ps.map fun p=>fval p.1).toArray 155)=We at *
 clear hWe;generalize hesE:((rI,0,n0) :: (rI,1,d0) :: es':List Ent)=es at *
 have hdup:(es.map (adE w.heap.size)).Nodup:=by
  rw [List.Nodup,List.pairwise_map] at hnd ⊢;refine hnd.imp ?_;intro a b hab e;apply hab;injection e with e1 e2;rw [Prod.mk.injEq];exact ⟨by omega,e2⟩
 have hapart:∀ k,blk (es.map (adE w.heap.size)) k→∃ e∈es,w.heap.size+e.1=k:=by
  rintro k ⟨a,ha,rfl⟩;obtain ⟨e,he,rfl⟩:=List.mem_map.1 ha;exact ⟨e,he,rfl⟩
 refine ⟨hlen,⟨by simp,.inr ⟨W.heap.size,ps.length,_,rfl,by omega,hrow,Nat.le_refl _,by unfold maxLen;omega,by simp,by simp only [Nat.mul_one];exact List.take_of_length_le (by simp)⟩⟩,by omega, ?_,by rw [eAd];exact hdup, ?_, ?_, ?_, ?_⟩
 ·rw [eAd];refine ⟨fun i hi => ?_,fun i hi => ?_⟩
  ·have hi':i<es.length:=by simpa using hi
   obtain ⟨cs,T,h1,h2,_⟩:=hblk es[i] (List.getElem_mem hi');rw [List.getElem_map];have e1:stE es i=es[i].2.2:=by rw [stE,List.getD_eq_getElem?_getD,List.getElem?_eq_getElem hi'];rfl
   rw [e1];exact ⟨by rw [adE,cell_of_row We _ _ _ _ _ h1];exact h2,by simp [adE,World.frozen?,h1]⟩
  ·have hi':i<es.length:=by simpa using hi
   have e1:stE es i=es[i].2.2:=by rw [stE,List.getD_eq_getElem?_getD,List.getElem?_eq_getElem hi'];rfl
   rw [e1];exact (hes _ (List.getElem_mem hi')).2
 ·rw [List.length_map,eLen,stE,List.getD_eq_getElem?_getD,List.getElem?_eq_none Lr];rfl
 ·rw [eAd];intro a ha;obtain ⟨e,he,rfl⟩:=List.mem_map.1 ha;obtain ⟨cs,T,h1,_,h3⟩:=hblk e he;exact ⟨by simp [adE],cs,T,h1,h3⟩
 ·intro k hk;rw [eAd];intro hc;obtain ⟨e,he,rfl⟩:=hapart k hc;have:=hos e he;simp [Value.ownBlock] at hk;omega
 ·intro d hd p hp;have eA:adr (w.heap.size+rI) (es'.map (adE w.heap.size)) d=es.map (adE w.heap.size) ++ [d]:=by rw [←eAd];rfl
  rw [eA]
  have hbk:∀ k,blk (es.map (adE w.heap.size) ++ [d]) k→(∃ e∈es,w.heap.size+e.1=k)∨W.heap.size<k:=by
   rintro k ⟨a,ha,rfl⟩;rcases List.mem_append.1 ha with ha | ha
   ·exact .inl (hapart _ ⟨a,ha,rfl⟩)
   ·rw [List.mem_singleton.1 ha];exact .inr (by omega)
  have hdupA:(es.map (adE w.heap.size) ++ [d]).Nodup:=by
   rw [List.nodup_append];refine ⟨hdup,by simp, ?_⟩;intro a ha b hb' e;rw [List.mem_singleton] at hb';subst hb';subst e;obtain ⟨e,he,h⟩:=hapart _ ⟨_,ha,rfl⟩;have:=hos e he;omega
  have own:∀ k,(Value.slice (some ⟨W.heap.size,0,none⟩) ps.length ps.length).ownBlock=some k→k=W.heap.size:=fun k hk=>by
   simp [Value.ownBlock] at hk;omega
  rcases hst p hp with h | h
  ·obtain ⟨i,j,l,k,op,B,hi,hj,hl,rfl,h1,h2,h3,h4,h5,h6,h7⟩:=h.it
   have gi:∀ (i:Nat) (hi:i<es.length) (h':i<(es.map (adE w.heap.size) ++ [d]).length),(es.map (adE w.heap.size) ++ [d])[i]=adE w.heap.size es[i]:=fun i hi h'=>by
    rw [List.getElem_append_left (by simpa using hi),List.getElem_map]
   have gl:(es.map (adE w.heap.size) ++ [d]).length=es.length+1:=by simp
   refine Qdh (i:=i) (j:=j) (l:=l) h1 h2 h3 hdupA (by omega) (by omega) (by omega) h4 (by rw [gi i hi,gi j hj,gi l hl];exact h5.keep hB1 (fun _ _ _ h=>h)) ?_ (fun k hk => .inl hk);rintro k k1 k2 (hk | hk)
   ·rcases hbk k hk with ⟨e,he,rfl⟩ | h
    ·have:=hos e he;omega
    ·omega
   ·have:=own k hk;omega
  ·obtain ⟨b,g,cap,l,rfl,h1,h2,h3,h4,h5,h6⟩:=h.it;refine Qhi (hB1.heap h1 (fun h=>h)) h2 (fun i hi => ?_) ?_ ?_
   ·obtain ⟨q1,q2,q3,q4⟩:=h3 i hi;have hbl:=hB1.block g h6 (fun h=>h);exact ⟨(World.cell?_of_block (a:=⟨g,i*2,none⟩) hbl).trans q1,(World.cell?_of_block (a:=⟨g,i*2+1,none⟩) hbl).trans q2,q3,q4⟩
   ·rintro (hk | hk)
    ·rcases hbk b hk with ⟨e,he,h⟩ | h
     ·exact (h4 e he).1 h
     ·omega
    ·have:=own b hk;omega
   ·rintro (hk | hk)
    ·rcases hbk g hk with ⟨e,he,h⟩ | h
     ·exact (h4 e he).2 h
     ·omega
    ·have:=own g hk;omega
theorem Qgp {w w2 w3 w4:World} (os:List Obj) {o:Obj} (h1:Below (QaU w os).heap.size (QaU w os) w2) (h2:Below w2.heap.size w2 w3) (h4:Below w.heap.size (w3.alloc o) w4):Below w.heap.size w w4:=by
 have h0:=Qcr w os;have:=h0.size;have:=h1.size;have:=h2.size;exact (((h0.trans (h1.mono (by omega))).trans (h2.mono (by omega))).alloc (by omega) o).trans h4
noncomputable def mulR (s t u v:ByteArray):Option (ByteArray×ByteArray):=if qsOk [(s,t),(u,v)] then (QaZ s u).bind fun n=>(QaZ t v).bind fun d=>redR n d else none
theorem Qsl (f1 f2 f3:Nat×Array Value) (l:List (ByteArray×ByteArray)) (st:St):outR [(f1,fun st=>if qsOk l then some st else none),(f2,fun st=>(QaZ (st 2) (st 4)).map (upd st 0)),(f3,fun st=>(QaZ (st 3) (st 5)).map (upd st 1))] st=if qsOk l then (QaZ (st 2) (st 4)).bind fun n=>(QaZ (st 3) (st 5)).bind fun d=>redR n d else none:=by
 simp only [outR,run,List.map_cons,List.map_nil,List.foldl_cons,List.foldl_nil,Option.bind_some];cases qsOk l with
 | false=>rfl
 | true =>
  simp only [if_true,Option.bind_some];cases QaZ (st 2) (st 4) with
  | none=>rfl
  | some n =>
   simp only [Option.map_some,Option.bind_some];rw [show upd st 0 n 3=st 3 from rfl,show upd st 0 n 5=st 5 from rfl];cases QaZ (st 3) (st 5) with
   | none=>rfl
   | some d=>rfl
def Qgq (w:World) (s t u v:ByteArray):List Obj := [O #[Z s,Z t] 42, O #[Z u,Z v] 42, O #[Z ⟨#[]⟩,Z ⟨#[]⟩] 42, O #[Z ⟨#[]⟩,Z ⟨#[]⟩] 42, O #[Z s,Z t,Z u,Z v] 42, O #[.slice (some ⟨w.heap.size+1+1+1+1,0,none⟩) 2 2] 29]
theorem QnL (s t u v:ByteArray) (hs:s.size≤1000000) (ht:t.size≤1000000) (hu:u.size≤1000000) (hv:v.size≤1000000) {w w2 w3:World}
  (hI1:IntoAt w2 (QaU w (Qgq w s t u v)).heap.size ⟨w.heap.size+1+1+1,0,none⟩ (.func (.func 66) #[] #[]) ⟨w.heap.size,0,none⟩ ⟨w.heap.size+1,0,none⟩) (hB1:Below (QaU w (Qgq w s t u v)).heap.size (QaU w (Qgq w s t u v)) w2) (hs1:(QaU w (Qgq w s t u v)).heap.size+4≤w2.heap.size)
  (hI2:IntoAt w3 w2.heap.size ⟨w.heap.size+1+1+1,1,none⟩ (.func (.func 66) #[] #[]) ⟨w.heap.size,1,none⟩ ⟨w.heap.size+1,1,none⟩) (hB2:Below w2.heap.size w2 w3) (hs2:w2.heap.size+4≤w3.heap.size) :
  Calls Tryz.prog 141 #[.pointer (some ⟨w.heap.size+1+1+1,0,none⟩),.slice (some ⟨w3.heap.size,0,none⟩) 3 3] (w3.alloc (O #[.func (.func 183) #[] #[.pointer (some ⟨w.heap.size+1+1+1+1+1,0,none⟩)],clo (w.heap.size+1+1+1+1+1+1),clo w2.heap.size] 155)) fun e w'=>e = .returned (bR (mulR s t u v))∧Below w.heap.size (w3.alloc (O #[.func (.func 183) #[] #[.pointer (some ⟨w.heap.size+1+1+1+1+1,0,none⟩)],clo (w.heap.size+1+1+1+1+1+1),clo w2.heap.size] 155)) w'∧w'.heap[w.heap.size+1+1]? = some (O #[Z ⟨#[]⟩,Z ⟨#[]⟩] 42 (0,0)):=by
 have hsz:(QaU w (Qgq w s t u v)).heap.size=w.heap.size+6:=QcQ _ _;have hBw:Below (w.heap.size+6) (QaU w (Qgq w s t u v)) w3:=by rw [hsz] at hB1;exact hB1.trans (hB2.mono (by omega))
 have g2:=QaY w (Qgq w s t u v) 2 _ rfl;have g4:=QaY w (Qgq w s t u v) 4 _ rfl;have g5:=QaY w (Qgq w s t u v) 5 _ rfl;rw [hsz] at hI1 hs1;have k4:=(hBw.block (w.heap.size+4) (by omega)).trans g4;have k5:=(hBw.block (w.heap.size+5) (by omega)).trans g5;have hk:Enters Tryz.prog 66 := enters_of Tryz.func66 (by kernel_rfl) rfl
 have hR:=Qgo (w:=w) (W:=w3) (os:=Qgq w s t u v) (rI:=3) (n0:=⟨#[]⟩) (d0:=⟨#[]⟩) (es' := [(0,0,s),(0,1,t),(1,0,u),(1,1,v)])
  (ps := [((183, #[.pointer (some ⟨w.heap.size+1+1+1+1+1,0,none⟩)]),fun st=>if qsOk [(s,t),(u,v)] then some st else none),(cloF (w.heap.size+6),fun st=>(QaZ (st 2) (st 4)).map (upd st 0)),(cloF w2.heap.size,fun st=>(QaZ (st 3) (st 5)).map (upd st 1))])
  (by
   intro e he;simp only [List.mem_cons,List.not_mem_nil,or_false] at he;rcases he with rfl | rfl | rfl | rfl | rfl | rfl
   ·exact ⟨⟨_,_,rfl,rfl,by decide⟩,by decide⟩
   ·exact ⟨⟨_,_,rfl,rfl,by decide⟩,by decide⟩
   ·exact ⟨⟨_,_,rfl,rfl,by decide⟩,hs⟩
   ·exact ⟨⟨_,_,rfl,rfl,by decide⟩,ht⟩
   ·exact ⟨⟨_,_,rfl,rfl,by decide⟩,hu⟩
   ·exact ⟨⟨_,_,rfl,rfl,by decide⟩,hv⟩)
  (by simp) hBw (by simp)
  (by
   intro p hp;simp only [List.mem_cons,List.not_mem_nil,or_false] at hp;rcases hp with rfl | rfl | rfl
   ·refine .inr ⟨w.heap.size+5,w.heap.size+4,2, [(s,t),(u,v)],rfl,k5,by simp, ?_, ?_,by have:=hs2;omega,by have:=hs2;omega⟩
    ·intro i hi
     match i,hi with
     | 0,_=>exact ⟨cell_of_row w3 _ 0 _ _ _ k4,cell_of_row w3 _ 1 _ _ _ k4,hs,ht⟩
     | 1,_=>exact ⟨cell_of_row w3 _ 2 _ _ _ k4,cell_of_row w3 _ 3 _ _ _ k4,hu,hv⟩
    ·intro e he;simp only [List.mem_cons,List.not_mem_nil,or_false] at he;rcases he with rfl | rfl | rfl | rfl | rfl | rfl <;> constructor <;> simp
   ·exact .inl ⟨0,2,4,_,QaZ,w.heap.size+6,by simp,by simp,by simp,rfl,hk,QdH,Qbf,by decide,hI1.keep (Rim.of_below (bs:=fun _=>False) hB2) (fun _ _ _ h=>h),by show _+6≤_;omega,by omega⟩
   ·exact .inl ⟨1,3,5,_,QaZ,w2.heap.size,by simp,by simp,by simp,rfl,hk,QdH,Qbf,by decide,hI2,by show _+6≤_;omega,by omega⟩)
 have k2:=(hBw.block (w.heap.size+2) (by omega)).trans g2;have hw3:=hBw.size;rw [hsz] at hw3;have:=QdI _ _ _ _ _ _ _ hR;rw [Qsl] at this;refine this.mono ?_;rintro e w' ⟨h1,h2,h3⟩;refine ⟨h1,h2,h3.heap (k:=w.heap.size+2) ((Below.heap_alloc w3 _ _ (by omega)).trans k2) ?_⟩;rintro (⟨a,ha,hk⟩ | hk)
 ·simp only [List.map_cons,List.map_nil,List.mem_cons,List.not_mem_nil,or_false,adE] at ha;rcases ha with rfl | rfl | rfl | rfl | rfl | rfl <;> simp at hk
 ·simp [Value.ownBlock] at hk;omega
theorem Qsm (s t u v:ByteArray) (hs:s.size≤1000000) (ht:t.size≤1000000) (hu:u.size≤1000000) (hv:v.size≤1000000) (w:World) :
  Calls Tryz.prog 95 #[rv s t,rv u v] w fun e w'=>e = .returned (bR (mulR s t u v))∧Below w.heap.size w w':=by
 have hb:=fun (w2 w3:World)=>QnL s t u v hs ht hu hv (w:=w) (w2:=w2) (w3:=w3);obtain ⟨n,d,c,ho⟩:=Qcw (mulR s t u v);rw [ho] at hb ⊢;clear ho;unfold clo at hb;unfold rv;go_enter Tryz.func95, Tryz.ntmps95;go_wp2_with (first | (go_at_call 142; refine (QeL _ 2 _ 2 _ rfl).mono ?_;rintro e w1 ⟨rfl,rfl⟩) | (go_at_call 143; (have q:=hI1;clear q);refine (QbE _ _ _ _ _).mono ?_;rintro e w3 ⟨rfl,hI2,hB2,hs2⟩) | (go_at_call 143; refine (QbE _ _ _ _ _).mono ?_;rintro e w2 ⟨rfl,hI1,hB1,hs1⟩) | (go_at_call 141; refine (hb w2 w3 hI1 hB1 hs1 hI2 hB2 hs2).mono ?_;rintro e w4 ⟨rfl,hB4,hq⟩;obtain ⟨c0,c1,z0,z1⟩:=Qab hq));have k0:=QaM w4 (w.heap.size+1+1) (Z n) (Z d) _ _ c0 c1;have hB5:Below w.heap.size w w4:=Qgp (Qgq w s t u v) hB1 hB2 hB4;refine bodyPost_ret (v:=.tuple #[.agg #[Z n,Z d],.int .i64 c]) (by simp [results,Tryz.results95, go_sem,k0.1,k0.2]) rfl ⟨rfl,(hB5.setCell (by simp;omega) _).setCell (by simp;omega) _⟩
noncomputable def divR (s t u v:ByteArray):Option (ByteArray×ByteArray):=if qsOk [(s,t),(u,v)] then (QaZ s v).bind fun n=>(QaZ t u).bind fun d=>redR n d else none
theorem Qgk (f1 f2 f3:Nat×Array Value) (l:List (ByteArray×ByteArray)) (st:St):outR [(f1,fun st=>if qsOk l then some st else none),(f2,fun st=>(QaZ (st 2) (st 5)).map (upd st 0)),(f3,fun st=>(QaZ (st 3) (st 4)).map (upd st 1))] st=if qsOk l then (QaZ (st 2) (st 5)).bind fun n=>(QaZ (st 3) (st 4)).bind fun d=>redR n d else none:=by
 simp only [outR,run,List.map_cons,List.map_nil,List.foldl_cons,List.foldl_nil,Option.bind_some];cases qsOk l with
 | false=>rfl
 | true =>
  simp only [if_true,Option.bind_some];cases QaZ (st 2) (st 5) with
  | none=>rfl
  | some n =>
   simp only [Option.map_some,Option.bind_some];rw [show upd st 0 n 3=st 3 from rfl,show upd st 0 n 4=st 4 from rfl];cases QaZ (st 3) (st 4) with
   | none=>rfl
   | some d=>rfl
def Qgr (w:World) (s t u v:ByteArray):List Obj := [O #[Z s,Z t] 42, O #[Z u,Z v] 42, O #[Z ⟨#[]⟩,Z ⟨#[]⟩] 42, O #[Z ⟨#[]⟩,Z ⟨#[]⟩] 42, O #[Z s,Z t,Z u,Z v] 42, O #[.slice (some ⟨w.heap.size+1+1+1+1,0,none⟩) 2 2] 29]
theorem QnM (s t u v:ByteArray) (hs:s.size≤1000000) (ht:t.size≤1000000) (hu:u.size≤1000000) (hv:v.size≤1000000) {w w2 w3:World}
  (hI1:IntoAt w2 (QaU w (Qgr w s t u v)).heap.size ⟨w.heap.size+1+1+1,0,none⟩ (.func (.func 66) #[] #[]) ⟨w.heap.size,0,none⟩ ⟨w.heap.size+1,1,none⟩) (hB1:Below (QaU w (Qgr w s t u v)).heap.size (QaU w (Qgr w s t u v)) w2) (hs1:(QaU w (Qgr w s t u v)).heap.size+4≤w2.heap.size)
  (hI2:IntoAt w3 w2.heap.size ⟨w.heap.size+1+1+1,1,none⟩ (.func (.func 66) #[] #[]) ⟨w.heap.size,1,none⟩ ⟨w.heap.size+1,0,none⟩) (hB2:Below w2.heap.size w2 w3) (hs2:w2.heap.size+4≤w3.heap.size) :
  Calls Tryz.prog 141 #[.pointer (some ⟨w.heap.size+1+1+1,0,none⟩),.slice (some ⟨w3.heap.size,0,none⟩) 3 3] (w3.alloc (O #[.func (.func 183) #[] #[.pointer (some ⟨w.heap.size+1+1+1+1+1,0,none⟩)],clo (w.heap.size+1+1+1+1+1+1),clo w2.heap.size] 155)) fun e w'=>e = .returned (bR (divR s t u v))∧Below w.heap.size (w3.alloc (O #[.func (.func 183) #[] #[.pointer (some ⟨w.heap.size+1+1+1+1+1,0,none⟩)],clo (w.heap.size+1+1+1+1+1+1),clo w2.heap.size] 155)) w'∧w'.heap[w.heap.size+1+1]? = some (O #[Z ⟨#[]⟩,Z ⟨#[]⟩] 42 (0,0)):=by
 have hsz:(QaU w (Qgr w s t u v)).heap.size=w.heap.size+6:=QcQ _ _;have hBw:Below (w.heap.size+6) (QaU w (Qgr w s t u v)) w3:=by rw [hsz] at hB1;exact hB1.trans (hB2.mono (by omega))
 have g2:=QaY w (Qgr w s t u v) 2 _ rfl;have g4:=QaY w (Qgr w s t u v) 4 _ rfl;have g5:=QaY w (Qgr w s t u v) 5 _ rfl;rw [hsz] at hI1 hs1;have k4:=(hBw.block (w.heap.size+4) (by omega)).trans g4;have k5:=(hBw.block (w.heap.size+5) (by omega)).trans g5;have hk:Enters Tryz.prog 66 := enters_of Tryz.func66 (by kernel_rfl) rfl
 have hR:=Qgo (w:=w) (W:=w3) (os:=Qgr w s t u v) (rI:=3) (n0:=⟨#[]⟩) (d0:=⟨#[]⟩) (es' := [(0,0,s),(0,1,t),(1,0,u),(1,1,v)])
  (ps := [((183, #[.pointer (some ⟨w.heap.size+1+1+1+1+1,0,none⟩)]),fun st=>if qsOk [(s,t),(u,v)] then some st else none),(cloF (w.heap.size+6),fun st=>(QaZ (st 2) (st 5)).map (upd st 0)),(cloF w2.heap.size,fun st=>(QaZ (st 3) (st 4)).map (upd st 1))])
  (by
   intro e he;simp only [List.mem_cons,List.not_mem_nil,or_false] at he;rcases he with rfl | rfl | rfl | rfl | rfl | rfl
   ·exact ⟨⟨_,_,rfl,rfl,by decide⟩,by decide⟩
   ·exact ⟨⟨_,_,rfl,rfl,by decide⟩,by decide⟩
   ·exact ⟨⟨_,_,rfl,rfl,by decide⟩,hs⟩
   ·exact ⟨⟨_,_,rfl,rfl,by decide⟩,ht⟩
   ·exact ⟨⟨_,_,rfl,rfl,by decide⟩,hu⟩
   ·exact ⟨⟨_,_,rfl,rfl,by decide⟩,hv⟩)
  (by simp) hBw (by simp)
  (by
   intro p hp;simp only [List.mem_cons,List.not_mem_nil,or_false] at hp;rcases hp with rfl | rfl | rfl
   ·refine .inr ⟨w.heap.size+5,w.heap.size+4,2, [(s,t),(u,v)],rfl,k5,by simp, ?_, ?_,by have:=hs2;omega,by have:=hs2;omega⟩
    ·intro i hi
     match i,hi with
     | 0,_=>exact ⟨cell_of_row w3 _ 0 _ _ _ k4,cell_of_row w3 _ 1 _ _ _ k4,hs,ht⟩
     | 1,_=>exact ⟨cell_of_row w3 _ 2 _ _ _ k4,cell_of_row w3 _ 3 _ _ _ k4,hu,hv⟩
    ·intro e he;simp only [List.mem_cons,List.not_mem_nil,or_false] at he;rcases he with rfl | rfl | rfl | rfl | rfl | rfl <;> constructor <;> simp
   ·exact .inl ⟨0,2,5,_,QaZ,w.heap.size+6,by simp,by simp,by simp,rfl,hk,QdH,Qbf,by decide,hI1.keep (Rim.of_below (bs:=fun _=>False) hB2) (fun _ _ _ h=>h),by show _+6≤_;omega,by omega⟩
   ·exact .inl ⟨1,3,4,_,QaZ,w2.heap.size,by simp,by simp,by simp,rfl,hk,QdH,Qbf,by decide,hI2,by show _+6≤_;omega,by omega⟩)
 have k2:=(hBw.block (w.heap.size+2) (by omega)).trans g2;have hw3:=hBw.size;rw [hsz] at hw3;have:=QdI _ _ _ _ _ _ _ hR;rw [Qgk] at this;refine this.mono ?_;rintro e w' ⟨h1,h2,h3⟩;refine ⟨h1,h2,h3.heap (k:=w.heap.size+2) ((Below.heap_alloc w3 _ _ (by omega)).trans k2) ?_⟩;rintro (⟨a,ha,hk⟩ | hk)
 ·simp only [List.map_cons,List.map_nil,List.mem_cons,List.not_mem_nil,or_false,adE] at ha;rcases ha with rfl | rfl | rfl | rfl | rfl | rfl <;> simp at hk
 ·simp [Value.ownBlock] at hk;omega
theorem Qsn (s t u v:ByteArray) (hs:s.size≤1000000) (ht:t.size≤1000000) (hu:u.size≤1000000) (hv:v.size≤1000000) (w:World) :
  Calls Tryz.prog 103 #[rv s t,rv u v] w fun e w'=>e = .returned (bR (divR s t u v))∧Below w.heap.size w w':=by
 have hb:=fun (w2 w3:World)=>QnM s t u v hs ht hu hv (w:=w) (w2:=w2) (w3:=w3);obtain ⟨n,d,c,ho⟩:=Qcw (divR s t u v);rw [ho] at hb ⊢;clear ho;unfold clo at hb;unfold rv;go_enter Tryz.func103, Tryz.ntmps103;go_wp2_with (first | (go_at_call 142; refine (QeL _ 2 _ 2 _ rfl).mono ?_;rintro e w1 ⟨rfl,rfl⟩) | (go_at_call 143; (have q:=hI1;clear q);refine (QbE _ _ _ _ _).mono ?_;rintro e w3 ⟨rfl,hI2,hB2,hs2⟩) | (go_at_call 143; refine (QbE _ _ _ _ _).mono ?_;rintro e w2 ⟨rfl,hI1,hB1,hs1⟩) | (go_at_call 141; refine (hb w2 w3 hI1 hB1 hs1 hI2 hB2 hs2).mono ?_;rintro e w4 ⟨rfl,hB4,hq⟩;obtain ⟨c0,c1,z0,z1⟩:=Qab hq));have k0:=QaM w4 (w.heap.size+1+1) (Z n) (Z d) _ _ c0 c1;have hB5:Below w.heap.size w w4:=Qgp (Qgr w s t u v) hB1 hB2 hB4;refine bodyPost_ret (v:=.tuple #[.agg #[Z n,Z d],.int .i64 c]) (by simp [results,Tryz.results103, go_sem,k0.1,k0.2]) rfl ⟨rfl,(hB5.setCell (by simp;omega) _).setCell (by simp;omega) _⟩
noncomputable def sumR (op:ByteArray→ByteArray→Option ByteArray) (s t u v:ByteArray):Option (ByteArray×ByteArray):=if qsOk [(s,t),(u,v)] then (QaZ s v).bind fun x=>(QaZ u t).bind fun y=>(op x y).bind fun n=>(QaZ t v).bind fun d=>redR n d else none
theorem Qso (op:ByteArray→ByteArray→Option ByteArray) (f1 f2 f3 f4 f5:Nat×Array Value) (l:List (ByteArray×ByteArray)) (st:St):outR [(f1,fun st=>if qsOk l then some st else none),(f2,fun st=>(QaZ (st 2) (st 5)).map (upd st 6)),(f3,fun st=>(QaZ (st 4) (st 3)).map (upd st 7)),(f4,fun st=>(op (st 6) (st 7)).map (upd st 0)),(f5,fun st=>(QaZ (st 3) (st 5)).map (upd st 1))] st=if qsOk l then (QaZ (st 2) (st 5)).bind fun x=>(QaZ (st 4) (st 3)).bind fun y=>(op x y).bind fun n=>(QaZ (st 3) (st 5)).bind fun d=>redR n d else none:=by
 simp only [outR,run,List.map_cons,List.map_nil,List.foldl_cons,List.foldl_nil,Option.bind_some];cases qsOk l with
 | false=>rfl
 | true =>
  simp only [if_true,Option.bind_some];cases QaZ (st 2) (st 5) with
  | none=>rfl
  | some x =>
   simp only [Option.map_some,Option.bind_some];rw [show upd st 6 x 4=st 4 from rfl,show upd st 6 x 3=st 3 from rfl];cases QaZ (st 4) (st 3) with
   | none=>rfl
   | some y =>
    simp only [Option.map_some,Option.bind_some];rw [show upd (upd st 6 x) 7 y 6=x from rfl,show upd (upd st 6 x) 7 y 7=y from rfl];cases op x y with
    | none=>rfl
    | some n =>
     simp only [Option.map_some,Option.bind_some];rw [show upd (upd (upd st 6 x) 7 y) 0 n 3=st 3 from rfl,show upd (upd (upd st 6 x) 7 y) 0 n 5=st 5 from rfl];cases QaZ (st 3) (st 5) with
     | none=>rfl
     | some d=>rfl
def Qgs (w:World) (s t u v:ByteArray):List Obj := [O #[Z s,Z t] 42, O #[Z u,Z v] 42, O #[Z ⟨#[]⟩,Z ⟨#[]⟩] 42, O #[Z ⟨#[]⟩] 9, O #[Z ⟨#[]⟩] 9, O #[Z ⟨#[]⟩,Z ⟨#[]⟩] 42, O #[Z s,Z t,Z u,Z v] 42, O #[.slice (some ⟨w.heap.size+1+1+1+1+1+1,0,none⟩) 2 2] 29]
theorem QnN (s t u v:ByteArray) (hs:s.size≤1000000) (ht:t.size≤1000000) (hu:u.size≤1000000) (hv:v.size≤1000000) (k:Nat) (op:ByteArray→ByteArray→Option ByteArray) (hke:Enters Tryz.prog k) (hop:OpC k op) (hsm:∀ s t u:ByteArray,s.size≤1000000→op s t=some u→u.size≤1000000) {w w2 w3 w4 w5:World}
  (hI1:IntoAt w2 (QaU w (Qgs w s t u v)).heap.size ⟨w.heap.size+1+1+1,0,none⟩ (.func (.func 66) #[] #[]) ⟨w.heap.size,0,none⟩ ⟨w.heap.size+1,1,none⟩) (hB1:Below (QaU w (Qgs w s t u v)).heap.size (QaU w (Qgs w s t u v)) w2) (hs1:(QaU w (Qgs w s t u v)).heap.size+4≤w2.heap.size)
  (hI2:IntoAt w3 w2.heap.size ⟨w.heap.size+1+1+1+1,0,none⟩ (.func (.func 66) #[] #[]) ⟨w.heap.size+1,0,none⟩ ⟨w.heap.size,1,none⟩) (hB2:Below w2.heap.size w2 w3) (hs2:w2.heap.size+4≤w3.heap.size)
  (hI3:IntoAt w4 w3.heap.size ⟨w.heap.size+1+1+1+1+1,0,none⟩ (.func (.func k) #[] #[]) ⟨w.heap.size+1+1+1,0,none⟩ ⟨w.heap.size+1+1+1+1,0,none⟩) (hB3:Below w3.heap.size w3 w4) (hs3:w3.heap.size+4≤w4.heap.size)
  (hI4:IntoAt w5 w4.heap.size ⟨w.heap.size+1+1+1+1+1,1,none⟩ (.func (.func 66) #[] #[]) ⟨w.heap.size,1,none⟩ ⟨w.heap.size+1,1,none⟩) (hB4:Below w4.heap.size w4 w5) (hs4:w4.heap.size+4≤w5.heap.size) :
  Calls Tryz.prog 141 #[.pointer (some ⟨w.heap.size+1+1+1+1+1,0,none⟩),.slice (some ⟨w5.heap.size,0,none⟩) 5 5] (w5.alloc (O #[.func (.func 183) #[] #[.pointer (some ⟨w.heap.size+1+1+1+1+1+1+1,0,none⟩)],clo (w.heap.size+1+1+1+1+1+1+1+1),clo w2.heap.size,clo w3.heap.size,clo w4.heap.size] 155)) fun e w'=>e = .returned (bR (sumR op s t u v))∧Below w.heap.size (w5.alloc (O #[.func (.func 183) #[] #[.pointer (some ⟨w.heap.size+1+1+1+1+1+1+1,0,none⟩)],clo (w.heap.size+1+1+1+1+1+1+1+1),clo w2.heap.size,clo w3.heap.size,clo w4.heap.size] 155)) w'∧w'.heap[w.heap.size+1+1]? = some (O #[Z ⟨#[]⟩,Z ⟨#[]⟩] 42 (0,0)):=by
 have hsz:(QaU w (Qgs w s t u v)).heap.size=w.heap.size+8:=QcQ _ _;have c2:Below w3.heap.size w3 w5:=hB3.trans (hB4.mono (by omega));have c1:Below w2.heap.size w2 w5:=hB2.trans (c2.mono (by omega));have hBw:Below (w.heap.size+8) (QaU w (Qgs w s t u v)) w5:=by rw [hsz] at hB1;exact hB1.trans (c1.mono (by omega))
 have g2:=QaY w (Qgs w s t u v) 2 _ rfl;have g6:=QaY w (Qgs w s t u v) 6 _ rfl;have g7:=QaY w (Qgs w s t u v) 7 _ rfl;rw [hsz] at hI1 hs1;have k6:=(hBw.block (w.heap.size+6) (by omega)).trans g6;have k7:=(hBw.block (w.heap.size+7) (by omega)).trans g7;have hk:Enters Tryz.prog 66 := enters_of Tryz.func66 (by kernel_rfl) rfl
 have hR:=Qgo (w:=w) (W:=w5) (os:=Qgs w s t u v) (rI:=5) (n0:=⟨#[]⟩) (d0:=⟨#[]⟩) (es' := [(0,0,s),(0,1,t),(1,0,u),(1,1,v),(3,0,⟨#[]⟩),(4,0,⟨#[]⟩)])
  (ps := [((183, #[.pointer (some ⟨w.heap.size+1+1+1+1+1+1+1,0,none⟩)]),fun st=>if qsOk [(s,t),(u,v)] then some st else none),(cloF (w.heap.size+8),fun st=>(QaZ (st 2) (st 5)).map (upd st 6)),(cloF w2.heap.size,fun st=>(QaZ (st 4) (st 3)).map (upd st 7)),(cloF w3.heap.size,fun st=>(op (st 6) (st 7)).map (upd st 0)),(cloF w4.heap.size,fun st=>(QaZ (st 3) (st 5)).map (upd st 1))])
  (by
   intro e he;simp only [List.mem_cons,List.not_mem_nil,or_false] at he;rcases he with rfl | rfl | rfl | rfl | rfl | rfl | rfl | rfl
   ·exact ⟨⟨_,_,rfl,rfl,by decide⟩,by decide⟩
   ·exact ⟨⟨_,_,rfl,rfl,by decide⟩,by decide⟩
   ·exact ⟨⟨_,_,rfl,rfl,by decide⟩,hs⟩
   ·exact ⟨⟨_,_,rfl,rfl,by decide⟩,ht⟩
   ·exact ⟨⟨_,_,rfl,rfl,by decide⟩,hu⟩
   ·exact ⟨⟨_,_,rfl,rfl,by decide⟩,hv⟩
   ·exact ⟨⟨_,_,rfl,rfl,by decide⟩,by decide⟩
   ·exact ⟨⟨_,_,rfl,rfl,by decide⟩,by decide⟩)
  (by simp) hBw (by simp)
  (by
   intro p hp;simp only [List.mem_cons,List.not_mem_nil,or_false] at hp;rcases hp with rfl | rfl | rfl | rfl | rfl
   ·refine .inr ⟨w.heap.size+7,w.heap.size+6,2, [(s,t),(u,v)],rfl,k7,by simp, ?_, ?_,by omega,by omega⟩
    ·intro i hi
     match i,hi with
     | 0,_=>exact ⟨cell_of_row w5 _ 0 _ _ _ k6,cell_of_row w5 _ 1 _ _ _ k6,hs,ht⟩
     | 1,_=>exact ⟨cell_of_row w5 _ 2 _ _ _ k6,cell_of_row w5 _ 3 _ _ _ k6,hu,hv⟩
    ·intro e he;simp only [List.mem_cons,List.not_mem_nil,or_false] at he;rcases he with rfl | rfl | rfl | rfl | rfl | rfl | rfl | rfl <;> constructor <;> simp
   ·exact .inl ⟨6,2,5,_,QaZ,w.heap.size+8,by simp,by simp,by simp,rfl,hk,QdH,Qbf,by decide,hI1.keep (Rim.of_below (bs:=fun _=>False) c1) (fun _ _ _ h=>h),by show _+8≤_;omega,by omega⟩
   ·exact .inl ⟨7,4,3,_,QaZ,w2.heap.size,by simp,by simp,by simp,rfl,hk,QdH,Qbf,by decide,hI2.keep (Rim.of_below (bs:=fun _=>False) c2) (fun _ _ _ h=>h),by show _+8≤_;omega,by omega⟩
   ·exact .inl ⟨0,6,7,k,op,w3.heap.size,by simp,by simp,by simp,rfl,hke,hop,hsm,by decide,hI3.keep (Rim.of_below (bs:=fun _=>False) hB4) (fun _ _ _ h=>h),by show _+8≤_;omega,by omega⟩
   ·exact .inl ⟨1,3,5,_,QaZ,w4.heap.size,by simp,by simp,by simp,rfl,hk,QdH,Qbf,by decide,hI4,by show _+8≤_;omega,by omega⟩)
 have k2:=(hBw.block (w.heap.size+2) (by omega)).trans g2;have hw5:=hBw.size;rw [hsz] at hw5;have:=QdI _ _ _ _ _ _ _ hR;rw [Qso] at this;refine this.mono ?_;rintro e w' ⟨h1,h2,h3⟩;refine ⟨h1,h2,h3.heap (k:=w.heap.size+2) ((Below.heap_alloc w5 _ _ (by omega)).trans k2) ?_⟩;rintro (⟨a,ha,hk⟩ | hk)
 ·simp only [List.map_cons,List.map_nil,List.mem_cons,List.not_mem_nil,or_false,adE] at ha;rcases ha with rfl | rfl | rfl | rfl | rfl | rfl | rfl | rfl <;> simp at hk
 ·simp [Value.ownBlock] at hk;omega
theorem QiL {w w2 w3 w4 w5 w6:World} (os:List Obj) {o:Obj} (h1:Below (QaU w os).heap.size (QaU w os) w2) (h2:Below w2.heap.size w2 w3) (h3:Below w3.heap.size w3 w4) (h4:Below w4.heap.size w4 w5) (h5:Below w.heap.size (w5.alloc o) w6):Below w.heap.size w w6:=by
 have h0:=Qcr w os;have:=h0.size;have:=h1.size;have:=h2.size;have:=h3.size;have:=h4.size;exact (((((h0.trans (h1.mono (by omega))).trans (h2.mono (by omega))).trans (h3.mono (by omega))).trans (h4.mono (by omega))).alloc (by omega) o).trans h5
theorem QnO (s t u v:ByteArray) (hs:s.size≤1000000) (ht:t.size≤1000000) (hu:u.size≤1000000) (hv:v.size≤1000000) (k:Nat) (op:ByteArray→ByteArray→Option ByteArray) (hke:Enters Tryz.prog k) (hop:OpC k op) (hsm:∀ s t u:ByteArray,s.size≤1000000→op s t=some u→u.size≤1000000) (w:World) :
  Calls Tryz.prog 130 #[rv s t,rv u v,.func (.func k) #[] #[]] w fun e w'=>e = .returned (bR (sumR op s t u v))∧Below w.heap.size w w':=by
 have hb:=fun (w2 w3 w4 w5:World)=>QnN s t u v hs ht hu hv k op hke hop hsm (w:=w) (w2:=w2) (w3:=w3) (w4:=w4) (w5:=w5);obtain ⟨n,d,c,ho⟩:=Qcw (sumR op s t u v);rw [ho] at hb ⊢;clear ho hop hsm hke;unfold clo at hb;unfold rv;go_enter Tryz.func130, Tryz.ntmps130;go_wp2_with (first | (go_at_call 142; refine (QeL _ 2 _ 2 _ rfl).mono ?_;rintro e w1 ⟨rfl,rfl⟩) | (go_at_call 143; (have q:=hI3;clear q);refine (QbE _ _ _ _ _).mono ?_;rintro e w5 ⟨rfl,hI4,hB4,hs4⟩) | (go_at_call 143; (have q:=hI2;clear q);refine (QbE _ _ _ _ _).mono ?_;rintro e w4 ⟨rfl,hI3,hB3,hs3⟩) | (go_at_call 143; (have q:=hI1;clear q);refine (QbE _ _ _ _ _).mono ?_;rintro e w3 ⟨rfl,hI2,hB2,hs2⟩) | (go_at_call 143; refine (QbE _ _ _ _ _).mono ?_;rintro e w2 ⟨rfl,hI1,hB1,hs1⟩) | (go_at_call 141; refine (hb w2 w3 w4 w5 hI1 hB1 hs1 hI2 hB2 hs2 hI3 hB3 hs3 hI4 hB4 hs4).mono ?_;rintro e w6 ⟨rfl,hB6,hq⟩;obtain ⟨c0,c1,z0,z1⟩:=Qab hq));have k0:=QaM w6 (w.heap.size+1+1) (Z n) (Z d) _ _ c0 c1;have hB5:Below w.heap.size w w6:=QiL (Qgs w s t u v) hB1 hB2 hB3 hB4 hB6;refine bodyPost_ret (v:=.tuple #[.agg #[Z n,Z d],.int .i64 c]) (by simp [results,Tryz.results130, go_sem,k0.1,k0.2]) rfl ⟨rfl,(hB5.setCell (by simp;omega) _).setCell (by simp;omega) _⟩
end Rt
end
end Go.Proofs.YtihlgifojjeoaaaGreatDoor
