import Derived.Test.YtihlgifojjeoaaaGreatDoorZ6B7
import Derived.Shelf.Strings.Repeat
import Derived.ScopeJumps
import Derived.WalkMore
set_option maxRecDepth 1000000
set_option maxHeartbeats 40000000
open Go.Value renaming string→Z
open Go.Obj renaming cells→O
namespace Go.Proofs.YtihlgifojjeoaaaGreatDoor
section
namespace Rt
open Go.RowKit Go.Proofs.YtihlgifojjeoaaaGreatDoor.Nm Go.Shelf
def renR:Go.Shelf.Ren where
 f:=fun x=>match x with
  | 105 => 159
  | 212 => 181
  | 99 => 198
  | 165 => 199
  | 166 => 200
  | 170 => 201
  | 169 => 202
  | 263 => 219
  | 264 => 220
  | 206 => 227
  | 240 => 228
  | 241 => 229
  | 276 => 238
  | 277 => 239
  | n=>n
 t:=fun x=>match x with
  | 9 => 9
  | 3 => 3
  | 4 => 4
  | 20 => 20
  | 0 => 0
  | 46 => 188
  | 109 => 189
  | 5 => 5
  | 72 => 206
  | 76 => 208
  | 51 => 171
  | 146 => 227
  | 53 => 160
  | 148 => 229
  | 70 => 204
  | 37 => 202
  | 75 => 144
  | 127 => 237
  | 164 => 253
  | 80 => 136
  | n=>n
 g:=fun n=>n
theorem renR_lays:Lays.n105 Tryz.prog renR where
 mixed:=by kernel_rfl
 f99:=(Tryz.func198).trans (congrArg some (by kernel_rfl))
 f105:=(Tryz.func159).trans (congrArg some (by kernel_rfl))
 f165:=(Tryz.func199).trans (congrArg some (by kernel_rfl))
 f166:=(Tryz.func200).trans (congrArg some (by kernel_rfl))
 f169:=(Tryz.func202).trans (congrArg some (by kernel_rfl))
 f170:=(Tryz.func201).trans (congrArg some (by kernel_rfl))
 f206:=(Tryz.func227).trans (congrArg some (by kernel_rfl))
 f212:=(Tryz.func181).trans (congrArg some (by kernel_rfl))
 f240:=(Tryz.func228).trans (congrArg some (by kernel_rfl))
 f241:=(Tryz.func229).trans (congrArg some (by kernel_rfl))
 f263:=(Tryz.func219).trans (congrArg some (by kernel_rfl))
 f264:=(Tryz.func220).trans (congrArg some (by kernel_rfl))
 f276:=(Tryz.func238).trans (congrArg some (by kernel_rfl))
 f277:=(Tryz.func239).trans (congrArg some (by kernel_rfl))
 t0:=Tryz.underlying0
 a0:=Tryz.isAgg0
 z0:=Tryz.sizeOf0
 v0:=Tryz.zeroValue0
 t3:=Tryz.underlying3
 a3:=Tryz.isAgg3
 z3:=Tryz.sizeOf3
 v3:=Tryz.zeroValue3
 t4:=Tryz.underlying4
 a4:=Tryz.isAgg4
 z4:=Tryz.sizeOf4
 v4:=Tryz.zeroValue4
 t5:=Tryz.underlying5
 a5:=Tryz.isAgg5
 z5:=Tryz.sizeOf5
 v5:=Tryz.zeroValue5
 t9:=Tryz.underlying9
 a9:=Tryz.isAgg9
 z9:=Tryz.sizeOf9
 v9:=Tryz.zeroValue9
 t20:=Tryz.underlying20
 a20:=Tryz.isAgg20
 z20:=Tryz.sizeOf20
 v20:=Tryz.zeroValue20
 t37:=Tryz.underlying202
 a37:=Tryz.isAgg202
 z37:=Tryz.sizeOf202
 v37:=Tryz.zeroValue202
 t46:=Tryz.underlying188
 a46:=Tryz.isAgg188
 z46:=Tryz.sizeOf188
 v46:=Tryz.zeroValue188
 t51:=Tryz.underlying171
 a51:=Tryz.isAgg171
 z51:=Tryz.sizeOf171
 v51:=Tryz.zeroValue171
 t53:=Tryz.underlying160
 a53:=Tryz.isAgg160
 z53:=Tryz.sizeOf160
 v53:=Tryz.zeroValue160
 t70:=Tryz.underlying204
 a70:=Tryz.isAgg204
 z70:=Tryz.sizeOf204
 v70:=Tryz.zeroValue204
 t72:=Tryz.underlying206
 a72:=Tryz.isAgg206
 z72:=Tryz.sizeOf206
 v72:=Tryz.zeroValue206
 t75:=Tryz.underlying144
 a75:=Tryz.isAgg144
 z75:=Tryz.sizeOf144
 v75:=Tryz.zeroValue144
 t76:=Tryz.underlying208
 a76:=Tryz.isAgg208
 z76:=Tryz.sizeOf208
 v76:=Tryz.zeroValue208
 t109:=Tryz.underlying189
 a109:=Tryz.isAgg189
 z109:=Tryz.sizeOf189
 v109:=Tryz.zeroValue189
 t127:=Tryz.underlying237
 a127:=Tryz.isAgg237
 z127:=Tryz.sizeOf237
 v127:=Tryz.zeroValue237
 t146:=Tryz.underlying227
 a146:=Tryz.isAgg227
 z146:=Tryz.sizeOf227
 v146:=Tryz.zeroValue227
 t148:=Tryz.underlying229
 a148:=Tryz.isAgg229
 z148:=Tryz.sizeOf229
 v148:=Tryz.zeroValue229
 t164:=Tryz.underlying253
 a164:=Tryz.isAgg253
 z164:=Tryz.sizeOf253
 v164:=Tryz.zeroValue253

theorem Que:Builder.Extra Tryz.prog renR where
 sizeBuilder:=by kernel_rfl
 liesBuilder:=by kernel_rfl
 t5:=renR_lays.t5
 a5:=renR_lays.a5
 z5:=renR_lays.z5
 v5:=renR_lays.v5
 infoByte:=by kernel_rfl
 cellsByte:=by kernel_rfl
 sizeByte:=by kernel_rfl
 neB5:=by decide
theorem Qfg (c:Nat) (hc:c≤30) (w:World):Calls Tryz.prog 159 #[Z ⟨#[48]⟩,.int .i64 c] w fun e w'=>e = .returned (Z ⟨(Lib.repeatL [48] c).toArray⟩)∧Below w.heap.size w w' :=
 Any.strings_Repeat renR_lays Que ⟨#[48]⟩ c w (by omega) (by show 1*c≤_;omega)
theorem QhV (c:Nat) (hc:c≤30):(⟨#[49]⟩ ++ ⟨(Lib.repeatL [48] c).toArray⟩:ByteArray)=txt (10^c):=by
 have h:∀ c:Fin 31,(⟨#[49]⟩ ++ ⟨(Lib.repeatL [48] c.val).toArray⟩:ByteArray)=txt (10^c.val):=by decide +kernel
 exact h ⟨c,by omega⟩
end Rt
end
section
namespace Rt
open Go.RowKit Go.Proofs.YtihlgifojjeoaaaGreatDoor.Nm
def adA (e:Ent):Addr:=⟨e.1,e.2.1,none⟩
def InW (X:World) (e:Ent):Prop:=∃ (cs:Array Value) (T:TypeId),X.heap[e.1]? = some (.cells cs T (0,0))∧cs[e.2.1]? = some (Z e.2.2)∧T ≠ 155
structure IntoSpecA (X:World) (es:List Ent) (W:World) (p:(Nat×Array Value)×(St→Option St)):Prop where
 it:∃ (i j l k:Nat) (op:ByteArray→ByteArray→Option ByteArray) (B:Nat) (hi:i<es.length) (hj:j<es.length) (hl:l<es.length),p=(cloF B,fun st=>(op (st j) (st l)).map (upd st i))∧Enters Tryz.prog k∧OpC k op∧(∀ s t u:ByteArray,s.size≤1000000→op s t=some u→u.size≤1000000)∧l≠i ∧
  IntoAt W B (adA es[i]) (.func (.func k) #[] #[]) (adA es[j]) (adA es[l])∧X.heap.size≤B∧B+3<W.heap.size
structure ValidSpecA (X:World) (es:List Ent) (W:World) (p:(Nat×Array Value)×(St→Option St)):Prop where
 it:∃ (b g cap:Nat) (l:List (ByteArray×ByteArray)),p=((183, #[.pointer (some ⟨b,0,none⟩)]),fun st=>if qsOk l then some st else none)∧Boxed W b 29 (.slice (some ⟨g,0,none⟩) l.length cap)∧l.length≤1000 ∧
  (∀ (i:Nat) (h:i<l.length),W.cell? ⟨g,i*2,none⟩=some (Z l[i].1)∧W.cell? ⟨g,i*2+1,none⟩=some (Z l[i].2)∧l[i].1.size≤1000000∧l[i].2.size≤1000000) ∧
  (∀ e∈es,e.1≠b∧e.1≠g)∧b<W.heap.size∧g<W.heap.size
theorem QnP {X W:World} {base rI:Nat} {n0 d0:ByteArray} {es':List Ent} {ps:Ps} (hes:∀ e∈((rI,0,n0) :: (rI,1,d0) :: es':List Ent),InW X e∧base≤e.1∧e.2.2.size≤1000000)
  (hnd:(((rI,0,n0) :: (rI,1,d0) :: es':List Ent).map fun e=>(e.1,e.2.1)).Nodup) (hbase:base≤X.heap.size) (hb:Below X.heap.size X W) (hlen:ps.length≤10)
  (hst:∀ p∈ps,IntoSpecA X ((rI,0,n0) :: (rI,1,d0) :: es') W p∨ValidSpecA X ((rI,0,n0) :: (rI,1,d0) :: es') W p) :
  Ready base rI ps (.slice (some ⟨W.heap.size,0,none⟩) ps.length ps.length) (es'.map adA) (stE ((rI,0,n0) :: (rI,1,d0) :: es')) (W.alloc (.cells (ps.map fun p=>fval p.1).toArray 155)):=by
 have eAd:(⟨rI,0,none⟩ :: ⟨rI,1,none⟩ :: es'.map adA:List Addr)=((rI,0,n0) :: (rI,1,d0) :: es':List Ent).map adA:=rfl;have eLen:es'.length+2=((rI,0,n0) :: (rI,1,d0) :: es':List Ent).length:=rfl;have hWl:X.heap.size≤W.heap.size:=hb.size
 have hos:∀ e∈((rI,0,n0) :: (rI,1,d0) :: es':List Ent),e.1<X.heap.size:=fun e he=>by
  obtain ⟨⟨cs,T,h,_⟩,_⟩:=hes e he;exact lt_of_block h
 have hblk:∀ e∈((rI,0,n0) :: (rI,1,d0) :: es':List Ent),∃ cs T,(W.alloc (.cells (ps.map fun p=>fval p.1).toArray 155)).heap[e.1]? = some (.cells cs T (0,0))∧cs[e.2.1]? = some (Z e.2.2)∧T ≠ 155 := fun e he=>by
  obtain ⟨⟨cs,T,h,h2,h3⟩,_⟩:=hes e he;have:=hos e he;refine ⟨cs,T, ?_,h2,h3⟩;rw [Below.heap_alloc _ _ _ (by omega),hb.block _ (by omega)];exact h
 have hrow:(W.alloc (.cells (ps.map fun p=>fval p.1).toArray 155)).heap[W.heap.size]? = some (.cells (ps.map fun p=>fval p.1).toArray 155 (0,0)):=World.alloc_heap_new W _;have hsz:(W.alloc (.cells (ps.map fun p=>fval p.1).toArray 155)).heap.size=W.heap.size+1:=World.size_alloc _ _;have hB1:Rim (fun _=>False) W (W.alloc (.cells (ps.map fun p=>fval p.1).toArray 155)):=Rim.of_below ((Below.refl _ W).alloc Lr _);generalize hWe:W.alloc (.cells (ps.map fun p=>fval p.1).toArray 155)=We at *
 clear hWe;generalize hesE:((rI,0,n0) :: (rI,1,d0) :: es':List Ent)=es at *
 have hdup:(es.map adA).Nodup:=by
  rw [List.Nodup,List.pairwise_map] at hnd ⊢;refine hnd.imp ?_;intro a b hab e;apply hab;injection e with e1 e2;rw [Prod.mk.injEq];exact ⟨e1,e2⟩
 have hapart:∀ k,blk (es.map adA) k→∃ e∈es,e.1=k:=by
  rintro k ⟨a,ha,rfl⟩;obtain ⟨e,he,rfl⟩:=List.mem_map.1 ha;exact ⟨e,he,rfl⟩
 refine ⟨hlen,⟨by simp,.inr ⟨W.heap.size,ps.length,_,rfl,by omega,hrow,Nat.le_refl _,by unfold maxLen;omega,by simp,by simp only [Nat.mul_one];exact List.take_of_length_le (by simp)⟩⟩,by omega, ?_,by rw [eAd];exact hdup, ?_, ?_, ?_, ?_⟩
 ·rw [eAd];refine ⟨fun i hi => ?_,fun i hi => ?_⟩
  ·have hi':i<es.length:=by simpa using hi
   obtain ⟨cs,T,h1,h2,_⟩:=hblk es[i] (List.getElem_mem hi');rw [List.getElem_map];have e1:stE es i=es[i].2.2:=by rw [stE,List.getD_eq_getElem?_getD,List.getElem?_eq_getElem hi'];rfl
   rw [e1];exact ⟨by rw [adA,cell_of_row We _ _ _ _ _ h1];exact h2,by simp [adA,World.frozen?,h1]⟩
  ·have hi':i<es.length:=by simpa using hi
   have e1:stE es i=es[i].2.2:=by rw [stE,List.getD_eq_getElem?_getD,List.getElem?_eq_getElem hi'];rfl
   rw [e1];exact (hes _ (List.getElem_mem hi')).2.2
 ·rw [List.length_map,eLen,stE,List.getD_eq_getElem?_getD,List.getElem?_eq_none Lr];rfl
 ·rw [eAd];intro a ha;obtain ⟨e,he,rfl⟩:=List.mem_map.1 ha;obtain ⟨cs,T,h1,_,h3⟩:=hblk e he;exact ⟨(hes e he).2.1,cs,T,h1,h3⟩
 ·intro k hk;rw [eAd];intro hc;obtain ⟨e,he,rfl⟩:=hapart k hc;have:=hos e he;simp [Value.ownBlock] at hk;omega
 ·intro d hd p hp;have eA:adr rI (es'.map adA) d=es.map adA ++ [d]:=by rw [←eAd];rfl
  rw [eA]
  have hbk:∀ k,blk (es.map adA ++ [d]) k→(∃ e∈es,e.1=k)∨W.heap.size<k:=by
   rintro k ⟨a,ha,rfl⟩;rcases List.mem_append.1 ha with ha | ha
   ·exact .inl (hapart _ ⟨a,ha,rfl⟩)
   ·rw [List.mem_singleton.1 ha];exact .inr (by omega)
  have hdupA:(es.map adA ++ [d]).Nodup:=by
   rw [List.nodup_append];refine ⟨hdup,by simp, ?_⟩;intro a ha b hb' e;rw [List.mem_singleton] at hb';subst hb';subst e;obtain ⟨e,he,h⟩:=hapart _ ⟨_,ha,rfl⟩;have:=hos e he;omega
  have own:∀ k,(Value.slice (some ⟨W.heap.size,0,none⟩) ps.length ps.length).ownBlock=some k→k=W.heap.size:=fun k hk=>by
   simp [Value.ownBlock] at hk;omega
  rcases hst p hp with h | h
  ·obtain ⟨i,j,l,k,op,B,hi,hj,hl,rfl,h1,h2,h3,h4,h5,h6,h7⟩:=h.it
   have gi:∀ (i:Nat) (hi:i<es.length) (h':i<(es.map adA ++ [d]).length),(es.map adA ++ [d])[i]=adA es[i]:=fun i hi h'=>by
    rw [List.getElem_append_left (by simpa using hi),List.getElem_map]
   have gl:(es.map adA ++ [d]).length=es.length+1:=by simp
   refine Qdh (i:=i) (j:=j) (l:=l) h1 h2 h3 hdupA (by omega) (by omega) (by omega) h4 (by rw [gi i hi,gi j hj,gi l hl];exact h5.keep hB1 (fun _ _ _ h=>h)) ?_ (fun k hk => .inl hk);rintro k k1 k2 (hk | hk)
   ·rcases hbk k hk with ⟨e,he,rfl⟩ | h
    ·have:=hos e he;omega
    ·omega
   ·have:=own k hk;omega
  ·obtain ⟨b,g,cap,l,rfl,h1,h2,h3,h4,h5,h6⟩:=h.it;refine Qhi (hB1.heap h1 (fun h=>h)) h2 (fun i hi => ?_) ?_ ?_
   ·obtain ⟨q1,q2,q3,q4⟩:=h3 i hi;have hbl:=hB1.block g h6 (fun h=>h);exact ⟨(World.cell?_of_block (a:=⟨g,i*2,none⟩) hbl).trans q1,(World.cell?_of_block (a:=⟨g,i*2+1,none⟩) hbl).trans q2,q3,q4⟩
   ·rintro (hk | hk)
    ·rcases hbk b hk with ⟨e,he,h⟩ | h
     ·exact (h4 e he).1 h
     ·omega
    ·have:=own b hk;omega
   ·rintro (hk | hk)
    ·rcases hbk g hk with ⟨e,he,h⟩ | h
     ·exact (h4 e he).2 h
     ·omega
    ·have:=own g hk;omega
noncomputable def rndR (op:ByteArray→ByteArray→Option ByteArray) (s t:ByteArray) (c:Nat):Option (ByteArray×ByteArray):=if qsOk [(s,t)] then (QaZ s (txt (10^c))).bind fun x=>(op x t).bind fun n=>redR n (txt (10^c)) else none
theorem Qsp (op:ByteArray→ByteArray→Option ByteArray) (f1 f2 f3:Nat×Array Value) (l:List (ByteArray×ByteArray)) (st:St):outR [(f1,fun st=>if qsOk l then some st else none),(f2,fun st=>(QaZ (st 2) (st 4)).map (upd st 0)),(f3,fun st=>(op (st 0) (st 3)).map (upd st 0))] st=if qsOk l then (QaZ (st 2) (st 4)).bind fun x=>(op x (st 3)).bind fun n=>redR n (st 1) else none:=by
 simp only [outR,run,List.map_cons,List.map_nil,List.foldl_cons,List.foldl_nil,Option.bind_some];cases qsOk l with
 | false=>rfl
 | true =>
  simp only [if_true,Option.bind_some];cases QaZ (st 2) (st 4) with
  | none=>rfl
  | some x =>
   simp only [Option.map_some,Option.bind_some];rw [show upd st 0 x 0=x from rfl,show upd st 0 x 3=st 3 from rfl];cases op x (st 3) with
   | none=>rfl
   | some n=>rfl
def Qej (w:World) (s t:ByteArray) (c:Nat):List Obj := [O #[Z (txt (10^c))] 9, O #[Z ⟨#[]⟩,Z (txt (10^c))] 42, O #[Z s,Z t] 42, O #[.slice (some ⟨w.heap.size+1+1,0,none⟩) 1 1] 29]
theorem Qcm (c:Nat) (hc:c≤30):Fits ((10:Int)^c):=by
 have h:∀ c:Fin 31,((10:Int)^c.val).natAbs<10^200:=by decide +kernel
 exact Qas (h ⟨c,by omega⟩)
theorem QnQ (s t:ByteArray) (hs:s.size≤1000000) (ht:t.size≤1000000) (c:Nat) (hc:c≤30) (k:Nat) (op:ByteArray→ByteArray→Option ByteArray) (hke:Enters Tryz.prog k) (hop:OpC k op) (hsm:∀ s t u:ByteArray,s.size≤1000000→op s t=some u→u.size≤1000000) {w w1 w3 w4:World}
  (hB0:Below ((w.alloc (O #[Z s,Z t] 42)).alloc (O #[Z ⟨#[]⟩,Z ⟨#[]⟩] 42)).heap.size ((w.alloc (O #[Z s,Z t] 42)).alloc (O #[Z ⟨#[]⟩,Z ⟨#[]⟩] 42)) w1)
  (hI1:IntoAt w3 (QaU w1 (Qej w1 s t c)).heap.size ⟨w1.heap.size+1,0,none⟩ (.func (.func 66) #[] #[]) ⟨w.heap.size,0,none⟩ ⟨w1.heap.size,0,none⟩) (hB1:Below (QaU w1 (Qej w1 s t c)).heap.size (QaU w1 (Qej w1 s t c)) w3) (hs1:(QaU w1 (Qej w1 s t c)).heap.size+4≤w3.heap.size)
  (hI2:IntoAt w4 w3.heap.size ⟨w1.heap.size+1,0,none⟩ (.func (.func k) #[] #[]) ⟨w1.heap.size+1,0,none⟩ ⟨w.heap.size,1,none⟩) (hB2:Below w3.heap.size w3 w4) (hs2:w3.heap.size+4≤w4.heap.size) :
  Calls Tryz.prog 141 #[.pointer (some ⟨w1.heap.size+1,0,none⟩),.slice (some ⟨w4.heap.size,0,none⟩) 3 3] (w4.alloc (O #[.func (.func 183) #[] #[.pointer (some ⟨w1.heap.size+1+1+1,0,none⟩)],clo (w1.heap.size+1+1+1+1),clo w3.heap.size] 155)) fun e w'=>e = .returned (bR (rndR op s t c))∧Below w.heap.size (w4.alloc (O #[.func (.func 183) #[] #[.pointer (some ⟨w1.heap.size+1+1+1,0,none⟩)],clo (w1.heap.size+1+1+1+1),clo w3.heap.size] 155)) w'∧w'.heap[w.heap.size+1]? = some (O #[Z ⟨#[]⟩,Z ⟨#[]⟩] 42 (0,0)):=by
 have hsz:(QaU w1 (Qej w1 s t c)).heap.size=w1.heap.size+4:=QcQ _ _;have hUs:(txt (10^c)).size≤1000000:=QaT (Qcm c hc);have hs01:((w.alloc (O #[Z s,Z t] 42)).alloc (O #[Z ⟨#[]⟩,Z ⟨#[]⟩] 42)).heap.size=w.heap.size+2:=by rw [World.size_alloc,World.size_alloc]
 have hw1:w.heap.size+2≤w1.heap.size:=by have:=hB0.size;rw [hs01] at this;exact this
 have r0:w1.heap[w.heap.size]? = some (O #[Z s,Z t] 42 (0,0)):=(hB0.block w.heap.size (by rw [hs01];omega)).trans (Qgn w _ _)
 have r1:w1.heap[w.heap.size+1]? = some (O #[Z ⟨#[]⟩,Z ⟨#[]⟩] 42 (0,0)):=(hB0.block (w.heap.size+1) (by rw [hs01];omega)).trans (by
  have:=World.alloc_heap_new (w.alloc (O #[Z s,Z t] 42)) (O #[Z ⟨#[]⟩,Z ⟨#[]⟩] 42)
  rwa [World.size_alloc] at this)
 have hXw:=Qcr w1 (Qej w1 s t c);have x0:=(hXw.block w.heap.size (by omega)).trans r0;have x1:=(hXw.block (w.heap.size+1) (by omega)).trans r1;have g0:=QaY w1 (Qej w1 s t c) 0 _ rfl;have g1:=QaY w1 (Qej w1 s t c) 1 _ rfl;have g2:=QaY w1 (Qej w1 s t c) 2 _ rfl;have g3:=QaY w1 (Qej w1 s t c) 3 _ rfl;have hBw:Below (QaU w1 (Qej w1 s t c)).heap.size (QaU w1 (Qej w1 s t c)) w4:=hB1.trans (hB2.mono (by omega));have k2:=(hBw.block (w1.heap.size+2) (by omega)).trans g2;have k3:=(hBw.block (w1.heap.size+3) (by omega)).trans g3;have q1:=(hBw.block (w.heap.size+1) (by omega)).trans x1;have hk:Enters Tryz.prog 66 := enters_of Tryz.func66 (by kernel_rfl) rfl
 have hR:=QnP (X:=(QaU w1 (Qej w1 s t c))) (W:=w4) (base:=w.heap.size) (rI:=w1.heap.size+1) (n0:=⟨#[]⟩) (d0:=(txt (10^c))) (es' := [(w.heap.size,0,s),(w.heap.size,1,t),(w1.heap.size,0,(txt (10^c)))])
  (ps := [((183, #[.pointer (some ⟨w1.heap.size+1+1+1,0,none⟩)]),fun st=>if qsOk [(s,t)] then some st else none),(cloF (w1.heap.size+4),fun st=>(QaZ (st 2) (st 4)).map (upd st 0)),(cloF w3.heap.size,fun st=>(op (st 0) (st 3)).map (upd st 0))])
  (by
   intro e he;simp only [List.mem_cons,List.not_mem_nil,or_false] at he;rcases he with rfl | rfl | rfl | rfl | rfl
   ·exact ⟨⟨_,_,g1,rfl,by decide⟩,by show _≤_+1;omega,by show (⟨#[]⟩:ByteArray).size≤_;decide⟩
   ·exact ⟨⟨_,_,g1,rfl,by decide⟩,by show _≤_+1;omega,hUs⟩
   ·exact ⟨⟨_,_,x0,rfl,by decide⟩,Nat.le_refl _,hs⟩
   ·exact ⟨⟨_,_,x0,rfl,by decide⟩,Nat.le_refl _,ht⟩
   ·exact ⟨⟨_,_,g0,rfl,by decide⟩,by show _≤w1.heap.size;omega,hUs⟩)
  (by simp;omega) (by omega) hBw (by simp)
  (by
   intro p hp;simp only [List.mem_cons,List.not_mem_nil,or_false] at hp;rcases hp with rfl | rfl | rfl
   ·refine .inr ⟨w1.heap.size+3,w1.heap.size+2,1, [(s,t)],rfl,k3,by simp, ?_, ?_,by omega,by omega⟩
    ·intro i hi
     match i,hi with
     | 0,_=>exact ⟨cell_of_row w4 _ 0 _ _ _ k2,cell_of_row w4 _ 1 _ _ _ k2,hs,ht⟩
    ·intro e he;simp only [List.mem_cons,List.not_mem_nil,or_false] at he;rcases he with rfl | rfl | rfl | rfl | rfl <;> constructor <;> simp <;> omega
   ·exact .inl ⟨0,2,4,_,QaZ,w1.heap.size+4,by simp,by simp,by simp,rfl,hk,QdH,Qbf,by decide,(hsz▸hI1).keep (Rim.of_below (bs:=fun _=>False) hB2) (fun _ _ _ h=>h),by omega,by omega⟩
   ·exact .inl ⟨0,0,3,k,op,w3.heap.size,by simp,by simp,by simp,rfl,hke,hop,hsm,by decide,hI2,by omega,by omega⟩)
 have hw4:=hBw.size;have:=QdI _ _ _ _ _ _ _ hR;rw [Qsp] at this;refine this.mono ?_;rintro e w' ⟨h1,h2,h3⟩;refine ⟨h1,h2,h3.heap (k:=w.heap.size+1) ((Below.heap_alloc w4 _ _ (by omega)).trans q1) ?_⟩;rintro (⟨a,ha,hk⟩ | hk)
 ·simp only [List.map_cons,List.map_nil,List.mem_cons,List.not_mem_nil,or_false,adA] at ha;rcases ha with rfl | rfl | rfl | rfl | rfl <;> simp at hk <;> omega
 ·simp [Value.ownBlock] at hk;omega
theorem QkG (W:World) (o p:Obj) (a:Addr) (h:a.block<W.heap.size):((W.alloc o).alloc p).cell? a=W.cell? a:=by
 refine World.cell?_of_block ?_;rw [Below.heap_alloc _ _ _ (by rw [World.size_alloc];omega),Below.heap_alloc _ _ _ h]
theorem Qgt (s t:ByteArray) (hs:s.size≤1000000) (ht:t.size≤1000000) (c:Nat) (hc:c≤30) (k:Nat) (op:ByteArray→ByteArray→Option ByteArray) (hke:Enters Tryz.prog k) (hop:OpC k op) (hsm:∀ s t u:ByteArray,s.size≤1000000→op s t=some u→u.size≤1000000) (w:World) :
  Calls Tryz.prog 164 #[rv s t,.int .i64 c,.func (.func k) #[] #[]] w fun e w'=>e = .returned (bR (rndR op s t c))∧Below w.heap.size w w':=by
 have hb:=fun (w1 w3 w4:World)=>QnQ s t hs ht c hc k op hke hop hsm (w:=w) (w1:=w1) (w3:=w3) (w4:=w4);have hr:=fun W=>Qfg c hc W;have hu:=QhV c hc
 have hz:(⟨(Lib.repeatL [48] c).toArray⟩:ByteArray).size≤1000:=by
  have h:∀ c:Fin 31,(⟨(Lib.repeatL [48] c.val).toArray⟩:ByteArray).size≤1000:=by decide +kernel
  exact h ⟨c,by omega⟩
 obtain ⟨n,d,e0,ho⟩:=Qcw (rndR op s t c);rw [ho] at hb ⊢;clear ho hop hsm hke;generalize (⟨(Lib.repeatL [48] c).toArray⟩:ByteArray)=z at *
 unfold clo at hb;unfold rv;go_enter Tryz.func164, Tryz.ntmps164;go_wp2_with (first | (go_at_call 159; refine (hr _).mono ?_;rintro e w1 ⟨rfl,hB0⟩;have f0:=hB0.size;simp only [World.size_alloc] at f0;have f1:w.heap.size<w1.heap.size:=(by omega);have f2:w.heap.size<w1.heap.size+1:=(by omega);have f3:w.heap.size≠w1.heap.size:=(by omega);have f4:w.heap.size≠w1.heap.size+1:=(by omega);obtain ⟨a0,a1,a2,a3⟩:=Qab ((hB0.block w.heap.size (by simp;omega)).trans (Qgn w _ _));have b0:=(QkG w1 (O #[Z (txt (10^c))] 9) (O #[Z ⟨#[]⟩,Z (txt (10^c))] 42) ⟨w.heap.size,0,none⟩ f1).trans a0;have b1:=(QkG w1 (O #[Z (txt (10^c))] 9) (O #[Z ⟨#[]⟩,Z (txt (10^c))] 42) ⟨w.heap.size,1,none⟩ f1).trans a1) | (go_at_call 142; refine (QeL _ 1 _ 1 _ rfl).mono ?_;rintro e w2 ⟨rfl,rfl⟩) | (go_at_call 143; (have q:=hI1;clear q);refine (QbE _ _ _ _ _).mono ?_;rintro e w4 ⟨rfl,hI2,hB2,hs2⟩) | (go_at_call 143; refine (QbE _ _ _ _ _).mono ?_;rintro e w3 ⟨rfl,hI1,hB1,hs1⟩) | (go_at_call 141; refine (hb w1 w3 w4 hB0 hI1 hB1 hs1 hI2 hB2 hs2).mono ?_;rintro e w5 ⟨rfl,hB4,hq⟩;obtain ⟨c0,c1,z0,z1⟩:=Qab hq));have k0:=QaM w5 (w.heap.size+1) (Z n) (Z d) _ _ c0 c1;have s1:=hB0.size;have s2:=hB1.size;have s3:=hB2.size;simp only [World.size_alloc] at s1;have hX:=Qcr w1 (Qej w1 s t c);have h0:Below w.heap.size w w1:=(((Below.refl w.heap.size w).alloc Lr _).alloc (by simp) _).trans (hB0.mono (by simp;omega));have t1:=hX.size;have t2:(QaU w1 (Qej w1 s t c)).heap.size≤w3.heap.size:=s2;have hB5:Below w.heap.size w w5:=((((h0.trans (hX.mono (by omega))).trans (hB1.mono (by show _≤(QaU w1 (Qej w1 s t c)).heap.size;omega))).trans (hB2.mono (by omega))).alloc (by omega) _).trans hB4;refine bodyPost_ret (v:=.tuple #[.agg #[Z n,Z d],.int .i64 e0]) (by simp [results,Tryz.results164, go_sem,k0.1,k0.2]) rfl ⟨rfl,(hB5.setCell (by simp) _).setCell (by simp) _⟩
theorem Qgu (s t:ByteArray) (c:Int) (hc:c<0∨30<c) (f:Value) (w:World) :
  Calls Tryz.prog 164 #[rv s t,.int .i64 c,f] w fun e w'=>e = .returned (bR none)∧Below w.heap.size w w':=by
 unfold rv bR;unfold rv;rcases hc with hc | hc
 ·go_enter Tryz.func164, Tryz.ntmps164;go_wp2;refine bodyPost_ret (v:=.tuple #[.agg #[Z ⟨#[]⟩,Z ⟨#[]⟩],.int .i64 40]) (by simp [results,Tryz.results164, go_sem]) rfl ⟨rfl,((Below.refl w.heap.size w).alloc Lr _).alloc (by simp) _⟩
 ·have hc0:¬ c<0:=by omega
  go_enter Tryz.func164, Tryz.ntmps164;go_wp2;refine bodyPost_ret (v:=.tuple #[.agg #[Z ⟨#[]⟩,Z ⟨#[]⟩],.int .i64 40]) (by simp [results,Tryz.results164, go_sem]) rfl ⟨rfl,((Below.refl w.heap.size w).alloc Lr _).alloc (by simp) _⟩
theorem QaP (w:World) (a r:Obj):((w.alloc a).alloc r).heap[w.heap.size+1]? = some r:=by
 have:=World.alloc_heap_new (w.alloc a) r
 rwa [World.size_alloc] at this
theorem QiM (w:World) (a b r:Obj):(((w.alloc a).alloc b).alloc r).heap[w.heap.size+1+1]? = some r:=by
 have:=World.alloc_heap_new ((w.alloc a).alloc b) r
 rwa [World.size_alloc,World.size_alloc] at this
theorem Qsq (s t u v:ByteArray) (hs:s.size≤1000000) (ht:t.size≤1000000) (hu:u.size≤1000000) (hv:v.size≤1000000) (w:World) :
  Calls Tryz.prog 77 #[rv s t,rv u v] w fun e w'=>e = .returned (bR (sumR Qfd s t u v))∧Below w.heap.size w w':=by
 have hC:=fun W=>QnO s t u v hs ht hu hv 131 Qfd (enters_of Tryz.func131 (by kernel_rfl) rfl) QnF Qbf W;obtain ⟨n,d,e0,ho⟩:=Qcw (sumR Qfd s t u v);rw [ho] at hC ⊢;clear ho;unfold rv at hC ⊢;go_enter Tryz.func77, Tryz.ntmps77;go_wp2_with (go_at_call 130; refine (hC _).mono ?_;rintro e w5 ⟨rfl,hB4⟩;obtain ⟨c0,c1,z0,z1⟩:=Qab ((hB4.block (w.heap.size+1+1) (by simp)).trans (QiM w _ _ _)));have k0:=QaM w5 (w.heap.size+1+1) (Z n) (Z d) _ _ c0 c1;have hB5:Below w.heap.size w w5:=((((Below.refl w.heap.size w).alloc Lr _).alloc (by simp) _).alloc (by simp;omega) _).trans (hB4.mono (by simp;omega));refine bodyPost_ret (v:=.tuple #[.agg #[Z n,Z d],.int .i64 e0]) (by simp [results,Tryz.results77, go_sem,k0.1,k0.2]) rfl ⟨rfl,(hB5.setCell (by simp;omega) _).setCell (by simp;omega) _⟩
noncomputable def Qmc (s t:ByteArray) (c:Int):Option (ByteArray×ByteArray):=if 0≤c∧c≤30 then rndR QbV s t c.toNat else none
theorem QpS (s t:ByteArray) (hs:s.size≤1000000) (ht:t.size≤1000000) (c:Int) (w:World) :
  Calls Tryz.prog 125 #[rv s t,.int .i64 c] w fun e w'=>e = .returned (bR (Qmc s t c))∧Below w.heap.size w w':=by
 have hC:∀ W:World,Calls Tryz.prog 164 #[rv s t,.int .i64 c,.func (.func 165) #[] #[]] W fun e w'=>e = .returned (bR (Qmc s t c))∧Below W.heap.size W w':=fun W=>by
  unfold Qmc;by_cases hc:0≤c∧c≤30
  ·rw [if_pos hc];have:=Qgt s t hs ht c.toNat (by omega) 165 QbV (enters_of Tryz.func165 (by kernel_rfl) rfl) Qgl Qbf W
   rwa [Int.toNat_of_nonneg hc.1] at this
  ·rw [if_neg hc];exact Qgu s t c (by omega) _ W
 obtain ⟨n,d,e0,ho⟩:=Qcw (Qmc s t c);rw [ho] at hC ⊢;clear ho;unfold rv at hC ⊢;go_enter Tryz.func125, Tryz.ntmps125;go_wp2_with (go_at_call 164; refine (hC _).mono ?_;rintro e w5 ⟨rfl,hB4⟩;obtain ⟨c0,c1,z0,z1⟩:=Qab ((hB4.block (w.heap.size+1) (by simp)).trans (QaP w _ _)));have k0:=QaM w5 (w.heap.size+1) (Z n) (Z d) _ _ c0 c1;have hB5:Below w.heap.size w w5:=(((Below.refl w.heap.size w).alloc Lr _).alloc (by simp) _).trans (hB4.mono (by simp;omega));refine bodyPost_ret (v:=.tuple #[.agg #[Z n,Z d],.int .i64 e0]) (by simp [results,Tryz.results125, go_sem,k0.1,k0.2]) rfl ⟨rfl,(hB5.setCell (by simp) _).setCell (by simp) _⟩
noncomputable def upR (s t:ByteArray) (c:Int):Option (ByteArray×ByteArray):=if 0≤c∧c≤30 then rndR QeJ s t c.toNat else none
theorem Quf (s t:ByteArray) (hs:s.size≤1000000) (ht:t.size≤1000000) (c:Int) (w:World) :
  Calls Tryz.prog 126 #[rv s t,.int .i64 c] w fun e w'=>e = .returned (bR (upR s t c))∧Below w.heap.size w w':=by
 have hC:∀ W:World,Calls Tryz.prog 164 #[rv s t,.int .i64 c,.func (.func 166) #[] #[]] W fun e w'=>e = .returned (bR (upR s t c))∧Below W.heap.size W w':=fun W=>by
  unfold upR;by_cases hc:0≤c∧c≤30
  ·rw [if_pos hc];have:=Qgt s t hs ht c.toNat (by omega) 166 QeJ (enters_of Tryz.func166 (by kernel_rfl) rfl) QjK Qbf W
   rwa [Int.toNat_of_nonneg hc.1] at this
  ·rw [if_neg hc];exact Qgu s t c (by omega) _ W
 obtain ⟨n,d,e0,ho⟩:=Qcw (upR s t c);rw [ho] at hC ⊢;clear ho;unfold rv at hC ⊢;go_enter Tryz.func126, Tryz.ntmps126;go_wp2_with (go_at_call 164; refine (hC _).mono ?_;rintro e w5 ⟨rfl,hB4⟩;obtain ⟨c0,c1,z0,z1⟩:=Qab ((hB4.block (w.heap.size+1) (by simp)).trans (QaP w _ _)));have k0:=QaM w5 (w.heap.size+1) (Z n) (Z d) _ _ c0 c1;have hB5:Below w.heap.size w w5:=(((Below.refl w.heap.size w).alloc Lr _).alloc (by simp) _).trans (hB4.mono (by simp;omega));refine bodyPost_ret (v:=.tuple #[.agg #[Z n,Z d],.int .i64 e0]) (by simp [results,Tryz.results126, go_sem,k0.1,k0.2]) rfl ⟨rfl,(hB5.setCell (by simp) _).setCell (by simp) _⟩
theorem Qsr (s t u v:ByteArray) (hs:s.size≤1000000) (ht:t.size≤1000000) (hu:u.size≤1000000) (hv:v.size≤1000000) (w:World) :
  Calls Tryz.prog 100 #[rv s t,rv u v] w fun e w'=>e = .returned (bR (sumR QeI s t u v))∧Below w.heap.size w w':=by
 have hC:=fun W=>QnO s t u v hs ht hu hv 145 QeI (enters_of Tryz.func145 (by kernel_rfl) rfl) QnG Qbf W;obtain ⟨n,d,e0,ho⟩:=Qcw (sumR QeI s t u v);rw [ho] at hC ⊢;clear ho;unfold rv at hC ⊢;go_enter Tryz.func100, Tryz.ntmps100;go_wp2_with (go_at_call 130; refine (hC _).mono ?_;rintro e w5 ⟨rfl,hB4⟩;obtain ⟨c0,c1,z0,z1⟩:=Qab ((hB4.block (w.heap.size+1+1) (by simp)).trans (QiM w _ _ _)));have k0:=QaM w5 (w.heap.size+1+1) (Z n) (Z d) _ _ c0 c1;have hB5:Below w.heap.size w w5:=((((Below.refl w.heap.size w).alloc Lr _).alloc (by simp) _).alloc (by simp;omega) _).trans (hB4.mono (by simp;omega));refine bodyPost_ret (v:=.tuple #[.agg #[Z n,Z d],.int .i64 e0]) (by simp [results,Tryz.results100, go_sem,k0.1,k0.2]) rfl ⟨rfl,(hB5.setCell (by simp;omega) _).setCell (by simp;omega) _⟩
def txtQ (q:Rat):ByteArray×ByteArray:=(txt q.num,txt (q.den:Int))
theorem QfJ {p q:Rat} (h:txtQ p=txtQ q):p=q:=by
 injection h with h1 h2;have e1:=Qcv h1;have e2:=Qcv h2;exact Rat.ext e1 (by omega)
theorem FitQ.size {q:Rat} (h:FitQ q):(txt q.num).size≤1000000∧(txt (q.den:Int)).size≤1000000:=⟨QaT h.1,QaT h.2⟩
theorem QdJ (q:Rat):(q.den:Int)≠0:=by have:=q.den_pos;omega
theorem QeM {p q:Rat} (hp:FitQ p) (hq:FitQ q):qsOk [(txt p.num,txt (p.den:Int)),(txt q.num,txt (q.den:Int))]=true:=by
 simp [qsOk,QdG hp,QdG hq]
theorem QkH {p:Rat} (hp:FitQ p):qsOk [(txt p.num,txt (p.den:Int))]=true:=by simp [qsOk,QdG hp]
theorem Qfz {x y:Int} (hx:Fits x) (hy:Fits y) (h0:y≠0):redR (txt x) (txt y)=some (txtQ (Rat.divInt x y)):=Qua hx hy h0
theorem Qrh {x y:Int} (hy:Fits y) (h0:y=0):redR (txt x) (txt y)=none:=by
 subst h0;exact QpM (QbC hy)
theorem Qbn {x y:Int} (hx:Fits x) (hy:Fits y):QaZ (txt x) (txt y)=fitO (x*y):=by rw [QaZ,QbD hx hy];rfl
theorem QnR {x y:Int} (hx:Fits x) (hy:Fits y):Qfd (txt x) (txt y)=fitO (x+y):=by rw [Qfd,QbD hx hy];rfl
theorem QnS {x y:Int} (hx:Fits x) (hy:Fits y):QeI (txt x) (txt y)=fitO (x-y):=by rw [QeI,QbD hx hy];rfl
open Classical in
noncomputable def mulQ (p q:Rat):Option Rat:=if Fits (p.num*q.num)∧Fits ((p.den:Int)*q.den) then some (p*q) else none
open Classical in
noncomputable def divQ (p q:Rat):Option Rat:=if Fits (p.num*q.den)∧Fits ((p.den:Int)*q.num)∧q≠0 then some (p / q) else none
open Classical in
noncomputable def addQ (p q:Rat):Option Rat:=if Fits (p.num*q.den)∧Fits (q.num*p.den)∧Fits (p.num*q.den+q.num*p.den)∧Fits ((p.den:Int)*q.den) then some (p+q) else none
open Classical in
noncomputable def subQ (p q:Rat):Option Rat:=if Fits (p.num*q.den)∧Fits (q.num*p.den)∧Fits (p.num*q.den-q.num*p.den)∧Fits ((p.den:Int)*q.den) then some (p-q) else none
theorem QcV (p q:Rat):((p.den:Int)*q.den)≠0:=Int.mul_ne_zero (QdJ p) (QdJ q)
theorem QnT (p q:Rat):Rat.divInt (p.num*q.num) ((p.den:Int)*q.den)=p*q:=by
 rw [←Rat.divInt_mul_divInt,Rat.num_divInt_den,Rat.num_divInt_den]
theorem QjN (p q:Rat):Rat.divInt (p.num*q.den+q.num*p.den) ((p.den:Int)*q.den)=p+q:=by
 rw [←Rat.divInt_add_divInt _ _ (QdJ p) (QdJ q),Rat.num_divInt_den,Rat.num_divInt_den]
theorem QjO (p q:Rat):Rat.divInt (p.num*q.den-q.num*p.den) ((p.den:Int)*q.den)=p-q:=by
 rw [←Rat.divInt_sub_divInt _ _ (QdJ p) (QdJ q),Rat.num_divInt_den,Rat.num_divInt_den]
theorem QnU (p q:Rat):Rat.divInt (p.num*q.den) ((p.den:Int)*q.num)=p / q:=by
 rw [←Rat.divInt_mul_divInt,Rat.num_divInt_den,←Rat.inv_divInt,Rat.num_divInt_den];rfl
theorem Qug {p q:Rat} (hp:FitQ p) (hq:FitQ q):mulR (txt p.num) (txt (p.den:Int)) (txt q.num) (txt (q.den:Int))=(mulQ p q).map txtQ:=by
 rw [mulR,QeM hp hq,if_pos rfl,Qbn hp.1 hq.1,Qbn hp.2 hq.2,mulQ];by_cases h1:Fits (p.num*q.num)
 ·by_cases h2:Fits ((p.den:Int)*q.den)
  ·rw [if_pos ⟨h1,h2⟩,Qay h1,Qay h2,Option.bind_some,Option.bind_some,Qfz h1 h2 (QcV p q),QnT];rfl
  ·rw [if_neg (fun h=>h2 h.2),Qay h1,Qbj h2];rfl
 ·rw [if_neg (fun h=>h1 h.1),Qbj h1];rfl
theorem Quh {p q:Rat} (hp:FitQ p) (hq:FitQ q):divR (txt p.num) (txt (p.den:Int)) (txt q.num) (txt (q.den:Int))=(divQ p q).map txtQ:=by
 rw [divR,QeM hp hq,if_pos rfl,Qbn hp.1 hq.2,Qbn hp.2 hq.1,divQ];by_cases h1:Fits (p.num*q.den)
 ·by_cases h2:Fits ((p.den:Int)*q.num)
  ·rw [Qay h1,Qay h2,Option.bind_some,Option.bind_some];by_cases h3:q=0
   ·rw [if_neg (fun h=>h.2.2 h3),Qrh h2 (by rw [h3];simp)];rfl
   ·rw [if_pos ⟨h1,h2,h3⟩,Qfz h1 h2 (Int.mul_ne_zero (QdJ p) (fun h=>h3 (Rat.num_eq_zero.1 h))),QnU];rfl
  ·rw [if_neg (fun h=>h2 h.2.1),Qay h1,Qbj h2];rfl
 ·rw [if_neg (fun h=>h1 h.1),Qbj h1];rfl
theorem Qri {p q:Rat} (hp:FitQ p) (hq:FitQ q):sumR Qfd (txt p.num) (txt (p.den:Int)) (txt q.num) (txt (q.den:Int))=(addQ p q).map txtQ:=by
 rw [sumR,QeM hp hq,if_pos rfl,Qbn hp.1 hq.2,Qbn hq.1 hp.2,Qbn hp.2 hq.2,addQ];by_cases h1:Fits (p.num*q.den)
 ·by_cases h2:Fits (q.num*p.den)
  ·rw [Qay h1,Qay h2,Option.bind_some,Option.bind_some,QnR h1 h2];by_cases h3:Fits (p.num*q.den+q.num*p.den)
   ·rw [Qay h3,Option.bind_some];by_cases h4:Fits ((p.den:Int)*q.den)
    ·rw [if_pos ⟨h1,h2,h3,h4⟩,Qay h4,Option.bind_some,Qfz h3 h4 (QcV p q),QjN];rfl
    ·rw [if_neg (fun h=>h4 h.2.2.2),Qbj h4];rfl
   ·rw [if_neg (fun h=>h3 h.2.2.1),Qbj h3];rfl
  ·rw [if_neg (fun h=>h2 h.2.1),Qay h1,Qbj h2];rfl
 ·rw [if_neg (fun h=>h1 h.1),Qbj h1];rfl
theorem Qrj {p q:Rat} (hp:FitQ p) (hq:FitQ q):sumR QeI (txt p.num) (txt (p.den:Int)) (txt q.num) (txt (q.den:Int))=(subQ p q).map txtQ:=by
 rw [sumR,QeM hp hq,if_pos rfl,Qbn hp.1 hq.2,Qbn hq.1 hp.2,Qbn hp.2 hq.2,subQ];by_cases h1:Fits (p.num*q.den)
 ·by_cases h2:Fits (q.num*p.den)
  ·rw [Qay h1,Qay h2,Option.bind_some,Option.bind_some,QnS h1 h2];by_cases h3:Fits (p.num*q.den-q.num*p.den)
   ·rw [Qay h3,Option.bind_some];by_cases h4:Fits ((p.den:Int)*q.den)
    ·rw [if_pos ⟨h1,h2,h3,h4⟩,Qay h4,Option.bind_some,Qfz h3 h4 (QcV p q),QjO];rfl
    ·rw [if_neg (fun h=>h4 h.2.2.2),Qbj h4];rfl
   ·rw [if_neg (fun h=>h3 h.2.2.1),Qbj h3];rfl
  ·rw [if_neg (fun h=>h2 h.2.1),Qay h1,Qbj h2];rfl
 ·rw [if_neg (fun h=>h1 h.1),Qbj h1];rfl
open Classical in
noncomputable def QjP (p:Rat) (c:Nat):Option Rat:=if Fits (p.num*10^c) then some (Rat.divInt (p.num*10^c / p.den) (10^c)) else none
theorem Qrk (c:Nat):((10:Int)^c)≠0:=Int.pow_ne_zero (by decide)
theorem Qss {p:Rat} (hp:FitQ p) (c:Nat) (hc:c≤30):Qmc (txt p.num) (txt (p.den:Int)) c=(QjP p c).map txtQ:=by
 rw [Qmc,if_pos ⟨by omega,by omega⟩,Int.toNat_natCast,rndR,QkH hp,if_pos rfl,Qbn hp.1 (Qcm c hc),QjP];by_cases h1:Fits (p.num*10^c)
 ·rw [if_pos h1,Qay h1,Option.bind_some,QbV,QbD h1 hp.2,if_neg (QdJ p),Option.bind_some,Qay (QaX h1),Option.bind_some,Qfz (QaX h1) (Qcm c hc) (Qrk c)];rfl
 ·rw [if_neg h1,Qbj h1];rfl
def upI (x y:Int):Int:=if x % y=0 then x / y else x / y+1
open Classical in
noncomputable def upQ (p:Rat) (c:Nat):Option Rat:=if Fits (p.num*10^c)∧Fits (upI (p.num*10^c) p.den) then some (Rat.divInt (upI (p.num*10^c) p.den) (10^c)) else none
theorem QvL {p:Rat} (hp:FitQ p) (c:Nat) (hc:c≤30):upR (txt p.num) (txt (p.den:Int)) c=(upQ p c).map txtQ:=by
 rw [upR,if_pos ⟨by omega,by omega⟩,Int.toNat_natCast,rndR,QkH hp,if_pos rfl,Qbn hp.1 (Qcm c hc),upQ];by_cases h1:Fits (p.num*10^c)
 ·rw [Qay h1,Option.bind_some,QeJ,QbD h1 hp.2,if_neg (QdJ p),Option.bind_some];show ((fitO (upI (p.num*10^c) p.den)).bind _)=_;by_cases h2:Fits (upI (p.num*10^c) p.den)
  ·rw [if_pos ⟨h1,h2⟩,Qay h2,Option.bind_some,Qfz h2 (Qcm c hc) (Qrk c)];rfl
  ·rw [if_neg (fun h=>h2 h.2),Qbj h2];rfl
 ·rw [if_neg (fun h=>h1 h.1),Qbj h1];rfl
theorem QnV {s t u v:ByteArray} (h:qOf s t=none∨qOf u v=none):qsOk [(s,t),(u,v)]=false:=by
 rcases h with h | h <;> simp [qsOk,h]
theorem FitQ.mulQ {p q r:Rat} (h:mulQ p q=some r):FitQ r:=by
 rw [Rt.mulQ] at h;split at h
 ·rename_i hc;injection h with h;rw [←h,←QnT];exact FitQ.div hc.1 hc.2 (QcV p q)
 ·cases h
theorem FitQ.divQ {p q r:Rat} (h:divQ p q=some r):FitQ r:=by
 rw [Rt.divQ] at h;split at h
 ·rename_i hc;injection h with h;rw [←h,←QnU];exact FitQ.div hc.1 hc.2.1 (Int.mul_ne_zero (QdJ p) (fun h=>hc.2.2 (Rat.num_eq_zero.1 h)))
 ·cases h
theorem FitQ.addQ {p q r:Rat} (h:addQ p q=some r):FitQ r:=by
 rw [Rt.addQ] at h;split at h
 ·rename_i hc;injection h with h;rw [←h,←QjN];exact FitQ.div hc.2.2.1 hc.2.2.2 (QcV p q)
 ·cases h
theorem FitQ.subQ {p q r:Rat} (h:subQ p q=some r):FitQ r:=by
 rw [Rt.subQ] at h;split at h
 ·rename_i hc;injection h with h;rw [←h,←QjO];exact FitQ.div hc.2.2.1 hc.2.2.2 (QcV p q)
 ·cases h
structure AB (b:Nat) (W:World) (s t u v:ByteArray):Prop where
 a:W.heap[b]? = some (O #[Z s,Z t] 42 (0,0))
 b:W.heap[b+1]? = some (O #[Z u,Z v] 42 (0,0))
theorem AB.new (w:World) (s t u v:ByteArray):AB w.heap.size ((w.alloc (O #[Z s,Z t] 42)).alloc (O #[Z u,Z v] 42)) s t u v :=
 ⟨Qgn w _ _,QaP w _ _⟩
theorem AB.keep {b:Nat} {W W':World} {s t u v:ByteArray} (h:AB b W s t u v) (hB:Below W.heap.size W W'):AB b W' s t u v :=
 ⟨(hB.block _ (lt_of_block h.a)).trans h.a,(hB.block _ (lt_of_block h.b)).trans h.b⟩
theorem AB.cells {b:Nat} {W:World} {s t u v:ByteArray} (h:AB b W s t u v):W.cell? ⟨b,0,none⟩=some (Z s)∧W.cell? ⟨b,1,none⟩=some (Z t)∧W.cell? ⟨b+1,0,none⟩=some (Z u)∧W.cell? ⟨b+1,1,none⟩=some (Z v) :=
 ⟨cell_of_row W _ 0 _ _ _ h.a,cell_of_row W _ 1 _ _ _ h.a,cell_of_row W _ 0 _ _ _ h.b,cell_of_row W _ 1 _ _ _ h.b⟩
theorem QiN (s t:ByteArray) (w:World):Calls Tryz.prog 27 #[rv s t,rv s t] w fun e w'=>e = .returned (.int .i64 0)∧Below w.heap.size w w':=by
 unfold rv;go_enter Tryz.func27, Tryz.ntmps27;go_wp2;go_step3;go_wp2;rw [Exit.noGoto_ret];go_ret;exact ⟨rfl,((Below.refl w.heap.size w).alloc Lr _).alloc (by simp) _⟩
def rq (q:Rat):Value:=rv (txt q.num) (txt (q.den:Int))
theorem QnW {q:Rat} (h:FitQ q) (W:World):Calls Tryz.prog 65 #[rq q] W fun e W'=>e = .returned (.bool true)∧Below W.heap.size W W':=by
 have:=Qgm (txt q.num) (txt (q.den:Int)) h.size.1 h.size.2 W;rw [QdG h] at this;exact this
def cmpQ (p q:Rat):Int:=cmpZ (p.num*q.den) (q.num*p.den)
theorem Qgv (p:Rat):cmpQ p p=0:=by rw [cmpQ,cmpZ,if_neg (by omega),if_pos rfl]
end Rt
end
end Go.Proofs.YtihlgifojjeoaaaGreatDoor
