import Derived.Test.YtadcmepaniiciaaGreatDoorZm
set_option maxRecDepth 1000000
set_option maxHeartbeats 40000000
open Go.Value renaming string→J
open Go.Obj renaming cells→Jc
namespace Go.Proofs.YtadcmepaniiciaaGreatDoor
section
namespace Tw
open SR Go.Proofs.YtadcmepaniiciaaGreatDoor.Nm Go.Proofs.YtadcmepaniiciaaGreatDoor.Rt
theorem Lat.int {B:Nat} (n:Int) (h:n.natAbs≤B):Lat 1 B (Rat.divInt n 1):=⟨by decide,n,rfl,h⟩
theorem Lat.fit {L B:Nat} {q:Rat} (h:Lat L B q) (hB:B<10^200) (hL:L<10^200):FitQ q:=h.bq.fit hB hL
theorem AllL.fit {L B:Nat} {l:List Rat} (h:AllL L B l) (hb:(decide (B<10^200) && decide (L<10^200))=true):FitL l:=fun q hq=>by
 rw [Bool.and_eq_true] at hb;exact (h q hq).fit (of_decide_eq_true hb.1) (of_decide_eq_true hb.2)
theorem AllL.cons {L B:Nat} {q:Rat} {l:List Rat} (h:Lat L B q) (hl:AllL L B l):AllL L B (q :: l):=fun p hp=>by
 rcases List.mem_cons.1 hp with rfl | hp
 ·exact h
 ·exact hl p hp
theorem Qhb {n:Int} (h:0<n):(0:Rat)<Rat.divInt n 1:=by
 have:=En.QhE (n:=0) (m:=n) (d:=1) (c:=1) (by decide) (by decide) (by omega)
 rwa [Rat.zero_divInt] at this
theorem QtB {q:Rat} (h:0<q):cmpQ q 0=1:=by rw [Qlc];exact Qdu h
theorem QhF {T:Type} {rs:List (List Rat)} {x:List Rat} {o:Option T} (h:x.length=2^rs.length):chk rs x o=o:=by rw [chk,if_pos h]
theorem Qcd {T:Type} {rs:List (List Rat)} {x y:List Rat} {o:Option T} (h:x.length=2^rs.length) (h':y.length=2^rs.length):chk2 rs x y o=o:=by rw [chk2,if_pos ⟨h,h'⟩]
end Tw
end
section
namespace Tw
open Go.RowKit Go.Extern.Stop Go.Stop Go.Extern
open En Go.Proofs.YtadcmepaniiciaaGreatDoor.Nm Go.Proofs.YtadcmepaniiciaaGreatDoor.Rt
def pqo (l:List (Option Rat)) (i:Nat):P2:=(sn (l.getD i none),sd (l.getD i none))
structure Eo (W:World) (v:Value) (l:List (Option Rat)):Prop where
 ex:∃ b o cap,v = .slice (some ⟨b,o,none⟩) l.length cap∧l.length≤cap∧Cl W b o l.length (pqo l)
 fit:∀ q∈l,FitO q
theorem Cl.congr {W:World} {b o n:Nat} {p q:Nat→P2} (h:Cl W b o n p) (e:∀ i,i<n→p i=q i):Cl W b o n q:=⟨fun i hi=>by rw [←e i hi];exact h.at_ i hi⟩
theorem Qlr (l:List Rat) (i:Nat) (h:i<l.length):pqo (l.map some) i=pqs l i:=by
 rw [pqo,pqs,List.getD_eq_getElem?_getD,List.getD_eq_getElem?_getD,List.getElem?_map,List.getElem?_eq_getElem h];rfl
theorem El.eo {W:World} {v:Value} {l:List Rat} (h:El W v l) (hf:FitL l):Eo W v (l.map some):=by
 obtain ⟨b,o,cap,rfl,h1,h2⟩:=h.ex;refine ⟨⟨b,o,cap,by rw [List.length_map],by rw [List.length_map];exact h1, ?_⟩,fun q hq => ?_⟩
 ·rw [List.length_map];exact h2.congr fun i hi=>(Qlr l i hi).symm
 ·obtain ⟨x,hx,rfl⟩:=List.mem_map.1 hq;exact .some (hf x hx)
theorem Eo.fitL {W:World} {v:Value} {l:List Rat} (h:Eo W v (l.map some)):FitL l:=fun q hq=>(h.fit (some q) (List.mem_map.2 ⟨q,hq,rfl⟩)).fit q rfl
theorem Eo.keep {W W':World} {v:Value} {l:List (Option Rat)} (h:Eo W v l) (hB:Below W.heap.size W W'):Eo W' v l:=by
 obtain ⟨b,o,cap,e,h1,h2⟩:=h.ex;exact ⟨⟨b,o,cap,e,h1,h2.keep hB⟩,h.fit⟩
theorem Eo.at_ {W:World} {v:Value} {l:List (Option Rat)} (h:Eo W v l) (i:Nat):FitO (l.getD i none):=by
 rw [List.getD_eq_getElem?_getD];rcases hi:l[i]? with _ | q
 ·exact ⟨fun p hp=>by cases hp⟩
 ·exact h.fit q (List.mem_of_getElem? hi)
def FC (W:World) (fb:Nat):Prop:=∃ p n cap b,W.heap[fb]? = some (Jc #[.slice p n cap,.bool b] 150 (0,0))
theorem FC.ne {W:World} {fb bk k:Nat} {s:ByteArray} (h:FC W fb) (hk:W.cell? ⟨bk,k,none⟩=some (J s)):fb≠bk:=by
 obtain ⟨p,n,cap,b,hf⟩:=h;rintro rfl;have:W.cell? ⟨fb,k,none⟩=(#[.slice p n cap,.bool b]:Array Value)[k]? := by simp [World.cell?,hf]
 rw [this] at hk
 match k,hk with
 | 0,hk=>simp at hk
 | 1,hk=>simp at hk
 | k+2,hk=>simp at hk
theorem Cl.fgrown {W W':World} {b o n:Nat} {p:Nat→P2} (h:Cl W b o n p) {fb:Nat} (hf:FC W fb) (hg:W.grownBy W' (some fb)):Cl W' b o n p :=
 ⟨fun i hi=>⟨Qba hg (h.at_ i hi).1 (fun e=>hf.ne (h.at_ i hi).1 (by injection e)),Qba hg (h.at_ i hi).2 (fun e=>hf.ne (h.at_ i hi).1 (by injection e))⟩⟩
theorem Eo.grown {W W':World} {v:Value} {l:List (Option Rat)} (h:Eo W v l) {fb:Nat} (hf:FC W fb) (hg:W.grownBy W' (some fb)):Eo W' v l:=by
 obtain ⟨b,o,cap,e,h1,h2⟩:=h.ex;exact ⟨⟨b,o,cap,e,h1,h2.fgrown hf hg⟩,h.fit⟩
theorem El.grown {W W':World} {v:Value} {l:List Rat} (h:El W v l) {fb:Nat} (hf:FC W fb) (hg:W.grownBy W' (some fb)):El W' v l:=by
 obtain ⟨b,o,cap,e,h1,h2⟩:=h.ex;exact ⟨b,o,cap,e,h1,h2.fgrown hf hg⟩
structure Rl (W:World) (p:Option Addr) (rs:List (List Rat)):Prop where
 ex:rs ≠ []→∃ bt o,p=some ⟨bt,o,none⟩∧∀ i d,rs.reverse[i]? = some d→∃ vi,W.cell? ⟨bt,o+i,none⟩=some vi∧El W vi d
theorem Rl.keep {W W':World} {p:Option Addr} {rs:List (List Rat)} (h:Rl W p rs) (hB:Below W.heap.size W W'):Rl W' p rs:=⟨fun hn=>by
 obtain ⟨bt,o,e,h⟩:=h.ex hn
 exact ⟨bt,o,e,fun i d hd=>by
  obtain ⟨vi,k1,k2⟩:=h i d hd;exact ⟨vi,Qae k1 hB,k2.keep hB⟩⟩⟩
theorem Rl.lower {W:World} {p:Option Addr} {d:List Rat} {rs:List (List Rat)} (h:Rl W p (d :: rs)):Rl W p rs:=⟨fun _=>by
 obtain ⟨bt,o,e,h⟩:=h.ex (by simp);refine ⟨bt,o,e,fun i d' hd=>h i d' ?_⟩;rw [List.reverse_cons,List.getElem?_append_left (by rcases Nat.lt_or_ge i rs.reverse.length with k | k;exact k;rw [List.getElem?_eq_none k] at hd;cases hd)];exact hd⟩
theorem Rl.last {W:World} {p:Option Addr} {d:List Rat} {rs:List (List Rat)} (h:Rl W p (d :: rs)):∃ bt o vi,p=some ⟨bt,o,none⟩∧W.cell? ⟨bt,o+rs.length,none⟩=some vi∧El W vi d:=by
 obtain ⟨bt,o,e,h⟩:=h.ex (by simp);obtain ⟨vi,h1,h2⟩:=h rs.length d (by rw [List.reverse_cons,List.getElem?_append_right (by simp)];simp);exact ⟨bt,o,vi,e,h1,h2⟩
theorem Rl.grown {W W':World} {p:Option Addr} {rs:List (List Rat)} (h:Rl W p rs) {fb:Nat} (hf:FC W fb) (hp:∀ a,p=some a→a.block≠fb) (hg:W.grownBy W' (some fb)):Rl W' p rs:=⟨fun hn=>by
 obtain ⟨bt,o,e,h⟩:=h.ex hn;refine ⟨bt,o,e,fun i d hd => ?_⟩;obtain ⟨vi,k1,k2⟩:=h i d hd;exact ⟨vi,Qba hg k1 (fun e2=>hp _ e (by injection e2 with e2;exact e2.symm)),k2.grown hf hg⟩⟩
structure FB (W:World) (fb:Nat) (p:Option Addr) (rs:List (List Rat)) (fl:Bool):Prop where
 box:∃ cap,W.heap[fb]? = some (Jc #[.slice p rs.length cap,.bool fl] 150 (0,0))∧rs.length≤cap
 low:∀ a,p=some a→a.block<fb
 rl:Rl W p rs
 rad:Qdz rs
 fits:∀ d∈rs,FitL d
theorem FB.fc {W:World} {fb:Nat} {p:Option Addr} {rs:List (List Rat)} {fl:Bool} (h:FB W fb p rs fl):FC W fb:=by
 obtain ⟨cap,h1,_⟩:=h.box;exact ⟨_,_,_,_,h1⟩
theorem FB.keep {W W':World} {fb:Nat} {p:Option Addr} {rs:List (List Rat)} {fl:Bool} (h:FB W fb p rs fl) (hB:Below W.heap.size W W'):FB W' fb p rs fl:=by
 obtain ⟨cap,h1,h2⟩:=h.box;exact ⟨⟨cap,En.Qac h1 hB,h2⟩,h.low,h.rl.keep hB,h.rad,h.fits⟩
theorem FB.grown {W W':World} {fb gb:Nat} {p:Option Addr} {rs:List (List Rat)} {fl:Bool} (h:FB W fb p rs fl) (hf:FC W gb) (hne:fb≠gb) (hp:∀ a,p=some a→a.block≠gb) (hg:W.grownBy W' (some gb)):FB W' fb p rs fl:=by
 obtain ⟨cap,h1,h2⟩:=h.box;exact ⟨⟨cap,QbK hg h1 (fun e=>hne (by injection e with e;exact e.symm)),h2⟩,h.low,h.rl.grown hf hp hg,h.rad,h.fits⟩
theorem Qar {W:World} {fb:Nat} (i:Nat) (v:Value):W.grownBy (W.setCell ⟨fb,i,none⟩ v) (some fb):=⟨rfl,rfl,rfl,by simp [World.setCell],fun k _ hk=>Below.heap_setCell _ _ _ _ (fun e=>hk (by simp [e]))⟩
theorem QeZ {W:World} {fb:Nat} {x:Value} {b c:Bool} {T:TypeId} (h:W.heap[fb]? = some (Jc #[x,.bool b] T (0,0))):(W.setCell ⟨fb,1,none⟩ (.bool c)).heap[fb]? = some (Jc #[x,.bool c] T (0,0)):=by
 obtain ⟨hl,hg⟩:=Array.getElem?_eq_some_iff.1 h;simp [World.setCell,hl,Array.getElem_modify,hg]
theorem FB.set {W:World} {fb:Nat} {p:Option Addr} {rs:List (List Rat)} {fl:Bool} (h:FB W fb p rs fl) (c:Bool):FB (W.setCell ⟨fb,1,none⟩ (.bool c)) fb p rs c:=by
 obtain ⟨cap,h1,h2⟩:=h.box;exact ⟨⟨cap,QeZ h1,h2⟩,h.low,h.rl.grown h.fc (fun a e=>Nat.ne_of_lt (h.low a e)) (Qar 1 _),h.rad,h.fits⟩
def Val (X:List (Option Rat)) (fl:Bool) (o:Option (List Rat)):Prop:=fl=false→∃ x,o=some x∧X=x.map some
theorem Val.mono {X:List (Option Rat)} {fl fl':Bool} {o:Option (List Rat)} (h:Val X fl o) (hf:fl=true→fl'=true):Val X fl' o:=fun e=>h (by cases fl;rfl;rw [hf rfl] at e;exact e)
theorem Val.some (x:List Rat) (fl:Bool):Val (x.map some) fl (some x):=fun _=>⟨x,rfl,rfl⟩
theorem Qjr {w:World} {ops:Array Oper} {rest:List Oper} {o:Oper} {a:Act} {Q:Exit→Act→World→Prop} (hgd:o.guard=none) (s x:Operand)
  (ho:o.op = .call {callee:=.builtin .append,args:=#[s,x],argTypes:=#[29, 29]}) (base:Nat) (v:Value) (t:Nat) (R R' G:Nat→P2) (hs:a.eval s=v) (hown:OwnL w base v t R)
  (Bx ox n c:Nat) (hx:a.eval x = .slice (some ⟨Bx,ox,none⟩) n c) (hG:Cl w Bx ox n G) (ht:t≤1000) (hn:n≤1000) (hb:base≤w.heap.size) (h1:∀ i,i<t→R' i=R i) (h2:∀ i,i<n→R' (t+i)=G i)
  (h:∀ v' w',OwnL w' base v' (t+n) R'→w.grownBy w' v.ownBlock→(v'.ownBlock=v.ownBlock∨v'.ownBlock=some w.heap.size)→wpList Tryz.prog ops Q rest (a.put o.dst v') w'):wpList Tryz.prog ops Q (o :: rest) a w:=by
 obtain ⟨i0,hinf,hz⟩:=Option.map_eq_some_iff.1 Qem;have hz0:i0.zero=some (.agg #[J ⟨#[]⟩,J ⟨#[]⟩]):=congrArg (fun q=>q.1) hz;have hz1:i0.size=2:=congrArg (fun q=>q.2.1) hz;have hz2:i0.bytes=32:=congrArg (fun q=>q.2.2) hz;refine wpList_append_own_at w hgd s x 29 ho base 42 i0 (.agg #[J ⟨#[]⟩,J ⟨#[]⟩]) 2 32 Tryz.underlying29 hinf hz0 hz1 hz2 rfl (by decide) v t _ hs hown ⟨Bx,ox,none⟩ n c (Qbd G n) hx (Qbs G n) ?_ ?_ (by unfold maxLen;omega) (by omega) hb ?_
 ·intro j u hj;obtain ⟨i,hi,⟨rfl,rfl⟩ | ⟨rfl,rfl⟩⟩:=QbY G n j u hj
  ·rw [Addr.add_lit];exact (hG.at_ i hi).1
  ·rw [Addr.add_lit,←Nat.add_assoc];exact (hG.at_ i hi).2
 ·intro u hu;obtain ⟨j,hj⟩:=List.getElem?_of_mem hu;obtain ⟨i,hi,⟨rfl,rfl⟩ | ⟨rfl,rfl⟩⟩:=QbY G n j u hj <;> rfl
 ·intro v' w' hown' hgrow hnil hat;refine h v' w' ?_ hgrow hat;unfold OwnL;rw [Qeb R R' G t h1 n h2];exact hown'
theorem QtC (b1 o1 n1 c1 b2 o2 n2 c2:Nat) (h1:1≤n1∧n1≤500) (h2:n2≤500) (G1 G2 H:Nat→P2) (e1:∀ i,i<n1→H i=G1 i) (e2:∀ i,i<n2→H (n1+i)=G2 i) (w:World)
  (hx:Cl w b1 o1 n1 G1) (hy:Cl w b2 o2 n2 G2) :
  Calls Tryz.prog 235 #[.slice (some ⟨b1,o1,none⟩) n1 c1,.slice (some ⟨b2,o2,none⟩) n2 c2] w (AnsE True (n1+n2) H w):=by
 have u0:=(Below.refl w.heap.size w).alloc Lr (Jc #[] 42);have HX:Sh _:=⟨hx.keep u0⟩;have hlt1:=hx.lt (by omega);have HY:Sh (∀ W',Below w.heap.size w W'→Cl W' b2 o2 n2 G2):=⟨fun W' u=>hy.keep u⟩;have HO:Sh (OwnL (w.alloc (Jc #[] 42)) w.heap.size (.slice (some ⟨w.heap.size,0,none⟩) 0 0) 0 (fun _=>(⟨#[]⟩,⟨#[]⟩))):=⟨rfl,.inr ⟨_,_,_,rfl,Nat.le_refl _,World.alloc_heap_new w _,Nat.le_refl _,Nat.zero_le _,rfl,rfl⟩⟩;clear hx hy;go_enter Tryz.func235, Tryz.ntmps235;go_wp2_with (first | (refine Qjr rfl _ _ rfl w.heap.size (.slice (some ⟨w.heap.size,0,none⟩) 0 0) 0 (fun _=>(⟨#[]⟩,⟨#[]⟩)) G1 G1 rfl HO.o b1 o1 n1 c1 rfl HX.o (by omega) (by omega) u0.size (fun i hi=>absurd hi (by omega)) (fun i _=>congrArg G1 (Nat.zero_add i)) ?_;intro v2 w2 hO2 hg2 hat2;rw [Nat.zero_add] at hO2;have u2:Below w.heap.size w w2:=QbA u0 Lr Lr HO.o hg2;have HY2:Sh _:=⟨HY.o w2 u2⟩;have HO2:Sh _:=⟨hO2⟩;clear hO2 hg2 hat2 HO HX) | (refine Qjr rfl _ _ rfl w.heap.size v2 n1 G1 H G2 rfl HO2.o b2 o2 n2 c2 rfl HY2.o (by omega) (by omega) u2.size e1 e2 ?_;intro v3 w3 hO3 hg3 hat3));have u3:Below w.heap.size w w3:=QbA u2 Lr Lr HO2.o hg3;obtain ⟨g3,cap3,rfl,k1,k2,k3,k4⟩:=Qdc hO3 (by omega);clear hat3 hg3 hO3;go_ret;exact ⟨u3,fun _=>⟨g3,cap3,rfl,k1,k2,k3,k4⟩,fun h=>absurd trivial h⟩
theorem Qls (a b:List (Option Rat)) (i:Nat) (h:i<a.length):pqo (a++b) i=pqo a i:=by
 rw [pqo,pqo,List.getD_eq_getElem?_getD,List.getD_eq_getElem?_getD,List.getElem?_append_left h]
theorem Qlt (a b:List (Option Rat)) (i:Nat):pqo (a++b) (a.length+i)=pqo b i:=by
 rw [pqo,pqo,List.getD_eq_getElem?_getD,List.getD_eq_getElem?_getD,List.getElem?_append_right (by omega),Nat.add_sub_cancel_left]
structure AnsP (l:List (Option Rat)) (w:World) (e:Ending) (w':World):Prop where
 below:Below w.heap.size w w'
 good:∃ v,e = .returned v∧Eo w' v l
theorem Qvp {a b:List (Option Rat)} {va vb:Value} (h1:1≤a.length∧a.length≤500) (h2:1≤b.length∧b.length≤500) (w:World) (hx:Eo w va a) (hy:Eo w vb b) :
  Calls Tryz.prog 235 #[va,vb] w (AnsP (a++b) w):=by
 obtain ⟨b1,o1,c1,rfl,_,x1⟩:=hx.ex;obtain ⟨b2,o2,c2,rfl,_,y1⟩:=hy.ex;refine (QtC b1 o1 a.length c1 b2 o2 b.length c2 h1 h2.2 (pqo a) (pqo b) (pqo (a++b)) (fun i hi=>Qls a b i hi) (fun i _=>Qlt a b i) w x1 y1).mono fun e w' h => ?_;obtain ⟨bk,cap,rfl,_,k1,_,k3⟩:=h.good trivial;exact ⟨h.below,_,rfl,⟨bk,0,cap,by rw [List.length_append],by rw [List.length_append];exact k1,by rw [List.length_append];exact k3⟩,fun q hq=>(List.mem_append.1 hq).elim (hx.fit q) (hy.fit q)⟩
theorem QoZ (b o m cap:Nat) (hm:1≤m∧m≤500) (hc:m+m≤cap) (w:World) :
  Calls Tryz.prog 179 #[.slice (some ⟨b,o,none⟩) (m+m) cap] w fun e w'=>e = .returned (.tuple #[.slice (some ⟨b,o,none⟩) m cap,.slice (some ⟨b,o+m*2,none⟩) m (cap-m)])∧Below w.heap.size w w':=by
 have hd:((m:Int)+(m:Int)) / 2=(m:Int):=by omega
 have h1:(m:Int)≤(cap:Int):=by omega
 have h2:(0:Int)≤(m:Int):=by omega
 have h3:(m:Int)≤(m:Int)+(m:Int):=by omega
 have h4:¬(cap=m):=by omega
 go_enter Tryz.func179, Tryz.ntmps179;go_wp2
 go_region
 go_wp2;exact bodyPost_ret (v:=.tuple #[.slice (some ⟨b,o,none⟩) m cap,.slice (some ⟨b,o+m*2,none⟩) m (cap-m)]) (by simp [results,Tryz.results179, go_sem]) rfl ⟨rfl,QaS (Below.refl _ _)⟩
theorem QfR {a b:List (Option Rat)} {vx:Value} (hl:a.length=b.length) (hn:1≤a.length∧a.length≤500) (w:World) (hx:Eo w vx (a++b)) :
  Calls Tryz.prog 179 #[vx] w fun e w'=>(∃ va vb,e = .returned (.tuple #[va,vb])∧Eo w' va a∧Eo w' vb b)∧Below w.heap.size w w':=by
 obtain ⟨bk,o,cap,rfl,h1,h2⟩:=hx.ex;have hfit:=hx.fit;rw [List.length_append,←hl] at h1 h2 ⊢;refine (QoZ bk o a.length cap hn h1 w).mono ?_;rintro e w' ⟨rfl,u⟩;have k2:=h2.keep u;refine ⟨⟨_,_,rfl,⟨⟨bk,o,cap,rfl,by omega,⟨fun i hi => ?_⟩⟩,fun q hq=>hfit q (List.mem_append_left _ hq)⟩,⟨⟨bk,o+a.length*2,cap-a.length,by rw [hl],by omega,⟨fun i hi => ?_⟩⟩,fun q hq=>hfit q (List.mem_append_right _ hq)⟩⟩,u⟩
 ·have:=k2.at_ i (by omega);rw [Qls a b i hi] at this;exact this
 ·have:=k2.at_ (a.length+i) (by omega);rw [Qlt,show o+(a.length+i)*2=o+a.length*2+i*2 by omega] at this;exact this
theorem Qko {fb:Nat} {p:Option Addr} {d:List Rat} {rs:List (List Rat)} {fl:Bool} (hk:rs.length≤4) (w:World) (h:FB w fb p (d :: rs) fl) :
  Calls Tryz.prog 178 #[.pointer (some ⟨fb,0,none⟩)] w fun e w'=>(∃ gb,e = .returned (.pointer (some ⟨gb,0,none⟩))∧w.heap.size≤gb∧FB w' gb p rs fl)∧Below w.heap.size w w':=by
 obtain ⟨cap,hb,hc⟩:=h.box;have x0:=En.Qaa hb 0 (v:=.slice p (d :: rs).length cap) rfl;have x1:=En.Qaa hb 1 (v:=.bool fl) rfl;have hlt:=(Array.getElem?_eq_some_iff.1 hb).1;have HL:Sh (∀ a,p=some a→a.block<fb):=⟨h.low⟩;obtain ⟨bt,o,vi,rfl,_,_⟩:=h.rl.last;have HR:Sh (Rl w (some ⟨bt,o,none⟩) rs):=⟨h.rl.lower⟩;have HD:Sh (Qdz rs∧∀ d∈rs,FitL d):=⟨h.rad.2,fun d hd=>h.fits d (by simp [hd])⟩;rw [show (d :: rs).length=rs.length+1 from rfl] at *
 generalize hm:rs.length=m at *
 have hw1:((m:Int)+1-1)=(m:Int):=by omega
 have h1:(m:Int)≤(cap:Int):=by omega
 have h2:(0:Int)≤(m:Int):=by omega
 have hw2:IntKind.i64.wrap (m:Int)=(m:Int):=by simp [IntKind.wrap,IntKind.signed,IntKind.bits];omega
 clear h;go_enter Tryz.func178, Tryz.ntmps178;go_wp2_with fail
 go_region
 go_wp2_with fail;go_ret;have u:=QaS ((Below.refl w.heap.size w).alloc Lr (Jc #[.slice (some ⟨bt,o,none⟩) m cap,.bool fl] 150));exact ⟨⟨_,rfl,Nat.le_refl _,⟨cap,by rw [hm];exact World.alloc_heap_new w _,by omega⟩,fun a e=>Nat.lt_trans (HL.o a e) hlt,HR.o.keep u,HD.o.1,HD.o.2⟩,u⟩
theorem QrG {fb:Nat} {p:Option Addr} {d:List Rat} {rs:List (List Rat)} {fl:Bool} (hk:rs.length≤4) (w:World) (h:FB w fb p (d :: rs) fl) :
  Calls Tryz.prog 218 #[.pointer (some ⟨fb,0,none⟩)] w (AnsP (d.map some) w):=by
 obtain ⟨cap,hb,hc⟩:=h.box;have x0:=En.Qaa hb 0 (v:=.slice p (d :: rs).length cap) rfl;obtain ⟨bt,o,vi,rfl,hv,he⟩:=h.rl.last;have HE:Sh (Eo w vi (d.map some)):=⟨he.eo (h.fits d (by simp))⟩;rw [show (d :: rs).length=rs.length+1 from rfl] at *
 generalize hm:rs.length=m at *
 have hw1:((m:Int)+1-1)=(m:Int):=by omega
 have h2:(0:Int)≤(m:Int):=by omega
 have hw2:IntKind.i64.wrap (m:Int)=(m:Int):=by simp [IntKind.wrap,IntKind.signed,IntKind.bits];omega
 clear h he;go_enter Tryz.func218, Tryz.ntmps218;go_wp2_with fail
 go_region
 go_wp2_with fail;go_ret;exact ⟨QaS (Below.refl _ _),_,rfl,HE.o.keep (QaS (Below.refl _ _))⟩
theorem Qlu (n:Nat) (hn:n≤1000) (w:World) :
  Calls Tryz.prog 90 #[.int .i64 (n:Int)] w fun e w'=>(∃ v,e = .returned v∧OwnL w' w.heap.size v n (fun _=>(⟨#[48]⟩,⟨#[49]⟩)))∧Below w.heap.size w w':=by
 go_enter Tryz.func90, Tryz.ntmps90;go_wp2_with fail
 go_loopw [3,4] (fun vv iv wr=>∃ i:Nat,i≤n∧iv = .int .i64 (i:Int)∧Sh (OwnL wr w.heap.size vv i (fun _=>(⟨#[48]⟩,⟨#[49]⟩))∧Below w.heap.size w wr)) (fun _ iv _=>n-(intOf iv).toNat)
 case atStart=>exact ⟨0,Nat.zero_le _,rfl,⟨OwnL.nil _ _ _,Below.refl _ _⟩⟩
 case round =>
  obtain ⟨i,hi,rfl,HF⟩:=hrel;obtain ⟨hO,u⟩:=HF.o;clear HF;by_cases hin:i=n
  ·subst hin;go_wp2_with fail;go_ret;exact ⟨⟨_,rfl,hO⟩,u⟩
  ·have hil:i<n:=by omega
   have hi2:(i:Int)<(n:Int):=by omega
   have hi3:(0:Int)≤(i:Int):=by omega
   have hw1:IntKind.i64.wrap ((i:Int)+1)=(i:Int)+1:=by simp [IntKind.wrap,IntKind.signed,IntKind.bits];omega
   have ha:=((Below.refl wr.heap.size wr).alloc Lr (Jc #[J ⟨#[48]⟩,J ⟨#[49]⟩] 42));have n_n:(wr.alloc (Jc #[J ⟨#[48]⟩,J ⟨#[49]⟩] 42)).heap[wr.heap.size]? = some (Jc #[J ⟨#[48]⟩,J ⟨#[49]⟩] 42 (0,0)):=World.alloc_heap_new wr _;replace hO:=hO.below ha;replace u:=u.trans (ha.mono u.size);clear ha;have hij:i≤1000:=by omega
   go_wp2_with (at_builtin;go_must (refine En.Qbt rfl _ _ rfl w.heap.size _ i (fun _=>(⟨#[48]⟩,⟨#[49]⟩)) rfl hO wr.heap.size _ rfl n_n hij u.size ?_);intro v' w' hO' hg hat);have u2:=QbA u Lr Lr hO hg;clear hO hg hat u n_n
   go_roundw
   case rel=>exact ⟨i+1,by omega,by first | rfl | go_num | simp,⟨hO',u2⟩⟩
   case measure=>simp [intOf];omega
theorem QtD (n:Nat) (hn:1≤n∧n≤1000) (w:World):Calls Tryz.prog 90 #[.int .i64 (n:Int)] w (AnsP ((zeros n).map some) w) :=
 (Qlu n hn.2 w).mono fun e w' ⟨⟨v,e1,hO⟩,u⟩=>by
  obtain ⟨g,cap,rfl,_,k1,_,k3⟩:=Qdc hO hn.1;refine ⟨u,_,e1,⟨g,0,cap, ?_, ?_, ?_⟩,fun q hq => ?_⟩
  ·rw [List.length_map,QaR]
  ·rw [List.length_map,QaR];exact k1
  ·rw [List.length_map,QaR];exact k3.congr fun i hi=>by rw [Qlr _ i (by rw [QaR];exact hi),QgM]
  ·obtain ⟨x,hx,rfl⟩:=List.mem_map.1 hq;rw [List.eq_of_mem_replicate hx];exact .some fit0
structure AnsB (fb:Nat) (p:Option Addr) (rs:List (List Rat)) (Z:List (Option Rat)) (fl:Bool) (w:World) (e:Ending) (w':World):Prop where
 grown:w.grownBy w' (some fb)
 fbs:FB w' fb p rs fl
 good:∃ v,e = .returned v∧Eo w' v Z
def QdR (fl:Bool) (C:Nat→Int):Nat→Bool
 | 0=>fl
 | i+1=>QdR fl C i || decide (C i≠0)
theorem QbX {w w1 w2:World} {r:Option Nat} (h:w.grownBy w1 r) (u:Below w1.heap.size w1 w2):w.grownBy w2 r :=
 World.grownBy.trans h ⟨u.os,u.tape,u.output,u.size,fun k hk _=>u.block k hk⟩
theorem Qio {W:World} {base t:Nat} {v:Value} {R:Nat→P2} (h:OwnL W base v t R):∀ j,v.ownBlock=some j→base≤j:=by
 rcases h.2 with ⟨rfl,_⟩ | ⟨g,cap,cur,rfl,hg,_⟩
 ·intro j e;simp [Value.ownBlock] at e
 ·intro j e;simp [Value.ownBlock] at e;omega
theorem Qpa (n:Nat) (hn:n≤1000) (bx ox cx by_ oy cy fb:Nat) (sv:Value) (hsv:∃ p k c,sv = .slice p k c) (fl:Bool) (hcx:n≤cx) (hcy:n≤cy) (G H A:Nat→P2) (CA:Nat→Int)
  (hA:∀ j,j<n→Ret 241 #[frc (G j).1 (G j).2,frc (H j).1 (H j).2] (.tuple #[frc (A j).1 (A j).2,.int .i64 (CA j)])) (w:World) (hx:Cl w bx ox n G) (hy:Cl w by_ oy n H) (hf:w.heap[fb]? = some (Jc #[sv,.bool fl] 150 (0,0))) :
  Calls Tryz.prog 232 #[.pointer (some ⟨fb,0,none⟩),.slice (some ⟨bx,ox,none⟩) n cx,.slice (some ⟨by_,oy,none⟩) n cy,.bool false] w fun e w'=>(∃ v,e = .returned v∧OwnL w' w.heap.size v n A)∧w.grownBy w' (some fb)∧w'.heap[fb]? = some (Jc #[sv,.bool (QdR fl CA n)] 150 (0,0)):=by
 have hfc:FC w fb:=by
  obtain ⟨p,k,c,rfl⟩:=hsv;exact ⟨p,k,c,fl,hf⟩
 have CO:Sh _:=⟨hA⟩;have HX:Sh (∀ W,w.grownBy W (some fb)→Cl W bx ox n G):=⟨fun W g=>hx.fgrown hfc g⟩;have HY:Sh (∀ W,w.grownBy W (some fb)→Cl W by_ oy n H):=⟨fun W g=>hy.fgrown hfc g⟩;have hfl:=(Array.getElem?_eq_some_iff.1 hf).1;have HF:Sh (w.grownBy w (some fb)∧w.heap[fb]? = some (Jc #[sv,.bool (QdR fl CA 0)] 150 (0,0))∧w.heap.size≤w.heap.size):=⟨World.grownBy.refl _ _,hf,Nat.le_refl _⟩;clear hA hx hy hf hfc hsv;go_enter Tryz.func232, Tryz.ntmps232;go_wp2_with fail
 go_loopw [9,10] (fun vv iv wr=>∃ i:Nat,i≤n∧iv = .int .i64 (i:Int)∧Sh (OwnL wr w.heap.size vv i A)∧Sh (w.grownBy wr (some fb)∧wr.heap[fb]? = some (Jc #[sv,.bool (QdR fl CA i)] 150 (0,0))∧w.heap.size≤wr.heap.size)) (fun _ iv _=>n-(intOf iv).toNat)
 case atStart=>exact ⟨0,Nat.zero_le _,rfl,⟨OwnL.nil _ _ _⟩,HF⟩
 case round =>
  obtain ⟨i,hi,rfl,HO,HG⟩:=hrel;clear HF;have hO:=HO.o;obtain ⟨hg,hfb,hsz⟩:=HG.o;clear HG HO;by_cases hin:i=n
  ·subst hin;go_wp2_with fail;go_ret;exact ⟨⟨_,rfl,hO⟩,hg,hfb⟩
  ·have hil:i<n:=by omega
   have hi2:(i:Int)<(n:Int):=by omega
   have hi3:(0:Int)≤(i:Int):=by omega
   obtain ⟨x0,x1⟩:=(HX.o wr hg).at_ i hil;obtain ⟨y0,y1⟩:=(HY.o wr hg).at_ i hil;have cO:=CO.o i hil;have hw1:IntKind.i64.wrap ((i:Int)+1)=(i:Int)+1:=by simp [IntKind.wrap,IntKind.signed,IntKind.bits];omega
   have hK:QdR fl CA (i+1)=(QdR fl CA i || decide (CA i≠0)):=rfl;obtain ⟨kf,hkf⟩:∃ b,b=QdR fl CA i:=⟨_,rfl⟩;obtain ⟨ci,hci⟩:∃ b,b=CA i:=⟨_,rfl⟩;obtain ⟨ai,hai⟩:∃ b,b=A i:=⟨_,rfl⟩;obtain ⟨gi,hgi⟩:∃ b,b=G i:=⟨_,rfl⟩;obtain ⟨yi,hyi⟩:∃ b,b=H i:=⟨_,rfl⟩;rw [←hkf] at hK hfb;rw [←hgi] at x0 x1 cO;rw [←hyi] at y0 y1 cO;rw [←hai,←hci] at cO;rw [←hci] at hK;have cO:∀ W,_:=cO;have HA:Sh _:=⟨hai⟩;have HC:Sh _:=⟨hci⟩;have HK:Sh _:=⟨hK⟩;clear hkf hai hci hgi hyi hK;unfold frc at *
   go_wp2_with fail;have SS:Sh (∀ X,Below wr.heap.size wr X→X.cell? ⟨bx,ox+i*2,none⟩=some (J gi.1)∧X.cell? ⟨bx,ox+i*2+1,none⟩=some (J gi.2)∧X.cell? ⟨by_,oy+i*2,none⟩=some (J yi.1)∧X.cell? ⟨by_,oy+i*2+1,none⟩=some (J yi.2)):=⟨fun X hX=>⟨Qae x0 hX,Qae x1 hX,Qae y0 hX,Qae y1 hX⟩⟩
   go_cut [11,12] from 19 to 30 (fun s1 s2 wx=>∃ br,s1 = .pointer (some ⟨br,0,none⟩)∧s2 = .int .i64 ci∧wx.heap[br]? = some (Jc #[J ai.1,J ai.2] 42 (0,0))∧wr.heap.size≤br∧Below wr.heap.size wr wx)
   case first =>
    (go_region_held (fun X=>X.cell? ⟨bx,ox+i*2,none⟩=some (J gi.1)∧X.cell? ⟨bx,ox+i*2+1,none⟩=some (J gi.2)∧X.cell? ⟨by_,oy+i*2,none⟩=some (J yi.1)∧X.cell? ⟨by_,oy+i*2+1,none⟩=some (J yi.2)) (first | exact SS.o _ (QaS (Below.refl _ _)) | exact SS.o _ (QaS ((Below.refl _ _).alloc Lr _)) | exact SS.o _ k2 | exact SS.o _ (k2.alloc k2.size _) | exact SS.o _ (k2.setCell (by first | exact Nat.le_refl _ | exact k2.size | (simp;done)) _) | exact SS.o _ ((k2.setCell (by first | exact Nat.le_refl _ | exact k2.size | (simp;done)) _).setCell (by first | exact Nat.le_refl _ | exact k2.size | (simp;done)) _) | exact SS.o _ (((k2.alloc k2.size _).setCell (by first | exact Nat.le_refl _ | exact k2.size | (simp;done)) _).setCell (by first | exact Nat.le_refl _ | exact k2.size | (simp;done)) _) | fail)
     (first
      | (go_at_call 241; have hq:=cO wr.drew;(with_reducible refine hq.mono ?_);rintro e x2 ⟨rfl,g2⟩;have k2:Below wr.heap.size wr x2:=Qah g2;have n2:=World.alloc_heap_new x2 (Jc #[J ⟨#[]⟩,J ⟨#[]⟩] 42);have z0:=En.Qaa n2 0 (v:=J ⟨#[]⟩) rfl;have z1:=En.Qaa n2 1 (v:=J ⟨#[]⟩) rfl;have y0:=En.Qad n2 0;have y1:=En.Qad n2 1;clear hq g2)
      | (go_at_call 241; have hq:=cO (wr.alloc (Jc #[J ⟨#[]⟩,J ⟨#[]⟩] 42)).drew;(with_reducible refine hq.mono ?_);rintro e x2 ⟨rfl,g2⟩;have k2:Below wr.heap.size wr x2:=((Below.refl _ _).alloc Lr (Jc #[J ⟨#[]⟩,J ⟨#[]⟩] 42)).trans ((Qah g2).mono (by simp));have n2:=En.Qac (World.alloc_heap_new wr (Jc #[J ⟨#[]⟩,J ⟨#[]⟩] 42)) (Qah g2);have z0:=En.Qaa n2 0 (v:=J ⟨#[]⟩) rfl;have z1:=En.Qaa n2 1 (v:=J ⟨#[]⟩) rfl;have y0:=En.Qad n2 0;have y1:=En.Qad n2 1;clear hq g2)
      | fail);all_goals (try clear SS))
    all_goals
     go_wp2_with fail
     go_meet
     first
      | exact ⟨_,rfl,rfl,Qbc n2,Nat.le_refl _,(k2.setCell Lr _).setCell Lr _⟩
      | exact ⟨_,rfl,rfl,World.alloc_heap_new x2 _,k2.size,k2.alloc k2.size _⟩
   case rest =>
   obtain ⟨br,rfl,rfl,nr,hbr,ux⟩:=hcut;clear x0 x1 y0 y1 SS cO;replace hO:=hO.below ux;replace hfb:=En.Qac hfb ux;replace hg:=QbX hg ux;have hsz2:=Nat.le_trans hsz ux.size;have hbr2:w.heap.size≤br:=Nat.le_trans hsz hbr;have hbf:br≠fb:=by omega
   have hbf2:=hbf.symm;clear ux hsz hbr;have r0:=En.Qaa nr 0 (v:=J ai.1) rfl;have r1:=En.Qaa nr 1 (v:=J ai.2) rfl;have f1:=En.Qaa hfb 1 (v:=.bool kf) rfl;have ff:=En.Qad hfb 1;have HL:Sh (ai=A i):=HA;cases kf with
   | true =>
    have s_f:(wc.setCell ⟨fb,1,none⟩ (.bool true)).heap[fb]? = some (Jc #[sv,.bool true] 150 (0,0)):=QeZ hfb;have s_o:OwnL (wc.setCell ⟨fb,1,none⟩ (.bool true)) w.heap.size u9 i A:=World.ownsRow.kept hO (Qar 1 _) (.inr (hO.low fb hfl));have s_g:w.grownBy (wc.setCell ⟨fb,1,none⟩ (.bool true)) (some fb):=World.grownBy.trans hg (Qar 1 _)
    have n_n:((wc.setCell ⟨fb,1,none⟩ (.bool true)).alloc (Jc #[J ai.1,J ai.2] 42)).heap[wc.heap.size]? = some (Jc #[J (A i).1,J (A i).2] 42 (0,0)):=by
     have:=World.alloc_heap_new (wc.setCell ⟨fb,1,none⟩ (.bool true)) (Jc #[J ai.1,J ai.2] 42);rw [show (wc.setCell ⟨fb,1,none⟩ (.bool true)).heap.size=wc.heap.size by simp [World.setCell]] at this;rw [←HL.o];exact this
    have hsz3:w.heap.size≤((wc.setCell ⟨fb,1,none⟩ (.bool true)).alloc (Jc #[J ai.1,J ai.2] 42)).heap.size:=Nat.le_trans s_g.size (by simp);have a_o:=s_o.below ((Below.refl (wc.setCell ⟨fb,1,none⟩ (.bool true)).heap.size (wc.setCell ⟨fb,1,none⟩ (.bool true))).alloc Lr (Jc #[J ai.1,J ai.2] 42));have hij:i≤1000:=by omega
    clear hO hg;go_wp2_with (at_builtin;go_must (refine En.Qbt rfl _ _ rfl w.heap.size _ i A rfl a_o wc.heap.size _ rfl n_n hij hsz3 ?_);intro v' w' hO' hg2 hat);have e_f:w'.heap[fb]? = _:=QbK hg2 (En.lold s_f) (a_o.low fb hfl);have e_g:w.grownBy w' (some fb):=(World.grownBy.trans s_g (World.grownBy_alloc _ (Jc #[J ai.1,J ai.2] 42) _)).andThen hg2 (fun j e => .inl (Qio a_o j e));clear n_n hg2 hat s_f s_o s_g a_o hsz3 hfb
    go_roundw
    case rel=>exact ⟨i+1,by omega,by first | rfl | go_num | simp,⟨hO'⟩,⟨e_g,by rw [HK.o];simpa using e_f,e_g.size⟩⟩
    case measure=>simp [intOf];omega
   | false =>
    have s_f:(wc.setCell ⟨fb,1,none⟩ (.bool (ci != 0))).heap[fb]? = some (Jc #[sv,.bool (ci != 0)] 150 (0,0)):=QeZ hfb;have s_o:OwnL (wc.setCell ⟨fb,1,none⟩ (.bool (ci != 0))) w.heap.size u9 i A:=World.ownsRow.kept hO (Qar 1 _) (.inr (hO.low fb hfl));have s_g:w.grownBy (wc.setCell ⟨fb,1,none⟩ (.bool (ci != 0))) (some fb):=World.grownBy.trans hg (Qar 1 _)
    have n_n:((wc.setCell ⟨fb,1,none⟩ (.bool (ci != 0))).alloc (Jc #[J ai.1,J ai.2] 42)).heap[wc.heap.size]? = some (Jc #[J (A i).1,J (A i).2] 42 (0,0)):=by
     have:=World.alloc_heap_new (wc.setCell ⟨fb,1,none⟩ (.bool (ci != 0))) (Jc #[J ai.1,J ai.2] 42);rw [show (wc.setCell ⟨fb,1,none⟩ (.bool (ci != 0))).heap.size=wc.heap.size by simp [World.setCell]] at this;rw [←HL.o];exact this
    have hsz3:w.heap.size≤((wc.setCell ⟨fb,1,none⟩ (.bool (ci != 0))).alloc (Jc #[J ai.1,J ai.2] 42)).heap.size:=Nat.le_trans s_g.size (by simp);have a_o:=s_o.below ((Below.refl (wc.setCell ⟨fb,1,none⟩ (.bool (ci != 0))).heap.size (wc.setCell ⟨fb,1,none⟩ (.bool (ci != 0)))).alloc Lr (Jc #[J ai.1,J ai.2] 42));have hij:i≤1000:=by omega
    clear hO hg;go_wp2_with (at_builtin;go_must (refine En.Qbt rfl _ _ rfl w.heap.size _ i A rfl a_o wc.heap.size _ rfl n_n hij hsz3 ?_);intro v' w' hO' hg2 hat);have e_f:w'.heap[fb]? = _:=QbK hg2 (En.lold s_f) (a_o.low fb hfl);have e_g:w.grownBy w' (some fb):=(World.grownBy.trans s_g (World.grownBy_alloc _ (Jc #[J ai.1,J ai.2] 42) _)).andThen hg2 (fun j e => .inl (Qio a_o j e));clear n_n hg2 hat s_f s_o s_g a_o hsz3 hfb
    go_roundw
    case rel=>exact ⟨i+1,by omega,by first | rfl | go_num | simp,⟨hO'⟩,⟨e_g,by rw [HK.o,show (false || decide (ci≠0))=(ci != 0) by cases h:(ci != 0) <;> simp_all];exact e_f,e_g.size⟩⟩
    case measure=>simp [intOf];omega
theorem QmK (n:Nat) (hn:n≤1000) (bx ox cx by_ oy cy fb:Nat) (sv:Value) (hsv:∃ p k c,sv = .slice p k c) (fl:Bool) (hcx:n≤cx) (hcy:n≤cy) (G H A S:Nat→P2) (CA CS:Nat→Int)
  (hA:∀ j,j<n→Ret 241 #[frc (G j).1 (G j).2,frc (H j).1 (H j).2] (.tuple #[frc (A j).1 (A j).2,.int .i64 (CA j)]))
  (hS:∀ j,j<n→Ret 242 #[frc (G j).1 (G j).2,frc (H j).1 (H j).2] (.tuple #[frc (S j).1 (S j).2,.int .i64 (CS j)])) (w:World) (hx:Cl w bx ox n G) (hy:Cl w by_ oy n H) (hf:w.heap[fb]? = some (Jc #[sv,.bool fl] 150 (0,0))) :
  Calls Tryz.prog 232 #[.pointer (some ⟨fb,0,none⟩),.slice (some ⟨bx,ox,none⟩) n cx,.slice (some ⟨by_,oy,none⟩) n cy,.bool true] w fun e w'=>(∃ v,e = .returned v∧OwnL w' w.heap.size v n S)∧w.grownBy w' (some fb)∧w'.heap[fb]? = some (Jc #[sv,.bool (QdR fl CS n)] 150 (0,0)):=by
 have hfc:FC w fb:=by
  obtain ⟨p,k,c,rfl⟩:=hsv;exact ⟨p,k,c,fl,hf⟩
 have CO:Sh _:=⟨hA⟩;have CS_:Sh _:=⟨hS⟩;have HX:Sh (∀ W,w.grownBy W (some fb)→Cl W bx ox n G):=⟨fun W g=>hx.fgrown hfc g⟩;have HY:Sh (∀ W,w.grownBy W (some fb)→Cl W by_ oy n H):=⟨fun W g=>hy.fgrown hfc g⟩;have hfl:=(Array.getElem?_eq_some_iff.1 hf).1;have HF:Sh (w.grownBy w (some fb)∧w.heap[fb]? = some (Jc #[sv,.bool (QdR fl CS 0)] 150 (0,0))∧w.heap.size≤w.heap.size):=⟨World.grownBy.refl _ _,hf,Nat.le_refl _⟩;clear hA hS hx hy hf hfc hsv;go_enter Tryz.func232, Tryz.ntmps232;go_wp2_with fail
 go_loopw [9,10] (fun vv iv wr=>∃ i:Nat,i≤n∧iv = .int .i64 (i:Int)∧Sh (OwnL wr w.heap.size vv i S)∧Sh (w.grownBy wr (some fb)∧wr.heap[fb]? = some (Jc #[sv,.bool (QdR fl CS i)] 150 (0,0))∧w.heap.size≤wr.heap.size)) (fun _ iv _=>n-(intOf iv).toNat)
 case atStart=>exact ⟨0,Nat.zero_le _,rfl,⟨OwnL.nil _ _ _⟩,HF⟩
 case round =>
  obtain ⟨i,hi,rfl,HO,HG⟩:=hrel;clear HF;have hO:=HO.o;obtain ⟨hg,hfb,hsz⟩:=HG.o;clear HG HO;by_cases hin:i=n
  ·subst hin;go_wp2_with fail;go_ret;exact ⟨⟨_,rfl,hO⟩,hg,hfb⟩
  ·have hil:i<n:=by omega
   have hi2:(i:Int)<(n:Int):=by omega
   have hi3:(0:Int)≤(i:Int):=by omega
   obtain ⟨x0,x1⟩:=(HX.o wr hg).at_ i hil;obtain ⟨y0,y1⟩:=(HY.o wr hg).at_ i hil;have cO:=CO.o i hil;have cS:=CS_.o i hil;have hw1:IntKind.i64.wrap ((i:Int)+1)=(i:Int)+1:=by simp [IntKind.wrap,IntKind.signed,IntKind.bits];omega
   have hK:QdR fl CS (i+1)=(QdR fl CS i || decide (CS i≠0)):=rfl;obtain ⟨kf,hkf⟩:∃ b,b=QdR fl CS i:=⟨_,rfl⟩;obtain ⟨ci,hci⟩:∃ b,b=CA i:=⟨_,rfl⟩;obtain ⟨ai,hai⟩:∃ b,b=A i:=⟨_,rfl⟩;obtain ⟨gi,hgi⟩:∃ b,b=G i:=⟨_,rfl⟩;obtain ⟨yi,hyi⟩:∃ b,b=H i:=⟨_,rfl⟩;rw [←hkf] at hK hfb;rw [←hgi] at x0 x1 cO;rw [←hyi] at y0 y1 cO;rw [←hai,←hci] at cO;obtain ⟨di,hdi⟩:∃ b,b=CS i:=⟨_,rfl⟩;obtain ⟨si,hsi⟩:∃ b,b=S i:=⟨_,rfl⟩;rw [←hgi,←hyi,←hsi,←hdi] at cS;rw [←hdi] at hK;have cS:∀ W,_:=cS;have HS:Sh _:=⟨hsi⟩;clear hsi hdi;have cO:∀ W,_:=cO;have HA:Sh _:=⟨hai⟩;have HC:Sh _:=⟨hci⟩;have HK:Sh _:=⟨hK⟩;clear hkf hai hci hgi hyi hK;unfold frc at *
   go_wp2_with fail;have SS:Sh (∀ X,Below wr.heap.size wr X→X.cell? ⟨bx,ox+i*2,none⟩=some (J gi.1)∧X.cell? ⟨bx,ox+i*2+1,none⟩=some (J gi.2)∧X.cell? ⟨by_,oy+i*2,none⟩=some (J yi.1)∧X.cell? ⟨by_,oy+i*2+1,none⟩=some (J yi.2)):=⟨fun X hX=>⟨Qae x0 hX,Qae x1 hX,Qae y0 hX,Qae y1 hX⟩⟩
   go_cut [11,12] from 19 to 30 (fun s1 s2 wx=>∃ br,s1 = .pointer (some ⟨br,0,none⟩)∧s2 = .int .i64 ci∧wx.heap[br]? = some (Jc #[J ai.1,J ai.2] 42 (0,0))∧wr.heap.size≤br∧Below wr.heap.size wr wx)
   case first =>
    (go_region_held (fun X=>X.cell? ⟨bx,ox+i*2,none⟩=some (J gi.1)∧X.cell? ⟨bx,ox+i*2+1,none⟩=some (J gi.2)∧X.cell? ⟨by_,oy+i*2,none⟩=some (J yi.1)∧X.cell? ⟨by_,oy+i*2+1,none⟩=some (J yi.2)) (first | exact SS.o _ (QaS (Below.refl _ _)) | exact SS.o _ (QaS ((Below.refl _ _).alloc Lr _)) | exact SS.o _ k2 | exact SS.o _ (k2.alloc k2.size _) | exact SS.o _ (k2.setCell (by first | exact Nat.le_refl _ | exact k2.size | (simp;done)) _) | exact SS.o _ ((k2.setCell (by first | exact Nat.le_refl _ | exact k2.size | (simp;done)) _).setCell (by first | exact Nat.le_refl _ | exact k2.size | (simp;done)) _) | exact SS.o _ (((k2.alloc k2.size _).setCell (by first | exact Nat.le_refl _ | exact k2.size | (simp;done)) _).setCell (by first | exact Nat.le_refl _ | exact k2.size | (simp;done)) _) | fail)
     (first
      | (go_at_call 241; have hq:=cO wr.drew;(with_reducible refine hq.mono ?_);rintro e x2 ⟨rfl,g2⟩;have k2:Below wr.heap.size wr x2:=Qah g2;have n2:=World.alloc_heap_new x2 (Jc #[J ⟨#[]⟩,J ⟨#[]⟩] 42);have z0:=En.Qaa n2 0 (v:=J ⟨#[]⟩) rfl;have z1:=En.Qaa n2 1 (v:=J ⟨#[]⟩) rfl;have y0:=En.Qad n2 0;have y1:=En.Qad n2 1;clear hq g2)
      | (go_at_call 241; have hq:=cO (wr.alloc (Jc #[J ⟨#[]⟩,J ⟨#[]⟩] 42)).drew;(with_reducible refine hq.mono ?_);rintro e x2 ⟨rfl,g2⟩;have k2:Below wr.heap.size wr x2:=((Below.refl _ _).alloc Lr (Jc #[J ⟨#[]⟩,J ⟨#[]⟩] 42)).trans ((Qah g2).mono (by simp));have n2:=En.Qac (World.alloc_heap_new wr (Jc #[J ⟨#[]⟩,J ⟨#[]⟩] 42)) (Qah g2);have z0:=En.Qaa n2 0 (v:=J ⟨#[]⟩) rfl;have z1:=En.Qaa n2 1 (v:=J ⟨#[]⟩) rfl;have y0:=En.Qad n2 0;have y1:=En.Qad n2 1;clear hq g2)
      | fail);all_goals (try clear SS))
    all_goals
     go_wp2_with fail
     go_meet
     first
      | exact ⟨_,rfl,rfl,Qbc n2,Nat.le_refl _,(k2.setCell Lr _).setCell Lr _⟩
      | exact ⟨_,rfl,rfl,World.alloc_heap_new x2 _,k2.size,k2.alloc k2.size _⟩
   case rest =>
   obtain ⟨br,rfl,rfl,nr,hbr,ux⟩:=hcut;clear SS cO
   have hbx:bx≠br:=fun e=>by
    have:=World.block_lt_of_cell? wr _ x0;simp at this;omega
   have hby:by_≠br:=fun e=>by
    have:=World.block_lt_of_cell? wr _ y0;simp at this;omega
   replace x0:=Qae x0 ux;replace x1:=Qae x1 ux;replace y0:=Qae y0 ux;replace y1:=Qae y1 ux;have hne:=hO.new br hbr;replace hO:=hO.below ux;replace hfb:=En.Qac hfb ux;replace hg:=QbX hg ux;have hsz2:=Nat.le_trans hsz ux.size;have hbr2:w.heap.size≤br:=Nat.le_trans hsz hbr;have hbf:br≠fb:=by omega
   have hbf2:=hbf.symm;clear ux hsz hbr HC HA
   rename World=>wa
   go_wp2_with fail;have SS:Sh (∀ X,wa.grownBy X (some br)→X.cell? ⟨bx,ox+i*2,none⟩=some (J gi.1)∧X.cell? ⟨bx,ox+i*2+1,none⟩=some (J gi.2)∧X.cell? ⟨by_,oy+i*2,none⟩=some (J yi.1)∧X.cell? ⟨by_,oy+i*2+1,none⟩=some (J yi.2)):=⟨fun X hX=>⟨Qba hX x0 (fun e=>hbx (by injection e with e;exact e.symm)),Qba hX x1 (fun e=>hbx (by injection e with e;exact e.symm)),Qba hX y0 (fun e=>hby (by injection e with e;exact e.symm)),Qba hX y1 (fun e=>hby (by injection e with e;exact e.symm))⟩⟩
   go_cut [12] from 32 to 43 (fun s1 wx=>s1 = .int .i64 di∧wx.heap[br]? = some (Jc #[J si.1,J si.2] 42 (0,0))∧wa.grownBy wx (some br))
   case first =>
    (go_region_held (fun X=>X.cell? ⟨bx,ox+i*2,none⟩=some (J gi.1)∧X.cell? ⟨bx,ox+i*2+1,none⟩=some (J gi.2)∧X.cell? ⟨by_,oy+i*2,none⟩=some (J yi.1)∧X.cell? ⟨by_,oy+i*2+1,none⟩=some (J yi.2)) (first | exact SS.o _ (QbX (World.grownBy.refl _ _) (QaS (Below.refl _ _))) | exact SS.o _ (QbX (World.grownBy.refl _ _) k2) | exact SS.o _ (World.grownBy.trans (QbX (World.grownBy.refl _ _) k2) (Qar 0 _)) | exact SS.o _ (World.grownBy.trans (World.grownBy.trans (QbX (World.grownBy.refl _ _) k2) (Qar 0 _)) (Qar 1 _)) | fail)
     (first
      | (go_at_call 242; have hq:=cS wa.drew;(with_reducible refine hq.mono ?_);rintro e x2 ⟨rfl,g2⟩;have k2:Below wa.heap.size wa x2:=Qah g2;have n2:=En.Qac nr k2;have z0:=En.Qaa n2 0 (v:=J ai.1) rfl;have z1:=En.Qaa n2 1 (v:=J ai.2) rfl;have y0:=En.Qad n2 0;have y1:=En.Qad n2 1;clear hq g2)
      | fail);all_goals (try clear SS))
    all_goals
     go_wp2_with fail
     go_meet
     exact ⟨rfl,Qbc n2,World.grownBy.trans (World.grownBy.trans (QbX (World.grownBy.refl _ _) k2) (Qar 0 _)) (Qar 1 _)⟩
   case rest =>
   obtain ⟨rfl,nr2,gx⟩:=hcut;clear SS x0 x1 y0 y1 cS nr hbx hby;have nr:wc.heap[br]? = _:=nr2;replace hO:OwnL wc w.heap.size u9 i S:=World.ownsRow.kept hO gx (.inr hne);replace hfb:=QbK gx hfb (by simp;omega);replace hg:=hg.andThen gx (fun j e => .inl (by injection e with e;omega));clear nr2 gx hne hsz2;have r0:=En.Qaa nr 0 (v:=J si.1) rfl;have r1:=En.Qaa nr 1 (v:=J si.2) rfl;have f1:=En.Qaa hfb 1 (v:=.bool kf) rfl;have ff:=En.Qad hfb 1;have HL:Sh (si=S i):=HS;cases kf with
   | true =>
    have s_f:(wc.setCell ⟨fb,1,none⟩ (.bool true)).heap[fb]? = some (Jc #[sv,.bool true] 150 (0,0)):=QeZ hfb;have s_o:OwnL (wc.setCell ⟨fb,1,none⟩ (.bool true)) w.heap.size u9 i S:=World.ownsRow.kept hO (Qar 1 _) (.inr (hO.low fb hfl));have s_g:w.grownBy (wc.setCell ⟨fb,1,none⟩ (.bool true)) (some fb):=World.grownBy.trans hg (Qar 1 _)
    have n_n:((wc.setCell ⟨fb,1,none⟩ (.bool true)).alloc (Jc #[J si.1,J si.2] 42)).heap[wc.heap.size]? = some (Jc #[J (S i).1,J (S i).2] 42 (0,0)):=by
     have:=World.alloc_heap_new (wc.setCell ⟨fb,1,none⟩ (.bool true)) (Jc #[J si.1,J si.2] 42);rw [show (wc.setCell ⟨fb,1,none⟩ (.bool true)).heap.size=wc.heap.size by simp [World.setCell]] at this;rw [←HL.o];exact this
    have hsz3:w.heap.size≤((wc.setCell ⟨fb,1,none⟩ (.bool true)).alloc (Jc #[J si.1,J si.2] 42)).heap.size:=Nat.le_trans s_g.size (by simp);have a_o:=s_o.below ((Below.refl (wc.setCell ⟨fb,1,none⟩ (.bool true)).heap.size (wc.setCell ⟨fb,1,none⟩ (.bool true))).alloc Lr (Jc #[J si.1,J si.2] 42));have hij:i≤1000:=by omega
    clear hO hg;go_wp2_with (at_builtin;go_must (refine En.Qbt rfl _ _ rfl w.heap.size _ i S rfl a_o wc.heap.size _ rfl n_n hij hsz3 ?_);intro v' w' hO' hg2 hat);have e_f:w'.heap[fb]? = _:=QbK hg2 (En.lold s_f) (a_o.low fb hfl);have e_g:w.grownBy w' (some fb):=(World.grownBy.trans s_g (World.grownBy_alloc _ (Jc #[J si.1,J si.2] 42) _)).andThen hg2 (fun j e => .inl (Qio a_o j e));clear n_n hg2 hat s_f s_o s_g a_o hsz3 hfb
    go_roundw
    case rel=>exact ⟨i+1,by omega,by first | rfl | go_num | simp,⟨hO'⟩,⟨e_g,by rw [HK.o];simpa using e_f,e_g.size⟩⟩
    case measure=>simp [intOf];omega
   | false =>
    have s_f:(wc.setCell ⟨fb,1,none⟩ (.bool (di != 0))).heap[fb]? = some (Jc #[sv,.bool (di != 0)] 150 (0,0)):=QeZ hfb;have s_o:OwnL (wc.setCell ⟨fb,1,none⟩ (.bool (di != 0))) w.heap.size u9 i S:=World.ownsRow.kept hO (Qar 1 _) (.inr (hO.low fb hfl));have s_g:w.grownBy (wc.setCell ⟨fb,1,none⟩ (.bool (di != 0))) (some fb):=World.grownBy.trans hg (Qar 1 _)
    have n_n:((wc.setCell ⟨fb,1,none⟩ (.bool (di != 0))).alloc (Jc #[J si.1,J si.2] 42)).heap[wc.heap.size]? = some (Jc #[J (S i).1,J (S i).2] 42 (0,0)):=by
     have:=World.alloc_heap_new (wc.setCell ⟨fb,1,none⟩ (.bool (di != 0))) (Jc #[J si.1,J si.2] 42);rw [show (wc.setCell ⟨fb,1,none⟩ (.bool (di != 0))).heap.size=wc.heap.size by simp [World.setCell]] at this;rw [←HL.o];exact this
    have hsz3:w.heap.size≤((wc.setCell ⟨fb,1,none⟩ (.bool (di != 0))).alloc (Jc #[J si.1,J si.2] 42)).heap.size:=Nat.le_trans s_g.size (by simp);have a_o:=s_o.below ((Below.refl (wc.setCell ⟨fb,1,none⟩ (.bool (di != 0))).heap.size (wc.setCell ⟨fb,1,none⟩ (.bool (di != 0)))).alloc Lr (Jc #[J si.1,J si.2] 42));have hij:i≤1000:=by omega
    clear hO hg;go_wp2_with (at_builtin;go_must (refine En.Qbt rfl _ _ rfl w.heap.size _ i S rfl a_o wc.heap.size _ rfl n_n hij hsz3 ?_);intro v' w' hO' hg2 hat);have e_f:w'.heap[fb]? = _:=QbK hg2 (En.lold s_f) (a_o.low fb hfl);have e_g:w.grownBy w' (some fb):=(World.grownBy.trans s_g (World.grownBy_alloc _ (Jc #[J si.1,J si.2] 42) _)).andThen hg2 (fun j e => .inl (Qio a_o j e));clear n_n hg2 hat s_f s_o s_g a_o hsz3 hfb
    go_roundw
    case rel=>exact ⟨i+1,by omega,by first | rfl | go_num | simp,⟨hO'⟩,⟨e_g,by rw [HK.o,show (false || decide (di≠0))=(di != 0) by cases h:(di != 0) <;> simp_all];exact e_f,e_g.size⟩⟩
    case measure=>simp [intOf];omega
theorem Qjs (fl:Bool) (Z:List (Option Rat)):∀ n,n≤Z.length→QdR fl (fun j=>cd (Z.getD j none)) n=(fl || (Z.take n).any (·.isNone))
 | 0,_=>by rw [QdR,List.take_zero];simp
 | n+1,h=>by
  rw [QdR,Qjs fl Z n (by omega),List.take_succ_eq_append_getElem (by omega),List.any_append,List.getD_eq_getElem?_getD,List.getElem?_eq_getElem (by omega),Bool.or_assoc];congr 2;rw [Option.getD_some];cases Z[n] <;> simp [cd]
theorem Qip {f:Rat→Rat→Option Rat} {X Y:List (Option Rat)} {j:Nat} (hx:j<X.length) (hy:j<Y.length):(List.zipWith (Qbk f) X Y).getD j none=Qbk f (X.getD j none) (Y.getD j none):=by
 rw [List.getD_eq_getElem?_getD,List.getD_eq_getElem?_getD,List.getD_eq_getElem?_getD,List.getElem?_zipWith,List.getElem?_eq_getElem hx,List.getElem?_eq_getElem hy];rfl
theorem Qpb {f:Rat→Rat→Option Rat} (hf:∀ p q r,f p q=some r→FitQ r) (X Y:List (Option Rat)):∀ q∈List.zipWith (Qbk f) X Y,FitO q:=by
 intro q hq;obtain ⟨i,hi,rfl⟩:=List.mem_iff_getElem.1 hq;rw [List.getElem_zipWith];exact FitO.lift hf _ _
theorem Qiq {f:Rat→Rat→Option Rat}:∀ {x y z:List Rat},Qaj f x y=some z→List.zipWith (Qbk f) (x.map some) (y.map some)=z.map some
 | [],y,z,h=>by cases h;rfl
 | x :: xs, [],z,h=>by cases h;rfl
 | x :: xs,y :: ys,z,h=>by
  rw [Qaj] at h;obtain ⟨r,hr,h⟩:=Option.bind_eq_some_iff.1 h;obtain ⟨t,ht,rfl⟩:=Option.map_eq_some_iff.1 h;rw [List.map_cons,List.map_cons,List.zipWith_cons_cons,Qiq ht,List.map_cons];congr 1
theorem Qlv {f:Rat→Rat→Option Rat}:∀ {x y:List Rat},Qaj f x y=none→(List.zipWith (Qbk f) (x.map some) (y.map some)).any (·.isNone)=true
 | [],y,h=>by cases h
 | x :: xs, [],h=>by cases h
 | x :: xs,y :: ys,h=>by
  rw [Qaj] at h;rw [List.map_cons,List.map_cons,List.zipWith_cons_cons,List.any_cons];cases hr:f x y with
  | none=>rw [show Qbk f (some x) (some y)=f x y from rfl,hr];rfl
  | some r =>
   rw [hr,Option.bind_some] at h;rw [Qlv (Option.map_eq_none_iff.1 h),Bool.or_true]
theorem QqS (z:List Rat):(z.map some).any (·.isNone)=false:=by
 induction z with
 | nil=>rfl
 | cons x z ih=>rw [List.map_cons,List.any_cons,ih];rfl
structure AnsW (fb:Nat) (p:Option Addr) (rs:List (List Rat)) (n:Nat) (fl:Bool) (o:Option (List Rat)) (w:World) (e:Ending) (w':World):Prop where
 grown:w.grownBy w' (some fb)
 ex:∃ v Z,e = .returned v∧Eo w' v Z∧Z.length=n∧FB w' fb p rs (fl || o.isNone)∧Val Z (fl || o.isNone) o
theorem AnsB.w {fb:Nat} {p:Option Addr} {rs:List (List Rat)} {f:Rat→Rat→Option Rat} {X Y:List (Option Rat)} {fl:Bool} {ox oy:Option (List Rat)} {w:World} {e:Ending} {w':World} {n:Nat} (hx:X.length=n) (hy:Y.length=n) (vx:Val X fl ox) (vy:Val Y fl oy)
  (h:AnsB fb p rs (List.zipWith (Qbk f) X Y) (fl || (List.zipWith (Qbk f) X Y).any (·.isNone)) w e w'):AnsW fb p rs n fl (ox.bind fun x=>oy.bind fun y=>Qaj f x y) w e w':=by
 obtain ⟨v,e1,e2⟩:=h.good;have hl:(List.zipWith (Qbk f) X Y).length=n:=by rw [List.length_zipWith,hx,hy,Nat.min_self]
 have hb:=h.fbs;cases hfl:fl with
 | true =>
  rw [hfl,Bool.true_or] at hb;exact ⟨h.grown,v,_,e1,e2,hl,by rw [Bool.true_or];exact hb,fun hc=>by rw [Bool.true_or] at hc;cases hc⟩
 | false =>
  obtain ⟨x,rfl,rfl⟩:=vx hfl;obtain ⟨y,rfl,rfl⟩:=vy hfl;rw [hfl,Bool.false_or] at hb;cases ho:Qaj f x y with
  | none =>
   rw [Qlv ho] at hb;refine ⟨h.grown,v,_,e1,e2,hl, ?_,fun hc => ?_⟩
   ·simp only [Option.bind_some,ho];exact hb
   ·simp only [Option.bind_some,ho] at hc;cases hc
  | some z =>
   rw [Qiq ho,QqS] at hb;refine ⟨h.grown,v,_,e1,e2,hl, ?_,fun _=>⟨z, ?_,Qiq ho⟩⟩
   ·simp only [Option.bind_some,ho];exact hb
   ·simp only [Option.bind_some,ho]
theorem Qlw {fb:Nat} {p:Option Addr} {rs:List (List Rat)} {fl:Bool} {Z:List (Option Rat)} (hz:1≤Z.length) (fz:∀ q∈Z,FitO q) {w w':World} {e:Ending} {cap:Nat} (hw:FB w fb p rs fl) (hc:rs.length≤cap)
  (h:(∃ v,e = .returned v∧OwnL w' w.heap.size v Z.length (pqo Z))∧w.grownBy w' (some fb)∧w'.heap[fb]? = some (Jc #[.slice p rs.length cap,.bool (QdR fl (fun j=>cd (Z.getD j none)) Z.length)] 150 (0,0))) :
  AnsB fb p rs Z (fl || Z.any (·.isNone)) w e w':=by
 obtain ⟨⟨v,rfl,hO⟩,hg,hf⟩:=h;obtain ⟨g,c2,rfl,_,k1,_,k3⟩:=Qdc hO hz;rw [Qjs fl Z _ Lr,List.take_length] at hf;exact ⟨hg,⟨⟨cap,hf,hc⟩,hw.low,hw.rl.grown hw.fc (fun a e=>Nat.ne_of_lt (hw.low a e)) hg,hw.rad,hw.fits⟩,_,rfl,⟨g,0,c2,rfl,k1,k3⟩,fz⟩
theorem Qvq {X Y:List (Option Rat)} {fb:Nat} {p:Option Addr} {rs:List (List Rat)} {fl:Bool} {vx vy:Value} (hl:Y.length=X.length) (hn:1≤X.length∧X.length≤1000) (w:World) (hf:FB w fb p rs fl) (hx:Eo w vx X) (hy:Eo w vy Y) :
  Calls Tryz.prog 234 #[.pointer (some ⟨fb,0,none⟩),vx,vy] w (AnsB fb p rs (List.zipWith (Qbk addQ) X Y) (fl || (List.zipWith (Qbk addQ) X Y).any (·.isNone)) w):=by
 obtain ⟨b,o,c,rfl,h1,h2⟩:=hx.ex;obtain ⟨b',o',c',rfl,h1',h2'⟩:=hy.ex;obtain ⟨cap,hb,hc⟩:=hf.box;have hl2:(List.zipWith (Qbk addQ) X Y).length=X.length:=by rw [List.length_zipWith,hl,Nat.min_self]
 rw [hl] at h1' h2' ⊢
 have hq:=Qpa X.length hn.2 b o c b' o' c' fb (.slice p rs.length cap) ⟨_,_,_,rfl⟩ fl h1 h1' (pqo X) (pqo Y) (pqo (List.zipWith (Qbk addQ) X Y)) (fun j=>cd ((List.zipWith (Qbk addQ) X Y).getD j none)) (fun j hj=>by
  have:=Qrs (hx.at_ j) (hy.at_ j);rw [←Qip hj (by rw [hl];exact hj)] at this;exact this) w h2 h2' hb
 have hA:=fun (e:Ending) (w':World) h=>Qlw (Z:=List.zipWith (Qbk addQ) X Y) (w:=w) (w':=w') (e:=e) (by rw [hl2];exact hn.1) (Qpb (fun _ _ _ h=>FitQ.addQ h) X Y) hf hc (by rw [hl2];exact h);generalize List.zipWith (Qbk addQ) X Y=Z at *
 clear hx hy h2 h2' hb hf;go_enter Tryz.func234, Tryz.ntmps234;go_wp2_with fail;refine hq.mono ?_;intro e w1 h;have h:=hA e w1 h;obtain ⟨v,rfl,_⟩:=h.good;clear hq hA;go_wp2_with fail;go_ret;exact h
theorem Qvr {X Y:List (Option Rat)} {fb:Nat} {p:Option Addr} {rs:List (List Rat)} {fl:Bool} {vx vy:Value} (hl:Y.length=X.length) (hn:1≤X.length∧X.length≤1000) (w:World) (hf:FB w fb p rs fl) (hx:Eo w vx X) (hy:Eo w vy Y) :
  Calls Tryz.prog 216 #[.pointer (some ⟨fb,0,none⟩),vx,vy] w (AnsB fb p rs (List.zipWith (Qbk subQ) X Y) (fl || (List.zipWith (Qbk subQ) X Y).any (·.isNone)) w):=by
 obtain ⟨b,o,c,rfl,h1,h2⟩:=hx.ex;obtain ⟨b',o',c',rfl,h1',h2'⟩:=hy.ex;obtain ⟨cap,hb,hc⟩:=hf.box;have hl2:(List.zipWith (Qbk subQ) X Y).length=X.length:=by rw [List.length_zipWith,hl,Nat.min_self]
 rw [hl] at h1' h2' ⊢
 have hq:=QmK X.length hn.2 b o c b' o' c' fb (.slice p rs.length cap) ⟨_,_,_,rfl⟩ fl h1 h1' (pqo X) (pqo Y) (pqo (List.zipWith (Qbk addQ) X Y)) (pqo (List.zipWith (Qbk subQ) X Y)) (fun j=>cd ((List.zipWith (Qbk addQ) X Y).getD j none)) (fun j=>cd ((List.zipWith (Qbk subQ) X Y).getD j none)) (fun j hj=>by
  have:=Qrs (hx.at_ j) (hy.at_ j);rw [←Qip hj (by rw [hl];exact hj)] at this;exact this) (fun j hj=>by
  have:=QuB (hx.at_ j) (hy.at_ j);rw [←Qip hj (by rw [hl];exact hj)] at this;exact this) w h2 h2' hb
 have hA:=fun (e:Ending) (w':World) h=>Qlw (Z:=List.zipWith (Qbk subQ) X Y) (w:=w) (w':=w') (e:=e) (by rw [hl2];exact hn.1) (Qpb (fun _ _ _ h=>FitQ.subQ h) X Y) hf hc (by rw [hl2];exact h);generalize List.zipWith (Qbk subQ) X Y=Z at *
 clear hx hy h2 h2' hb hf;go_enter Tryz.func216, Tryz.ntmps216;go_wp2_with fail;refine hq.mono ?_;intro e w1 h;have h:=hA e w1 h;obtain ⟨v,rfl,_⟩:=h.good;clear hq hA;go_wp2_with fail;go_ret;exact h
theorem QrH {X Y:List (Option Rat)} {fb:Nat} {p:Option Addr} {rs:List (List Rat)} {fl:Bool} {vx vy:Value} {n:Nat} {ox oy:Option (List Rat)} (hx:X.length=n) (hy:Y.length=n) (hn:1≤n∧n≤1000) (w:World) (hf:FB w fb p rs fl) (ex:Eo w vx X) (ey:Eo w vy Y) (kx:Val X fl ox) (ky:Val Y fl oy) :
  Calls Tryz.prog 234 #[.pointer (some ⟨fb,0,none⟩),vx,vy] w (AnsW fb p rs n fl (ox.bind fun x=>oy.bind fun y=>Qaj addQ x y) w) :=
 (Qvq (by omega) (by omega) w hf ex ey).mono fun _ _ h=>h.w hx hy kx ky
theorem Qvs {X Y:List (Option Rat)} {fb:Nat} {p:Option Addr} {rs:List (List Rat)} {fl:Bool} {vx vy:Value} {n:Nat} {ox oy:Option (List Rat)} (hx:X.length=n) (hy:Y.length=n) (hn:1≤n∧n≤1000) (w:World) (hf:FB w fb p rs fl) (ex:Eo w vx X) (ey:Eo w vy Y) (kx:Val X fl ox) (ky:Val Y fl oy) :
  Calls Tryz.prog 216 #[.pointer (some ⟨fb,0,none⟩),vx,vy] w (AnsW fb p rs n fl (ox.bind fun x=>oy.bind fun y=>Qaj subQ x y) w) :=
 (Qvr (by omega) (by omega) w hf ex ey).mono fun _ _ h=>h.w hx hy kx ky
structure KG (gb:Nat) where
 P:World→Prop
 keep:∀ W W',FC W gb→W.grownBy W' (some gb)→P W→P W'
structure Kg (gb:Nat) (l:List (KG gb)) (W:World):Prop where
 fc:FC W gb
 all:∀ k∈l,k.P W
theorem Kg.step {gb:Nat} {l:List (KG gb)} {W W':World} (h:Kg gb l W) (hg:W.grownBy W' (some gb)) (hf:FC W' gb):Kg gb l W':=⟨hf,fun k hk=>k.keep W W' h.fc hg (h.all k hk)⟩
theorem of_below {W W':World} (u:Below W.heap.size W W') (r:Option Nat):W.grownBy W' r:=⟨u.os,u.tape,u.output,u.size,fun k hk _=>u.block k hk⟩
theorem FC.keep {W W':World} {gb:Nat} (h:FC W gb) (u:Below W.heap.size W W'):FC W' gb:=by
 obtain ⟨p,n,cap,b,hf⟩:=h;exact ⟨p,n,cap,b,En.Qac hf u⟩
theorem Kg.keep {gb:Nat} {l:List (KG gb)} {W W':World} (h:Kg gb l W) (u:Below W.heap.size W W'):Kg gb l W':=h.step (of_below u _) (h.fc.keep u)
theorem Kg.add {gb:Nat} {l:List (KG gb)} {W:World} (h:Kg gb l W) (k:KG gb) (hk:k.P W):Kg gb (k :: l) W:=⟨h.fc,fun x hx=>by
 rcases List.mem_cons.1 hx with rfl | hx
 ·exact hk
 ·exact h.all x hx⟩
def gEo (gb:Nat) (v:Value) (X:List (Option Rat)):KG gb:=⟨fun W=>Eo W v X,fun _ _ hf hg h=>h.grown hf hg⟩
def gFB (gb fb:Nat) (p:Option Addr) (rs:List (List Rat)) (fl:Bool) (hne:fb<gb):KG gb:=⟨fun W=>FB W fb p rs fl,fun _ _ hf hg h=>h.grown hf (Nat.ne_of_lt hne) (fun a e=>Nat.ne_of_lt (Nat.lt_trans (h.low a e) hne)) hg⟩
noncomputable def mulR:List (List Rat)→List Rat→List Rat→Option (List Rat)
 | [],x,y=>Qaj mulQ x y
 | d :: rs,x,y=>((mulR rs (hl x) (hl y)).bind fun ac=>((mulR rs (hr x) (hr y)).bind fun be=>mulR rs be d).bind fun bed=>Qaj addQ ac bed).bind fun p =>
  ((mulR rs (hl x) (hr y)).bind fun ae=>(mulR rs (hr x) (hl y)).bind fun bc=>Qaj addQ ae bc).map fun q=>p++q
theorem Qpc (o1 o2 o5 o6:Option (List Rat)) (g:List Rat→Option (List Rat)) (f:List Rat→List Rat→Option (List Rat)) {fl:Bool} {o:Option (List Rat)}
  (hf:fl=(((((((o1.isNone || o2.isNone) || (o2.bind g).isNone) || (o1.bind fun x=>(o2.bind g).bind fun y=>f x y).isNone) || o5.isNone) || o6.isNone) || (o5.bind fun x=>o6.bind fun y=>f x y).isNone)))
  (ho:o=((o1.bind fun x=>(o2.bind g).bind fun y=>f x y).bind fun p=>(o5.bind fun x=>o6.bind fun y=>f x y).map fun q=>p++q)):fl=o.isNone:=by
 subst hf ho;cases o1 with
 | none=>cases o2 <;> simp
 | some a =>
  cases o2 with
  | none=>simp
  | some b =>
   cases h3:g b with
   | none=>simp [h3]
   | some c =>
    cases h4:f a c with
    | none=>simp [h3,h4]
    | some e =>
     cases o5 with
     | none=>simp [h3,h4]
     | some x =>
      cases o6 with
      | none=>simp [h3,h4]
      | some y=>simp [h3,h4]
def MulC (rs:List (List Rat)):Prop:=∀ {X Y:List (Option Rat)} {fb:Nat} {p:Option Addr} {fl:Bool} {ox oy:Option (List Rat)} {vx vy:Value},X.length=2^rs.length→Y.length=2^rs.length→Val X fl ox→Val Y fl oy→∀ w,FB w fb p rs fl→Eo w vx X→Eo w vy Y →
 Calls Tryz.prog 217 #[.pointer (some ⟨fb,0,none⟩),vx,vy] w (AnsW fb p rs (2^rs.length) fl (ox.bind fun x=>oy.bind fun y=>mulR rs x y) w)
theorem QhG {rs:List (List Rat)} (hk:rs.length≤4) {X:List (Option Rat)} {fb:Nat} {p:Option Addr} {vx vy:Value} (o:Option (List Rat)) (hX:X.length=2^rs.length) (w:World) (hf:FB w fb p rs true) (ex:Eo w vx X) :
  Calls Tryz.prog 217 #[.pointer (some ⟨fb,0,none⟩),vx,vy] w (AnsW fb p rs (2^rs.length) true o w):=by
 have hp:=QbG hk;rw [←hX] at hp ⊢;obtain ⟨cap,hb,hc⟩:=hf.box;have x1:=En.Qaa hb 1 (v:=.bool true) rfl;have hq:=QtD X.length (by omega) w;obtain ⟨b,o1,c,rfl,h1,h2⟩:=ex.ex;have HF:Sh (∀ W',Below w.heap.size w W'→FB W' fb p rs true):=⟨fun W' u=>hf.keep u⟩;have HL:Sh (((zeros X.length).map some).length=X.length):=⟨by rw [List.length_map,QaR]⟩;clear hf ex h2 hb hX hk;generalize X.length=n at *
 generalize (zeros n).map some=Z at *
 go_enter Tryz.func217, Tryz.ntmps217;go_wp2_with fail;refine hq.mono ?_;intro e w1 h;obtain ⟨v,rfl,hv⟩:=h.good;have u:=h.below;clear hq h;go_wp2_with fail;go_ret;exact ⟨of_below u _,v,Z,rfl,hv,HL.o,by rw [Bool.true_or];exact HF.o _ u,fun hc=>by rw [Bool.true_or] at hc;cases hc⟩
theorem Qvt {f:Rat→Rat→Option Rat} (x y:Rat):Qaj f [x] [y]=(f x y).map fun z => [z]:=by
 cases h:f x y <;> simp [Qaj,h]
theorem QtE:MulC []:=by
 intro X Y fb p fl ox oy vx vy hX hY kx ky w hf ex ey;cases fl with
 | true=>exact QhG (rs := []) (by decide) _ hX w hf ex
 | false =>
  obtain ⟨x,rfl,rfl⟩:=kx rfl;obtain ⟨y,rfl,rfl⟩:=ky rfl;obtain ⟨x,rfl⟩:∃ a,x = [a]:=List.length_eq_one_iff.1 (by simpa using hX);obtain ⟨y,rfl⟩:∃ a,y = [a]:=List.length_eq_one_iff.1 (by simpa using hY);obtain ⟨cap,hb,hc⟩:=hf.box;have x1:=En.Qaa hb 1 (v:=.bool false) rfl;have x0:=En.Qaa hb 0 (v:=.slice p 0 cap) rfl;have ff:=En.Qad hb 1;obtain ⟨b,o,c,rfl,h1,h2⟩:=ex.ex;obtain ⟨b',o',c',rfl,h1',h2'⟩:=ey.ex;have cM:=QuC (ex.at_ 0) (ey.at_ 0);have p0:pqo ([x].map some) 0=pq x:=rfl;have q0:pqo ([y].map some) 0=pq y:=rfl;obtain ⟨k0,k1⟩:=h2.at_ 0 (by simp);obtain ⟨k2,k3⟩:=h2'.at_ 0 (by simp);rw [p0] at k0 k1;rw [q0] at k2 k3;rw [Nat.zero_mul,Nat.add_zero] at k0 k1 k2 k3;have cM:∀ W:World,Calls Tryz.prog 233 #[.agg #[J (pq x).1,J (pq x).2],.agg #[J (pq y).1,J (pq y).2]] W _:=cM;have HF:Sh _:=⟨hf⟩;have hfit:Sh (FitO (mulQ x y)):=⟨⟨fun q h=>FitQ.mulQ h⟩⟩;have hlt:=(Array.getElem?_eq_some_iff.1 hb).1
  have e1:Sh ((Qaj mulQ [x] [y]).isNone=(mulQ x y).isNone∧∀ fl,Val [mulQ x y] (fl || (Qaj mulQ [x] [y]).isNone) (Qaj mulQ [x] [y])):=by
   refine ⟨?_,fun fl hc => ?_⟩
   ·rw [Qvt];cases mulQ x y <;> rfl
   ·rw [Qvt] at hc ⊢;cases hm:mulQ x y with
    | none=>rw [hm] at hc;simp at hc
    | some z=>exact ⟨[z],rfl,rfl⟩
  have hres:Qbk mulQ (([x].map some).getD 0 none) (([y].map some).getD 0 none)=mulQ x y:=rfl;rw [hres] at cM;rw [show ((some [x]).bind fun x=>(some [y]).bind fun y=>mulR [] x y)=Qaj mulQ [x] [y] from rfl];have hcd:Sh ((cd (mulQ x y) != 0)=(mulQ x y).isNone):=⟨by cases mulQ x y <;> rfl⟩;have hst:Sh ((sn (mulQ x y),sd (mulQ x y))=pqo [mulQ x y] 0):=⟨rfl⟩;clear hX hY kx ky ex ey h2 h2' hres p0 q0 hf h1 h1';unfold resO at cM;generalize Qaj mulQ [x] [y]=O at *
  generalize mulQ x y=r at *
  generalize pq x=gx at *
  generalize pq y=gy at *
  generalize hs:sn r=rn at *
  generalize hd:sd r=rd at *
  generalize hcc:cd r=rc at *
  have hs:Sh _:=⟨hs⟩;have hd:Sh _:=⟨hd⟩;clear hcc;show Calls Tryz.prog 217 #[.pointer (some ⟨fb,0,none⟩),.slice (some ⟨b,o,none⟩) 1 c,.slice (some ⟨b',o',none⟩) 1 c'] w _;go_enter Tryz.func217, Tryz.ntmps217;go_wp2_with fail;have SS:Sh (∀ X,Below w.heap.size w X→X.cell? ⟨b,o,none⟩=some (J gx.1)∧X.cell? ⟨b,o+1,none⟩=some (J gx.2)∧X.cell? ⟨b',o',none⟩=some (J gy.1)∧X.cell? ⟨b',o'+1,none⟩=some (J gy.2)):=⟨fun X hX=>⟨Qae k0 hX,Qae k1 hX,Qae k2 hX,Qae k3 hX⟩⟩
  go_cut [7,8] from 29 to 38 (fun s1 s2 wx=>∃ br,s1 = .pointer (some ⟨br,0,none⟩)∧s2 = .int .i64 rc∧wx.heap[br]? = some (Jc #[J rn,J rd] 42 (0,0))∧w.heap.size≤br∧Below w.heap.size w wx)
  case first =>
   (go_region_held (fun X=>X.cell? ⟨b,o,none⟩=some (J gx.1)∧X.cell? ⟨b,o+1,none⟩=some (J gx.2)∧X.cell? ⟨b',o',none⟩=some (J gy.1)∧X.cell? ⟨b',o'+1,none⟩=some (J gy.2)) (first | exact SS.o _ (QaS (Below.refl _ _)) | exact SS.o _ (QaS ((Below.refl _ _).alloc Lr _)) | exact SS.o _ u2 | exact SS.o _ (u2.alloc u2.size _) | exact SS.o _ (u2.setCell (by first | exact Nat.le_refl _ | exact u2.size | (simp;done)) _) | exact SS.o _ ((u2.setCell (by first | exact Nat.le_refl _ | exact u2.size | (simp;done)) _).setCell (by first | exact Nat.le_refl _ | exact u2.size | (simp;done)) _) | exact SS.o _ (((u2.alloc u2.size _).setCell (by first | exact Nat.le_refl _ | exact u2.size | (simp;done)) _).setCell (by first | exact Nat.le_refl _ | exact u2.size | (simp;done)) _) | fail)
    (first
     | (go_at_call 233; have hq:=cM w.drew;(with_reducible refine hq.mono ?_);rintro e x2 ⟨rfl,g2⟩;have u2:Below w.heap.size w x2:=Qah g2;have n2:=World.alloc_heap_new x2 (Jc #[J ⟨#[]⟩,J ⟨#[]⟩] 42);have z0:=En.Qaa n2 0 (v:=J ⟨#[]⟩) rfl;have z1:=En.Qaa n2 1 (v:=J ⟨#[]⟩) rfl;have y0:=En.Qad n2 0;have y1:=En.Qad n2 1;clear hq g2)
     | (go_at_call 233; have hq:=cM (w.alloc (Jc #[J ⟨#[]⟩,J ⟨#[]⟩] 42)).drew;(with_reducible refine hq.mono ?_);rintro e x2 ⟨rfl,g2⟩;have u2:Below w.heap.size w x2:=((Below.refl _ _).alloc Lr (Jc #[J ⟨#[]⟩,J ⟨#[]⟩] 42)).trans ((Qah g2).mono (by simp));have n2:=En.Qac (World.alloc_heap_new w (Jc #[J ⟨#[]⟩,J ⟨#[]⟩] 42)) (Qah g2);have z0:=En.Qaa n2 0 (v:=J ⟨#[]⟩) rfl;have z1:=En.Qaa n2 1 (v:=J ⟨#[]⟩) rfl;have y0:=En.Qad n2 0;have y1:=En.Qad n2 1;clear hq g2)
     | fail);all_goals (try clear SS))
   all_goals
    go_wp2_with fail
    go_meet
    first
     | exact ⟨_,rfl,rfl,Qbc n2,Nat.le_refl _,(u2.setCell Lr _).setCell Lr _⟩
     | exact ⟨_,rfl,rfl,World.alloc_heap_new x2 _,u2.size,u2.alloc u2.size _⟩
  case rest =>
  obtain ⟨br,rfl,rfl,nr,hbr,ux⟩:=hcut;clear k0 k1 k2 k3 SS cM;have HF2:Sh _:=⟨(HF.o.keep ux).set (rc != 0)⟩;have nf:=En.Qac hb ux;have f1:=En.Qaa nf 1 (v:=.bool false) rfl;have ff2:=En.Qad nf 1;have hbf:br≠fb:=by omega
  have hbf2:=hbf.symm;have r0:=En.Qaa nr 0 (v:=J rn) rfl;have r1:=En.Qaa nr 1 (v:=J rd) rfl;have hg:=World.grownBy.trans (of_below ux (some fb)) (Qar (W:=wc) (fb:=fb) 1 (.bool (rc != 0)));have u9:=(Below.refl (wc.setCell ⟨fb,1,none⟩ (.bool (rc != 0))).heap.size (wc.setCell ⟨fb,1,none⟩ (.bool (rc != 0)))).alloc Lr (Jc #[J rn,J rd] 42);have n9:=World.alloc_heap_new (wc.setCell ⟨fb,1,none⟩ (.bool (rc != 0))) (Jc #[J rn,J rd] 42);have hfl:Sh ((rc != 0)=O.isNone):=⟨hcd.o.trans e1.o.1.symm⟩;clear ux HF hb x1 x0 ff nf;go_wp2_with fail;go_ret;have hz:(wc.setCell ⟨fb,1,none⟩ (.bool (rc != 0))).heap.size=wc.heap.size:=by simp [World.setCell]
  rw [hz] at n9;refine ⟨World.grownBy.trans hg (World.grownBy_alloc _ _ _),_, [r],rfl,⟨⟨wc.heap.size,0,1,rfl,Nat.le_refl _,⟨fun i hi => ?_⟩⟩,fun q hq => ?_⟩,rfl, ?_,e1.o.2 _⟩
  ·obtain rfl:i=0:=by simpa using hi
   rw [←hst.o];exact ⟨En.Qaa n9 0 rfl,En.Qaa n9 1 rfl⟩
  ·rw [List.mem_singleton.1 hq];exact hfit.o
  ·rw [Bool.false_or,←hfl.o];exact HF2.o.keep u9
end Tw
end
section
namespace Tw
open Go.Proofs.YtadcmepaniiciaaGreatDoor.Nm Go.Proofs.YtadcmepaniiciaaGreatDoor.Rt
theorem QtF {q:Rat} (h:FitQ q):mulQ 0 q=some 0:=by
 rw [mulQ,if_pos ⟨by rw [show (0:Rat).num=0 from rfl,Int.zero_mul];exact Qas (by decide),by rw [show ((0:Rat).den:Int)=1 from rfl,Int.one_mul];exact h.2⟩,Rat.zero_mul]
theorem QtG {q:Rat} (h:FitQ q):mulQ q 0=some 0:=by
 rw [mulQ,if_pos ⟨by rw [show (0:Rat).num=0 from rfl,Int.mul_zero];exact Qas (by decide),by rw [show ((0:Rat).den:Int)=1 from rfl,Int.mul_one];exact h.2⟩,Rat.mul_zero]
theorem QtH:addQ 0 0=some 0:=by
 rw [Qlm];decide +kernel
theorem Qpd (n:Nat):Qaj addQ (zeros n) (zeros n)=some (zeros n):=by
 induction n with
 | zero=>rfl
 | succ n ih =>
  rw [zeros,List.replicate_succ,Qaj,QtH,Option.bind_some];rw [zeros] at ih;rw [ih];rfl
theorem QgT (k:Nat):zeros (2^(k+1))=zeros (2^k)++zeros (2^k):=by
 rw [zeros,zeros,Nat.pow_succ,Nat.mul_two,←List.replicate_append_replicate]
theorem QfS {rs:List (List Rat)} {d a b c g:List Rat} (h1:a.length=b.length) (h2:c.length=g.length) :
  mulR (d :: rs) (a++b) (c++g)=((mulR rs a c).bind fun ac=>((mulR rs b g).bind fun be=>mulR rs be d).bind fun bed=>Qaj addQ ac bed).bind fun p =>
  ((mulR rs a g).bind fun ae=>(mulR rs b c).bind fun bc=>Qaj addQ ae bc).map fun q=>p++q:=by
 rw [mulR,(QaB h1).1,(QaB h1).2,(QaB h2).1,(QaB h2).2]
theorem zl (n:Nat):(zeros n).length=n:=by rw [zeros,List.length_replicate]
theorem Qir:∀ {rs:List (List Rat)} {y:List Rat},Qdz rs→(∀ d∈rs,FitL d)→y.length=2^rs.length→FitL y→mulR rs (zeros (2^rs.length)) y=some (zeros (2^rs.length))
 | [],y,_,_,hy,fy=>by
  obtain ⟨q,rfl⟩:∃ q,y = [q]:=List.length_eq_one_iff.1 hy;show Qaj mulQ [0] [q]=some [0];rw [Qaj,QtF (fy q (by simp))];rfl
 | d :: rs,y,hr,hd,hy,fy=>by
  obtain ⟨c,g,rfl,lc,lg⟩:=QcB hy;have fc:=fy.app;have ih:=fun {y:List Rat}=>Qir (rs:=rs) (y:=y) hr.2 (fun x hx=>hd x (by simp [hx]));rw [List.length_cons,QgT,QfS rfl (by rw [lc,lg]),ih lc fc.1,ih lg fc.2,Option.bind_some,Option.bind_some,ih hr.1 (hd d (by simp)),Option.bind_some,Option.bind_some,Option.bind_some,Qpd,Option.bind_some];rfl
theorem Qkp:∀ {rs:List (List Rat)} {x:List Rat},Qdz rs→(∀ d∈rs,FitL d)→x.length=2^rs.length→FitL x→mulR rs x (zeros (2^rs.length))=some (zeros (2^rs.length))
 | [],x,_,_,hx,fx=>by
  obtain ⟨q,rfl⟩:∃ q,x = [q]:=List.length_eq_one_iff.1 hx;show Qaj mulQ [q] [0]=some [0];rw [Qaj,QtG (fx q (by simp))];rfl
 | d :: rs,x,hr,hd,hx,fx=>by
  obtain ⟨a,b,rfl,la,lb⟩:=QcB hx;have fa:=fx.app;have ih:=fun {x:List Rat}=>Qkp (rs:=rs) (x:=x) hr.2 (fun x hx=>hd x (by simp [hx]));have il:=fun {y:List Rat}=>Qir (rs:=rs) (y:=y) hr.2 (fun x hx=>hd x (by simp [hx]));rw [List.length_cons,QgT,QfS (by rw [la,lb]) rfl,ih la fa.1,ih lb fa.2,Option.bind_some,Option.bind_some,il hr.1 (hd d (by simp)),Option.bind_some,Option.bind_some,Option.bind_some,Qpd,Option.bind_some];rfl
theorem Qis:∀ {rs:List (List Rat)} {x y:List Rat},Qdz rs→(∀ d∈rs,FitL d)→x.length=2^rs.length→y.length=2^rs.length→FitL x→FitL y→mulR rs x y=mulO rs x y
 | [],x,y,hr,hd,hx,hy,fx,fy=>by
  by_cases hz:(QbQ x || QbQ y)=true
  ·rw [mulO,if_pos hz,hx];rcases Bool.or_eq_true_iff.1 hz with h | h
   ·have e:=Qee h;rw [hx] at e;rw [e];exact Qir (rs := []) hr hd hy fy
   ·have e:=Qee h;rw [hy] at e;rw [e];exact Qkp (rs := []) hr hd hx fx
  ·rw [mulO,if_neg hz,mulR]
 | d :: rs,x,y,hr,hd,hx,hy,fx,fy=>by
  by_cases hz:(QbQ x || QbQ y)=true
  ·rw [mulO,if_pos hz,hx];rcases Bool.or_eq_true_iff.1 hz with h | h
   ·have e:=Qee h;rw [hx] at e;rw [e];exact Qir hr hd hy fy
   ·have e:=Qee h;rw [hy] at e;rw [e];exact Qkp hr hd hx fx
  ·obtain ⟨a,b,rfl,la,lb⟩:=QcB hx;obtain ⟨c,g,rfl,lc,lg⟩:=QcB hy;have fa:=fx.app;have fc:=fy.app;have ih:=fun {x y:List Rat}=>Qis (rs:=rs) (x:=x) (y:=y) hr.2 (fun x hx=>hd x (by simp [hx]));rw [Qlg (by rw [la,lb]) (by rw [lc,lg]) hz,QfS (by rw [la,lb]) (by rw [lc,lg]),ih la lc fa.1 fc.1,ih lb lg fa.2 fc.2,ih la lg fa.1 fc.2,ih lb lc fa.2 fc.1]
   have e:((mulO rs b g).bind fun be=>mulR rs be d)=((mulO rs b g).bind fun be=>mulO rs be d):=by
    cases ho:mulO rs b g with
    | none=>rfl
    | some be =>
     rw [Option.bind_some,Option.bind_some];exact ih (QaN hr.2 lb lg ho) hr.1 (QbL ho) (hd d (by simp))
   rw [e];rcases mulO rs a c with _ | ac
   ·rfl
   ·rcases ((mulO rs b g).bind fun be=>mulO rs be d) with _ | bed
    ·rfl
    ·simp only [Option.bind_some];rcases Qaj addQ ac bed with _ | p
     ·rfl
     ·rcases mulO rs a g with _ | ae
      ·rfl
      ·rcases mulO rs b c with _ | bc <;> rfl
noncomputable def nrmR (rs:List (List Rat)) (d x:List Rat):Option (List Rat) :=
 (mulR rs (hl x) (hl x)).bind fun aa=>((mulR rs (hr x) (hr x)).bind fun bb=>mulR rs bb d).bind fun bbd=>Qaj subQ aa bbd
theorem QtI {rs:List (List Rat)} {d a b:List Rat} (hr:Qdz rs) (hd:∀ d∈rs,FitL d) (ld:d.length=2^rs.length) (fd:FitL d) (la:a.length=2^rs.length) (lb:b.length=2^rs.length) (fa:FitL a) (fb:FitL b) :
  ((mulR rs a a).bind fun aa=>((mulR rs b b).bind fun bb=>mulR rs bb d).bind fun bbd=>Qaj subQ aa bbd)=nrmO rs d (a++b):=by
 rw [nrmO,(QaB (by rw [la,lb])).1,(QaB (by rw [la,lb])).2,Qis hr hd la la fa fa,Qis hr hd lb lb fb fb]
 have e:((mulO rs b b).bind fun be=>mulR rs be d)=((mulO rs b b).bind fun be=>mulO rs be d):=by
  cases ho:mulO rs b b with
  | none=>rfl
  | some be =>
   rw [Option.bind_some,Option.bind_some];exact Qis hr hd (QaN hr lb lb ho) ld (QbL ho) fd
 rw [e];rcases mulO rs a a with _ | ac
 ·rfl
 ·rcases mulO rs b b with _ | bed <;> rfl
theorem Qpe (o1 o2:Option (List Rat)) (g:List Rat→Option (List Rat)) (f:List Rat→List Rat→Option (List Rat)) {fl:Bool} {o:Option (List Rat)}
  (hf:fl=((((o1.isNone || o2.isNone) || (o2.bind g).isNone) || (o1.bind fun x=>(o2.bind g).bind fun y=>f x y).isNone)))
  (ho:o=(o1.bind fun x=>(o2.bind g).bind fun y=>f x y)):fl=o.isNone:=by
 subst hf ho;cases o1 with
 | none=>cases o2 <;> simp
 | some a =>
  cases o2 with
  | none=>simp
  | some b =>
   cases h3:g b with
   | none=>simp [h3]
   | some c =>
    cases h4:f a c with
    | none=>simp [h3,h4]
    | some e=>simp [h3,h4]
end Tw
end
namespace Tw
open Go.RowKit Go.Extern.Stop Go.Stop Go.Extern
open En Go.Proofs.YtadcmepaniiciaaGreatDoor.Nm Go.Proofs.YtadcmepaniiciaaGreatDoor.Rt
theorem QqT {rs:List (List Rat)} (hk:rs.length≤3) (d:List Rat) (ih:MulC rs):MulC (d :: rs):=by
 intro X Y fb p fl ox oy vx vy hX hY kx ky w hf ex ey;cases fl with
 | true=>exact QhG (rs:=d :: rs) (by rw [List.length_cons];omega) _ hX w hf ex
 | false =>
 obtain ⟨x,rfl,rfl⟩:=kx rfl;obtain ⟨y,rfl,rfl⟩:=ky rfl;rw [List.length_map] at hX hY;obtain ⟨a,b,rfl,la,lb⟩:=QcB hX;obtain ⟨c,g,rfl,lc,lg⟩:=QcB hY;have hp:=QbG (show rs.length≤4 by omega);have ld:d.length=2^rs.length:=hf.rad.1;have lt:∀ {z:List Rat},z.length=2^rs.length→(z.map some).length=2^rs.length:=fun h=>by rw [List.length_map,h]
 have hN:1≤2^rs.length∧2^rs.length≤1000:=by omega
 rw [Option.bind_some,Option.bind_some,QfS (by rw [la,lb]) (by rw [lc,lg])];rw [List.map_append] at ex ey;obtain ⟨f0,hf0⟩:∃ f,f=false:=⟨_,rfl⟩;rw [←hf0] at hf ⊢;have HW:Sh (FB w fb p (d :: rs) f0):=⟨hf⟩;have hfb:fb<w.heap.size:=by obtain ⟨_,hb,_⟩:=hf.box;exact (Array.getElem?_eq_some_iff.1 hb).1
 obtain ⟨cap,hb,_⟩:=hf.box;have x1:=En.Qaa hb 1 (v:=.bool f0) rfl;have x0:=En.Qaa hb 0 (v:=.slice p (d :: rs).length cap) rfl;rw [show (d :: rs).length=rs.length+1 from rfl] at x0;rw [hf0] at x1;have hm2:¬((rs.length:Int)+1=0):=by omega
 replace hf0:Sh _:=⟨hf0⟩;have EX:Sh (Eo w vx (a.map some++b.map some)):=⟨ex⟩;have EY:Sh (Eo w vy (c.map some++g.map some)):=⟨ey⟩;have l2:2^(d :: rs).length=2^rs.length+2^rs.length:=by rw [List.length_cons,Nat.pow_succ];omega
 rw [l2];clear hf ex ey kx ky hX hY hb;go_enter Tryz.func217, Tryz.ntmps217;go_wp2_with fail;have hq:=Qko (by omega) w HW.o;refine hq.mono ?_;rintro e W ⟨⟨gb,rfl,hgb,hG⟩,u⟩;have hlt:fb<gb:=by omega
 have hB:Sh (Below w.heap.size w W):=⟨u⟩;have hK:Sh (Kg gb [gFB gb fb p (d :: rs) f0 hlt] W):=⟨⟨hG.fc,fun k hk=>by rw [List.mem_singleton.1 hk];exact HW.o.keep u⟩⟩;have hG:Sh (FB W gb p rs f0):=⟨hG⟩;have EX:Sh (Eo W vx (a.map some++b.map some)):=⟨EX.o.keep u⟩;have EY:Sh (Eo W vy (c.map some++g.map some)):=⟨EY.o.keep u⟩;clear hq u;go_wp2_with fail;have hq:=QfR (a:=a.map some) (b:=b.map some) (by rw [lt la,lt lb]) ⟨by rw [lt la];omega,by rw [lt la];omega⟩ W EX.o;refine hq.mono ?_;rintro e V ⟨⟨va,vb,rfl,ea,eb⟩,u⟩;have hB:=hB.tr u;have hG:Sh (FB V gb p rs f0):=⟨hG.o.keep u⟩;have hK:Sh (Kg gb [gEo gb va (a.map some),gEo gb vb (b.map some),gFB gb fb p (d :: rs) f0 hlt] V):=⟨((hK.o.keep u).add (gEo gb vb (b.map some)) eb).add (gEo gb va (a.map some)) ea⟩
 try have EY:Sh (Eo V vy _):=⟨EY.o.keep u⟩
 clear hq ea eb u
 rename World=>W
 go_wp2_with fail;have hq:=QfR (a:=c.map some) (b:=g.map some) (by rw [lt lc,lt lg]) ⟨by rw [lt lc];omega,by rw [lt lc];omega⟩ W EY.o;refine hq.mono ?_;rintro e V ⟨⟨vc,vg,rfl,ea,eb⟩,u⟩;have hB:=hB.tr u;have hG:Sh (FB V gb p rs f0):=⟨hG.o.keep u⟩;have hK:Sh (Kg gb [gEo gb vc (c.map some),gEo gb vg (g.map some),gEo gb va (a.map some),gEo gb vb (b.map some),gFB gb fb p (d :: rs) f0 hlt] V):=⟨((hK.o.keep u).add (gEo gb vg (g.map some)) eb).add (gEo gb vc (c.map some)) ea⟩;clear hq ea eb u
 rename World=>W
 go_wp2_with fail;have hq:=ih (fb:=gb) (lt la) (lt lc) (Val.some a _) (Val.some c _) W hG.o (hK.o.all _ Mm2) (hK.o.all _ Mm0);refine hq.mono ?_;rintro e V ⟨gr,v1,Z1,rfl,ez,lz1,hG',kz⟩;have hB:=hB.gn gr hgb;have hK:Sh (Kg gb [gEo gb v1 (Z1),gEo gb vc (c.map some),gEo gb vg (g.map some),gEo gb va (a.map some),gEo gb vb (b.map some),gFB gb fb p (d :: rs) f0 hlt] V):=⟨(hK.o.step gr hG'.fc).add (gEo gb v1 Z1) ez⟩;obtain ⟨o1,ho1⟩:∃ o:Option (List Rat),o=mulR rs a c:=⟨_,rfl⟩;obtain ⟨f1,hf1⟩:∃ f,f=(f0 || o1.isNone):=⟨_,rfl⟩;replace hG':FB V gb p rs f1:=by rw [hf1,ho1];exact hG'
 have hG:Sh (FB V gb p rs f1):=⟨hG'⟩;have kz1:Sh (Val Z1 f1 o1):=⟨by rw [hf1,ho1];exact kz⟩;replace ho1:Sh _:=⟨ho1⟩;replace hf1:Sh _:=⟨hf1⟩;clear hq gr ez hG' kz
 rename World=>W
 go_wp2_with fail;have hq:=ih (fb:=gb) (lt lb) (lt lg) (Val.some b _) (Val.some g _) W hG.o (hK.o.all _ Mm4) (hK.o.all _ Mm2);refine hq.mono ?_;rintro e V ⟨gr,v2,Z2,rfl,ez,lz2,hG',kz⟩;have hB:=hB.gn gr hgb;have hK:Sh (Kg gb [gEo gb v2 (Z2),gEo gb v1 (Z1),gEo gb vc (c.map some),gEo gb vg (g.map some),gEo gb va (a.map some),gEo gb vb (b.map some),gFB gb fb p (d :: rs) f0 hlt] V):=⟨(hK.o.step gr hG'.fc).add (gEo gb v2 Z2) ez⟩;obtain ⟨o2,ho2⟩:∃ o:Option (List Rat),o=mulR rs b g:=⟨_,rfl⟩;obtain ⟨f2,hf2⟩:∃ f,f=(f1 || o2.isNone):=⟨_,rfl⟩;replace hG':FB V gb p rs f2:=by rw [hf2,ho2];exact hG'
 have hG:Sh (FB V gb p rs f2):=⟨hG'⟩;have kz2:Sh (Val Z2 f2 o2):=⟨by rw [hf2,ho2];exact kz⟩;replace ho2:Sh _:=⟨ho2⟩;replace hf2:Sh _:=⟨hf2⟩;clear hq gr ez hG' kz
 rename World=>W
 go_wp2_with fail;have hq:=QrG (by omega) W (hK.o.all _ Mm6);refine hq.mono ?_;intro e V h;obtain ⟨vd,rfl,ez⟩:=h.good;have hB:Sh (Below w.heap.size w V):=⟨hB.o.trans (h.below.mono hB.o.size)⟩;have hG:Sh (FB V gb p rs f2):=⟨hG.o.keep h.below⟩;have hK:Sh (Kg gb [gEo gb vd (d.map some),gEo gb v2 (Z2),gEo gb v1 (Z1),gEo gb vc (c.map some),gEo gb vg (g.map some),gEo gb va (a.map some),gEo gb vb (b.map some),gFB gb fb p (d :: rs) f0 hlt] V):=⟨(hK.o.keep h.below).add (gEo gb vd (d.map some)) ez⟩;clear hq h ez
 rename World=>W
 go_wp2_with fail;have hq:=ih (fb:=gb) lz2 (lt ld) (kz2.o.mono (fun h=>h)) (Val.some d _) W hG.o (hK.o.all _ Mm1) (hK.o.all _ Mm0);refine hq.mono ?_;rintro e V ⟨gr,v3,Z3,rfl,ez,lz3,hG',kz⟩;have hB:=hB.gn gr hgb;have hK:Sh (Kg gb [gEo gb v3 (Z3),gEo gb vd (d.map some),gEo gb v2 (Z2),gEo gb v1 (Z1),gEo gb vc (c.map some),gEo gb vg (g.map some),gEo gb va (a.map some),gEo gb vb (b.map some),gFB gb fb p (d :: rs) f0 hlt] V):=⟨(hK.o.step gr hG'.fc).add (gEo gb v3 Z3) ez⟩;obtain ⟨o3,ho3⟩:∃ o:Option (List Rat),o=o2.bind fun be=>mulR rs be d:=⟨_,rfl⟩;obtain ⟨f3,hf3⟩:∃ f,f=(f2 || o3.isNone):=⟨_,rfl⟩;replace hG':FB V gb p rs f3:=by rw [hf3,ho3];exact hG'
 have hG:Sh (FB V gb p rs f3):=⟨hG'⟩;have kz3:Sh (Val Z3 f3 o3):=⟨by rw [hf3,ho3];exact kz⟩;replace ho3:Sh _:=⟨ho3⟩;replace hf3:Sh _:=⟨hf3⟩;clear hq gr ez hG' kz
 rename World=>W
 go_wp2_with fail;have hq:=QrH (fb:=gb) lz1 lz3 hN W hG.o (hK.o.all _ Mm3) (hK.o.all _ Mm0) (kz1.o.mono (fun h=>by rw [hf3.o,hf2.o,h];rfl)) (kz3.o.mono (fun h=>h));refine hq.mono ?_;rintro e V ⟨gr,v4,Z4,rfl,ez,lz4,hG',kz⟩;have hB:=hB.gn gr hgb;have hK:Sh (Kg gb [gEo gb v4 (Z4),gEo gb v3 (Z3),gEo gb vd (d.map some),gEo gb v2 (Z2),gEo gb v1 (Z1),gEo gb vc (c.map some),gEo gb vg (g.map some),gEo gb va (a.map some),gEo gb vb (b.map some),gFB gb fb p (d :: rs) f0 hlt] V):=⟨(hK.o.step gr hG'.fc).add (gEo gb v4 Z4) ez⟩;obtain ⟨o4,ho4⟩:∃ o:Option (List Rat),o=o1.bind fun x=>o3.bind fun y=>Qaj addQ x y:=⟨_,rfl⟩;obtain ⟨f4,hf4⟩:∃ f,f=(f3 || o4.isNone):=⟨_,rfl⟩;replace hG':FB V gb p rs f4:=by rw [hf4,ho4];exact hG'
 have hG:Sh (FB V gb p rs f4):=⟨hG'⟩;have kz4:Sh (Val Z4 f4 o4):=⟨by rw [hf4,ho4];exact kz⟩;replace ho4:Sh _:=⟨ho4⟩;replace hf4:Sh _:=⟨hf4⟩;clear hq gr ez hG' kz
 rename World=>W
 go_wp2_with fail;have hq:=ih (fb:=gb) (lt la) (lt lg) (Val.some a _) (Val.some g _) W hG.o (hK.o.all _ Mm7) (hK.o.all _ Mm6);refine hq.mono ?_;rintro e V ⟨gr,v5,Z5,rfl,ez,lz5,hG',kz⟩;have hB:=hB.gn gr hgb;have hK:Sh (Kg gb [gEo gb v5 (Z5),gEo gb v4 (Z4),gEo gb v3 (Z3),gEo gb vd (d.map some),gEo gb v2 (Z2),gEo gb v1 (Z1),gEo gb vc (c.map some),gEo gb vg (g.map some),gEo gb va (a.map some),gEo gb vb (b.map some),gFB gb fb p (d :: rs) f0 hlt] V):=⟨(hK.o.step gr hG'.fc).add (gEo gb v5 Z5) ez⟩;obtain ⟨o5,ho5⟩:∃ o:Option (List Rat),o=mulR rs a g:=⟨_,rfl⟩;obtain ⟨f5,hf5⟩:∃ f,f=(f4 || o5.isNone):=⟨_,rfl⟩;replace hG':FB V gb p rs f5:=by rw [hf5,ho5];exact hG'
 have hG:Sh (FB V gb p rs f5):=⟨hG'⟩;have kz5:Sh (Val Z5 f5 o5):=⟨by rw [hf5,ho5];exact kz⟩;replace ho5:Sh _:=⟨ho5⟩;replace hf5:Sh _:=⟨hf5⟩;clear hq gr ez hG' kz
 rename World=>W
 go_wp2_with fail;have hq:=ih (fb:=gb) (lt lb) (lt lc) (Val.some b _) (Val.some c _) W hG.o (hK.o.all _ Mm9) (hK.o.all _ Mm6);refine hq.mono ?_;rintro e V ⟨gr,v6,Z6,rfl,ez,lz6,hG',kz⟩;have hB:=hB.gn gr hgb;have hK:Sh (Kg gb [gEo gb v6 (Z6),gEo gb v5 (Z5),gEo gb v4 (Z4),gEo gb v3 (Z3),gEo gb vd (d.map some),gEo gb v2 (Z2),gEo gb v1 (Z1),gEo gb vc (c.map some),gEo gb vg (g.map some),gEo gb va (a.map some),gEo gb vb (b.map some),gFB gb fb p (d :: rs) f0 hlt] V):=⟨(hK.o.step gr hG'.fc).add (gEo gb v6 Z6) ez⟩;obtain ⟨o6,ho6⟩:∃ o:Option (List Rat),o=mulR rs b c:=⟨_,rfl⟩;obtain ⟨f6,hf6⟩:∃ f,f=(f5 || o6.isNone):=⟨_,rfl⟩;replace hG':FB V gb p rs f6:=by rw [hf6,ho6];exact hG'
 have hG:Sh (FB V gb p rs f6):=⟨hG'⟩;have kz6:Sh (Val Z6 f6 o6):=⟨by rw [hf6,ho6];exact kz⟩;replace ho6:Sh _:=⟨ho6⟩;replace hf6:Sh _:=⟨hf6⟩;clear hq gr ez hG' kz
 rename World=>W
 go_wp2_with fail;have hq:=QrH (fb:=gb) lz5 lz6 hN W hG.o (hK.o.all _ Mm1) (hK.o.all _ Mm0) (kz5.o.mono (fun h=>by rw [hf6.o,h];rfl)) (kz6.o.mono (fun h=>h));refine hq.mono ?_;rintro e V ⟨gr,v7,Z7,rfl,ez,lz7,hG',kz⟩;have hB:=hB.gn gr hgb;have hK:Sh (Kg gb [gEo gb v7 (Z7),gEo gb v6 (Z6),gEo gb v5 (Z5),gEo gb v4 (Z4),gEo gb v3 (Z3),gEo gb vd (d.map some),gEo gb v2 (Z2),gEo gb v1 (Z1),gEo gb vc (c.map some),gEo gb vg (g.map some),gEo gb va (a.map some),gEo gb vb (b.map some),gFB gb fb p (d :: rs) f0 hlt] V):=⟨(hK.o.step gr hG'.fc).add (gEo gb v7 Z7) ez⟩;obtain ⟨o7,ho7⟩:∃ o:Option (List Rat),o=o5.bind fun x=>o6.bind fun y=>Qaj addQ x y:=⟨_,rfl⟩;obtain ⟨f7,hf7⟩:∃ f,f=(f6 || o7.isNone):=⟨_,rfl⟩;replace hG':FB V gb p rs f7:=by rw [hf7,ho7];exact hG'
 have hG:Sh (FB V gb p rs f7):=⟨hG'⟩;have kz7:Sh (Val Z7 f7 o7):=⟨by rw [hf7,ho7];exact kz⟩;replace ho7:Sh _:=⟨ho7⟩;replace hf7:Sh _:=⟨hf7⟩;clear hq gr ez hG' kz
 rename World=>W
 skip
 obtain ⟨cg,bg,_⟩:=hG.o.box;obtain ⟨cf,bf,_⟩:=(show FB W fb p (d :: rs) f0 from (hK.o.all _ Mm12)).box;have xg:=En.Qaa bg 1 (v:=.bool f7) rfl;have xf:=En.Qaa bf 1 (v:=.bool f0) rfl;have yf:=En.Qad bf 1;have HF:Sh (FB (W.setCell ⟨fb,1,none⟩ (.bool f7)) fb p (d :: rs) f7):=⟨(show FB W fb p (d :: rs) f0 from (hK.o.all _ Mm12)).set f7⟩;have hfc:=(show FB W fb p (d :: rs) f0 from (hK.o.all _ Mm12)).fc;have E4:Sh (Eo (W.setCell ⟨fb,1,none⟩ (.bool f7)) v4 Z4):=⟨Eo.grown (hK.o.all _ Mm3) hfc (Qar 1 _)⟩;have E7:Sh (Eo (W.setCell ⟨fb,1,none⟩ (.bool f7)) v7 Z7):=⟨Eo.grown (hK.o.all _ Mm0) hfc (Qar 1 _)⟩;clear bg bf hfc;go_wp2_with fail;have hq:=Qvp (by rw [lz4];omega) (by rw [lz7];omega) _ E4.o E7.o;refine hq.mono ?_;intro e V h;obtain ⟨v,rfl,ez⟩:=h.good;have u:=h.below;clear hq h;go_wp2_with fail;go_ret;have hs:f7=((o4.bind fun p=>o7.map fun q=>p++q)).isNone:=Qpc o1 o2 o5 o6 (fun be=>mulR rs be d) (fun x y=>Qaj addQ x y) (by rw [hf7.o,hf6.o,hf5.o,hf4.o,hf3.o,hf2.o,hf1.o,ho7.o,ho4.o,ho3.o,hf0.o];rfl) (by rw [ho7.o,ho4.o,ho3.o]);rw [←ho1.o,←ho2.o,←ho3.o,←ho4.o,←ho5.o,←ho6.o,←ho7.o];refine ⟨World.grownBy.trans (World.grownBy.trans (of_below hB.o (some fb)) (Qar 1 _)) (of_below u _),v,Z4++Z7,rfl,ez,by rw [List.length_append,lz4,lz7], ?_, ?_⟩
 ·rw [hf0.o,Bool.false_or,←hs];exact HF.o.keep u
 ·rw [hf0.o,Bool.false_or,←hs];intro hz;obtain ⟨q,e7,z7⟩:=kz7.o hz;obtain ⟨r,e4,z4⟩:=kz4.o.mono (fl':=f7) (fun h=>by rw [hf7.o,hf6.o,hf5.o,h];rfl) hz;exact ⟨r++q,by rw [e4,e7];rfl,by rw [z4,z7,List.map_append]⟩
theorem Qlx:∀ {rs:List (List Rat)},rs.length≤4→MulC rs
 | [],_=>QtE
 | d :: _,h=>by
  rw [List.length_cons] at h;exact QqT (by omega) d (Qlx (by omega))
theorem Qvu {rs:List (List Rat)} (hk:rs.length≤3) {d:List Rat} {X:List (Option Rat)} {fb:Nat} {p:Option Addr} {fl:Bool} {ox:Option (List Rat)} {vx:Value} (hX:X.length=2^(rs.length+1)) (kx:Val X fl ox) (w:World) (hf:FB w fb p (d :: rs) fl) (ex:Eo w vx X) :
  Calls Tryz.prog 180 #[.pointer (some ⟨fb,0,none⟩),vx] w fun e w'=>w.grownBy w' (some fb)∧∃ v Z,e = .returned v∧Eo w' v Z∧Z.length=2^rs.length∧FB w' fb p (d :: rs) (fl || (ox.bind fun x=>nrmR rs d x).isNone)∧Val Z (fl || (ox.bind fun x=>nrmR rs d x).isNone) (ox.bind fun x=>nrmR rs d x):=by
 have ih:MulC rs:=Qlx (by omega);obtain ⟨A,B,rfl,lA,lB⟩:∃ A B:List (Option Rat),X=A++B∧A.length=2^rs.length∧B.length=2^rs.length:=⟨X.take (2^rs.length),X.drop (2^rs.length),(List.take_append_drop _ _).symm,by rw [List.length_take,hX,Nat.pow_succ];omega,by rw [List.length_drop,hX,Nat.pow_succ];omega⟩;have hp:=QbG (show rs.length≤4 by omega);have ld:d.length=2^rs.length:=hf.rad.1;have lt:∀ {z:List Rat},z.length=2^rs.length→(z.map some).length=2^rs.length:=fun h=>by rw [List.length_map,h]
 have hN:1≤2^rs.length∧2^rs.length≤1000:=by omega
 have kk:fl=false→∃ a b:List Rat,ox=some (a++b)∧A=a.map some∧B=b.map some∧a.length=b.length:=fun h=>by
  obtain ⟨x,e1,e2⟩:=kx h;have hx:x.length=2^(rs.length+1):=by rw [←hX,e2,List.length_map]
  obtain ⟨a,b,rfl,la,lb⟩:=QcB hx;rw [List.map_append] at e2;obtain ⟨r1,r2⟩:=List.append_inj e2 (by rw [lA,List.length_map,la]);exact ⟨a,b,e1,r1,r2,by rw [la,lb]⟩
 have kA:Val A fl (ox.map hl):=fun h=>by
  obtain ⟨a,b,e1,e2,e3,e4⟩:=kk h;exact ⟨a,by rw [e1,Option.map_some,(QaB e4).1],e2⟩
 have kB:Val B fl (ox.map hr):=fun h=>by
  obtain ⟨a,b,e1,e2,e3,e4⟩:=kk h;exact ⟨b,by rw [e1,Option.map_some,(QaB e4).2],e3⟩
 obtain ⟨oa,hoa⟩:∃ o,o=ox.map hl:=⟨_,rfl⟩;obtain ⟨ob,hob⟩:∃ o,o=ox.map hr:=⟨_,rfl⟩;rw [←hoa] at kA;rw [←hob] at kB;replace hoa:Sh _:=⟨hoa⟩;replace hob:Sh _:=⟨hob⟩;replace kk:Sh _:=⟨kk⟩;obtain ⟨f0,hf0⟩:∃ f,f=fl:=⟨_,rfl⟩;rw [←hf0] at hf kA kB ⊢;replace hf0:Sh _:=⟨hf0⟩;replace kA:Sh _:=⟨kA⟩;replace kB:Sh _:=⟨kB⟩;have HW:Sh (FB w fb p (d :: rs) f0):=⟨hf⟩;have hfb:fb<w.heap.size:=by obtain ⟨_,hb,_⟩:=hf.box;exact (Array.getElem?_eq_some_iff.1 hb).1
 have EX:Sh (Eo w vx (A++B)):=⟨ex⟩;clear hf ex kx hX;go_enter Tryz.func180, Tryz.ntmps180;go_wp2_with fail;have hq:=Qko (by omega) w HW.o;refine hq.mono ?_;rintro e W ⟨⟨gb,rfl,hgb,hG⟩,u⟩;have hlt:fb<gb:=by omega
 have hB:Sh (Below w.heap.size w W):=⟨u⟩;have hK:Sh (Kg gb [gFB gb fb p (d :: rs) f0 hlt] W):=⟨⟨hG.fc,fun k hk=>by rw [List.mem_singleton.1 hk];exact HW.o.keep u⟩⟩;have hG:Sh (FB W gb p rs f0):=⟨hG⟩;have EX:Sh (Eo W vx (A++B)):=⟨EX.o.keep u⟩;clear hq u;go_wp2_with fail;have hq:=QfR (a:=A) (b:=B) (by rw [lA,lB]) ⟨by rw [lA];omega,by rw [lA];omega⟩ W EX.o;refine hq.mono ?_;rintro e V ⟨⟨va,vb,rfl,ea,eb⟩,u⟩;have hB:=hB.tr u;have hG:Sh (FB V gb p rs f0):=⟨hG.o.keep u⟩;have hK:Sh (Kg gb [gEo gb va (A),gEo gb vb (B),gFB gb fb p (d :: rs) f0 hlt] V):=⟨((hK.o.keep u).add (gEo gb vb (B)) eb).add (gEo gb va (A)) ea⟩
 try have EY:Sh (Eo V vy _):=⟨EY.o.keep u⟩
 clear hq ea eb u
 rename World=>W
 go_wp2_with fail;have hq:=ih (fb:=gb) lA lA (kA.o.mono (fun h=>h)) (kA.o.mono (fun h=>h)) W hG.o (hK.o.all _ Mm0) (hK.o.all _ Mm0);refine hq.mono ?_;rintro e V ⟨gr,v1,Z1,rfl,ez,lz1,hG',kz⟩;have hB:=hB.gn gr hgb;have hK:Sh (Kg gb [gEo gb v1 (Z1),gEo gb va (A),gEo gb vb (B),gFB gb fb p (d :: rs) f0 hlt] V):=⟨(hK.o.step gr hG'.fc).add (gEo gb v1 Z1) ez⟩;obtain ⟨o1,ho1⟩:∃ o:Option (List Rat),o=oa.bind fun x=>oa.bind fun y=>mulR rs x y:=⟨_,rfl⟩;obtain ⟨f1,hf1⟩:∃ f,f=(f0 || o1.isNone):=⟨_,rfl⟩;replace hG':FB V gb p rs f1:=by rw [hf1,ho1];exact hG'
 have hG:Sh (FB V gb p rs f1):=⟨hG'⟩;have kz1:Sh (Val Z1 f1 o1):=⟨by rw [hf1,ho1];exact kz⟩;replace ho1:Sh _:=⟨ho1⟩;replace hf1:Sh _:=⟨hf1⟩;clear hq gr ez hG' kz
 rename World=>W
 go_wp2_with fail;have hq:=ih (fb:=gb) lB lB (kB.o.mono (fun h=>by rw [hf1.o,h];rfl)) (kB.o.mono (fun h=>by rw [hf1.o,h];rfl)) W hG.o (hK.o.all _ Mm2) (hK.o.all _ Mm2);refine hq.mono ?_;rintro e V ⟨gr,v2,Z2,rfl,ez,lz2,hG',kz⟩;have hB:=hB.gn gr hgb;have hK:Sh (Kg gb [gEo gb v2 (Z2),gEo gb v1 (Z1),gEo gb va (A),gEo gb vb (B),gFB gb fb p (d :: rs) f0 hlt] V):=⟨(hK.o.step gr hG'.fc).add (gEo gb v2 Z2) ez⟩;obtain ⟨o2,ho2⟩:∃ o:Option (List Rat),o=ob.bind fun x=>ob.bind fun y=>mulR rs x y:=⟨_,rfl⟩;obtain ⟨f2,hf2⟩:∃ f,f=(f1 || o2.isNone):=⟨_,rfl⟩;replace hG':FB V gb p rs f2:=by rw [hf2,ho2];exact hG'
 have hG:Sh (FB V gb p rs f2):=⟨hG'⟩;have kz2:Sh (Val Z2 f2 o2):=⟨by rw [hf2,ho2];exact kz⟩;replace ho2:Sh _:=⟨ho2⟩;replace hf2:Sh _:=⟨hf2⟩;clear hq gr ez hG' kz
 rename World=>W
 go_wp2_with fail;have hq:=QrG (by omega) W (hK.o.all _ Mm4);refine hq.mono ?_;intro e V h;obtain ⟨vd,rfl,ez⟩:=h.good;have hB:Sh (Below w.heap.size w V):=⟨hB.o.trans (h.below.mono hB.o.size)⟩;have hG:Sh (FB V gb p rs f2):=⟨hG.o.keep h.below⟩;have hK:Sh (Kg gb [gEo gb vd (d.map some),gEo gb v2 (Z2),gEo gb v1 (Z1),gEo gb va (A),gEo gb vb (B),gFB gb fb p (d :: rs) f0 hlt] V):=⟨(hK.o.keep h.below).add (gEo gb vd (d.map some)) ez⟩;clear hq h ez
 rename World=>W
 go_wp2_with fail;have hq:=ih (fb:=gb) lz2 (lt ld) (kz2.o.mono (fun h=>h)) (Val.some d _) W hG.o (hK.o.all _ Mm1) (hK.o.all _ Mm0);refine hq.mono ?_;rintro e V ⟨gr,v3,Z3,rfl,ez,lz3,hG',kz⟩;have hB:=hB.gn gr hgb;have hK:Sh (Kg gb [gEo gb v3 (Z3),gEo gb vd (d.map some),gEo gb v2 (Z2),gEo gb v1 (Z1),gEo gb va (A),gEo gb vb (B),gFB gb fb p (d :: rs) f0 hlt] V):=⟨(hK.o.step gr hG'.fc).add (gEo gb v3 Z3) ez⟩;obtain ⟨o3,ho3⟩:∃ o:Option (List Rat),o=o2.bind fun be=>mulR rs be d:=⟨_,rfl⟩;obtain ⟨f3,hf3⟩:∃ f,f=(f2 || o3.isNone):=⟨_,rfl⟩;replace hG':FB V gb p rs f3:=by rw [hf3,ho3];exact hG'
 have hG:Sh (FB V gb p rs f3):=⟨hG'⟩;have kz3:Sh (Val Z3 f3 o3):=⟨by rw [hf3,ho3];exact kz⟩;replace ho3:Sh _:=⟨ho3⟩;replace hf3:Sh _:=⟨hf3⟩;clear hq gr ez hG' kz
 rename World=>W
 go_wp2_with fail;have hq:=Qvs (fb:=gb) lz1 lz3 hN W hG.o (hK.o.all _ Mm3) (hK.o.all _ Mm0) (kz1.o.mono (fun h=>by rw [hf3.o,hf2.o,h];rfl)) (kz3.o.mono (fun h=>h));refine hq.mono ?_;rintro e V ⟨gr,v4,Z4,rfl,ez,lz4,hG',kz⟩;have hB:=hB.gn gr hgb;have hK:Sh (Kg gb [gEo gb v4 (Z4),gEo gb v3 (Z3),gEo gb vd (d.map some),gEo gb v2 (Z2),gEo gb v1 (Z1),gEo gb va (A),gEo gb vb (B),gFB gb fb p (d :: rs) f0 hlt] V):=⟨(hK.o.step gr hG'.fc).add (gEo gb v4 Z4) ez⟩;obtain ⟨o4,ho4⟩:∃ o:Option (List Rat),o=o1.bind fun x=>o3.bind fun y=>Qaj subQ x y:=⟨_,rfl⟩;obtain ⟨f4,hf4⟩:∃ f,f=(f3 || o4.isNone):=⟨_,rfl⟩;replace hG':FB V gb p rs f4:=by rw [hf4,ho4];exact hG'
 have hG:Sh (FB V gb p rs f4):=⟨hG'⟩;have kz4:Sh (Val Z4 f4 o4):=⟨by rw [hf4,ho4];exact kz⟩;replace ho4:Sh _:=⟨ho4⟩;replace hf4:Sh _:=⟨hf4⟩;clear hq gr ez hG' kz
 rename World=>W
 obtain ⟨cg,bg,_⟩:=hG.o.box;obtain ⟨cf,bf,_⟩:=(show FB W fb p (d :: rs) f0 from (hK.o.all _ Mm7)).box;have xg:=En.Qaa bg 1 (v:=.bool f4) rfl;have xf:=En.Qaa bf 1 (v:=.bool f0) rfl;have yf:=En.Qad bf 1;have HF:Sh (FB (W.setCell ⟨fb,1,none⟩ (.bool f4)) fb p (d :: rs) f4):=⟨(show FB W fb p (d :: rs) f0 from (hK.o.all _ Mm7)).set f4⟩;have hfc:=(show FB W fb p (d :: rs) f0 from (hK.o.all _ Mm7)).fc;have E4:Sh (Eo (W.setCell ⟨fb,1,none⟩ (.bool f4)) v4 Z4):=⟨Eo.grown (hK.o.all _ Mm0) hfc (Qar 1 _)⟩;clear bg bf hfc;go_wp2_with fail;go_ret
 have hs:f4=(f0 || (ox.bind fun x=>nrmR rs d x).isNone)∧(f0=false→o4=ox.bind fun x=>nrmR rs d x):=by
  cases hfl:f0 with
  | true=>exact ⟨by rw [hf4.o,hf3.o,hf2.o,hf1.o,hfl];rfl,fun h=>by cases h⟩
  | false =>
   obtain ⟨a,b,e1,_,_,e4⟩:=kk.o (by rw [←hf0.o,hfl]);have ea:oa=some a:=by rw [hoa.o,e1,Option.map_some,(QaB e4).1]
   have eb:ob=some b:=by rw [hob.o,e1,Option.map_some,(QaB e4).2]
   have k4:o4=ox.bind fun x=>nrmR rs d x:=by
    rw [ho4.o,ho3.o,ho2.o,ho1.o,ea,eb,e1];simp only [Option.bind_some,nrmR,(QaB e4).1,(QaB e4).2]
   refine ⟨?_,fun _=>k4⟩;rw [Bool.false_or,←k4];exact Qpe o1 o2 (fun be=>mulR rs be d) (fun x y=>Qaj subQ x y) (by rw [hf4.o,hf3.o,hf2.o,hf1.o,ho4.o,ho3.o,hfl];rfl) (by rw [ho4.o,ho3.o])
 refine ⟨World.grownBy.trans (of_below hB.o (some fb)) (Qar 1 _),v4,Z4,rfl,E4.o,lz4, ?_, ?_⟩
 ·rw [←hs.1];exact HF.o
 ·rw [←hs.1];intro hz;have h0:f0=false:=by cases h:f0 with | false=>rfl | true=>(rw [hs.1,h] at hz;cases hz)
  obtain ⟨q,e4,z4⟩:=kz4.o hz;exact ⟨q,by rw [←hs.2 h0,e4],z4⟩
end Tw
end Go.Proofs.YtadcmepaniiciaaGreatDoor
