import Derived.Test.YtihlgifojjeoaaaGreatDoorZ8G5
import Derived.Test.YtihlgifojjeoaaaGreatDoorZ8G1
import Derived.Test.YtihlgifojjeoaaaGreatDoorZ8G6
import Derived.Test.YtihlgifojjeoaaaGreatDoorZ8G7
import Derived.Deep.RegionHeld3
set_option maxRecDepth 1000000
set_option maxHeartbeats 40000000
open Go.Value renaming string→J
open Go.Obj renaming cells→Jc
namespace Go.Proofs.YtihlgifojjeoaaaGreatDoor
section
namespace Tw
open SR Go.Proofs.YtihlgifojjeoaaaGreatDoor.Nm Go.Proofs.YtihlgifojjeoaaaGreatDoor.Rt
theorem Lat.int {B:Nat} (n:Int) (h:n.natAbs≤B):Lat 1 B (Rat.divInt n 1):=⟨by decide,n,rfl,h⟩
theorem Lat.fit {L B:Nat} {q:Rat} (h:Lat L B q) (hB:B<10^200) (hL:L<10^200):FitQ q:=h.bq.fit hB hL
theorem AllL.fit {L B:Nat} {l:List Rat} (h:AllL L B l) (hb:(decide (B<10^200) && decide (L<10^200))=true):FitL l:=fun q hq=>by
 rw [Bool.and_eq_true] at hb;exact (h q hq).fit (of_decide_eq_true hb.1) (of_decide_eq_true hb.2)
theorem AllL.cons {L B:Nat} {q:Rat} {l:List Rat} (h:Lat L B q) (hl:AllL L B l):AllL L B (q :: l):=fun p hp=>by
 rcases List.mem_cons.1 hp with rfl | hp
 ·exact h
 ·exact hl p hp
theorem Qhb {n:Int} (h:0<n):(0:Rat)<Rat.divInt n 1:=by
 have:=En.QhE (n:=0) (m:=n) (d:=1) (c:=1) (by decide) (by decide) (by omega)
 rwa [Rat.zero_divInt] at this
theorem QtB {q:Rat} (h:0<q):cmpQ q 0=1:=by rw [Qlc];exact Qdu h
theorem QhF {T:Type} {rs:List (List Rat)} {x:List Rat} {o:Option T} (h:x.length=2^rs.length):chk rs x o=o:=by rw [chk,if_pos h]
theorem Qcd {T:Type} {rs:List (List Rat)} {x y:List Rat} {o:Option T} (h:x.length=2^rs.length) (h':y.length=2^rs.length):chk2 rs x y o=o:=by rw [chk2,if_pos ⟨h,h'⟩]
end Tw
end
section
namespace Tw
open Go.RowKit Go.Extern.Stop Go.Stop Go.Extern
open En Go.Proofs.YtihlgifojjeoaaaGreatDoor.Nm Go.Proofs.YtihlgifojjeoaaaGreatDoor.Rt
def pqo (l:List (Option Rat)) (i:Nat):P2:=(sn (l.getD i none),sd (l.getD i none))
structure Eo (W:World) (v:Value) (l:List (Option Rat)):Prop where
 ex:∃ b o cap,v = .slice (some ⟨b,o,none⟩) l.length cap∧l.length≤cap∧Cl W b o l.length (pqo l)
 fit:∀ q∈l,FitO q
theorem Cl.congr {W:World} {b o n:Nat} {p q:Nat→P2} (h:Cl W b o n p) (e:∀ i,i<n→p i=q i):Cl W b o n q:=⟨fun i hi=>by rw [←e i hi];exact h.at_ i hi⟩
theorem Qlr (l:List Rat) (i:Nat) (h:i<l.length):pqo (l.map some) i=pqs l i:=by
 rw [pqo,pqs,List.getD_eq_getElem?_getD,List.getD_eq_getElem?_getD,List.getElem?_map,List.getElem?_eq_getElem h];rfl
theorem El.eo {W:World} {v:Value} {l:List Rat} (h:El W v l) (hf:FitL l):Eo W v (l.map some):=by
 obtain ⟨b,o,cap,rfl,h1,h2⟩:=h.ex;refine ⟨⟨b,o,cap,by rw [List.length_map],by rw [List.length_map];exact h1, ?_⟩,fun q hq => ?_⟩
 ·rw [List.length_map];exact h2.congr fun i hi=>(Qlr l i hi).symm
 ·obtain ⟨x,hx,rfl⟩:=List.mem_map.1 hq;exact .some (hf x hx)
theorem Eo.fitL {W:World} {v:Value} {l:List Rat} (h:Eo W v (l.map some)):FitL l:=fun q hq=>(h.fit (some q) (List.mem_map.2 ⟨q,hq,rfl⟩)).fit q rfl
theorem Eo.keep {W W':World} {v:Value} {l:List (Option Rat)} (h:Eo W v l) (hB:Below W.heap.size W W'):Eo W' v l:=by
 obtain ⟨b,o,cap,e,h1,h2⟩:=h.ex;exact ⟨⟨b,o,cap,e,h1,h2.keep hB⟩,h.fit⟩
theorem Eo.at_ {W:World} {v:Value} {l:List (Option Rat)} (h:Eo W v l) (i:Nat):FitO (l.getD i none):=by
 rw [List.getD_eq_getElem?_getD];rcases hi:l[i]? with _ | q
 ·exact ⟨fun p hp=>by cases hp⟩
 ·exact h.fit q (List.mem_of_getElem? hi)
def FC (W:World) (fb:Nat):Prop:=∃ p n cap b,W.heap[fb]? = some (Jc #[.slice p n cap,.bool b] 150 (0,0))
theorem FC.ne {W:World} {fb bk k:Nat} {s:ByteArray} (h:FC W fb) (hk:W.cell? ⟨bk,k,none⟩=some (J s)):fb≠bk:=by
 obtain ⟨p,n,cap,b,hf⟩:=h;rintro rfl;have:W.cell? ⟨fb,k,none⟩=(#[.slice p n cap,.bool b]:Array Value)[k]? := by simp [World.cell?,hf]
 rw [this] at hk
 match k,hk with
 | 0,hk=>simp at hk
 | 1,hk=>simp at hk
 | k+2,hk=>simp at hk
theorem Cl.fgrown {W W':World} {b o n:Nat} {p:Nat→P2} (h:Cl W b o n p) {fb:Nat} (hf:FC W fb) (hg:W.grownBy W' (some fb)):Cl W' b o n p :=
 ⟨fun i hi=>⟨Qba hg (h.at_ i hi).1 (fun e=>hf.ne (h.at_ i hi).1 (by injection e)),Qba hg (h.at_ i hi).2 (fun e=>hf.ne (h.at_ i hi).1 (by injection e))⟩⟩
theorem Eo.grown {W W':World} {v:Value} {l:List (Option Rat)} (h:Eo W v l) {fb:Nat} (hf:FC W fb) (hg:W.grownBy W' (some fb)):Eo W' v l:=by
 obtain ⟨b,o,cap,e,h1,h2⟩:=h.ex;exact ⟨⟨b,o,cap,e,h1,h2.fgrown hf hg⟩,h.fit⟩
theorem El.grown {W W':World} {v:Value} {l:List Rat} (h:El W v l) {fb:Nat} (hf:FC W fb) (hg:W.grownBy W' (some fb)):El W' v l:=by
 obtain ⟨b,o,cap,e,h1,h2⟩:=h.ex;exact ⟨b,o,cap,e,h1,h2.fgrown hf hg⟩
structure Rl (W:World) (p:Option Addr) (rs:List (List Rat)):Prop where
 ex:rs ≠ []→∃ bt o,p=some ⟨bt,o,none⟩∧∀ i d,rs.reverse[i]? = some d→∃ vi,W.cell? ⟨bt,o+i,none⟩=some vi∧El W vi d
theorem Rl.keep {W W':World} {p:Option Addr} {rs:List (List Rat)} (h:Rl W p rs) (hB:Below W.heap.size W W'):Rl W' p rs:=⟨fun hn=>by
 obtain ⟨bt,o,e,h⟩:=h.ex hn
 exact ⟨bt,o,e,fun i d hd=>by
  obtain ⟨vi,k1,k2⟩:=h i d hd;exact ⟨vi,Qae k1 hB,k2.keep hB⟩⟩⟩
theorem Rl.lower {W:World} {p:Option Addr} {d:List Rat} {rs:List (List Rat)} (h:Rl W p (d :: rs)):Rl W p rs:=⟨fun _=>by
 obtain ⟨bt,o,e,h⟩:=h.ex (by simp);refine ⟨bt,o,e,fun i d' hd=>h i d' ?_⟩;rw [List.reverse_cons,List.getElem?_append_left (by rcases Nat.lt_or_ge i rs.reverse.length with k | k;exact k;rw [List.getElem?_eq_none k] at hd;cases hd)];exact hd⟩
theorem Rl.last {W:World} {p:Option Addr} {d:List Rat} {rs:List (List Rat)} (h:Rl W p (d :: rs)):∃ bt o vi,p=some ⟨bt,o,none⟩∧W.cell? ⟨bt,o+rs.length,none⟩=some vi∧El W vi d:=by
 obtain ⟨bt,o,e,h⟩:=h.ex (by simp);obtain ⟨vi,h1,h2⟩:=h rs.length d (by rw [List.reverse_cons,List.getElem?_append_right (by simp)];simp);exact ⟨bt,o,vi,e,h1,h2⟩
theorem Rl.grown {W W':World} {p:Option Addr} {rs:List (List Rat)} (h:Rl W p rs) {fb:Nat} (hf:FC W fb) (hp:∀ a,p=some a→a.block≠fb) (hg:W.grownBy W' (some fb)):Rl W' p rs:=⟨fun hn=>by
 obtain ⟨bt,o,e,h⟩:=h.ex hn;refine ⟨bt,o,e,fun i d hd => ?_⟩;obtain ⟨vi,k1,k2⟩:=h i d hd;exact ⟨vi,Qba hg k1 (fun e2=>hp _ e (by injection e2 with e2;exact e2.symm)),k2.grown hf hg⟩⟩
structure FB (W:World) (fb:Nat) (p:Option Addr) (rs:List (List Rat)) (fl:Bool):Prop where
 box:∃ cap,W.heap[fb]? = some (Jc #[.slice p rs.length cap,.bool fl] 150 (0,0))∧rs.length≤cap
 low:∀ a,p=some a→a.block<fb
 rl:Rl W p rs
 rad:Qdz rs
 fits:∀ d∈rs,FitL d
theorem FB.fc {W:World} {fb:Nat} {p:Option Addr} {rs:List (List Rat)} {fl:Bool} (h:FB W fb p rs fl):FC W fb:=by
 obtain ⟨cap,h1,_⟩:=h.box;exact ⟨_,_,_,_,h1⟩
theorem FB.keep {W W':World} {fb:Nat} {p:Option Addr} {rs:List (List Rat)} {fl:Bool} (h:FB W fb p rs fl) (hB:Below W.heap.size W W'):FB W' fb p rs fl:=by
 obtain ⟨cap,h1,h2⟩:=h.box;exact ⟨⟨cap,En.Qac h1 hB,h2⟩,h.low,h.rl.keep hB,h.rad,h.fits⟩
theorem FB.grown {W W':World} {fb gb:Nat} {p:Option Addr} {rs:List (List Rat)} {fl:Bool} (h:FB W fb p rs fl) (hf:FC W gb) (hne:fb≠gb) (hp:∀ a,p=some a→a.block≠gb) (hg:W.grownBy W' (some gb)):FB W' fb p rs fl:=by
 obtain ⟨cap,h1,h2⟩:=h.box;exact ⟨⟨cap,QbK hg h1 (fun e=>hne (by injection e with e;exact e.symm)),h2⟩,h.low,h.rl.grown hf hp hg,h.rad,h.fits⟩
theorem Qar {W:World} {fb:Nat} (i:Nat) (v:Value):W.grownBy (W.setCell ⟨fb,i,none⟩ v) (some fb):=⟨rfl,rfl,rfl,by simp [World.setCell],fun k _ hk=>Below.heap_setCell _ _ _ _ (fun e=>hk (by simp [e]))⟩
theorem QeZ {W:World} {fb:Nat} {x:Value} {b c:Bool} {T:TypeId} (h:W.heap[fb]? = some (Jc #[x,.bool b] T (0,0))):(W.setCell ⟨fb,1,none⟩ (.bool c)).heap[fb]? = some (Jc #[x,.bool c] T (0,0)):=by
 obtain ⟨hl,hg⟩:=Array.getElem?_eq_some_iff.1 h;simp [World.setCell,hl,Array.getElem_modify,hg]
theorem FB.set {W:World} {fb:Nat} {p:Option Addr} {rs:List (List Rat)} {fl:Bool} (h:FB W fb p rs fl) (c:Bool):FB (W.setCell ⟨fb,1,none⟩ (.bool c)) fb p rs c:=by
 obtain ⟨cap,h1,h2⟩:=h.box;exact ⟨⟨cap,QeZ h1,h2⟩,h.low,h.rl.grown h.fc (fun a e=>Nat.ne_of_lt (h.low a e)) (Qar 1 _),h.rad,h.fits⟩
def Val (X:List (Option Rat)) (fl:Bool) (o:Option (List Rat)):Prop:=fl=false→∃ x,o=some x∧X=x.map some
theorem Val.mono {X:List (Option Rat)} {fl fl':Bool} {o:Option (List Rat)} (h:Val X fl o) (hf:fl=true→fl'=true):Val X fl' o:=fun e=>h (by cases fl;rfl;rw [hf rfl] at e;exact e)
theorem Val.some (x:List Rat) (fl:Bool):Val (x.map some) fl (some x):=fun _=>⟨x,rfl,rfl⟩
theorem Qjr {w:World} {ops:Array Oper} {rest:List Oper} {o:Oper} {a:Act} {Q:Exit→Act→World→Prop} (hgd:o.guard=none) (s x:Operand)
  (ho:o.op = .call {callee:=.builtin .append,args:=#[s,x],argTypes:=#[29, 29]}) (base:Nat) (v:Value) (t:Nat) (R R' G:Nat→P2) (hs:a.eval s=v) (hown:OwnL w base v t R)
  (Bx ox n c:Nat) (hx:a.eval x = .slice (some ⟨Bx,ox,none⟩) n c) (hG:Cl w Bx ox n G) (ht:t≤1000) (hn:n≤1000) (hb:base≤w.heap.size) (h1:∀ i,i<t→R' i=R i) (h2:∀ i,i<n→R' (t+i)=G i)
  (h:∀ v' w',OwnL w' base v' (t+n) R'→w.grownBy w' v.ownBlock→(v'.ownBlock=v.ownBlock∨v'.ownBlock=some w.heap.size)→wpList Tryz.prog ops Q rest (a.put o.dst v') w'):wpList Tryz.prog ops Q (o :: rest) a w:=by
 obtain ⟨i0,hinf,hz⟩:=Option.map_eq_some_iff.1 Qem;have hz0:i0.zero=some (.agg #[J ⟨#[]⟩,J ⟨#[]⟩]):=congrArg (fun q=>q.1) hz;have hz1:i0.size=2:=congrArg (fun q=>q.2.1) hz;have hz2:i0.bytes=32:=congrArg (fun q=>q.2.2) hz;refine wpList_append_own_at w hgd s x 29 ho base 42 i0 (.agg #[J ⟨#[]⟩,J ⟨#[]⟩]) 2 32 Tryz.underlying29 hinf hz0 hz1 hz2 rfl (by decide) v t _ hs hown ⟨Bx,ox,none⟩ n c (Qbd G n) hx (Qbs G n) ?_ ?_ (by unfold maxLen;omega) (by omega) hb ?_
 ·intro j u hj;obtain ⟨i,hi,⟨rfl,rfl⟩ | ⟨rfl,rfl⟩⟩:=QbY G n j u hj
  ·rw [Addr.add_lit];exact (hG.at_ i hi).1
  ·rw [Addr.add_lit,←Nat.add_assoc];exact (hG.at_ i hi).2
 ·intro u hu;obtain ⟨j,hj⟩:=List.getElem?_of_mem hu;obtain ⟨i,hi,⟨rfl,rfl⟩ | ⟨rfl,rfl⟩⟩:=QbY G n j u hj <;> rfl
 ·intro v' w' hown' hgrow hnil hat;refine h v' w' ?_ hgrow hat;unfold OwnL;rw [Qeb R R' G t h1 n h2];exact hown'
theorem QtC (b1 o1 n1 c1 b2 o2 n2 c2:Nat) (h1:1≤n1∧n1≤500) (h2:n2≤500) (G1 G2 H:Nat→P2) (e1:∀ i,i<n1→H i=G1 i) (e2:∀ i,i<n2→H (n1+i)=G2 i) (w:World)
  (hx:Cl w b1 o1 n1 G1) (hy:Cl w b2 o2 n2 G2) :
  Calls Tryz.prog 235 #[.slice (some ⟨b1,o1,none⟩) n1 c1,.slice (some ⟨b2,o2,none⟩) n2 c2] w (AnsE True (n1+n2) H w):=by
 have u0:=(Below.refl w.heap.size w).alloc Lr (Jc #[] 42);have HX:Sh _:=⟨hx.keep u0⟩;have hlt1:=hx.lt (by omega);have HY:Sh (∀ W',Below w.heap.size w W'→Cl W' b2 o2 n2 G2):=⟨fun W' u=>hy.keep u⟩;have HO:Sh (OwnL (w.alloc (Jc #[] 42)) w.heap.size (.slice (some ⟨w.heap.size,0,none⟩) 0 0) 0 (fun _=>(⟨#[]⟩,⟨#[]⟩))):=⟨rfl,.inr ⟨_,_,_,rfl,Nat.le_refl _,World.alloc_heap_new w _,Nat.le_refl _,Nat.zero_le _,rfl,rfl⟩⟩;clear hx hy;go_enter Tryz.func235, Tryz.ntmps235;go_wp2_with (first | (refine Qjr rfl _ _ rfl w.heap.size (.slice (some ⟨w.heap.size,0,none⟩) 0 0) 0 (fun _=>(⟨#[]⟩,⟨#[]⟩)) G1 G1 rfl HO.o b1 o1 n1 c1 rfl HX.o (by omega) (by omega) u0.size (fun i hi=>absurd hi (by omega)) (fun i _=>congrArg G1 (Nat.zero_add i)) ?_;intro v2 w2 hO2 hg2 hat2;rw [Nat.zero_add] at hO2;have u2:Below w.heap.size w w2:=QbA u0 Lr Lr HO.o hg2;have HY2:Sh _:=⟨HY.o w2 u2⟩;have HO2:Sh _:=⟨hO2⟩;clear hO2 hg2 hat2 HO HX) | (refine Qjr rfl _ _ rfl w.heap.size v2 n1 G1 H G2 rfl HO2.o b2 o2 n2 c2 rfl HY2.o (by omega) (by omega) u2.size e1 e2 ?_;intro v3 w3 hO3 hg3 hat3));have u3:Below w.heap.size w w3:=QbA u2 Lr Lr HO2.o hg3;obtain ⟨g3,cap3,rfl,k1,k2,k3,k4⟩:=Qdc hO3 (by omega);clear hat3 hg3 hO3;go_ret;exact ⟨u3,fun _=>⟨g3,cap3,rfl,k1,k2,k3,k4⟩,fun h=>absurd trivial h⟩
theorem Qls (a b:List (Option Rat)) (i:Nat) (h:i<a.length):pqo (a++b) i=pqo a i:=by
 rw [pqo,pqo,List.getD_eq_getElem?_getD,List.getD_eq_getElem?_getD,List.getElem?_append_left h]
theorem Qlt (a b:List (Option Rat)) (i:Nat):pqo (a++b) (a.length+i)=pqo b i:=by
 rw [pqo,pqo,List.getD_eq_getElem?_getD,List.getD_eq_getElem?_getD,List.getElem?_append_right (by omega),Nat.add_sub_cancel_left]
structure AnsP (l:List (Option Rat)) (w:World) (e:Ending) (w':World):Prop where
 below:Below w.heap.size w w'
 good:∃ v,e = .returned v∧Eo w' v l
theorem Qvp {a b:List (Option Rat)} {va vb:Value} (h1:1≤a.length∧a.length≤500) (h2:1≤b.length∧b.length≤500) (w:World) (hx:Eo w va a) (hy:Eo w vb b) :
  Calls Tryz.prog 235 #[va,vb] w (AnsP (a++b) w):=by
 obtain ⟨b1,o1,c1,rfl,_,x1⟩:=hx.ex;obtain ⟨b2,o2,c2,rfl,_,y1⟩:=hy.ex;refine (QtC b1 o1 a.length c1 b2 o2 b.length c2 h1 h2.2 (pqo a) (pqo b) (pqo (a++b)) (fun i hi=>Qls a b i hi) (fun i _=>Qlt a b i) w x1 y1).mono fun e w' h => ?_;obtain ⟨bk,cap,rfl,_,k1,_,k3⟩:=h.good trivial;exact ⟨h.below,_,rfl,⟨bk,0,cap,by rw [List.length_append],by rw [List.length_append];exact k1,by rw [List.length_append];exact k3⟩,fun q hq=>(List.mem_append.1 hq).elim (hx.fit q) (hy.fit q)⟩
theorem QoZ (b o m cap:Nat) (hm:1≤m∧m≤500) (hc:m+m≤cap) (w:World) :
  Calls Tryz.prog 179 #[.slice (some ⟨b,o,none⟩) (m+m) cap] w fun e w'=>e = .returned (.tuple #[.slice (some ⟨b,o,none⟩) m cap,.slice (some ⟨b,o+m*2,none⟩) m (cap-m)])∧Below w.heap.size w w':=by
 have hd:((m:Int)+(m:Int)) / 2=(m:Int):=by omega
 have h1:(m:Int)≤(cap:Int):=by omega
 have h2:(0:Int)≤(m:Int):=by omega
 have h3:(m:Int)≤(m:Int)+(m:Int):=by omega
 have h4:¬(cap=m):=by omega
 go_enter Tryz.func179, Tryz.ntmps179;go_wp2
 go_region
 go_wp2;exact bodyPost_ret (v:=.tuple #[.slice (some ⟨b,o,none⟩) m cap,.slice (some ⟨b,o+m*2,none⟩) m (cap-m)]) (by simp [results,Tryz.results179, go_sem]) rfl ⟨rfl,QaS (Below.refl _ _)⟩
theorem QfR {a b:List (Option Rat)} {vx:Value} (hl:a.length=b.length) (hn:1≤a.length∧a.length≤500) (w:World) (hx:Eo w vx (a++b)) :
  Calls Tryz.prog 179 #[vx] w fun e w'=>(∃ va vb,e = .returned (.tuple #[va,vb])∧Eo w' va a∧Eo w' vb b)∧Below w.heap.size w w':=by
 obtain ⟨bk,o,cap,rfl,h1,h2⟩:=hx.ex;have hfit:=hx.fit;rw [List.length_append,←hl] at h1 h2 ⊢;refine (QoZ bk o a.length cap hn h1 w).mono ?_;rintro e w' ⟨rfl,u⟩;have k2:=h2.keep u;refine ⟨⟨_,_,rfl,⟨⟨bk,o,cap,rfl,by omega,⟨fun i hi => ?_⟩⟩,fun q hq=>hfit q (List.mem_append_left _ hq)⟩,⟨⟨bk,o+a.length*2,cap-a.length,by rw [hl],by omega,⟨fun i hi => ?_⟩⟩,fun q hq=>hfit q (List.mem_append_right _ hq)⟩⟩,u⟩
 ·have:=k2.at_ i (by omega);rw [Qls a b i hi] at this;exact this
 ·have:=k2.at_ (a.length+i) (by omega);rw [Qlt,show o+(a.length+i)*2=o+a.length*2+i*2 by omega] at this;exact this
theorem Qko {fb:Nat} {p:Option Addr} {d:List Rat} {rs:List (List Rat)} {fl:Bool} (hk:rs.length≤4) (w:World) (h:FB w fb p (d :: rs) fl) :
  Calls Tryz.prog 178 #[.pointer (some ⟨fb,0,none⟩)] w fun e w'=>(∃ gb,e = .returned (.pointer (some ⟨gb,0,none⟩))∧w.heap.size≤gb∧FB w' gb p rs fl)∧Below w.heap.size w w':=by
 obtain ⟨cap,hb,hc⟩:=h.box;have x0:=En.Qaa hb 0 (v:=.slice p (d :: rs).length cap) rfl;have x1:=En.Qaa hb 1 (v:=.bool fl) rfl;have hlt:=(Array.getElem?_eq_some_iff.1 hb).1;have HL:Sh (∀ a,p=some a→a.block<fb):=⟨h.low⟩;obtain ⟨bt,o,vi,rfl,_,_⟩:=h.rl.last;have HR:Sh (Rl w (some ⟨bt,o,none⟩) rs):=⟨h.rl.lower⟩;have HD:Sh (Qdz rs∧∀ d∈rs,FitL d):=⟨h.rad.2,fun d hd=>h.fits d (by simp [hd])⟩;rw [show (d :: rs).length=rs.length+1 from rfl] at *
 generalize hm:rs.length=m at *
 have hw1:((m:Int)+1-1)=(m:Int):=by omega
 have h1:(m:Int)≤(cap:Int):=by omega
 have h2:(0:Int)≤(m:Int):=by omega
 have hw2:IntKind.i64.wrap (m:Int)=(m:Int):=by simp [IntKind.wrap,IntKind.signed,IntKind.bits];omega
 clear h;go_enter Tryz.func178, Tryz.ntmps178;go_wp2_with fail
 go_region
 go_wp2_with fail;go_ret;have u:=QaS ((Below.refl w.heap.size w).alloc Lr (Jc #[.slice (some ⟨bt,o,none⟩) m cap,.bool fl] 150));exact ⟨⟨_,rfl,Nat.le_refl _,⟨cap,by rw [hm];exact World.alloc_heap_new w _,by omega⟩,fun a e=>Nat.lt_trans (HL.o a e) hlt,HR.o.keep u,HD.o.1,HD.o.2⟩,u⟩
theorem QrG {fb:Nat} {p:Option Addr} {d:List Rat} {rs:List (List Rat)} {fl:Bool} (hk:rs.length≤4) (w:World) (h:FB w fb p (d :: rs) fl) :
  Calls Tryz.prog 218 #[.pointer (some ⟨fb,0,none⟩)] w (AnsP (d.map some) w):=by
 obtain ⟨cap,hb,hc⟩:=h.box;have x0:=En.Qaa hb 0 (v:=.slice p (d :: rs).length cap) rfl;obtain ⟨bt,o,vi,rfl,hv,he⟩:=h.rl.last;have HE:Sh (Eo w vi (d.map some)):=⟨he.eo (h.fits d (by simp))⟩;rw [show (d :: rs).length=rs.length+1 from rfl] at *
 generalize hm:rs.length=m at *
 have hw1:((m:Int)+1-1)=(m:Int):=by omega
 have h2:(0:Int)≤(m:Int):=by omega
 have hw2:IntKind.i64.wrap (m:Int)=(m:Int):=by simp [IntKind.wrap,IntKind.signed,IntKind.bits];omega
 clear h he;go_enter Tryz.func218, Tryz.ntmps218;go_wp2_with fail
 go_region
 go_wp2_with fail;go_ret;exact ⟨QaS (Below.refl _ _),_,rfl,HE.o.keep (QaS (Below.refl _ _))⟩
theorem Qlu (n:Nat) (hn:n≤1000) (w:World) :
  Calls Tryz.prog 90 #[.int .i64 (n:Int)] w fun e w'=>(∃ v,e = .returned v∧OwnL w' w.heap.size v n (fun _=>(⟨#[48]⟩,⟨#[49]⟩)))∧Below w.heap.size w w':=by
 go_enter Tryz.func90, Tryz.ntmps90;go_wp2_with fail
 go_loopw [3,4] (fun vv iv wr=>∃ i:Nat,i≤n∧iv = .int .i64 (i:Int)∧Sh (OwnL wr w.heap.size vv i (fun _=>(⟨#[48]⟩,⟨#[49]⟩))∧Below w.heap.size w wr)) (fun _ iv _=>n-(intOf iv).toNat)
 case atStart=>exact ⟨0,Nat.zero_le _,rfl,⟨OwnL.nil _ _ _,Below.refl _ _⟩⟩
 case round =>
  obtain ⟨i,hi,rfl,HF⟩:=hrel;obtain ⟨hO,u⟩:=HF.o;clear HF;by_cases hin:i=n
  ·subst hin;go_wp2_with fail;go_ret;exact ⟨⟨_,rfl,hO⟩,u⟩
  ·have hil:i<n:=by omega
   have hi2:(i:Int)<(n:Int):=by omega
   have hi3:(0:Int)≤(i:Int):=by omega
   have hw1:IntKind.i64.wrap ((i:Int)+1)=(i:Int)+1:=by simp [IntKind.wrap,IntKind.signed,IntKind.bits];omega
   have ha:=((Below.refl wr.heap.size wr).alloc Lr (Jc #[J ⟨#[48]⟩,J ⟨#[49]⟩] 42));have n_n:(wr.alloc (Jc #[J ⟨#[48]⟩,J ⟨#[49]⟩] 42)).heap[wr.heap.size]? = some (Jc #[J ⟨#[48]⟩,J ⟨#[49]⟩] 42 (0,0)):=World.alloc_heap_new wr _;replace hO:=hO.below ha;replace u:=u.trans (ha.mono u.size);clear ha;have hij:i≤1000:=by omega
   go_wp2_with (at_builtin;go_must (refine En.Qbt rfl _ _ rfl w.heap.size _ i (fun _=>(⟨#[48]⟩,⟨#[49]⟩)) rfl hO wr.heap.size _ rfl n_n hij u.size ?_);intro v' w' hO' hg hat);have u2:=QbA u Lr Lr hO hg;clear hO hg hat u n_n
   go_roundw
   case rel=>exact ⟨i+1,by omega,by first | rfl | go_num | simp,⟨hO',u2⟩⟩
   case measure=>simp [intOf];omega
theorem QtD (n:Nat) (hn:1≤n∧n≤1000) (w:World):Calls Tryz.prog 90 #[.int .i64 (n:Int)] w (AnsP ((zeros n).map some) w) :=
 (Qlu n hn.2 w).mono fun e w' ⟨⟨v,e1,hO⟩,u⟩=>by
  obtain ⟨g,cap,rfl,_,k1,_,k3⟩:=Qdc hO hn.1;refine ⟨u,_,e1,⟨g,0,cap, ?_, ?_, ?_⟩,fun q hq => ?_⟩
  ·rw [List.length_map,QaR]
  ·rw [List.length_map,QaR];exact k1
  ·rw [List.length_map,QaR];exact k3.congr fun i hi=>by rw [Qlr _ i (by rw [QaR];exact hi),QgM]
  ·obtain ⟨x,hx,rfl⟩:=List.mem_map.1 hq;rw [List.eq_of_mem_replicate hx];exact .some fit0
end Tw
end
end Go.Proofs.YtihlgifojjeoaaaGreatDoor
