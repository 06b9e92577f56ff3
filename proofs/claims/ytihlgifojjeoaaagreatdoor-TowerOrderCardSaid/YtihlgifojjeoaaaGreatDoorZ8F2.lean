import Derived.Test.YtihlgifojjeoaaaGreatDoorZ8F1
import Derived.RegionTactic
import Derived.Deep.QuietTactic
import Derived.BigQuiet
import Derived.Lib.AppendZerosOnto
import Derived.Lib.Walk
import Derived.Lib.SliceRun
import Derived.Test.YtihlgifojjeoaaaGreatDoorZ6B8
import Derived.Laws.CopyOwn
import Derived.Deep.RegionLaw
set_option maxRecDepth 1000000
set_option maxHeartbeats 40000000
open Go.Value renaming string→J
open Go.Obj renaming cells→Jc
namespace Go.Proofs.YtihlgifojjeoaaaGreatDoor
section
namespace Tw
open Go.RowKit Go.Extern.Stop Go.Stop Go.Extern
open En
theorem Qqp (w:World):Calls Tryz.prog 99 #[.pointer none] w fun e w'=>e = .returned (.int .i64 1)∧w'=w:=by
 go_enter Tryz.func99, Tryz.ntmps99;go_wp2;go_ret;exact ⟨rfl,rfl⟩
theorem QoC (fb:Nat) (lv:Value) (p:Option Addr) (n cap:Nat) (hn:n≤1000) (w:World) (h:w.heap[fb]? = some (Jc #[lv,.slice p n cap] 117 (0,0))) :
  Calls Tryz.prog 99 #[.pointer (some ⟨fb,0,none⟩)] w fun e w'=>e = .returned (.int .i64 (2*n:Nat))∧w'=w:=by
 have c1:=Qaa h 1 (v:=.slice p n cap) rfl;have hw1:IntKind.i64.wrap (2*(n:Int))=2*(n:Int):=by simp [IntKind.wrap,IntKind.signed,IntKind.bits];omega
 go_enter Tryz.func99, Tryz.ntmps99;go_wp2;go_ret;exact ⟨by rw [Int.natCast_mul];rfl,rfl⟩
theorem QmA (b o m cap:Nat) (hm:1≤m∧m≤500) (hc:m+m≤cap) (w:World) :
  Calls Tryz.prog 96 #[.slice (some ⟨b,o,none⟩) (m+m) cap] w fun e w'=>e = .returned (.tuple #[.slice (some ⟨b,o,none⟩) m cap,.slice (some ⟨b,o+m*2,none⟩) m (cap-m)])∧Below w.heap.size w w':=by
 have hd:((m:Int)+(m:Int)) / 2=(m:Int):=by omega
 have h1:(m:Int)≤(cap:Int):=by omega
 have h2:(0:Int)≤(m:Int):=by omega
 have h3:(m:Int)≤(m:Int)+(m:Int):=by omega
 have h4:¬(cap=m):=by omega
 go_enter Tryz.func96, Tryz.ntmps96;go_wp2
 go_region
 go_wp2;exact bodyPost_ret (v:=.tuple #[.slice (some ⟨b,o,none⟩) m cap,.slice (some ⟨b,o+m*2,none⟩) m (cap-m)]) (by simp [results,Tryz.results96, go_sem]) rfl ⟨rfl,QaS (Below.refl _ _)⟩
def nz (p:P2):Bool := !(decide (p.1.toList = [48]) && decide (p.2.toList = [49]))
theorem QuJ (p:P2) (w:World) (hg:Gl w):Calls Tryz.prog 110 #[.agg #[J p.1,J p.2]] w fun e w'=>e = .returned (.bool (nz p))∧Below w.heap.size w w':=by
 have u:=(Below.refl w.heap.size w).alloc Lr (Jc #[J p.1,J p.2] 42);have n_x:(w.alloc (Jc #[J p.1,J p.2] 42)).heap[w.heap.size]? = _:=World.alloc_heap_new w _;obtain ⟨z0,z1,_,_⟩:=hg.keep u;have x0:=Qaa n_x 0 (v:=J p.1) rfl;have x1:=Qaa n_x 1 (v:=J p.2) rfl;go_enter Tryz.func110, Tryz.ntmps110;go_wp2
 all_goals go_ret
 all_goals exact ⟨by simp [nz, *],u⟩
theorem QoD (n b o cap:Nat) (hn:n≤1000) (G:Nat→P2) (w:World) (hg:Gl w) (hx:Cl w b o n G) :
  Calls Tryz.prog 147 #[.slice (some ⟨b,o,none⟩) n cap,.func (.func 110) #[] #[]] w fun e w'=>(∃ r:Int,e = .returned (.int .i64 r)∧((r = -1∧∀ j,j<n→nz (G j)=false)∨(0≤r∧∃ j,j<n∧nz (G j)=true)))∧Below w.heap.size w w':=by
 have HX:Sh _:=⟨hx⟩;have HG:Sh _:=⟨hg⟩;have U0:Sh _:=⟨Below.refl w.heap.size w⟩;clear hx hg;have hen:=enters_of Tryz.func110 (by kernel_rfl) rfl;go_enter Tryz.func147, Tryz.ntmps147;go_wp2_with fail
 go_loopw [5,8] (fun _ jv wr=>∃ j:Nat,j≤n∧jv = .int .i64 (j:Int)∧Sh (Below w.heap.size w wr)∧Sh (∀ i,i<j→nz (G i)=false)) (fun _ jv _=>n-(intOf jv).toNat)
 case atStart=>exact ⟨0,Nat.zero_le _,rfl,U0,⟨fun i h=>by omega⟩⟩
 case round =>
  obtain ⟨j,hj,rfl,HU,HC⟩:=hrel;clear U0;have u:=HU.o;have hen:=fun a w=>hen a w;by_cases hjn:j=n
  ·subst hjn;go_wp2_with fail;go_ret;exact ⟨⟨_,rfl,.inl ⟨rfl,HC.o⟩⟩,u⟩
  ·have hjl:j<n:=by omega
   have hj2:(j:Int)<(n:Int):=by omega
   have hj3:(0:Int)≤(j:Int):=by omega
   obtain ⟨x0,x1⟩:=(HX.o.keep u).at_ j hjl;have cO:=QuJ (G j) wr (HG.o.keep u);have hw1:IntKind.i64.wrap ((j:Int)+1)=(j:Int)+1:=by simp [IntKind.wrap,IntKind.signed,IntKind.bits];omega
   obtain ⟨b0,hb0⟩:∃ v,v=nz (G j):=⟨_,rfl⟩;rw [←hb0] at cO;have HB:Sh _:=⟨hb0⟩;clear hb0;generalize G j=g0 at x0 x1 cO;go_wp2_with fail;refine cO.mono ?_;rintro e v1 ⟨rfl,g⟩;replace u:=u.trans (g.mono u.size);clear g cO x0 x1;cases b0 with
   | true =>
    go_wp2_with fail;go_ret;exact ⟨⟨_,rfl,.inr ⟨hj3,j,hjl,HB.o.symm⟩⟩,u⟩
   | false =>
    go_wp2_with fail
    go_roundw
    case rel=>exact ⟨j+1,by omega,by first | rfl | go_num | simp,⟨u⟩,⟨fun i hi=>by
     rcases Nat.lt_or_ge i j with h | h
     ·exact HC.o i h
     ·obtain rfl:i=j:=by omega
      exact HB.o.symm⟩⟩
    case measure=>simp [intOf];omega
def allZ (G:Nat→P2):Nat→Bool
 | 0=>true
 | n+1=>allZ G n && !nz (G n)
theorem Qjf (G:Nat→P2):∀ n,(∀ j,j<n→nz (G j)=false)→allZ G n=true
 | 0,_=>rfl
 | n+1,h=>by rw [allZ,Qjf G n (fun j hj=>h j (by omega)),h n (by omega)];rfl
theorem Qhp (G:Nat→P2):∀ n j,j<n→nz (G j)=true→allZ G n=false
 | 0,j,h,_=>absurd h (by omega)
 | n+1,j,h,k=>by
  rcases Nat.lt_or_ge j n with h1 | h1
  ·rw [allZ,Qhp G n j h1 k];rfl
  ·obtain rfl:j=n:=by omega
   rw [allZ,k];simp
theorem Qcg (n b o cap:Nat) (hn:n≤1000) (G:Nat→P2) (w:World) (hg:Gl w) (hx:Cl w b o n G) :
  Calls Tryz.prog 64 #[.slice (some ⟨b,o,none⟩) n cap] w fun e w'=>e = .returned (.bool (allZ G n))∧Below w.heap.size w w':=by
 have cI:=QoD n b o cap hn G w hg hx
 have cC:Calls Tryz.prog 109 #[.slice (some ⟨b,o,none⟩) n cap,.func (.func 110) #[] #[]] w fun e w'=>e = .returned (.bool (!allZ G n))∧Below w.heap.size w w':=by
  obtain ⟨z,hz⟩:∃ z,z=allZ G n:=⟨_,rfl⟩;rw [←hz];have HZ:Sh _:=⟨hz⟩;clear hz;go_enter Tryz.func109, Tryz.ntmps109;go_wp2_with fail;refine cI.mono ?_;rintro e w' ⟨⟨r,rfl,h⟩,u⟩;rcases h with ⟨rfl,h⟩ | ⟨h0,j,hj,h⟩
  ·obtain rfl:z=true:=HZ.o.trans (Qjf G n h);go_wp2_with fail;go_ret;exact ⟨rfl,u⟩
  ·obtain rfl:z=false:=HZ.o.trans (Qhp G n j hj h);have hd:decide (r≥0)=true:=decide_eq_true h0;go_wp2_with fail;go_ret;exact ⟨by simp,u⟩
 clear cI;generalize allZ G n=z at *
 go_enter Tryz.func64, Tryz.ntmps64;go_wp2_with fail;refine cC.mono ?_;rintro e w' ⟨rfl,u⟩;go_wp2_with fail;go_ret;exact ⟨by simp,u⟩
theorem Qqq (k:Nat) (hk:Enters Tryz.prog k) (recv f o1 o2:Value) (bo co:Nat) (w:World) (hb:w.heap[bo]? = some (Jc #[o1,o2] 67 (0,0)))
  (S:Value→World→Prop) (R:Ending→World→Prop)
  (h1:Calls Tryz.prog k #[recv,f,o1] w fun e w1=>Below w.heap.size w w1∧((∃ v,e = .returned v∧S v w1)∨(e = .panicked twP∧R e w1)))
  (h2:∀ v w1,Below w.heap.size w w1→S v w1→Calls Tryz.prog k #[recv,v,o2] w1 fun e w2=>Below w1.heap.size w1 w2∧((∃ v,e = .returned v∧R e w2)∨(e = .panicked twP∧R e w2))) :
  Calls Tryz.prog 97 #[.func (.func k) #[recv] #[],f,.slice (some ⟨bo,0,none⟩) 2 co] w fun e w'=>Below w.heap.size w w'∧R e w':=by
 have hen:=fun a w=>hk a w;have y0:=Qaa hb 0 (v:=o1) rfl;have H1:Sh _:=⟨h1⟩;have H2:Sh _:=⟨h2⟩;clear h1 h2;go_enter Tryz.func97, Tryz.ntmps97;go_wp2_with fail;refine wp_loop_rounds 3 ?_;rw [rounds_succ];go_wp2_with fail;refine H1.o.mono ?_;rintro e w1 ⟨u,⟨v,rfl,hS⟩ | ⟨rfl,hR⟩⟩
 ·replace hb:=Qac hb u;have y1:=Qaa hb 1 (v:=o2) rfl;have c2:=H2.o v w1 u hS;clear y0;go_wp2_with fail;rw [rounds_succ];go_wp2_with fail;refine c2.mono ?_;rintro e w2 ⟨u2,⟨v2,rfl,hR⟩ | ⟨rfl,hR⟩⟩
  ·go_wp2_with fail;rw [rounds_succ];go_wp2_with fail;go_ret;exact ⟨u.trans (u2.mono u.size),hR⟩
  ·exact ⟨rfl,u.trans (u2.mono u.size),hR⟩
 ·exact ⟨rfl,u,hR⟩
end Tw
end
section
namespace Tw
open Go.RowKit Go.Extern.Stop Go.Stop Go.Extern
open En Go.Lib
theorem Qqr (n:Nat) (h:1≤n∧n≤1000) (R:Nat→P2) (w:World):Calls Tryz.prog 144 #[.slice none 0 0,.int .i64 (n:Int)] w fun e w'=>(∃ g cap,e = .returned (.slice (some ⟨g,0,none⟩) 0 cap)∧w.heap.size≤g∧OwnL w' w.heap.size (.slice (some ⟨g,0,none⟩) 0 cap) 0 R)∧Below w.heap.size w w':=by
 obtain ⟨i0,hinf,hz⟩:=Option.map_eq_some_iff.1 Qem;have hz0:i0.zero=some (.agg #[J ⟨#[]⟩,J ⟨#[]⟩]):=congrArg (fun q=>q.1) hz;have hz1:i0.size=2:=congrArg (fun q=>q.2.1) hz;have hz2:i0.bytes=32:=congrArg (fun q=>q.2.2) hz;have hm:n≤maxLen:=by unfold maxLen;omega
 have hns:Builtin.nextslicecap (0+n) 0=n:=by rw [Builtin.nextslicecap,if_pos (by omega)];omega
 have hap:=fun ty=>run_append_grow_zeros (P:=Tryz.prog) w 67 3 ty 42 i0 _ .i64 .i64 Tryz.underlying67 Tryz.underlying3 hinf hz0 none 0 0 [] (run_firstCells_none w.drew i0.size 0 0 0) n (by omega) (by omega) (by omega) (by omega) (by rw [hz2];omega) (by rw [hns,hz2];omega);have hge:=grownCap_ge w (0+n) 0 42;have hle:=grownCap_le_maxLen w (0+n) 0 42 (by omega);generalize hcp:grownCap w (0+n) 0 42 = cp at *
 have h1:¬((n:Int)<0):=by omega
 have h4:(n:Int) > 0:=by omega
 have hw1:IntKind.i64.wrap (n:Int)=(n:Int):=by simp [IntKind.wrap,IntKind.signed,IntKind.bits];omega
 have hc0:(0:Int)≤(cp:Int):=by omega
 simp only [Nat.zero_add] at hap hge;go_enter Tryz.func144, Tryz.ntmps144;go_wp2_with (at_builtin;refine Lib.wpList_append_run _ rfl _ _ _ _ rfl _ _ rfl rfl _ _ (hap _) ?_);go_ret;refine ⟨⟨_,_,rfl,Nat.le_refl _,rfl,.inr ⟨_,_,_,rfl,Nat.le_refl _,World.alloc_heap_new w _,Nat.zero_le _,hle, ?_,by simp [Qbd]⟩⟩,QaS ((Below.refl w.heap.size w).alloc Lr _)⟩;simp [Builtin.zeroCells];omega
theorem QbY (R:Nat→P2) (n j:Nat) (u:Value) (h:(Qbd R n)[j]? = some u):∃ i,i<n∧((j=i*2∧u=J (R i).1)∨(j=i*2+1∧u=J (R i).2)):=by
 have hl:=Qbs R n
 have hj:j<n*2:=by
  rcases Nat.lt_or_ge j (n*2) with h1 | h1
  ·exact h1
  ·rw [List.getElem?_eq_none (by omega)] at h;cases h
 obtain ⟨h1,h2⟩:=QdA R n (j / 2) (by omega);refine ⟨j / 2,by omega, ?_⟩;rcases Nat.mod_two_eq_zero_or_one j with e | e
 ·have:j / 2*2=j:=by omega
  rw [this,h] at h1;injection h1 with h1;exact .inl ⟨by omega,h1⟩
 ·have:j / 2*2+1=j:=by omega
  rw [this,h] at h2;injection h2 with h2;exact .inr ⟨by omega,h2⟩
theorem Qfs (R R':Nat→P2):∀ t,(∀ i,i<t→R' i=R i)→Qbd R' t=Qbd R t
 | 0,_=>rfl
 | t+1,h=>by rw [Qbd,Qbd,Qfs R R' t (fun i hi=>h i (by omega)),h t (by omega)]
theorem Qeb (R R' G:Nat→P2) (t:Nat) (h1:∀ i,i<t→R' i=R i):∀ n,(∀ i,i<n→R' (t+i)=G i)→Qbd R' (t+n)=Qbd R t++Qbd G n
 | 0,_=>by rw [Qbd,List.append_nil];exact Qfs R R' t h1
 | n+1,h=>by rw [←Nat.add_assoc,Qbd,Qeb R R' G t h1 n (fun i hi=>h i (by omega)),h n (by omega),Qbd,List.append_assoc]
theorem QgI {w:World} {ops:Array Oper} {rest:List Oper} {o:Oper} {a:Act} {Q:Exit→Act→World→Prop} (hgd:o.guard=none) (s x:Operand)
  (ho:o.op = .call {callee:=.builtin .append,args:=#[s,x],argTypes:=#[67, 67]}) (base:Nat) (v:Value) (t:Nat) (R R' G:Nat→P2) (hs:a.eval s=v) (hown:OwnL w base v t R)
  (Bx ox n c:Nat) (hx:a.eval x = .slice (some ⟨Bx,ox,none⟩) n c) (hG:Cl w Bx ox n G) (ht:t≤1000) (hn:n≤1000) (hb:base≤w.heap.size) (h1:∀ i,i<t→R' i=R i) (h2:∀ i,i<n→R' (t+i)=G i)
  (h:∀ v' w',OwnL w' base v' (t+n) R'→w.grownBy w' v.ownBlock→(v' = .slice none 0 0↔v = .slice none 0 0∧n=0)→(v'.ownBlock=v.ownBlock∨v'.ownBlock=some w.heap.size)→wpList Tryz.prog ops Q rest (a.put o.dst v') w'):wpList Tryz.prog ops Q (o :: rest) a w:=by
 obtain ⟨i0,hinf,hz⟩:=Option.map_eq_some_iff.1 Qem;have hz0:i0.zero=some (.agg #[J ⟨#[]⟩,J ⟨#[]⟩]):=congrArg (fun q=>q.1) hz;have hz1:i0.size=2:=congrArg (fun q=>q.2.1) hz;have hz2:i0.bytes=32:=congrArg (fun q=>q.2.2) hz;refine wpList_append_own_at w hgd s x 67 ho base 42 i0 (.agg #[J ⟨#[]⟩,J ⟨#[]⟩]) 2 32 Tryz.underlying67 hinf hz0 hz1 hz2 rfl (by decide) v t _ hs hown ⟨Bx,ox,none⟩ n c (Qbd G n) hx (Qbs G n) ?_ ?_ (by unfold maxLen;omega) (by omega) hb ?_
 ·intro j u hj;obtain ⟨i,hi,⟨rfl,rfl⟩ | ⟨rfl,rfl⟩⟩:=QbY G n j u hj
  ·rw [Addr.add_lit];exact (hG.at_ i hi).1
  ·rw [Addr.add_lit,←Nat.add_assoc];exact (hG.at_ i hi).2
 ·intro u hu;obtain ⟨j,hj⟩:=List.getElem?_of_mem hu;obtain ⟨i,hi,⟨rfl,rfl⟩ | ⟨rfl,rfl⟩⟩:=QbY G n j u hj <;> rfl
 ·intro v' w' hown' hgrow hnil hat;refine h v' w' ?_ hgrow hnil hat;unfold OwnL;rw [Qeb R R' G t h1 n h2];exact hown'
theorem QbK {W W':World} {r:Option Nat} (h:W.grownBy W' r) {b:Nat} {o:Obj} (hb:W.heap[b]? = some o) (hne:r≠some b):W'.heap[b]? = some o:=(h.block b (Array.getElem?_eq_some_iff.1 hb).1 (fun e=>hne e.symm)).trans hb
theorem Qba {W W':World} {r:Option Nat} (h:W.grownBy W' r) {a:Addr} {v:Value} (hc:W.cell? a=some v) (hne:r≠some a.block):W'.cell? a=some v:=by
 have:=h.block a.block (World.block_lt_of_cell? W _ hc) (fun e=>hne e.symm);rw [←hc];simp only [World.cell?,this]
theorem Cl.grown {W W':World} {r:Option Nat} {b o n:Nat} {G:Nat→P2} (hx:Cl W b o n G) (h:W.grownBy W' r) (hne:r≠some b):Cl W' b o n G:=⟨fun i hi=>⟨Qba h (hx.at_ i hi).1 hne,Qba h (hx.at_ i hi).2 hne⟩⟩
theorem Qdc {W:World} {base:Nat} {v:Value} {t:Nat} {R:Nat→P2} (h:OwnL W base v t R) (ht:1≤t):∃ g cap,v = .slice (some ⟨g,0,none⟩) t cap∧base≤g∧t≤cap∧cap≤maxLen∧Cl W g 0 t R:=by
 obtain ⟨t,rfl⟩:∃ k,t=k+1:=⟨t-1,by omega⟩
 have hb:∀ g,v.ownBlock=some g→base≤g:=by
  rcases h.2 with ⟨_,hn⟩ | ⟨g,cap,cur,rfl,hg,_⟩
  ·cases hn
  ·intro g' e;simp [Value.ownBlock] at e;omega
 obtain ⟨g,cap,rfl,h1,h2,cur,h3,h4⟩:=h.shape;exact ⟨g,cap,rfl,hb g rfl,h1,h2,⟨fun i hi=>⟨Qaa h3 _ (by rw [Nat.zero_add];exact (h4 i hi).1),Qaa h3 _ (by rw [Nat.zero_add];exact (h4 i hi).2)⟩⟩⟩
theorem QmB (b1 o1 n1 c1 b2 o2 n2 c2 bo co:Nat) (h1:1≤n1∧n1≤500) (h2:1≤n2∧n2≤500) (G1 G2 H:Nat→P2) (e1:∀ i,i<n1→H i=G1 i) (e2:∀ i,i<n2→H (n1+i)=G2 i) (w:World)
  (hb:w.heap[bo]? = some (Jc #[.slice (some ⟨b1,o1,none⟩) n1 c1,.slice (some ⟨b2,o2,none⟩) n2 c2] 67 (0,0))) (hx:Cl w b1 o1 n1 G1) (hy:Cl w b2 o2 n2 G2) :
  Calls Tryz.prog 98 #[.slice (some ⟨bo,0,none⟩) 2 co] w (AnsE True (n1+n2) H w):=by
 have y0:=Qaa hb 0 rfl;have y1:=Qaa hb 1 rfl;have hw1:IntKind.i64.wrap (n1:Int)=(n1:Int):=by simp [IntKind.wrap,IntKind.signed,IntKind.bits];omega
 have hw2:IntKind.i64.wrap ((n1:Int)+(n2:Int))=(n1:Int)+(n2:Int):=by simp [IntKind.wrap,IntKind.signed,IntKind.bits];omega
 have hd1:¬((n1:Int)<0):=by omega
 have hd2:¬((n1:Int)+(n2:Int)<0):=by omega
 have HX:Sh _:=⟨hx⟩;have HY:Sh _:=⟨hy⟩;have cG:=Qqr (n1+n2) (by omega) (fun _=>(⟨#[]⟩,⟨#[]⟩)) w;rw [Int.natCast_add] at cG;have hlt1:=hx.lt (by omega);have hlt2:=hy.lt (by omega);have hltb:=(Array.getElem?_eq_some_iff.1 hb).1;clear hx hy;go_enter Tryz.func98, Tryz.ntmps98;go_wp2_with fail;refine wp_loop_rounds 3 ?_;rw [rounds_succ];go_wp2_with fail;rw [rounds_succ];go_wp2_with fail;rw [rounds_succ];go_wp2_with fail;refine cG.mono ?_;rintro e w1 ⟨⟨g,cap,rfl,hg,hO⟩,u⟩;clear cG;have q0:=Qae y0 u;have hb1:=Qac hb u;have HO:Sh _:=⟨hO⟩;clear hO y0 y1;go_wp2_with fail;refine wp_loop_rounds 3 ?_;rw [rounds_succ];go_wp2_with (refine QgI rfl _ _ rfl w.heap.size (.slice (some ⟨g,0,none⟩) 0 cap) 0 (fun _=>(⟨#[]⟩,⟨#[]⟩)) G1 G1 rfl HO.o b1 o1 n1 c1 rfl (HX.o.keep u) (by omega) (by omega) u.size (fun i hi=>absurd hi (by omega)) (fun i _=>congrArg G1 (Nat.zero_add i)) ?_;intro v2 w2 hO2 hg2 _ hat2);rw [Nat.zero_add] at hO2;have u2:Below w.heap.size w w2:=QbA u Lr Lr HO.o hg2;have hb2:=QbK hg2 hb1 (by simp [Value.ownBlock];omega);have y1:=Qaa hb2 1 rfl;have HY2:Sh _:=⟨(HY.o.keep u).grown hg2 (by simp [Value.ownBlock];omega)⟩;have HO2:Sh _:=⟨hO2⟩;have U2:Sh _:=⟨u2⟩;clear hO2 u2 hat2 hg2 hb2 hb1 u q0;rw [rounds_succ];go_wp2_with (refine QgI rfl _ _ rfl w.heap.size v2 n1 G1 H G2 rfl HO2.o b2 o2 n2 c2 rfl HY2.o (by omega) (by omega) U2.o.size e1 e2 ?_;intro v3 w3 hO3 hg3 _ hat3);have u3:Below w.heap.size w w3:=QbA U2.o Lr Lr HO2.o hg3;obtain ⟨g3,cap3,rfl,k1,k2,k3,k4⟩:=Qdc hO3 (by omega);rw [rounds_succ];go_wp2_with fail;go_ret;exact ⟨u3,fun _=>⟨g3,cap3,rfl,k1,k2,k3,k4⟩,fun h=>absurd trivial h⟩
theorem Qjg (b o n c:Nat) (h1:1≤n∧n≤1000) (G:Nat→P2) (w:World) (hx:Cl w b o n G) :
  Calls Tryz.prog 104 #[.slice (some ⟨b,o,none⟩) n c] w (AnsE True n G w):=by
 have HX:Sh _:=⟨hx⟩;have hq:∀ w:World,(binOp BinOp.eql 67 (.slice (some ⟨b,o,none⟩) n c) (.slice none 0 0)).run Tryz.prog w = .ok (.bool false) w:=fun _=>by kernel_rfl
 have hlt:=hx.lt (by omega);clear hx;go_enter Tryz.func104, Tryz.ntmps104;have hO:OwnL (w.alloc (Jc #[] 42)) w.heap.size (.slice (some ⟨w.heap.size,0,none⟩) 0 0) 0 (fun _=>(⟨#[]⟩,⟨#[]⟩)):=⟨rfl,.inr ⟨_,_,_,rfl,Nat.le_refl _,World.alloc_heap_new w _,Nat.le_refl _,Nat.zero_le _,rfl,rfl⟩⟩;have u:=(Below.refl w.heap.size w).alloc Lr (Jc #[] 42);have HO:Sh _:=⟨hO⟩;clear hO;go_wp2_with (refine QgI rfl _ _ rfl w.heap.size (.slice (some ⟨w.heap.size,0,none⟩) 0 0) 0 (fun _=>(⟨#[]⟩,⟨#[]⟩)) G G rfl HO.o b o n c rfl (HX.o.keep u) (by omega) (by omega) u.size (fun i hi=>absurd hi (by omega)) (fun i _=>congrArg G (Nat.zero_add i)) ?_;intro v2 w2 hO2 hg2 _ hat2);rw [Nat.zero_add] at hO2;have u2:Below w.heap.size w w2:=QbA u Lr Lr HO.o hg2;obtain ⟨g3,cap3,rfl,k1,k2,k3,k4⟩:=Qdc hO2 (by omega);clear hat2 hg2 hO2;go_ret;exact ⟨u2,fun _=>⟨g3,cap3,rfl,k1,k2,k3,k4⟩,fun h=>absurd trivial h⟩
end Tw
end
section
namespace Tw
open Go.RowKit Go.Extern.Stop Go.Stop Go.Extern
open En
theorem Qqs (x y:Nat) (hx:x<18446744073709551616) (hy:y<18446744073709551616) (w:World) :
  Calls Tryz.prog 181 #[.int .u64 x,.int .u64 y] w fun e w'=>e = .returned (.tuple #[.int .u64 ((x*y / 18446744073709551616:Nat):Int),.int .u64 ((x*y % 18446744073709551616:Nat):Int)])∧w'=w :=
 Any.bits_Mul (P:=Tryz.prog) (ρ:=Rt.renR) {Rt.renR_lays with} x y hx hy w
theorem Qft (w:World) (ty:TypeId) (g o dLen dCap:Nat) (a:Addr) (sLen sCap m:Nat) (cur:Array Value) (cs:List Value)
  (hg:w.heap[g]? = some (.cells cur 42 (0,0))) (hm:m=Nat.min sLen dLen) (hn:cs.length=m*2)
  (hsrc:∀ j v,cs[j]? = some v→w.cell? (a.add j)=some v) (hfit:o+cs.length≤cur.size) (h1:∀ v∈cs,v.oneCell'=true) :
  (Builtin.copy_ #[67, 67] ty #[.slice (some ⟨g,o,none⟩) dLen dCap,.slice (some a) sLen sCap]).run Tryz.prog w =
   .ok (goInt m) (w.setRow g (cur.toList.take o++cs++cur.toList.drop (o+cs.length)).toArray):=by
 obtain ⟨i0,hinf,hz⟩:=Option.map_eq_some_iff.1 Qem;have hz1:i0.size=2:=congrArg (fun q=>q.2.1) hz;have hl:=run_loadCells_list (P:=Tryz.prog) w a cs hsrc;have hst:=run_storeCells_at Tryz.prog g o 42 cs 0 cur w hg (by simpa using hfit) h1;rw [hn] at hl;simp [Builtin.copy_,run_underlying Tryz.underlying67, Builtin.lenOf,Builtin.firstCells,sizeOf,typeInfo,hinf,hz1,←hm,hl,hst]
theorem QgJ {w:World} {ops:Array Oper} {rest:List Oper} {o:Oper} {a:Act} {Q:Exit→Act→World→Prop} (hgd:o.guard=none) (d s:Operand)
  (ho:o.op = .call {callee:=.builtin .copy,args:=#[d,s],argTypes:=#[67, 67]})
  (g off dLen dCap:Nat) (ad:Addr) (sLen sCap m:Nat) (hd:a.eval d = .slice (some ⟨g,off,none⟩) dLen dCap) (hs:a.eval s = .slice (some ad) sLen sCap) (cur:Array Value) (cs:List Value)
  (hg:w.heap[g]? = some (.cells cur 42 (0,0))) (hm:m=Nat.min sLen dLen) (hn:cs.length=m*2)
  (hsrc:∀ j v,cs[j]? = some v→w.cell? (ad.add j)=some v) (hfit:off+cs.length≤cur.size) (h1:∀ v∈cs,v.oneCell'=true)
  (h:wpList Tryz.prog ops Q rest (a.put o.dst (goInt m)) (w.setRow g (cur.toList.take off++cs++cur.toList.drop (off+cs.length)).toArray)):wpList Tryz.prog ops Q (o :: rest) a w:=by
 refine wpList_plain hgd fun K hK => ?_;have hr:=Qft w o.type g off dLen dCap ad sLen sCap m cur cs hg hm hn hsrc hfit h1;unfold Oper.wp execOp;simp only [ho,resolve,invoke,builtin,Sem.run_bind,Sem.run_pure,Result.andThen_ok,List.map_toArray,List.map_cons,List.map_nil,hd,hs,hr];exact hK _ _ h
theorem Qid {ops:Array Oper} {o:Oper} {a:Act} {w:World} {K:Act→World→Prop} {Q:Exit→Act→World→Prop} {E:Prop} (hgd:o.guard=none) (d s:Operand)
  (ho:o.op = .call {callee:=.builtin .copy,args:=#[d,s],argTypes:=#[67, 67]})
  (g off dLen dCap:Nat) (ad:Addr) (sLen sCap m:Nat) (hd:a.eval d = .slice (some ⟨g,off,none⟩) dLen dCap) (hs:a.eval s = .slice (some ad) sLen sCap) (cur:Array Value) (cs:List Value)
  (hg:w.heap[g]? = some (.cells cur 42 (0,0))) (hm:m=Nat.min sLen dLen) (hn:cs.length=m*2)
  (hsrc:∀ j v,cs[j]? = some v→w.cell? (ad.add j)=some v) (hfit:off+cs.length≤cur.size) (h1:∀ v∈cs,v.oneCell'=true)
  (h:K (a.put o.dst (goInt m)) (w.setRow g (cur.toList.take off++cs++cur.toList.drop (off+cs.length)).toArray)) :
  if Region.wanted o (yielded ops a.tmps)=true then Oper.wp Tryz.prog o a w K Q else E:=by
 have hw:Region.wanted o (yielded ops a.tmps)=true:=by simp [Region.wanted,hgd]
 rw [if_pos hw];have hr:=Qft w o.type g off dLen dCap ad sLen sCap m cur cs hg hm hn hsrc hfit h1;unfold Oper.wp;simp [execOp,ho,resolve,invoke,builtin,hd,hs,hr,Result.andThen];rw [List.append_assoc] at h;exact h
theorem Qhq {W:World} {g n k m:Nat} {cur:Array Value} {p:P2} (hg:W.heap[g]? = some (.cells cur 42 (0,0))) (hs:cur.size=n*2)
  (hk:∀ i,i<k→cur[i*2]? = some (J p.1)∧cur[i*2+1]? = some (J p.2)) (hkm:k+m≤n) :
  Own (W.setRow g (cur.toList.take (k*2)++Qbd (fun _=>p) m++cur.toList.drop (k*2+(Qbd (fun _=>p) m).length)).toArray) g n (fun _=>p) (k+m):=by
 have hl:=Qbs (fun _=>p) m;have ht:(cur.toList.take (k*2)).length=k*2:=by rw [List.length_take,Array.length_toList];exact Nat.min_eq_left (by omega)
 refine ⟨_,setRow_heap W g _ _ _ _ hg, ?_,fun i hi => ?_⟩
 ·simp only [List.size_toArray,List.length_append,List.length_drop,Array.length_toList,ht,hl];omega
 ·have key:∀ j,j<(k+m)*2→(cur.toList.take (k*2)++Qbd (fun _=>p) m++cur.toList.drop (k*2+(Qbd (fun _=>p) m).length)).toArray[j]? = if j<k*2 then cur[j]? else (Qbd (fun _=>p) m)[j-k*2]? := fun j hj=>by
   rw [List.getElem?_toArray,List.append_assoc];split
   ·rename_i h;rw [List.getElem?_append_left (by omega),List.getElem?_take_of_lt h,Array.getElem?_toList]
   ·rename_i h;rw [List.getElem?_append_right (by omega),ht,List.getElem?_append_left (by omega)]
  rw [key _ (by omega),key _ (by omega)];rcases Nat.lt_or_ge i k with h | h
  ·rw [if_pos (by omega),if_pos (by omega)];exact hk i h
  ·rw [if_neg (by omega),if_neg (by omega)];have:=QdA (fun _=>p) m (i-k) (by omega);rw [show i*2-k*2=(i-k)*2 by omega,show i*2+1-k*2=(i-k)*2+1 by omega];exact this
theorem Qrv {W:World} {b o n:Nat} {G:Nat→P2} (h:Cl W b o n G):∀ j v,(Qbd G n)[j]? = some v→W.cell? ((⟨b,o,none⟩:Addr).add j)=some v:=by
 intro j u hj;obtain ⟨i,hi,⟨rfl,rfl⟩ | ⟨rfl,rfl⟩⟩:=QbY G n j u hj
 ·rw [Addr.add_lit];exact (h.at_ i hi).1
 ·rw [Addr.add_lit,←Nat.add_assoc];exact (h.at_ i hi).2
theorem Qjh (G:Nat→P2) (n:Nat):∀ u∈Qbd G n,u.oneCell'=true:=by
 intro u hu;obtain ⟨j,hj⟩:=List.getElem?_of_mem hu;obtain ⟨i,hi,⟨rfl,rfl⟩ | ⟨rfl,rfl⟩⟩:=QbY G n j u hj <;> rfl
theorem Own.clk {W:World} {b n k m:Nat} {p:Nat→P2} (h:Own W b n p k) (hm:m≤k):Cl W b 0 m p:=by
 obtain ⟨cur,h1,h2,h3⟩:=h.ex;exact ⟨fun i hi=>⟨Qaa h1 _ (by rw [Nat.zero_add];exact (h3 i (by omega)).1),Qaa h1 _ (by rw [Nat.zero_add];exact (h3 i (by omega)).2)⟩⟩
theorem QgK {w:World} {ops:Array Oper} {rest:List Oper} {o:Oper} {a:Act} {Q:Exit→Act→World→Prop} (hgd:o.guard=none) (d s:Operand)
  (ho:o.op = .call {callee:=.builtin .copy,args:=#[d,s],argTypes:=#[67, 67]})
  (g n k m dLen dCap b off sLen sCap:Nat) (p:P2) (hd:a.eval d = .slice (some ⟨g,k*2,none⟩) dLen dCap) (hs:a.eval s = .slice (some ⟨b,off,none⟩) sLen sCap)
  (hO:Own w g n (fun _=>p) k) (hm:m=Nat.min sLen dLen) (hsrc:Cl w b off m (fun _=>p)) (hkm:k+m≤n) (B:Nat) (w0:World) (hb:Below B w0 w) (hBg:B≤g)
  (h:∀ w',Own w' g n (fun _=>p) (k+m)→Below B w0 w'→wpList Tryz.prog ops Q rest (a.put o.dst (goInt m)) w'):wpList Tryz.prog ops Q (o :: rest) a w:=by
 obtain ⟨cur,h1,h2,h3⟩:=hO.ex;exact QgJ hgd d s ho g (k*2) dLen dCap ⟨b,off,none⟩ sLen sCap m hd hs cur (Qbd (fun _=>p) m) h1 hm (Qbs _ _) (Qrv hsrc) (by rw [Qbs,h2];omega) (Qjh _ _) (h _ (Qhq h1 h2 h3 hkm) (below_setRow hb hBg _))
theorem Qie {ops:Array Oper} {o:Oper} {a:Act} {w:World} {K:Act→World→Prop} {Q:Exit→Act→World→Prop} {E:Prop} (hgd:o.guard=none) (d s:Operand)
  (ho:o.op = .call {callee:=.builtin .copy,args:=#[d,s],argTypes:=#[67, 67]})
  (g n k m dLen dCap b off sLen sCap:Nat) (p:P2) (hd:a.eval d = .slice (some ⟨g,k*2,none⟩) dLen dCap) (hs:a.eval s = .slice (some ⟨b,off,none⟩) sLen sCap)
  (hO:Own w g n (fun _=>p) k) (hm:m=Nat.min sLen dLen) (hsrc:Cl w b off m (fun _=>p)) (hkm:k+m≤n) (B:Nat) (w0:World) (hb:Below B w0 w) (hBg:B≤g)
  (h:∀ w',Own w' g n (fun _=>p) (k+m)→Below B w0 w'→K (a.put o.dst (goInt m)) w') :
  if Region.wanted o (yielded ops a.tmps)=true then Oper.wp Tryz.prog o a w K Q else E:=by
 obtain ⟨cur,h1,h2,h3⟩:=hO.ex;exact Qid hgd d s ho g (k*2) dLen dCap ⟨b,off,none⟩ sLen sCap m hd hs cur (Qbd (fun _=>p) m) h1 hm (Qbs _ _) (Qrv hsrc) (by rw [Qbs,h2];omega) (Qjh _ _) (h _ (Qhq h1 h2 h3 hkm) (below_setRow hb hBg _))
theorem Qji {w:World} {ops:Array Oper} {a:Act} {K:Act→World→Prop} {Q:Exit→Act→World→Prop} {E:Prop} {ty:TypeId} {pos:String} {after:Array Edge}
  (e d s:Nat) (g n k m dLen dCap b off sLen sCap:Nat) (p:P2) (hd:a.eval (.tmp d) = .slice (some ⟨g,k*2,none⟩) dLen dCap) (hs:a.eval (.tmp s) = .slice (some ⟨b,off,none⟩) sLen sCap)
  (hO:Own w g n (fun _=>p) k) (hm:m=Nat.min sLen dLen) (hsrc:Cl w b off m (fun _=>p)) (hkm:k+m≤n) (B:Nat) (w0:World) (hb:Below B w0 w) (hBg:B≤g)
  (h:∀ w',Own w' g n (fun _=>p) (k+m)→Below B w0 w'→K (a.put (some e) (goInt m)) w') :
  if Region.wanted {dst:=some e,op:=.call {callee:=.builtin .copy,args:=#[.tmp d,.tmp s],argTypes:=#[67, 67]},type:=ty,pos:=pos,after:=after,guard:=none} (yielded ops a.tmps)=true then Oper.wp Tryz.prog {dst:=some e,op:=.call {callee:=.builtin .copy,args:=#[.tmp d,.tmp s],argTypes:=#[67, 67]},type:=ty,pos:=pos,after:=after,guard:=none} a w K Q else E :=
 Qie rfl (.tmp d) (.tmp s) rfl g n k m dLen dCap b off sLen sCap p hd hs hO hm hsrc hkm B w0 hb hBg h
theorem QmC (bx ox cx n:Nat) (hn:1≤n∧n≤1000) (p:P2) (w:World) (hx:Cl w bx ox 1 (fun _=>p)) :
  Calls Tryz.prog 139 #[.slice (some ⟨bx,ox,none⟩) 1 cx,.int .i64 (n:Int)] w (AnsE True n (fun _=>p) w):=by
 have cM:=Qqs 1 n (by decide) (by omega) w;rw [show 1*n / 18446744073709551616=0 by omega,show 1*n % 18446744073709551616=n by omega] at cM;have h1:¬((n:Int)<0):=by omega
 have hw1:IntKind.u64.wrap (n:Int)=(n:Int):=by simp [IntKind.wrap,IntKind.signed,IntKind.bits];omega
 have hw2:IntKind.i64.wrap (n:Int)=(n:Int):=by simp [IntKind.wrap,IntKind.signed,IntKind.bits];omega
 have hd:decide ((9223372036854775807:Int)<(n:Int))=false:=decide_eq_false (by omega);have hmk:=QkY n hn.2;have U0:Sh _:=⟨(Below.refl w.heap.size w).alloc Lr (made n)⟩;have HX:Sh _:=⟨hx.keep U0.o⟩;have HN:Sh _:=⟨Own.new n w (fun _=>p)⟩;clear hx;go_enter Tryz.func139, Tryz.ntmps139;go_wp2_with (first | (go_at_call 181; refine cM.mono ?_;rintro e w1 ⟨rfl,hw⟩;rw [hw];clear hw) | (refine QgK rfl _ _ rfl w.heap.size n 0 1 n n bx ox 1 cx p rfl rfl HN.o (Nat.min_eq_left hn.1).symm HX.o (by omega) w.heap.size w U0.o Lr ?_;intro w2 N2 U2));replace N2:Sh (Own w2 w.heap.size n (fun _=>p) 1∧Below w.heap.size w w2):=⟨N2,U2⟩;clear U2 HX HN U0 cM hmk hw1
 go_loopw [8] (fun kv wr=>∃ k:Nat,1≤k∧k≤n∧kv = .int .i64 (k:Int)∧Sh (Own wr w.heap.size n (fun _=>p) k∧Below w.heap.size w wr)) (fun kv _=>n-(intOf kv).toNat)
 case atStart=>exact ⟨1,by omega,hn.1,rfl,N2⟩
 case round =>
  obtain ⟨k,hk1,hk,rfl,HH⟩:=hrel;clear N2;by_cases hkn:k=n
  ·subst hkn;obtain ⟨n_o,u⟩:=HH.o;go_wp2_with fail;go_ret;exact ⟨u,fun _=>⟨_,_,rfl,Nat.le_refl _,Nat.le_refl _,by unfold maxLen;omega,n_o.cl⟩,fun h=>absurd trivial h⟩
  ·have hkl:(k:Int)<(n:Int):=by omega
   have hk0:(0:Int)≤(k:Int):=by omega
   have hk2:(k:Int)≤(n:Int):=by omega
   have hk3:¬(n=k):=by omega
   obtain ⟨m,hm⟩:∃ m,m=Nat.min k (n-k):=⟨_,rfl⟩;have hmk:m≤k:=by rw [hm];exact Nat.min_le_left _ _
   have hmn:m≤n-k:=by rw [hm];exact Nat.min_le_right _ _
   have hm1:1≤m:=by rw [hm];exact Nat.le_min.2 ⟨hk1,by omega⟩
   have hw1:IntKind.i64.wrap ((k:Int)+(m:Int))=(k:Int)+(m:Int):=by simp [IntKind.wrap,IntKind.signed,IntKind.bits];omega
   have HM:Sh _:=⟨hm⟩;clear hm;go_wp2_with fail;have N1:Sh (Own wr.drew w.heap.size n (fun _=>p) k):=⟨⟨HH.o.1.ex⟩⟩;have U1:Sh (Below w.heap.size w wr.drew):=⟨QaS HH.o.2⟩;have C1:Sh _:=⟨N1.o.clk hmk⟩;have hkm:k+m≤n:=by omega
   go_region_law (refine Qji 45 41 44 w.heap.size n k m (n-k) (n-k) w.heap.size 0 k n p (by simp [Act.put,go_sem]) (by simp [Act.put,go_sem]) N1.o HM.o C1.o hkm w.heap.size w U1.o Lr ?_;intro w3 N3 U3)
   simp [Act.put];go_wp2_with fail
   go_roundw
   case rel=>exact ⟨k+m,by omega,by omega,by first | rfl | go_num | simp,⟨N3,U3⟩⟩
   case measure=>simp [intOf];omega
theorem QoE (n:Nat) (hn:1≤n∧n≤1000) (w:World) (hg:Gl w) :
  Calls Tryz.prog 93 #[.int .i64 (n:Int)] w (AnsE True n (fun _=>(⟨#[48]⟩,⟨#[49]⟩)) w):=by
 have u:=(Below.refl w.heap.size w).alloc Lr (Jc #[J ⟨#[48]⟩,J ⟨#[49]⟩] 42);have n_x:(w.alloc (Jc #[J ⟨#[48]⟩,J ⟨#[49]⟩] 42)).heap[w.heap.size]? = _:=World.alloc_heap_new w _;have z0:=hg.z0;have z1:=hg.z1
 have C1:Cl (w.alloc (Jc #[J ⟨#[48]⟩,J ⟨#[49]⟩] 42)) w.heap.size 0 1 (fun _=>(⟨#[48]⟩,⟨#[49]⟩)):=⟨fun i hi=>by
  obtain rfl:i=0:=by omega
  exact ⟨Qaa n_x 0 rfl,Qaa n_x 1 rfl⟩⟩
 have cR:=QmC w.heap.size 0 1 n hn (⟨#[48]⟩,⟨#[49]⟩) _ C1;clear C1;go_enter Tryz.func93, Tryz.ntmps93;go_wp2_with fail;refine cR.mono ?_;intro e w' h;obtain ⟨b,cap,rfl,h1,h2,h3,h4⟩:=h.good trivial;have hs:=u.size;go_wp2_with fail;go_ret;exact ⟨u.trans (h.below.mono u.size),fun _=>⟨b,cap,rfl,Nat.le_trans hs h1,h2,h3,h4⟩,fun h=>absurd trivial h⟩
end Tw
end
end Go.Proofs.YtihlgifojjeoaaaGreatDoor
