/-
  Lists of intervals and of codes that grow side by side.
-/
import Derived.Test.YtbfonkabmehlmaaGreatDoorY6C6
import Derived.Maps.AppendAt
import Derived.Test.YtbfonkabmehlmaaGreatDoorY6C8
import Derived.Test.YtbfonkabmehlmaaGreatDoorY6D1
set_option maxRecDepth 1000000
set_option maxHeartbeats 40000000
open Go.Value renaming string→Z
open Go.Obj renaming cells→O
namespace Go.Proofs.YtbfonkabmehlmaaGreatDoor
section
namespace En
open Go.RowKit Go.Extern.Stop Go.Stop Go.Extern
def cellsG (R:Nat→List Value):Nat→List Value
 | 0 => []
 | t+1=>cellsG R t++R t
theorem cellsG_len {s:Nat} (R:Nat→List Value):∀ t,(∀ i,i<t→(R i).length=s)→(cellsG R t).length=t*s
 | 0,_=>by rw [Nat.zero_mul];rfl
 | t+1,h=>by rw [cellsG,List.length_append,cellsG_len R t (fun i hi=>h i (by omega)),h t (by omega),Nat.succ_mul]
theorem cellsG_at {s:Nat} (R:Nat→List Value):∀ t,(∀ i,i<t→(R i).length=s)→∀ j i,j<t→i<s→(cellsG R t)[j*s+i]? = (R j)[i]?
 | 0,_,_,_,h,_=>absurd h (by omega)
 | t+1,hl,j,i,h,hi=>by
  have hlen:=cellsG_len R t (fun i hi=>hl i (by omega))
  rw [cellsG]
  rcases Nat.lt_or_ge j t with h1 | h1
  ·have:j*s+i<t*s:=by
    have:=Nat.mul_le_mul_right s (show j+1≤t by omega)
    rw [Nat.succ_mul] at this;omega
   rw [List.getElem?_append_left (by omega)]
   exact cellsG_at R t (fun i hi=>hl i (by omega)) j i h1 hi
  ·obtain rfl:j=t:=by omega
   rw [List.getElem?_append_right (by omega),hlen,Nat.add_sub_cancel_left]
def OwnG (e:TypeId) (s:Nat) (W:World) (base:Nat) (v:Value) (t:Nat) (R:Nat→List Value):Prop:=W.ownsRow base e s v t (cellsG R t)
theorem OwnG.nil (e:TypeId) (s:Nat) (W:World) (base:Nat) (R:Nat→List Value):OwnG e s W base (.slice none 0 0) 0 R:=World.ownsRow_nil W base _ _
theorem OwnG.below {e:TypeId} {s:Nat} {W W':World} {base t:Nat} {v:Value} {R:Nat→List Value} (h:OwnG e s W base v t R) (hb:Below W.heap.size W W'):OwnG e s W' base v t R:=by
 refine ⟨h.1, ?_⟩
 rcases h.2 with hn | ⟨g,cap,cur,e,hg,hgg,rest⟩
 ·exact .inl hn
 ·exact .inr ⟨g,cap,cur,e,hg,by rw [hb.block g (Array.getElem?_eq_some_iff.1 hgg).1];exact hgg,rest⟩
theorem OwnG.new {e:TypeId} {s:Nat} {W:World} {base t:Nat} {v:Value} {R:Nat→List Value} (h:OwnG e s W base v t R) (b:Nat) (hb:W.heap.size≤b):v.ownBlock≠some b:=by
 rcases h.2 with ⟨rfl,_⟩ | ⟨g,cap,cur,rfl,hg,hgg,rest⟩
 ·simp [Value.ownBlock]
 ·have:=(Array.getElem?_eq_some_iff.1 hgg).1
  simp [Value.ownBlock];omega
theorem OwnG.low {e:TypeId} {s:Nat} {W:World} {base t:Nat} {v:Value} {R:Nat→List Value} (h:OwnG e s W base v t R) (b:Nat) (hb:b<base):v.ownBlock≠some b:=by
 rcases h.2 with ⟨rfl,_⟩ | ⟨g,cap,cur,rfl,hg,hgg,rest⟩
 ·simp [Value.ownBlock]
 ·simp [Value.ownBlock];omega
theorem OwnG.beside {e:TypeId} {s:Nat} {W W':World} {base t:Nat} {v u:Value} {R:Nat→List Value} (h:OwnG e s W base v t R) (hg:W.grownBy W' u.ownBlock) (hn:v.ownBlock=none∨v.ownBlock≠u.ownBlock):OwnG e s W' base v t R:=World.ownsRow.kept h hg hn
theorem OwnG.shape {e:TypeId} {s:Nat} {W:World} {base t:Nat} {v:Value} {R:Nat→List Value} (h:OwnG e s W base v (t+1) R) (hl:∀ i,i<t+1→(R i).length=s):∃ g cap,v = .slice (some ⟨g,0,none⟩) (t+1) cap∧base≤g∧t+1≤cap∧cap≤maxLen∧∃ cur,W.heap[g]? = some (.cells cur e (0,0))∧∀ j i,j<t+1→i<s→cur[j*s+i]? = (R j)[i]? := by
 rcases h.2 with ⟨_,hn⟩ | ⟨g,cap,cur,rfl,hg,hgg,h1,h2,h3,h4⟩
 ·cases hn
 ·refine ⟨g,cap,rfl,hg,h1,h2,cur,hgg,fun j i hj hi => ?_⟩
  have hc:=cellsG_at R (t+1) hl j i hj hi
  have hlt:j*s+i<(t+1)*s:=by
   have:=Nat.mul_le_mul_right s (show j+1≤t+1 by omega)
   rw [Nat.succ_mul] at this;omega
  rw [←h4,List.getElem?_take_of_lt hlt,Array.getElem?_toList] at hc
  exact hc
theorem apart_grown {e:TypeId} {s:Nat} {W:World} {base t:Nat} {v v' u:Value} {R:Nat→List Value} (hu:OwnG e s W base u t R) (h:u.ownBlock=none∨u.ownBlock≠v.ownBlock) (hat:v'.ownBlock=v.ownBlock∨v'.ownBlock=some W.heap.size):u.ownBlock=none∨u.ownBlock≠v'.ownBlock:=by
 rcases hat with e1 | e1
 ·rw [e1];exact h
 ·right;rw [e1];exact hu.new _ (Nat.le_refl _)
theorem below_grown {e:TypeId} {s B t base:Nat} {R:Nat→List Value} {w w1 w3:World} {v:Value} (hb:Below B w w1) (hB:B≤w.heap.size) (hBb:B≤base) (hO:OwnG e s w1 base v t R) (hg:w1.grownBy w3 v.ownBlock):Below B w w3 :=
 hb.trans ⟨hg.os,hg.tape,hg.output,hg.size,fun k hk=>hg.block k (Nat.lt_of_lt_of_le (Nat.lt_of_lt_of_le hk hB) hb.size) (fun e=>by
  rcases hO.2 with ⟨rfl,_⟩ | ⟨g,cap,cur,rfl,h1,_⟩
  ·simp [Value.ownBlock] at e
  ·simp [Value.ownBlock] at e;omega)⟩
theorem infoIvl:(Tryz.prog.info? 25).map (fun i=>(i.zero,i.size,i.bytes))=some (some (.agg #[Z ⟨#[]⟩,Z ⟨#[]⟩,Z ⟨#[]⟩,Z ⟨#[]⟩]),4,64):=by kernel_rfl
theorem infoErr:(Tryz.prog.info? 30).map (fun i=>(i.zero,i.size,i.bytes))=some (some (.int .i64 0),1,8):=by kernel_rfl
theorem append_ivl {w:World} {ops:Array Oper} {rest:List Oper} {o:Oper} {a:Act} {Q:Exit→Act→World→Prop} (hgd:o.guard=none) (s x:Operand)
  (ho:o.op = .call {callee:=.builtin .append,args:=#[s,x],argTypes:=#[40, 40]}) (base:Nat) (v:Value) (t:Nat) (R:Nat→List Value) (hs:a.eval s=v) (hown:OwnG 25 4 w base v t R)
  (Bx c:Nat) (hx:a.eval x = .slice (some ⟨Bx,0,none⟩) 1 c) (x0 x1 x2 x3:ByteArray) (hR:R t = [Z x0,Z x1,Z x2,Z x3]) (hB:w.heap[Bx]? = some (O #[Z x0,Z x1,Z x2,Z x3] 25 (0,0))) (ht:t≤1000) (hb:base≤w.heap.size)
  (h:∀ v' w',OwnG 25 4 w' base v' (t+1) R→w.grownBy w' v.ownBlock→(v'.ownBlock=v.ownBlock∨v'.ownBlock=some w.heap.size)→wpList Tryz.prog ops Q rest (a.put o.dst v') w'):wpList Tryz.prog ops Q (o :: rest) a w:=by
 obtain ⟨i0,hinf,hz⟩:=Option.map_eq_some_iff.1 infoIvl
 have hz0:i0.zero=some (.agg #[Z ⟨#[]⟩,Z ⟨#[]⟩,Z ⟨#[]⟩,Z ⟨#[]⟩]):=congrArg (fun q=>q.1) hz
 have hz1:i0.size=4:=congrArg (fun q=>q.2.1) hz
 have hz2:i0.bytes=64:=congrArg (fun q=>q.2.2) hz
 refine wpList_append_own_at w hgd s x 40 ho base 25 i0 _ 4 64 Tryz.underlying40 hinf hz0 hz1 hz2 rfl (by decide) v t _ hs hown ⟨Bx,0,none⟩ 1 c [Z x0,Z x1,Z x2,Z x3] hx rfl ?_ ?_ (by unfold maxLen;omega) (by omega) hb ?_
 ·intro j u hj
  rw [Addr.add_lit,Nat.zero_add]
  match j,hj with
  | 0,hj=>exact lcell hB 0 hj
  | 1,hj=>exact lcell hB 1 hj
  | 2,hj=>exact lcell hB 2 hj
  | 3,hj=>exact lcell hB 3 hj
 ·intro u hu
  simp at hu
  rcases hu with rfl | rfl | rfl | rfl <;> rfl
 ·intro v' w' hown' hgrow _ hat
  refine h v' w' ?_ hgrow hat
  unfold OwnG
  rw [cellsG,hR]
  exact hown'
theorem append_err {w:World} {ops:Array Oper} {rest:List Oper} {o:Oper} {a:Act} {Q:Exit→Act→World→Prop} (hgd:o.guard=none) (s x:Operand)
  (ho:o.op = .call {callee:=.builtin .append,args:=#[s,x],argTypes:=#[41, 41]}) (base:Nat) (v:Value) (t:Nat) (R:Nat→List Value) (hs:a.eval s=v) (hown:OwnG 30 1 w base v t R)
  (Bx c:Nat) (hx:a.eval x = .slice (some ⟨Bx,0,none⟩) 1 c) (k:Int) (hR:R t = [.int .i64 k]) (hB:w.heap[Bx]? = some (O #[.int .i64 k] 30 (0,0))) (ht:t≤1000) (hb:base≤w.heap.size)
  (h:∀ v' w',OwnG 30 1 w' base v' (t+1) R→w.grownBy w' v.ownBlock→(v'.ownBlock=v.ownBlock∨v'.ownBlock=some w.heap.size)→wpList Tryz.prog ops Q rest (a.put o.dst v') w'):wpList Tryz.prog ops Q (o :: rest) a w:=by
 obtain ⟨i0,hinf,hz⟩:=Option.map_eq_some_iff.1 infoErr
 have hz0:i0.zero=some (.int .i64 0):=congrArg (fun q=>q.1) hz
 have hz1:i0.size=1:=congrArg (fun q=>q.2.1) hz
 have hz2:i0.bytes=8:=congrArg (fun q=>q.2.2) hz
 refine wpList_append_own_at w hgd s x 41 ho base 30 i0 _ 1 8 Tryz.underlying41 hinf hz0 hz1 hz2 rfl (by decide) v t _ hs hown ⟨Bx,0,none⟩ 1 c [.int .i64 k] hx rfl ?_ ?_ (by unfold maxLen;omega) (by omega) hb ?_
 ·intro j u hj
  rw [Addr.add_lit,Nat.zero_add]
  match j,hj with
  | 0,hj=>exact lcell hB 0 hj
 ·intro u hu
  simp at hu
  subst hu;rfl
 ·intro v' w' hown' hgrow _ hat
  refine h v' w' ?_ hgrow hat
  unfold OwnG
  rw [cellsG,hR]
  exact hown'
end En
end
section
namespace En
open Go.RowKit Go.Extern.Stop Go.Stop Go.Extern
abbrev P4:=(ByteArray×ByteArray)×(ByteArray×ByteArray)
def ivs (M:Nat→P4) (t:Nat):List Value := [Z (M t).1.1,Z (M t).1.2,Z (M t).2.1,Z (M t).2.2]
def ers (E:Nat→Int) (t:Nat):List Value := [.int .i64 (E t)]
theorem apart_symm {u v : Option Nat} (h : u = none ∨ u ≠ v) : v = none ∨ v ≠ u := by
  cases v with
  | none => exact .inl rfl
  | some b => rcases h with h | h
              · rw [h]; exact .inr (by simp)
              · exact .inr (Ne.symm h)
theorem OwnG.low_base {e:TypeId} {s:Nat} {W:World} {base b' t:Nat} {v:Value} {R:Nat→List Value} (h:OwnG e s W base v t R) (hb:b'≤base):OwnG e s W b' v t R:=by
 refine ⟨h.1, ?_⟩
 rcases h.2 with hn | ⟨g,cap,cur,e,hg,rest⟩
 ·exact .inl hn
 ·exact .inr ⟨g,cap,cur,e,Nat.le_trans hb hg,rest⟩
theorem grown4 (W:World) (b:Nat) (p q r s:Value):W.grownBy ((((W.setCell ⟨b,0,none⟩ p).setCell ⟨b,1,none⟩ q).setCell ⟨b,2,none⟩ r).setCell ⟨b,3,none⟩ s) (Value.slice (some ⟨b,0,none⟩) 0 0).ownBlock :=
 ⟨rfl,rfl,rfl,by simp,fun k _ hn=>by
  have hkb:k≠b:=fun e=>hn (by simp [Value.ownBlock,e])
  exact (Below.heap_setCell _ _ _ _ hkb).trans ((Below.heap_setCell _ _ _ _ hkb).trans ((Below.heap_setCell _ _ _ _ hkb).trans (Below.heap_setCell _ _ _ _ hkb)))⟩
theorem calls_any (a:Addr) (x0 x1 x2 x3 y0 y1 y2 y3:ByteArray) (pl:Int) (M:Nat→P4) (E:Nat→Int)
  (h0:LC a 53 #[.agg #[Z x0,Z x1,Z x2,Z x3],.agg #[Z y0,Z y1,Z y2,Z y3]] (.tuple #[.agg #[Z (M 0).1.1,Z (M 0).1.2,Z (M 0).2.1,Z (M 0).2.2],.int .i64 (E 0)]))
  (h1:LC a 54 #[.agg #[Z x0,Z x1,Z x2,Z x3],.agg #[Z y0,Z y1,Z y2,Z y3]] (.tuple #[.agg #[Z (M 1).1.1,Z (M 1).1.2,Z (M 1).2.1,Z (M 1).2.2],.int .i64 (E 1)]))
  (h2:LC a 38 #[.agg #[Z x0,Z x1,Z x2,Z x3],.agg #[Z y0,Z y1,Z y2,Z y3]] (.tuple #[.agg #[Z (M 2).1.1,Z (M 2).1.2,Z (M 2).2.1,Z (M 2).2.2],.int .i64 (E 2)]))
  (h3:LC a 40 #[.agg #[Z x0,Z x1,Z x2,Z x3],.agg #[Z y0,Z y1,Z y2,Z y3]] (.tuple #[.agg #[Z (M 3).1.1,Z (M 3).1.2,Z (M 3).2.1,Z (M 3).2.2],.int .i64 (E 3)]))
  (h4:LC a 37 #[.agg #[Z x0,Z x1,Z x2,Z x3],.agg #[Z y0,Z y1,Z y2,Z y3]] (.tuple #[.agg #[Z (M 4).1.1,Z (M 4).1.2,Z (M 4).2.1,Z (M 4).2.2],.int .i64 (E 4)]))
  (h5:LC a 36 #[.agg #[Z x0,Z x1,Z x2,Z x3],.agg #[Z y0,Z y1,Z y2,Z y3]] (.tuple #[.agg #[Z (M 5).1.1,Z (M 5).1.2,Z (M 5).2.1,Z (M 5).2.2],.int .i64 (E 5)]))
  (h6:LC a 34 #[.agg #[Z x0,Z x1,Z x2,Z x3],.int .i64 pl] (.tuple #[.agg #[Z (M 6).1.1,Z (M 6).1.2,Z (M 6).2.1,Z (M 6).2.2],.int .i64 (E 6)]))
  (h7:LC a 41 #[.agg #[Z x0,Z x1,Z x2,Z x3],.int .i64 pl] (.tuple #[.agg #[Z (M 7).1.1,Z (M 7).1.2,Z (M 7).2.1,Z (M 7).2.2],.int .i64 (E 7)]))
  (w:World) (hv:Ref a w) :
  Calls Tryz.prog 16 #[.agg #[Z x0,Z x1,Z x2,Z x3],.agg #[Z y0,Z y1,Z y2,Z y3],.int .i64 pl] w fun e w'=>∃ vl ve,e = .returned (.tuple #[vl,ve])∧OwnG 25 4 w' w.heap.size vl 8 (ivs M)∧OwnG 30 1 w' w.heap.size ve 8 (ers E)∧Below w.heap.size w w':=by
 have HV:Shut _:=⟨hv⟩
 have C0:Shut _:=⟨h0⟩
 have C1:Shut _:=⟨h1⟩
 have C2:Shut _:=⟨h2⟩
 have C3:Shut _:=⟨h3⟩
 have C4:Shut _:=⟨h4⟩
 have C5:Shut _:=⟨h5⟩
 have C6:Shut _:=⟨h6⟩
 have C7:Shut _:=⟨h7⟩
 clear hv h0 h1 h2 h3 h4 h5 h6 h7
 obtain ⟨n_x,n_y⟩:=news2 w (O #[Z x0,Z x1,Z x2,Z x3] 25) (O #[Z y0,Z y1,Z y2,Z y3] 25)
 have u:=below2 w (O #[Z x0,Z x1,Z x2,Z x3] 25) (O #[Z y0,Z y1,Z y2,Z y3] 25)
 go_enter Tryz.func16, Tryz.ntmps16
 go_wp2_with fail
 generalize (w.alloc (O #[Z x0,Z x1,Z x2,Z x3] 25)).alloc (O #[Z y0,Z y1,Z y2,Z y3] 25)=V0 at *
 have NX:Shut _:=⟨n_x⟩
 have NY:Shut _:=⟨n_y⟩
 have U0:Shut _:=⟨u⟩
 clear n_x n_y u
 go_loopw [8,9,10] (fun vl ve jv wr=>∃ j:Nat,j≤8∧jv = .int .i64 (j:Int)∧Shut (OwnG 25 4 wr V0.heap.size vl j (ivs M)∧OwnG 30 1 wr V0.heap.size ve j (ers E)∧(vl.ownBlock=none∨vl.ownBlock≠ve.ownBlock)∧(ve.ownBlock=none∨ve.ownBlock≠vl.ownBlock)∧Below w.heap.size w wr∧Below V0.heap.size V0 wr)) (fun _ _ jv _=>8-(intOf jv).toNat)
 case atStart=>exact ⟨0,Nat.zero_le _,rfl,⟨OwnG.nil _ _ _ _ _,OwnG.nil _ _ _ _ _,.inl rfl,.inl rfl,U0.o,Below.refl _ _⟩⟩
 case round =>
  obtain ⟨j,hj,rfl,H⟩:=hrel
  obtain ⟨hL,hE,ap1,ap2,u,u0⟩:=H.o
  clear H
  by_cases hj8:j=8
  ·subst hj8
   go_wp2_with fail
   exact bodyPost_ret (v:=.tuple #[u8,u9]) (by simp [results,Tryz.results16, go_sem]) rfl ⟨_,_,rfl,hL.low_base U0.o.size,hE.low_base U0.o.size,u⟩
  ·have n_x:=lkeep NX.o u0
   have n_y:=lkeep NY.o u0
   have hz:=World.alloc_heap_new wr (O #[Z ⟨#[]⟩,Z ⟨#[]⟩,Z ⟨#[]⟩,Z ⟨#[]⟩] 25)
   have ha:=(Below.refl wr.heap.size wr).alloc (Nat.le_refl _) (O #[Z ⟨#[]⟩,Z ⟨#[]⟩,Z ⟨#[]⟩,Z ⟨#[]⟩] 25)
   have nb1:=hL.new wr.heap.size (Nat.le_refl _)
   have nb2:=hE.new wr.heap.size (Nat.le_refl _)
   have hbb1:=u.size
   have hbb0:=u0.size
   replace n_x:=lkeep n_x ha
   replace n_y:=lkeep n_y ha
   replace hL:=hL.below ha
   replace hE:=hE.below ha
   replace u:=u.trans (ha.mono u.size)
   replace u0:=u0.trans (ha.mono u0.size)
   clear ha
   have cx0:=lcell n_x 0 (v:=Z x0) rfl
   have cx1:=lcell n_x 1 (v:=Z x1) rfl
   have cx2:=lcell n_x 2 (v:=Z x2) rfl
   have cx3:=lcell n_x 3 (v:=Z x3) rfl
   have cy0:=lcell n_y 0 (v:=Z y0) rfl
   have cy1:=lcell n_y 1 (v:=Z y1) rfl
   have cy2:=lcell n_y 2 (v:=Z y2) rfl
   have cy3:=lcell n_y 3 (v:=Z y3) rfl
   rcases (show j=0∨j=1∨j=2∨j=3∨j=4∨j=5∨j=6∨j=7 by omega) with rfl | rfl | rfl | rfl | rfl | rfl | rfl | rfl
   ·have cc:=C0.o _ (HV.o.keep u)
    have hw1:IntKind.i64.wrap (0+1)=1:=by decide
    have eR:ivs M 0 = [Z (M 0).1.1,Z (M 0).1.2,Z (M 0).2.1,Z (M 0).2.2]:=rfl
    have eS:ers E 0 = [.int .i64 (E 0)]:=rfl
    generalize (M 0).1.1=m0 at *
    generalize (M 0).1.2=m1 at *
    generalize (M 0).2.1=m2 at *
    generalize (M 0).2.2=m3 at *
    generalize E 0=ec at *
    go_wp2_with fail
    refine cc.mono ?_
    rintro e v1 ⟨rfl,g⟩
    replace hL:=hL.below g
    replace hE:=hE.below g
    replace u:=u.trans (g.mono u.size)
    replace u0:=u0.trans (g.mono u0.size)
    have n_b:=lkeep hz g
    generalize wr.heap.size=bb at *
    clear g cc hz n_x n_y cx0 cx1 cx2 cx3 cy0 cy1 cy2 cy3
    have k0:=lcell n_b 0 (v:=Z ⟨#[]⟩) rfl
    have k1:=lcell n_b 1 (v:=Z ⟨#[]⟩) rfl
    have k2:=lcell n_b 2 (v:=Z ⟨#[]⟩) rfl
    have k3:=lcell n_b 3 (v:=Z ⟨#[]⟩) rfl
    have f0:=lfree n_b 0
    have f1:=lfree n_b 1
    have f2:=lfree n_b 2
    have f3:=lfree n_b 3
    have s_b:=box4_set (x:=Z m0) (y:=Z m1) (z:=Z m2) (t:=Z m3) n_b
    have q0:=lcell s_b 0 (v:=Z m0) rfl
    have q1:=lcell s_b 1 (v:=Z m1) rfl
    have q2:=lcell s_b 2 (v:=Z m2) rfl
    have q3:=lcell s_b 3 (v:=Z m3) rfl
    have g4:=grown4 v1 bb (Z m0) (Z m1) (Z m2) (Z m3)
    replace hL:=hL.beside (u:=.slice (some ⟨bb,0,none⟩) 0 0) g4 (.inr nb1)
    replace hE:=hE.beside (u:=.slice (some ⟨bb,0,none⟩) 0 0) g4 (.inr nb2)
    have hbw:∀ i,w.heap.size≤(⟨bb,i,none⟩:Addr).block:=fun _=>hbb1
    have hb0:∀ i,V0.heap.size≤(⟨bb,i,none⟩:Addr).block:=fun _=>hbb0
    replace u:=(((u.setCell (hbw 0) (Z m0)).setCell (hbw 1) (Z m1)).setCell (hbw 2) (Z m2)).setCell (hbw 3) (Z m3)
    replace u0:=(((u0.setCell (hb0 0) (Z m0)).setCell (hb0 1) (Z m1)).setCell (hb0 2) (Z m2)).setCell (hb0 3) (Z m3)
    go_upto_region 24 with fail
    generalize ((((v1.setCell ⟨bb,0,none⟩ (Z m0)).setCell ⟨bb,1,none⟩ (Z m1)).setCell ⟨bb,2,none⟩ (Z m2)).setCell ⟨bb,3,none⟩ (Z m3))=V2 at *
    clear k0 k1 k2 k3 f0 f1 f2 f3 n_b s_b g4 hbw hb0
    have ha:=(Below.refl V2.heap.size V2).alloc (Nat.le_refl _) (O #[Z m0,Z m1,Z m2,Z m3] 25)
    have n_n:=World.alloc_heap_new V2 (O #[Z m0,Z m1,Z m2,Z m3] 25)
    replace hL:=hL.below ha
    replace hE:=hE.below ha
    replace u:=u.trans (ha.mono u.size)
    replace u0:=u0.trans (ha.mono u0.size)
    clear ha
    go_upto_region 25 with (at_builtin;refine append_ivl rfl _ _ rfl V0.heap.size _ 0 (ivs M) rfl hL V2.heap.size _ rfl m0 m1 m2 m3 eR n_n (by decide) u0.size ?_;intro vl' w3 hL' hg hat)
    have hEo:=hE
    replace hE:=hE.beside hg ap2
    replace ap2:=apart_grown hEo ap2 hat
    replace u:=below_grown u (Nat.le_refl _) U0.o.size hL hg
    replace u0:=below_grown u0 (Nat.le_refl _) (Nat.le_refl _) hL hg
    clear hL hEo hg hat n_n ap1 nb1 nb2
    have ap1:=apart_symm ap2
    have ha:=(Below.refl w3.heap.size w3).alloc (Nat.le_refl _) (O #[.int .i64 ec] 30)
    have n_e:=World.alloc_heap_new w3 (O #[.int .i64 ec] 30)
    replace hL':=hL'.below ha
    replace hE:=hE.below ha
    replace u:=u.trans (ha.mono u.size)
    replace u0:=u0.trans (ha.mono u0.size)
    clear ha
    go_wp2_with (at_builtin;refine append_err rfl _ _ rfl V0.heap.size _ 0 (ers E) rfl hE w3.heap.size _ rfl ec eS n_e (by decide) u0.size ?_;intro ve' w4 hE' hg2 hat2)
    replace u:=below_grown u (Nat.le_refl _) U0.o.size hE hg2
    replace u0:=below_grown u0 (Nat.le_refl _) (Nat.le_refl _) hE hg2
    have hLo:=hL'
    replace hL':=hL'.beside hg2 ap1
    replace ap1:=apart_grown hLo ap1 hat2
    clear hLo hE hg2 hat2 n_e ap2
    go_roundw
    case rel=>exact ⟨1,by omega,by first | rfl | go_num | simp,⟨hL',hE',ap1,apart_symm ap1,u,u0⟩⟩
    case measure=>simp [intOf]
   ·have cc:=C1.o _ (HV.o.keep u)
    have hw1:IntKind.i64.wrap (1+1)=2:=by decide
    have eR:ivs M 1 = [Z (M 1).1.1,Z (M 1).1.2,Z (M 1).2.1,Z (M 1).2.2]:=rfl
    have eS:ers E 1 = [.int .i64 (E 1)]:=rfl
    generalize (M 1).1.1=m0 at *
    generalize (M 1).1.2=m1 at *
    generalize (M 1).2.1=m2 at *
    generalize (M 1).2.2=m3 at *
    generalize E 1=ec at *
    go_wp2_with fail
    refine cc.mono ?_
    rintro e v1 ⟨rfl,g⟩
    replace hL:=hL.below g
    replace hE:=hE.below g
    replace u:=u.trans (g.mono u.size)
    replace u0:=u0.trans (g.mono u0.size)
    have n_b:=lkeep hz g
    generalize wr.heap.size=bb at *
    clear g cc hz n_x n_y cx0 cx1 cx2 cx3 cy0 cy1 cy2 cy3
    have k0:=lcell n_b 0 (v:=Z ⟨#[]⟩) rfl
    have k1:=lcell n_b 1 (v:=Z ⟨#[]⟩) rfl
    have k2:=lcell n_b 2 (v:=Z ⟨#[]⟩) rfl
    have k3:=lcell n_b 3 (v:=Z ⟨#[]⟩) rfl
    have f0:=lfree n_b 0
    have f1:=lfree n_b 1
    have f2:=lfree n_b 2
    have f3:=lfree n_b 3
    have s_b:=box4_set (x:=Z m0) (y:=Z m1) (z:=Z m2) (t:=Z m3) n_b
    have q0:=lcell s_b 0 (v:=Z m0) rfl
    have q1:=lcell s_b 1 (v:=Z m1) rfl
    have q2:=lcell s_b 2 (v:=Z m2) rfl
    have q3:=lcell s_b 3 (v:=Z m3) rfl
    have g4:=grown4 v1 bb (Z m0) (Z m1) (Z m2) (Z m3)
    replace hL:=hL.beside (u:=.slice (some ⟨bb,0,none⟩) 0 0) g4 (.inr nb1)
    replace hE:=hE.beside (u:=.slice (some ⟨bb,0,none⟩) 0 0) g4 (.inr nb2)
    have hbw:∀ i,w.heap.size≤(⟨bb,i,none⟩:Addr).block:=fun _=>hbb1
    have hb0:∀ i,V0.heap.size≤(⟨bb,i,none⟩:Addr).block:=fun _=>hbb0
    replace u:=(((u.setCell (hbw 0) (Z m0)).setCell (hbw 1) (Z m1)).setCell (hbw 2) (Z m2)).setCell (hbw 3) (Z m3)
    replace u0:=(((u0.setCell (hb0 0) (Z m0)).setCell (hb0 1) (Z m1)).setCell (hb0 2) (Z m2)).setCell (hb0 3) (Z m3)
    go_upto_region 24 with fail
    generalize ((((v1.setCell ⟨bb,0,none⟩ (Z m0)).setCell ⟨bb,1,none⟩ (Z m1)).setCell ⟨bb,2,none⟩ (Z m2)).setCell ⟨bb,3,none⟩ (Z m3))=V2 at *
    clear k0 k1 k2 k3 f0 f1 f2 f3 n_b s_b g4 hbw hb0
    have ha:=(Below.refl V2.heap.size V2).alloc (Nat.le_refl _) (O #[Z m0,Z m1,Z m2,Z m3] 25)
    have n_n:=World.alloc_heap_new V2 (O #[Z m0,Z m1,Z m2,Z m3] 25)
    replace hL:=hL.below ha
    replace hE:=hE.below ha
    replace u:=u.trans (ha.mono u.size)
    replace u0:=u0.trans (ha.mono u0.size)
    clear ha
    go_upto_region 25 with (at_builtin;refine append_ivl rfl _ _ rfl V0.heap.size _ 1 (ivs M) rfl hL V2.heap.size _ rfl m0 m1 m2 m3 eR n_n (by decide) u0.size ?_;intro vl' w3 hL' hg hat)
    have hEo:=hE
    replace hE:=hE.beside hg ap2
    replace ap2:=apart_grown hEo ap2 hat
    replace u:=below_grown u (Nat.le_refl _) U0.o.size hL hg
    replace u0:=below_grown u0 (Nat.le_refl _) (Nat.le_refl _) hL hg
    clear hL hEo hg hat n_n ap1 nb1 nb2
    have ap1:=apart_symm ap2
    have ha:=(Below.refl w3.heap.size w3).alloc (Nat.le_refl _) (O #[.int .i64 ec] 30)
    have n_e:=World.alloc_heap_new w3 (O #[.int .i64 ec] 30)
    replace hL':=hL'.below ha
    replace hE:=hE.below ha
    replace u:=u.trans (ha.mono u.size)
    replace u0:=u0.trans (ha.mono u0.size)
    clear ha
    go_wp2_with (at_builtin;refine append_err rfl _ _ rfl V0.heap.size _ 1 (ers E) rfl hE w3.heap.size _ rfl ec eS n_e (by decide) u0.size ?_;intro ve' w4 hE' hg2 hat2)
    replace u:=below_grown u (Nat.le_refl _) U0.o.size hE hg2
    replace u0:=below_grown u0 (Nat.le_refl _) (Nat.le_refl _) hE hg2
    have hLo:=hL'
    replace hL':=hL'.beside hg2 ap1
    replace ap1:=apart_grown hLo ap1 hat2
    clear hLo hE hg2 hat2 n_e ap2
    go_roundw
    case rel=>exact ⟨2,by omega,by first | rfl | go_num | simp,⟨hL',hE',ap1,apart_symm ap1,u,u0⟩⟩
    case measure=>simp [intOf]
   ·have cc:=C2.o _ (HV.o.keep u)
    have hw1:IntKind.i64.wrap (2+1)=3:=by decide
    have eR:ivs M 2 = [Z (M 2).1.1,Z (M 2).1.2,Z (M 2).2.1,Z (M 2).2.2]:=rfl
    have eS:ers E 2 = [.int .i64 (E 2)]:=rfl
    generalize (M 2).1.1=m0 at *
    generalize (M 2).1.2=m1 at *
    generalize (M 2).2.1=m2 at *
    generalize (M 2).2.2=m3 at *
    generalize E 2=ec at *
    go_wp2_with fail
    refine cc.mono ?_
    rintro e v1 ⟨rfl,g⟩
    replace hL:=hL.below g
    replace hE:=hE.below g
    replace u:=u.trans (g.mono u.size)
    replace u0:=u0.trans (g.mono u0.size)
    have n_b:=lkeep hz g
    generalize wr.heap.size=bb at *
    clear g cc hz n_x n_y cx0 cx1 cx2 cx3 cy0 cy1 cy2 cy3
    have k0:=lcell n_b 0 (v:=Z ⟨#[]⟩) rfl
    have k1:=lcell n_b 1 (v:=Z ⟨#[]⟩) rfl
    have k2:=lcell n_b 2 (v:=Z ⟨#[]⟩) rfl
    have k3:=lcell n_b 3 (v:=Z ⟨#[]⟩) rfl
    have f0:=lfree n_b 0
    have f1:=lfree n_b 1
    have f2:=lfree n_b 2
    have f3:=lfree n_b 3
    have s_b:=box4_set (x:=Z m0) (y:=Z m1) (z:=Z m2) (t:=Z m3) n_b
    have q0:=lcell s_b 0 (v:=Z m0) rfl
    have q1:=lcell s_b 1 (v:=Z m1) rfl
    have q2:=lcell s_b 2 (v:=Z m2) rfl
    have q3:=lcell s_b 3 (v:=Z m3) rfl
    have g4:=grown4 v1 bb (Z m0) (Z m1) (Z m2) (Z m3)
    replace hL:=hL.beside (u:=.slice (some ⟨bb,0,none⟩) 0 0) g4 (.inr nb1)
    replace hE:=hE.beside (u:=.slice (some ⟨bb,0,none⟩) 0 0) g4 (.inr nb2)
    have hbw:∀ i,w.heap.size≤(⟨bb,i,none⟩:Addr).block:=fun _=>hbb1
    have hb0:∀ i,V0.heap.size≤(⟨bb,i,none⟩:Addr).block:=fun _=>hbb0
    replace u:=(((u.setCell (hbw 0) (Z m0)).setCell (hbw 1) (Z m1)).setCell (hbw 2) (Z m2)).setCell (hbw 3) (Z m3)
    replace u0:=(((u0.setCell (hb0 0) (Z m0)).setCell (hb0 1) (Z m1)).setCell (hb0 2) (Z m2)).setCell (hb0 3) (Z m3)
    go_upto_region 24 with fail
    generalize ((((v1.setCell ⟨bb,0,none⟩ (Z m0)).setCell ⟨bb,1,none⟩ (Z m1)).setCell ⟨bb,2,none⟩ (Z m2)).setCell ⟨bb,3,none⟩ (Z m3))=V2 at *
    clear k0 k1 k2 k3 f0 f1 f2 f3 n_b s_b g4 hbw hb0
    have ha:=(Below.refl V2.heap.size V2).alloc (Nat.le_refl _) (O #[Z m0,Z m1,Z m2,Z m3] 25)
    have n_n:=World.alloc_heap_new V2 (O #[Z m0,Z m1,Z m2,Z m3] 25)
    replace hL:=hL.below ha
    replace hE:=hE.below ha
    replace u:=u.trans (ha.mono u.size)
    replace u0:=u0.trans (ha.mono u0.size)
    clear ha
    go_upto_region 25 with (at_builtin;refine append_ivl rfl _ _ rfl V0.heap.size _ 2 (ivs M) rfl hL V2.heap.size _ rfl m0 m1 m2 m3 eR n_n (by decide) u0.size ?_;intro vl' w3 hL' hg hat)
    have hEo:=hE
    replace hE:=hE.beside hg ap2
    replace ap2:=apart_grown hEo ap2 hat
    replace u:=below_grown u (Nat.le_refl _) U0.o.size hL hg
    replace u0:=below_grown u0 (Nat.le_refl _) (Nat.le_refl _) hL hg
    clear hL hEo hg hat n_n ap1 nb1 nb2
    have ap1:=apart_symm ap2
    have ha:=(Below.refl w3.heap.size w3).alloc (Nat.le_refl _) (O #[.int .i64 ec] 30)
    have n_e:=World.alloc_heap_new w3 (O #[.int .i64 ec] 30)
    replace hL':=hL'.below ha
    replace hE:=hE.below ha
    replace u:=u.trans (ha.mono u.size)
    replace u0:=u0.trans (ha.mono u0.size)
    clear ha
    go_wp2_with (at_builtin;refine append_err rfl _ _ rfl V0.heap.size _ 2 (ers E) rfl hE w3.heap.size _ rfl ec eS n_e (by decide) u0.size ?_;intro ve' w4 hE' hg2 hat2)
    replace u:=below_grown u (Nat.le_refl _) U0.o.size hE hg2
    replace u0:=below_grown u0 (Nat.le_refl _) (Nat.le_refl _) hE hg2
    have hLo:=hL'
    replace hL':=hL'.beside hg2 ap1
    replace ap1:=apart_grown hLo ap1 hat2
    clear hLo hE hg2 hat2 n_e ap2
    go_roundw
    case rel=>exact ⟨3,by omega,by first | rfl | go_num | simp,⟨hL',hE',ap1,apart_symm ap1,u,u0⟩⟩
    case measure=>simp [intOf]
   ·have cc:=C3.o _ (HV.o.keep u)
    have hw1:IntKind.i64.wrap (3+1)=4:=by decide
    have eR:ivs M 3 = [Z (M 3).1.1,Z (M 3).1.2,Z (M 3).2.1,Z (M 3).2.2]:=rfl
    have eS:ers E 3 = [.int .i64 (E 3)]:=rfl
    generalize (M 3).1.1=m0 at *
    generalize (M 3).1.2=m1 at *
    generalize (M 3).2.1=m2 at *
    generalize (M 3).2.2=m3 at *
    generalize E 3=ec at *
    go_wp2_with fail
    refine cc.mono ?_
    rintro e v1 ⟨rfl,g⟩
    replace hL:=hL.below g
    replace hE:=hE.below g
    replace u:=u.trans (g.mono u.size)
    replace u0:=u0.trans (g.mono u0.size)
    have n_b:=lkeep hz g
    generalize wr.heap.size=bb at *
    clear g cc hz n_x n_y cx0 cx1 cx2 cx3 cy0 cy1 cy2 cy3
    have k0:=lcell n_b 0 (v:=Z ⟨#[]⟩) rfl
    have k1:=lcell n_b 1 (v:=Z ⟨#[]⟩) rfl
    have k2:=lcell n_b 2 (v:=Z ⟨#[]⟩) rfl
    have k3:=lcell n_b 3 (v:=Z ⟨#[]⟩) rfl
    have f0:=lfree n_b 0
    have f1:=lfree n_b 1
    have f2:=lfree n_b 2
    have f3:=lfree n_b 3
    have s_b:=box4_set (x:=Z m0) (y:=Z m1) (z:=Z m2) (t:=Z m3) n_b
    have q0:=lcell s_b 0 (v:=Z m0) rfl
    have q1:=lcell s_b 1 (v:=Z m1) rfl
    have q2:=lcell s_b 2 (v:=Z m2) rfl
    have q3:=lcell s_b 3 (v:=Z m3) rfl
    have g4:=grown4 v1 bb (Z m0) (Z m1) (Z m2) (Z m3)
    replace hL:=hL.beside (u:=.slice (some ⟨bb,0,none⟩) 0 0) g4 (.inr nb1)
    replace hE:=hE.beside (u:=.slice (some ⟨bb,0,none⟩) 0 0) g4 (.inr nb2)
    have hbw:∀ i,w.heap.size≤(⟨bb,i,none⟩:Addr).block:=fun _=>hbb1
    have hb0:∀ i,V0.heap.size≤(⟨bb,i,none⟩:Addr).block:=fun _=>hbb0
    replace u:=(((u.setCell (hbw 0) (Z m0)).setCell (hbw 1) (Z m1)).setCell (hbw 2) (Z m2)).setCell (hbw 3) (Z m3)
    replace u0:=(((u0.setCell (hb0 0) (Z m0)).setCell (hb0 1) (Z m1)).setCell (hb0 2) (Z m2)).setCell (hb0 3) (Z m3)
    go_upto_region 24 with fail
    generalize ((((v1.setCell ⟨bb,0,none⟩ (Z m0)).setCell ⟨bb,1,none⟩ (Z m1)).setCell ⟨bb,2,none⟩ (Z m2)).setCell ⟨bb,3,none⟩ (Z m3))=V2 at *
    clear k0 k1 k2 k3 f0 f1 f2 f3 n_b s_b g4 hbw hb0
    have ha:=(Below.refl V2.heap.size V2).alloc (Nat.le_refl _) (O #[Z m0,Z m1,Z m2,Z m3] 25)
    have n_n:=World.alloc_heap_new V2 (O #[Z m0,Z m1,Z m2,Z m3] 25)
    replace hL:=hL.below ha
    replace hE:=hE.below ha
    replace u:=u.trans (ha.mono u.size)
    replace u0:=u0.trans (ha.mono u0.size)
    clear ha
    go_upto_region 25 with (at_builtin;refine append_ivl rfl _ _ rfl V0.heap.size _ 3 (ivs M) rfl hL V2.heap.size _ rfl m0 m1 m2 m3 eR n_n (by decide) u0.size ?_;intro vl' w3 hL' hg hat)
    have hEo:=hE
    replace hE:=hE.beside hg ap2
    replace ap2:=apart_grown hEo ap2 hat
    replace u:=below_grown u (Nat.le_refl _) U0.o.size hL hg
    replace u0:=below_grown u0 (Nat.le_refl _) (Nat.le_refl _) hL hg
    clear hL hEo hg hat n_n ap1 nb1 nb2
    have ap1:=apart_symm ap2
    have ha:=(Below.refl w3.heap.size w3).alloc (Nat.le_refl _) (O #[.int .i64 ec] 30)
    have n_e:=World.alloc_heap_new w3 (O #[.int .i64 ec] 30)
    replace hL':=hL'.below ha
    replace hE:=hE.below ha
    replace u:=u.trans (ha.mono u.size)
    replace u0:=u0.trans (ha.mono u0.size)
    clear ha
    go_wp2_with (at_builtin;refine append_err rfl _ _ rfl V0.heap.size _ 3 (ers E) rfl hE w3.heap.size _ rfl ec eS n_e (by decide) u0.size ?_;intro ve' w4 hE' hg2 hat2)
    replace u:=below_grown u (Nat.le_refl _) U0.o.size hE hg2
    replace u0:=below_grown u0 (Nat.le_refl _) (Nat.le_refl _) hE hg2
    have hLo:=hL'
    replace hL':=hL'.beside hg2 ap1
    replace ap1:=apart_grown hLo ap1 hat2
    clear hLo hE hg2 hat2 n_e ap2
    go_roundw
    case rel=>exact ⟨4,by omega,by first | rfl | go_num | simp,⟨hL',hE',ap1,apart_symm ap1,u,u0⟩⟩
    case measure=>simp [intOf]
   ·have cc:=C4.o _ (HV.o.keep u)
    have hw1:IntKind.i64.wrap (4+1)=5:=by decide
    have eR:ivs M 4 = [Z (M 4).1.1,Z (M 4).1.2,Z (M 4).2.1,Z (M 4).2.2]:=rfl
    have eS:ers E 4 = [.int .i64 (E 4)]:=rfl
    generalize (M 4).1.1=m0 at *
    generalize (M 4).1.2=m1 at *
    generalize (M 4).2.1=m2 at *
    generalize (M 4).2.2=m3 at *
    generalize E 4=ec at *
    go_wp2_with fail
    refine cc.mono ?_
    rintro e v1 ⟨rfl,g⟩
    replace hL:=hL.below g
    replace hE:=hE.below g
    replace u:=u.trans (g.mono u.size)
    replace u0:=u0.trans (g.mono u0.size)
    have n_b:=lkeep hz g
    generalize wr.heap.size=bb at *
    clear g cc hz n_x n_y cx0 cx1 cx2 cx3 cy0 cy1 cy2 cy3
    have k0:=lcell n_b 0 (v:=Z ⟨#[]⟩) rfl
    have k1:=lcell n_b 1 (v:=Z ⟨#[]⟩) rfl
    have k2:=lcell n_b 2 (v:=Z ⟨#[]⟩) rfl
    have k3:=lcell n_b 3 (v:=Z ⟨#[]⟩) rfl
    have f0:=lfree n_b 0
    have f1:=lfree n_b 1
    have f2:=lfree n_b 2
    have f3:=lfree n_b 3
    have s_b:=box4_set (x:=Z m0) (y:=Z m1) (z:=Z m2) (t:=Z m3) n_b
    have q0:=lcell s_b 0 (v:=Z m0) rfl
    have q1:=lcell s_b 1 (v:=Z m1) rfl
    have q2:=lcell s_b 2 (v:=Z m2) rfl
    have q3:=lcell s_b 3 (v:=Z m3) rfl
    have g4:=grown4 v1 bb (Z m0) (Z m1) (Z m2) (Z m3)
    replace hL:=hL.beside (u:=.slice (some ⟨bb,0,none⟩) 0 0) g4 (.inr nb1)
    replace hE:=hE.beside (u:=.slice (some ⟨bb,0,none⟩) 0 0) g4 (.inr nb2)
    have hbw:∀ i,w.heap.size≤(⟨bb,i,none⟩:Addr).block:=fun _=>hbb1
    have hb0:∀ i,V0.heap.size≤(⟨bb,i,none⟩:Addr).block:=fun _=>hbb0
    replace u:=(((u.setCell (hbw 0) (Z m0)).setCell (hbw 1) (Z m1)).setCell (hbw 2) (Z m2)).setCell (hbw 3) (Z m3)
    replace u0:=(((u0.setCell (hb0 0) (Z m0)).setCell (hb0 1) (Z m1)).setCell (hb0 2) (Z m2)).setCell (hb0 3) (Z m3)
    go_upto_region 24 with fail
    generalize ((((v1.setCell ⟨bb,0,none⟩ (Z m0)).setCell ⟨bb,1,none⟩ (Z m1)).setCell ⟨bb,2,none⟩ (Z m2)).setCell ⟨bb,3,none⟩ (Z m3))=V2 at *
    clear k0 k1 k2 k3 f0 f1 f2 f3 n_b s_b g4 hbw hb0
    have ha:=(Below.refl V2.heap.size V2).alloc (Nat.le_refl _) (O #[Z m0,Z m1,Z m2,Z m3] 25)
    have n_n:=World.alloc_heap_new V2 (O #[Z m0,Z m1,Z m2,Z m3] 25)
    replace hL:=hL.below ha
    replace hE:=hE.below ha
    replace u:=u.trans (ha.mono u.size)
    replace u0:=u0.trans (ha.mono u0.size)
    clear ha
    go_upto_region 25 with (at_builtin;refine append_ivl rfl _ _ rfl V0.heap.size _ 4 (ivs M) rfl hL V2.heap.size _ rfl m0 m1 m2 m3 eR n_n (by decide) u0.size ?_;intro vl' w3 hL' hg hat)
    have hEo:=hE
    replace hE:=hE.beside hg ap2
    replace ap2:=apart_grown hEo ap2 hat
    replace u:=below_grown u (Nat.le_refl _) U0.o.size hL hg
    replace u0:=below_grown u0 (Nat.le_refl _) (Nat.le_refl _) hL hg
    clear hL hEo hg hat n_n ap1 nb1 nb2
    have ap1:=apart_symm ap2
    have ha:=(Below.refl w3.heap.size w3).alloc (Nat.le_refl _) (O #[.int .i64 ec] 30)
    have n_e:=World.alloc_heap_new w3 (O #[.int .i64 ec] 30)
    replace hL':=hL'.below ha
    replace hE:=hE.below ha
    replace u:=u.trans (ha.mono u.size)
    replace u0:=u0.trans (ha.mono u0.size)
    clear ha
    go_wp2_with (at_builtin;refine append_err rfl _ _ rfl V0.heap.size _ 4 (ers E) rfl hE w3.heap.size _ rfl ec eS n_e (by decide) u0.size ?_;intro ve' w4 hE' hg2 hat2)
    replace u:=below_grown u (Nat.le_refl _) U0.o.size hE hg2
    replace u0:=below_grown u0 (Nat.le_refl _) (Nat.le_refl _) hE hg2
    have hLo:=hL'
    replace hL':=hL'.beside hg2 ap1
    replace ap1:=apart_grown hLo ap1 hat2
    clear hLo hE hg2 hat2 n_e ap2
    go_roundw
    case rel=>exact ⟨5,by omega,by first | rfl | go_num | simp,⟨hL',hE',ap1,apart_symm ap1,u,u0⟩⟩
    case measure=>simp [intOf]
   ·have cc:=C5.o _ (HV.o.keep u)
    have hw1:IntKind.i64.wrap (5+1)=6:=by decide
    have eR:ivs M 5 = [Z (M 5).1.1,Z (M 5).1.2,Z (M 5).2.1,Z (M 5).2.2]:=rfl
    have eS:ers E 5 = [.int .i64 (E 5)]:=rfl
    generalize (M 5).1.1=m0 at *
    generalize (M 5).1.2=m1 at *
    generalize (M 5).2.1=m2 at *
    generalize (M 5).2.2=m3 at *
    generalize E 5=ec at *
    go_wp2_with fail
    refine cc.mono ?_
    rintro e v1 ⟨rfl,g⟩
    replace hL:=hL.below g
    replace hE:=hE.below g
    replace u:=u.trans (g.mono u.size)
    replace u0:=u0.trans (g.mono u0.size)
    have n_b:=lkeep hz g
    generalize wr.heap.size=bb at *
    clear g cc hz n_x n_y cx0 cx1 cx2 cx3 cy0 cy1 cy2 cy3
    have k0:=lcell n_b 0 (v:=Z ⟨#[]⟩) rfl
    have k1:=lcell n_b 1 (v:=Z ⟨#[]⟩) rfl
    have k2:=lcell n_b 2 (v:=Z ⟨#[]⟩) rfl
    have k3:=lcell n_b 3 (v:=Z ⟨#[]⟩) rfl
    have f0:=lfree n_b 0
    have f1:=lfree n_b 1
    have f2:=lfree n_b 2
    have f3:=lfree n_b 3
    have s_b:=box4_set (x:=Z m0) (y:=Z m1) (z:=Z m2) (t:=Z m3) n_b
    have q0:=lcell s_b 0 (v:=Z m0) rfl
    have q1:=lcell s_b 1 (v:=Z m1) rfl
    have q2:=lcell s_b 2 (v:=Z m2) rfl
    have q3:=lcell s_b 3 (v:=Z m3) rfl
    have g4:=grown4 v1 bb (Z m0) (Z m1) (Z m2) (Z m3)
    replace hL:=hL.beside (u:=.slice (some ⟨bb,0,none⟩) 0 0) g4 (.inr nb1)
    replace hE:=hE.beside (u:=.slice (some ⟨bb,0,none⟩) 0 0) g4 (.inr nb2)
    have hbw:∀ i,w.heap.size≤(⟨bb,i,none⟩:Addr).block:=fun _=>hbb1
    have hb0:∀ i,V0.heap.size≤(⟨bb,i,none⟩:Addr).block:=fun _=>hbb0
    replace u:=(((u.setCell (hbw 0) (Z m0)).setCell (hbw 1) (Z m1)).setCell (hbw 2) (Z m2)).setCell (hbw 3) (Z m3)
    replace u0:=(((u0.setCell (hb0 0) (Z m0)).setCell (hb0 1) (Z m1)).setCell (hb0 2) (Z m2)).setCell (hb0 3) (Z m3)
    go_upto_region 24 with fail
    generalize ((((v1.setCell ⟨bb,0,none⟩ (Z m0)).setCell ⟨bb,1,none⟩ (Z m1)).setCell ⟨bb,2,none⟩ (Z m2)).setCell ⟨bb,3,none⟩ (Z m3))=V2 at *
    clear k0 k1 k2 k3 f0 f1 f2 f3 n_b s_b g4 hbw hb0
    have ha:=(Below.refl V2.heap.size V2).alloc (Nat.le_refl _) (O #[Z m0,Z m1,Z m2,Z m3] 25)
    have n_n:=World.alloc_heap_new V2 (O #[Z m0,Z m1,Z m2,Z m3] 25)
    replace hL:=hL.below ha
    replace hE:=hE.below ha
    replace u:=u.trans (ha.mono u.size)
    replace u0:=u0.trans (ha.mono u0.size)
    clear ha
    go_upto_region 25 with (at_builtin;refine append_ivl rfl _ _ rfl V0.heap.size _ 5 (ivs M) rfl hL V2.heap.size _ rfl m0 m1 m2 m3 eR n_n (by decide) u0.size ?_;intro vl' w3 hL' hg hat)
    have hEo:=hE
    replace hE:=hE.beside hg ap2
    replace ap2:=apart_grown hEo ap2 hat
    replace u:=below_grown u (Nat.le_refl _) U0.o.size hL hg
    replace u0:=below_grown u0 (Nat.le_refl _) (Nat.le_refl _) hL hg
    clear hL hEo hg hat n_n ap1 nb1 nb2
    have ap1:=apart_symm ap2
    have ha:=(Below.refl w3.heap.size w3).alloc (Nat.le_refl _) (O #[.int .i64 ec] 30)
    have n_e:=World.alloc_heap_new w3 (O #[.int .i64 ec] 30)
    replace hL':=hL'.below ha
    replace hE:=hE.below ha
    replace u:=u.trans (ha.mono u.size)
    replace u0:=u0.trans (ha.mono u0.size)
    clear ha
    go_wp2_with (at_builtin;refine append_err rfl _ _ rfl V0.heap.size _ 5 (ers E) rfl hE w3.heap.size _ rfl ec eS n_e (by decide) u0.size ?_;intro ve' w4 hE' hg2 hat2)
    replace u:=below_grown u (Nat.le_refl _) U0.o.size hE hg2
    replace u0:=below_grown u0 (Nat.le_refl _) (Nat.le_refl _) hE hg2
    have hLo:=hL'
    replace hL':=hL'.beside hg2 ap1
    replace ap1:=apart_grown hLo ap1 hat2
    clear hLo hE hg2 hat2 n_e ap2
    go_roundw
    case rel=>exact ⟨6,by omega,by first | rfl | go_num | simp,⟨hL',hE',ap1,apart_symm ap1,u,u0⟩⟩
    case measure=>simp [intOf]
   ·have cc:=C6.o _ (HV.o.keep u)
    have hw1:IntKind.i64.wrap (6+1)=7:=by decide
    have eR:ivs M 6 = [Z (M 6).1.1,Z (M 6).1.2,Z (M 6).2.1,Z (M 6).2.2]:=rfl
    have eS:ers E 6 = [.int .i64 (E 6)]:=rfl
    generalize (M 6).1.1=m0 at *
    generalize (M 6).1.2=m1 at *
    generalize (M 6).2.1=m2 at *
    generalize (M 6).2.2=m3 at *
    generalize E 6=ec at *
    go_wp2_with fail
    refine cc.mono ?_
    rintro e v1 ⟨rfl,g⟩
    replace hL:=hL.below g
    replace hE:=hE.below g
    replace u:=u.trans (g.mono u.size)
    replace u0:=u0.trans (g.mono u0.size)
    have n_b:=lkeep hz g
    generalize wr.heap.size=bb at *
    clear g cc hz n_x n_y cx0 cx1 cx2 cx3 cy0 cy1 cy2 cy3
    have k0:=lcell n_b 0 (v:=Z ⟨#[]⟩) rfl
    have k1:=lcell n_b 1 (v:=Z ⟨#[]⟩) rfl
    have k2:=lcell n_b 2 (v:=Z ⟨#[]⟩) rfl
    have k3:=lcell n_b 3 (v:=Z ⟨#[]⟩) rfl
    have f0:=lfree n_b 0
    have f1:=lfree n_b 1
    have f2:=lfree n_b 2
    have f3:=lfree n_b 3
    have s_b:=box4_set (x:=Z m0) (y:=Z m1) (z:=Z m2) (t:=Z m3) n_b
    have q0:=lcell s_b 0 (v:=Z m0) rfl
    have q1:=lcell s_b 1 (v:=Z m1) rfl
    have q2:=lcell s_b 2 (v:=Z m2) rfl
    have q3:=lcell s_b 3 (v:=Z m3) rfl
    have g4:=grown4 v1 bb (Z m0) (Z m1) (Z m2) (Z m3)
    replace hL:=hL.beside (u:=.slice (some ⟨bb,0,none⟩) 0 0) g4 (.inr nb1)
    replace hE:=hE.beside (u:=.slice (some ⟨bb,0,none⟩) 0 0) g4 (.inr nb2)
    have hbw:∀ i,w.heap.size≤(⟨bb,i,none⟩:Addr).block:=fun _=>hbb1
    have hb0:∀ i,V0.heap.size≤(⟨bb,i,none⟩:Addr).block:=fun _=>hbb0
    replace u:=(((u.setCell (hbw 0) (Z m0)).setCell (hbw 1) (Z m1)).setCell (hbw 2) (Z m2)).setCell (hbw 3) (Z m3)
    replace u0:=(((u0.setCell (hb0 0) (Z m0)).setCell (hb0 1) (Z m1)).setCell (hb0 2) (Z m2)).setCell (hb0 3) (Z m3)
    go_upto_region 24 with fail
    generalize ((((v1.setCell ⟨bb,0,none⟩ (Z m0)).setCell ⟨bb,1,none⟩ (Z m1)).setCell ⟨bb,2,none⟩ (Z m2)).setCell ⟨bb,3,none⟩ (Z m3))=V2 at *
    clear k0 k1 k2 k3 f0 f1 f2 f3 n_b s_b g4 hbw hb0
    have ha:=(Below.refl V2.heap.size V2).alloc (Nat.le_refl _) (O #[Z m0,Z m1,Z m2,Z m3] 25)
    have n_n:=World.alloc_heap_new V2 (O #[Z m0,Z m1,Z m2,Z m3] 25)
    replace hL:=hL.below ha
    replace hE:=hE.below ha
    replace u:=u.trans (ha.mono u.size)
    replace u0:=u0.trans (ha.mono u0.size)
    clear ha
    go_upto_region 25 with (at_builtin;refine append_ivl rfl _ _ rfl V0.heap.size _ 6 (ivs M) rfl hL V2.heap.size _ rfl m0 m1 m2 m3 eR n_n (by decide) u0.size ?_;intro vl' w3 hL' hg hat)
    have hEo:=hE
    replace hE:=hE.beside hg ap2
    replace ap2:=apart_grown hEo ap2 hat
    replace u:=below_grown u (Nat.le_refl _) U0.o.size hL hg
    replace u0:=below_grown u0 (Nat.le_refl _) (Nat.le_refl _) hL hg
    clear hL hEo hg hat n_n ap1 nb1 nb2
    have ap1:=apart_symm ap2
    have ha:=(Below.refl w3.heap.size w3).alloc (Nat.le_refl _) (O #[.int .i64 ec] 30)
    have n_e:=World.alloc_heap_new w3 (O #[.int .i64 ec] 30)
    replace hL':=hL'.below ha
    replace hE:=hE.below ha
    replace u:=u.trans (ha.mono u.size)
    replace u0:=u0.trans (ha.mono u0.size)
    clear ha
    go_wp2_with (at_builtin;refine append_err rfl _ _ rfl V0.heap.size _ 6 (ers E) rfl hE w3.heap.size _ rfl ec eS n_e (by decide) u0.size ?_;intro ve' w4 hE' hg2 hat2)
    replace u:=below_grown u (Nat.le_refl _) U0.o.size hE hg2
    replace u0:=below_grown u0 (Nat.le_refl _) (Nat.le_refl _) hE hg2
    have hLo:=hL'
    replace hL':=hL'.beside hg2 ap1
    replace ap1:=apart_grown hLo ap1 hat2
    clear hLo hE hg2 hat2 n_e ap2
    go_roundw
    case rel=>exact ⟨7,by omega,by first | rfl | go_num | simp,⟨hL',hE',ap1,apart_symm ap1,u,u0⟩⟩
    case measure=>simp [intOf]
   ·have cc:=C7.o _ (HV.o.keep u)
    have hw1:IntKind.i64.wrap (7+1)=8:=by decide
    have eR:ivs M 7 = [Z (M 7).1.1,Z (M 7).1.2,Z (M 7).2.1,Z (M 7).2.2]:=rfl
    have eS:ers E 7 = [.int .i64 (E 7)]:=rfl
    generalize (M 7).1.1=m0 at *
    generalize (M 7).1.2=m1 at *
    generalize (M 7).2.1=m2 at *
    generalize (M 7).2.2=m3 at *
    generalize E 7=ec at *
    go_wp2_with fail
    refine cc.mono ?_
    rintro e v1 ⟨rfl,g⟩
    replace hL:=hL.below g
    replace hE:=hE.below g
    replace u:=u.trans (g.mono u.size)
    replace u0:=u0.trans (g.mono u0.size)
    have n_b:=lkeep hz g
    generalize wr.heap.size=bb at *
    clear g cc hz n_x n_y cx0 cx1 cx2 cx3 cy0 cy1 cy2 cy3
    have k0:=lcell n_b 0 (v:=Z ⟨#[]⟩) rfl
    have k1:=lcell n_b 1 (v:=Z ⟨#[]⟩) rfl
    have k2:=lcell n_b 2 (v:=Z ⟨#[]⟩) rfl
    have k3:=lcell n_b 3 (v:=Z ⟨#[]⟩) rfl
    have f0:=lfree n_b 0
    have f1:=lfree n_b 1
    have f2:=lfree n_b 2
    have f3:=lfree n_b 3
    have s_b:=box4_set (x:=Z m0) (y:=Z m1) (z:=Z m2) (t:=Z m3) n_b
    have q0:=lcell s_b 0 (v:=Z m0) rfl
    have q1:=lcell s_b 1 (v:=Z m1) rfl
    have q2:=lcell s_b 2 (v:=Z m2) rfl
    have q3:=lcell s_b 3 (v:=Z m3) rfl
    have g4:=grown4 v1 bb (Z m0) (Z m1) (Z m2) (Z m3)
    replace hL:=hL.beside (u:=.slice (some ⟨bb,0,none⟩) 0 0) g4 (.inr nb1)
    replace hE:=hE.beside (u:=.slice (some ⟨bb,0,none⟩) 0 0) g4 (.inr nb2)
    have hbw:∀ i,w.heap.size≤(⟨bb,i,none⟩:Addr).block:=fun _=>hbb1
    have hb0:∀ i,V0.heap.size≤(⟨bb,i,none⟩:Addr).block:=fun _=>hbb0
    replace u:=(((u.setCell (hbw 0) (Z m0)).setCell (hbw 1) (Z m1)).setCell (hbw 2) (Z m2)).setCell (hbw 3) (Z m3)
    replace u0:=(((u0.setCell (hb0 0) (Z m0)).setCell (hb0 1) (Z m1)).setCell (hb0 2) (Z m2)).setCell (hb0 3) (Z m3)
    go_upto_region 24 with fail
    generalize ((((v1.setCell ⟨bb,0,none⟩ (Z m0)).setCell ⟨bb,1,none⟩ (Z m1)).setCell ⟨bb,2,none⟩ (Z m2)).setCell ⟨bb,3,none⟩ (Z m3))=V2 at *
    clear k0 k1 k2 k3 f0 f1 f2 f3 n_b s_b g4 hbw hb0
    have ha:=(Below.refl V2.heap.size V2).alloc (Nat.le_refl _) (O #[Z m0,Z m1,Z m2,Z m3] 25)
    have n_n:=World.alloc_heap_new V2 (O #[Z m0,Z m1,Z m2,Z m3] 25)
    replace hL:=hL.below ha
    replace hE:=hE.below ha
    replace u:=u.trans (ha.mono u.size)
    replace u0:=u0.trans (ha.mono u0.size)
    clear ha
    go_upto_region 25 with (at_builtin;refine append_ivl rfl _ _ rfl V0.heap.size _ 7 (ivs M) rfl hL V2.heap.size _ rfl m0 m1 m2 m3 eR n_n (by decide) u0.size ?_;intro vl' w3 hL' hg hat)
    have hEo:=hE
    replace hE:=hE.beside hg ap2
    replace ap2:=apart_grown hEo ap2 hat
    replace u:=below_grown u (Nat.le_refl _) U0.o.size hL hg
    replace u0:=below_grown u0 (Nat.le_refl _) (Nat.le_refl _) hL hg
    clear hL hEo hg hat n_n ap1 nb1 nb2
    have ap1:=apart_symm ap2
    have ha:=(Below.refl w3.heap.size w3).alloc (Nat.le_refl _) (O #[.int .i64 ec] 30)
    have n_e:=World.alloc_heap_new w3 (O #[.int .i64 ec] 30)
    replace hL':=hL'.below ha
    replace hE:=hE.below ha
    replace u:=u.trans (ha.mono u.size)
    replace u0:=u0.trans (ha.mono u0.size)
    clear ha
    go_wp2_with (at_builtin;refine append_err rfl _ _ rfl V0.heap.size _ 7 (ers E) rfl hE w3.heap.size _ rfl ec eS n_e (by decide) u0.size ?_;intro ve' w4 hE' hg2 hat2)
    replace u:=below_grown u (Nat.le_refl _) U0.o.size hE hg2
    replace u0:=below_grown u0 (Nat.le_refl _) (Nat.le_refl _) hE hg2
    have hLo:=hL'
    replace hL':=hL'.beside hg2 ap1
    replace ap1:=apart_grown hLo ap1 hat2
    clear hLo hE hg2 hat2 n_e ap2
    go_roundw
    case rel=>exact ⟨8,by omega,by first | rfl | go_num | simp,⟨hL',hE',ap1,apart_symm ap1,u,u0⟩⟩
    case measure=>simp [intOf]
end En
end
section
namespace En
open Go.RowKit Go.Extern.Stop Go.Stop Go.Extern
open Go.Proofs.YtbfonkabmehlmaaGreatDoor.Nm Go.Proofs.YtbfonkabmehlmaaGreatDoor.Rt
def LCm (a:Addr) (f:Nat) (args:Array Value) (m:P4) (e:Int):Prop:=LC a f args (.tuple #[.agg #[Z m.1.1,Z m.1.2,Z m.2.1,Z m.2.2],.int .i64 e])
def m0:P4:=((⟨#[]⟩,⟨#[]⟩),(⟨#[]⟩,⟨#[]⟩))
theorem IC.some {a:Addr} {f:Nat} {args:Array Value} {x y:Rat} (h:IC a f args (some (x,y))):LCm a f args (pq x,pq y) 0:=h
theorem IC.none {a:Addr} {f:Nat} {args:Array Value} (h:IC a f args none):LCm a f args m0 50:=h
def sel8 {α:Type} (x0 x1 x2 x3 x4 x5 x6 x7:α):Nat→α
 | 0=>x0 | 1=>x1 | 2=>x2 | 3=>x3 | 4=>x4 | 5=>x5 | 6=>x6 | _=>x7
theorem pow_le12 {c:Nat} (hc:c≤12):((10:Int)^c).natAbs≤10^12:=by rw [Int.natAbs_pow];exact Nat.pow_le_pow_right (by decide) hc
theorem small_fits {p:Rat} (s:SmallQ p) {c:Nat} (hc:c≤12):Fits (p.num*10^c)∧Fits (p.num*10^c*10^c)∧Fits (upI (p.num*10^c) p.den):=by
 have h1:=abs_mul_le s.num (pow_le12 hc)
 have h2:=abs_mul_le h1 (pow_le12 hc)
 have hD:0<(p.den:Int):=by have:=p.den_pos;omega
 exact ⟨fits_lt10 h1 (by decide),fits_lt10 h2 (by decide),fits_lt10 (Nat.le_trans (upI_natAbs _ _ hD) h1) (by decide)⟩
end En
end
end Go.Proofs.YtbfonkabmehlmaaGreatDoor
