import Derived.Test.YtihlgifojjeoaaaGreatDoorZ6A8
import Derived.Deep.Cut
set_option maxRecDepth 1000000
set_option maxHeartbeats 40000000
open Go.Value renaming string→Z
open Go.Obj renaming cells→O
namespace Go.Proofs.YtihlgifojjeoaaaGreatDoor
section
open Go.RowKit Nm

theorem Qcf (neg:Bool) (p:Option Addr) (n cap:Nat) (w:World) :
  Calls Tryz.prog 150 #[.bool neg,.slice p n cap] w fun e w'=>e = .returned (.agg #[.bool (neg && decide (0<n)),.slice p n cap])∧Below w.heap.size w w':=by
 go_enter Tryz.func150, Tryz.ntmps150;cases neg with
 | true =>
  go_wp2;refine bodyPost_ret (v:=.agg #[.bool (decide (0<n)),.slice p n cap]) (by simp [results,Tryz.results150, go_sem]) rfl ⟨by rw [Bool.true_and],(Below.refl _ w).alloc Lr _⟩
 | false =>
  go_wp2;refine bodyPost_ret (v:=.agg #[.bool false,.slice p n cap]) (by simp [results,Tryz.results150, go_sem]) rfl ⟨by rw [Bool.false_and],(Below.refl _ w).alloc Lr _⟩

theorem Qaf {w0 w1:World} {b:Nat} {x y:Value} (h:RowAt w0 b #[x,y] 130) (hB:Below w0.heap.size w0 w1):w1.cell? ⟨b,0,none⟩=some x∧w1.cell? ⟨b,1,none⟩=some y∧w1.frozen? ⟨b,0,none⟩=false∧w1.frozen? ⟨b,1,none⟩=false:=by
 have h1:=RowAt.below h hB (RowAt.lt h);exact ⟨RowAt.cell h1 0,RowAt.cell h1 1,RowAt.frozen h1 0,RowAt.frozen h1 1⟩
theorem box2 (w:World) (o:Obj) (x y:Value):RowAt ((w.alloc o).alloc (O #[x,y] 130)) (w.heap.size+1) #[x,y] 130 := by
 have:=RowAt.new (w.alloc o) #[x,y] 130
 rwa [World.size_alloc] at this
def IsN (W:World) (u:Value) (z:Int):Prop:=∃ (p:Option Addr) (cap:Nat),u = .agg #[.bool (decide (z<0)),.slice p (natL z.natAbs).length cap]∧NA W (.slice p (natL z.natAbs).length cap) (natL z.natAbs)
theorem IsN.below {W W':World} {u:Value} {z:Int} (h:IsN W u z) {B:Nat} (hB:Below B W W') (hw:W.heap.size≤B):IsN W' u z:=by
 obtain ⟨p,cap,e,h⟩:=h;exact ⟨p,cap,e,h.below hB hw⟩

theorem Qcg (z:Int) (u:Value) (w:World) (h:IsN w u z) :
  Calls Tryz.prog 116 #[u] w fun e w'=>e = .returned (.bool (decide (z=0)))∧Below w.heap.size w w':=by
 obtain ⟨p,cap,rfl,hN⟩:=h;have hz:(natL z.natAbs).length=0↔z=0:=by rw [QaF];omega
 go_enter Tryz.func116, Tryz.ntmps116
 have HZ:Shut (((((natL z.natAbs).length:Nat):Int) == 0)=decide (z=0)):=⟨by
  by_cases h0:z=0
  ·rw [decide_eq_true h0,hz.2 h0];rfl
  ·have:=mt hz.1 h0;rw [decide_eq_false h0,beq_eq_false_iff_ne];omega⟩
 clear hz hN;go_wp2;go_ret;refine ⟨by rw [←HZ.o];rfl,(Below.refl _ w).alloc Lr _⟩

theorem QjG (z:Int) (u:Value) (w:World) (h:IsN w u z) :
  Calls Tryz.prog 221 #[u] w fun e w'=>∃ v,e = .returned v∧IsN w' v (-z)∧Below w.heap.size w w':=by
 obtain ⟨p,cap,rfl,hN⟩:=h
 have HZ:Shut ((!decide (z<0) && decide (0<(natL z.natAbs).length))=decide (-z<0)):=⟨by
  have hz:(natL z.natAbs).length=0↔z=0:=by rw [QaF];omega
  by_cases h0:z<0
  ·rw [decide_eq_true h0,decide_eq_false (show ¬ -z<0 by omega)];rfl
  ·rw [decide_eq_false h0];by_cases h1:z=0
   ·rw [hz.2 h1,decide_eq_false (show ¬ -z<0 by omega)];rfl
   ·have:=mt hz.1 h1;rw [decide_eq_true (show -z<0 by omega),decide_eq_true (show 0<(natL z.natAbs).length by omega)];rfl⟩
 have HN:Shut _:=⟨hN⟩;have hB0:Below w.heap.size w ((w.alloc (O #[.bool (decide (z<0)),.slice p (natL z.natAbs).length cap] 130)).alloc (O #[.bool false,.slice none 0 0] 130)):=((Below.refl _ w).alloc Lr _).alloc (by rw [World.size_alloc];omega) _;have HR:Shut _:=⟨box2 w (O #[.bool (decide (z<0)),.slice p (natL z.natAbs).length cap] 130) (.bool false) (.slice none 0 0)⟩;have HB0:Shut _:=⟨hB0⟩;go_enter Tryz.func221, Tryz.ntmps221;clear hN hB0;go_wp2_with (go_at_call 150; refine (Qcf _ p _ cap _).mono ?_;rintro e w1 ⟨rfl,hB1⟩;obtain ⟨k1,k2,k3,k4⟩:=Qaf HR.o hB1);have hF:=((HB0.o.trans (hB1.mono HB0.o.size)).setCell (p:=⟨w.heap.size+1,0,none⟩) (Nat.le_succ _) (.bool (!decide (z<0) && decide (0<(natL z.natAbs).length)))).setCell (p:=⟨w.heap.size+1,1,none⟩) (Nat.le_succ _) (.slice p (natL z.natAbs).length cap);refine bodyPost_ret (v:=.agg #[.bool (!decide (z<0) && decide (0<(natL z.natAbs).length)),.slice p (natL z.natAbs).length cap]) (by simp [results,Tryz.results221, go_sem,k1,k2]) rfl ⟨_,rfl,⟨p,cap,by rw [Int.natAbs_neg,HZ.o],by rw [Int.natAbs_neg];exact HN.o.below hF Lr⟩,hF⟩
def txt (z:Int):ByteArray:=if z=0 then ba [48] else if z<0 then ba (45 :: decN z.natAbs) else ba (decN z.natAbs)

theorem QcT (z:Int) (u:Value) (w:World) (h:IsN w u z) (hl:(natL z.natAbs).length≤1000) :
  Calls Tryz.prog 118 #[u] w fun e w'=>e = .returned (Z (txt z))∧Below w.heap.size w w':=by
 have hi:=fun W (hW:IsN W u z)=>Qcg z u W hW;have HI:=h;obtain ⟨p,cap,rfl,hN⟩:=h;have hB0:Below w.heap.size w (w.alloc (O #[.bool (decide (z<0)),.slice p (natL z.natAbs).length cap] 130)):=(Below.refl _ w).alloc Lr _;have HR:Shut _:=⟨RowAt.new w #[.bool (decide (z<0)),.slice p (natL z.natAbs).length cap] 130⟩;have HN:Shut _:=⟨hN⟩;have HB0:Shut _:=⟨hB0⟩;have c1:=hi _ (HI.below hB0 Lr);have HD:Shut (∀ W,Below w.heap.size w W→z≠0→Calls Tryz.prog 157 #[.slice p (natL z.natAbs).length cap] W fun e w'=>e = .returned (Z (ba (decN z.natAbs)))∧Below W.heap.size W w'):=⟨fun W hW hz=>QlO z.natAbs (by omega) _ W (HN.o.below hW Lr) hl⟩;go_enter Tryz.func118, Tryz.ntmps118;clear hN hB0 hi HI;by_cases h0:z=0
 ·have HT:Shut (txt z=⟨#[48]⟩):=⟨by rw [txt,if_pos h0];rfl⟩;have hd:decide (z=0)=true:=decide_eq_true h0;rw [hd] at c1;clear h0 hd;go_wp2_with (go_at_call 116; refine c1.mono ?_;rintro e w1 ⟨rfl,hB1⟩);go_ret;exact ⟨by rw [HT.o];rfl,HB0.o.trans (hB1.mono HB0.o.size)⟩
 ·have hd:decide (z=0)=false:=decide_eq_false h0;rw [hd] at c1;by_cases hn:z<0
  ·have HT:Shut (txt z=⟨#[45]⟩++ba (decN z.natAbs)):=⟨by rw [txt,if_neg h0,if_pos hn,show (45 :: decN z.natAbs) = [45]++decN z.natAbs from rfl,Qnk];rfl⟩;have hdn:decide (z<0)=true:=decide_eq_true hn
   have hsz:(ba (decN z.natAbs)).size≤100000:=by
    rw [Qeo];have:=Qce (n:=z.natAbs) (t:=4*(natL z.natAbs).length) (by have:=QaI z.natAbs;rw [Nat.pow_mul];exact this);omega
   have h1s:(⟨#[45]⟩:ByteArray).size=1:=rfl;rw [hdn] at c1 HR HB0 ⊢;have HZ:Shut _:=⟨h0⟩;clear h0 hd hn hdn;generalize ba (decN z.natAbs)=ds at *
   go_wp2_with (first | (go_at_call 116; refine c1.mono ?_;rintro e w1 ⟨rfl,hB1⟩;obtain ⟨k1,k2,k3,k4⟩:=Qaf HR.o hB1) | (go_at_call 157; refine (HD.o w1 (HB0.o.trans (hB1.mono HB0.o.size)) HZ.o).mono ?_;rintro e w2 ⟨rfl,hB2⟩));go_ret;exact ⟨by rw [HT.o];rfl,(HB0.o.trans (hB1.mono HB0.o.size)).trans (hB2.mono (HB0.o.trans (hB1.mono HB0.o.size)).size)⟩
  ·have HT:Shut (txt z=ba (decN z.natAbs)):=⟨by rw [txt,if_neg h0,if_neg hn]⟩;have hdn:decide (z<0)=false:=decide_eq_false hn;rw [hdn] at c1 HR HB0 ⊢;have HZ:Shut _:=⟨h0⟩;clear h0 hd hn hdn;generalize ba (decN z.natAbs)=ds at *
   go_wp2_with (first | (go_at_call 116; refine c1.mono ?_;rintro e w1 ⟨rfl,hB1⟩;obtain ⟨k1,k2,k3,k4⟩:=Qaf HR.o hB1) | (go_at_call 157; refine (HD.o w1 (HB0.o.trans (hB1.mono HB0.o.size)) HZ.o).mono ?_;rintro e w2 ⟨rfl,hB2⟩));go_ret;exact ⟨by rw [HT.o];rfl,(HB0.o.trans (hB1.mono HB0.o.size)).trans (hB2.mono (HB0.o.trans (hB1.mono HB0.o.size)).size)⟩

def cmpZ (x y:Int):Int:=if x<y then -1 else if x=y then 0 else 1
theorem QgY (x y:Int) (u v:Value) (w:World) (hx:IsN w u x) (hy:IsN w v y) (hl:(natL x.natAbs).length≤1000) (hl2:(natL y.natAbs).length≤1000) :
  Calls Tryz.prog 115 #[u,v] w fun e w'=>e = .returned (.int .i64 (cmpZ x y))∧Below w.heap.size w w':=by
 obtain ⟨p,cap,rfl,hN⟩:=hx;obtain ⟨q,cap',rfl,hN'⟩:=hy;have hB0:Below w.heap.size w ((w.alloc (O #[.bool (decide (x<0)),.slice p (natL x.natAbs).length cap] 130)).alloc (O #[.bool (decide (y<0)),.slice q (natL y.natAbs).length cap'] 130)):=((Below.refl _ w).alloc Lr _).alloc (by rw [World.size_alloc];omega) _
 have cmp:∀ (a b:Nat) (pa pb:Option Addr) (ca cb:Nat) (W:World),Below w.heap.size w W→NA w (.slice pa (natL a).length ca) (natL a)→NA w (.slice pb (natL b).length cb) (natL b)→(natL a).length≤1000→(natL b).length≤1000→Calls Tryz.prog 153 #[.slice pa (natL a).length ca,.slice pb (natL b).length cb] W fun e w'=>e = .returned (.int .i64 (cmpN a b))∧Below W.heap.size W w':=fun a b pa pb ca cb W hW h1 h2 h3 h4=>by
  obtain ⟨p1,c1,g1,o1,e1,_,_,hp1,hu1⟩:=(h1.below hW Lr).open;obtain ⟨p2,c2,g2,o2,e2,_,_,hp2,hu2⟩:=(h2.below hW Lr).open;injection e1 with e11 e12 e13;injection e2 with e21 e22 e23;subst e11;subst e13;subst e21;subst e23;refine (Qgb a b pa ca g1 o1 pb cb g2 o2 W (fun h=>(hp1 h).1) hu1 (fun h=>(hp2 h).1) hu2 (by omega) (by omega)).mono ?_;rintro e w' ⟨rfl,m,rfl⟩;exact ⟨rfl,Qag (Below.refl _ _) m⟩
 have HB0:Shut _:=⟨hB0⟩;go_enter Tryz.func115, Tryz.ntmps115;by_cases hx0:x<0
 ·have hdx:decide (x<0)=true:=decide_eq_true hx0;by_cases hy0:y<0
  ·have hdy:decide (y<0)=true:=decide_eq_true hy0;have HC:Shut (cmpN y.natAbs x.natAbs=cmpZ x y):=⟨by unfold cmpN cmpZ;(repeat' split) <;> omega⟩;rw [hdx,hdy] at HB0 ⊢;have c1:=cmp y.natAbs x.natAbs q p cap' cap _ HB0.o hN' hN hl2 hl;rw [HC.o] at c1;clear cmp hN hN' hB0 hdx hdy hx0 hy0;go_wp2_with (go_at_call 153; refine c1.mono ?_;rintro e w1 ⟨rfl,hB1⟩);go_ret;exact ⟨rfl,HB0.o.trans (hB1.mono HB0.o.size)⟩
  ·have hdy:decide (y<0)=false:=decide_eq_false hy0;have HC:Shut (cmpZ x y = -1):=⟨by rw [cmpZ,if_pos (by omega)]⟩;rw [hdx,hdy] at HB0 ⊢;clear cmp hN hN' hB0 hdx hdy hx0 hy0;go_wp2;go_ret;exact ⟨by rw [HC.o];rfl,HB0.o⟩
 ·have hdx:decide (x<0)=false:=decide_eq_false hx0;by_cases hy0:y<0
  ·have hdy:decide (y<0)=true:=decide_eq_true hy0;have HC:Shut (cmpZ x y=1):=⟨by rw [cmpZ,if_neg (by omega),if_neg (by omega)]⟩;rw [hdx,hdy] at HB0 ⊢;clear cmp hN hN' hB0 hdx hdy hx0 hy0;go_wp2;go_ret;exact ⟨by rw [HC.o];rfl,HB0.o⟩
  ·have hdy:decide (y<0)=false:=decide_eq_false hy0;have HC:Shut (cmpN x.natAbs y.natAbs=cmpZ x y):=⟨by unfold cmpN cmpZ;(repeat' split) <;> omega⟩;rw [hdx,hdy] at HB0 ⊢;have c1:=cmp x.natAbs y.natAbs p q cap cap' _ HB0.o hN hN' hl hl2;rw [HC.o] at c1;clear cmp hN hN' hB0 hdx hdy hx0 hy0;go_wp2_with (go_at_call 153; refine c1.mono ?_;rintro e w1 ⟨rfl,hB1⟩);go_ret;exact ⟨rfl,HB0.o.trans (hB1.mono HB0.o.size)⟩
def box3 (w:World) (a b c:Array Value):World:=((w.alloc (.cells a 130)).alloc (.cells b 130)).alloc (.cells c 130)
theorem QcF (w:World) (a b c:Array Value):Below w.heap.size w (box3 w a b c):=(((Below.refl _ w).alloc Lr _).alloc (by rw [World.size_alloc];omega) _).alloc (by rw [World.size_alloc,World.size_alloc];omega) _
theorem QiE (w:World) (a b c:Array Value):(box3 w a b c).heap.size=w.heap.size+3:=by rw [box3,World.size_alloc,World.size_alloc,World.size_alloc]
theorem QeD (w:World) (a b c:Array Value):RowAt (box3 w a b c) w.heap.size a 130 ∧ RowAt (box3 w a b c) (w.heap.size+1) b 130 ∧ RowAt (box3 w a b c) (w.heap.size+2) c 130 := by
 have h1:=((RowAt.new w a 130).alloc (.cells b 130)).alloc (.cells c 130);have h2:=(RowAt.new (w.alloc (.cells a 130)) b 130).alloc (.cells c 130);have h3:=RowAt.new ((w.alloc (.cells a 130)).alloc (.cells b 130)) c 130;rw [World.size_alloc] at h2;rw [World.size_alloc,World.size_alloc] at h3;exact ⟨h1,h2,h3⟩

theorem NA.setNum {W:World} {v:Value} {l:List Nat} {b:Nat} {x y:Value} (h:NA W v l) (hr:RowAt W b #[x,y] 130) (hx:∀ k n,x ≠ .int k n) (hy:∀ k n,y ≠ .int k n) (i:Nat) (z:Value):NA (W.setCell ⟨b,i,none⟩ z) v l:=by
 obtain ⟨p,cap,rfl,h1,h2,h3 | ⟨g,o,rfl,hg,hu⟩⟩:=h
 ·exact ⟨p,cap,rfl,h1,h2,.inl h3⟩
 ·refine ⟨_,cap,rfl,h1,h2,.inr ⟨g,o,rfl,by simp only [World.setCell,Array.size_modify];exact hg,fun j hj => ?_⟩⟩;have hc:=hu j hj;by_cases hgb:g=b
  ·subst hgb;rw [RowAt.cell hr (o+j)] at hc;rcases Nat.lt_or_ge (o+j) 2 with h5 | h5
   ·rcases (show o+j=0∨o+j=1 by omega) with h6 | h6
    ·rw [h6] at hc;exact absurd (Option.some.inj hc) (hx _ _)
    ·rw [h6] at hc;exact absurd (Option.some.inj hc) (hy _ _)
   ·rw [Array.getElem?_eq_none (by simpa using h5)] at hc;cases hc
  ·have e:(W.setCell ⟨b,i,none⟩ z).cell? ⟨g,o+j,none⟩=W.cell? ⟨g,o+j,none⟩:=by
    unfold World.cell?;rw [show (W.setCell ⟨b,i,none⟩ z).heap[(⟨g,o+j,none⟩:Addr).block]? = W.heap[g]? from heap_setCell_other W ⟨b,i,none⟩ g z hgb]
   exact e.trans hc
theorem NA.setNum2 {W:World} {v:Value} {l:List Nat} {b:Nat} {x y:Value} (h:NA W v l) (hr:RowAt W b #[x,y] 130) (hx:∀ k n,x ≠ .int k n) (hy:∀ k n,y ≠ .int k n) (B:Bool) (z:Value):NA ((W.setCell ⟨b,0,none⟩ (.bool B)).setCell ⟨b,1,none⟩ z) v l :=
 (h.setNum hr hx hy 0 (.bool B)).setNum (x:=.bool B) (y:=y) (RowAt.set_same hr 0 (.bool B)) (fun _ _=>by simp) hy 1 z
theorem NA.out {W:World} {v:Value} {l:List Nat} (h:NA W v l):∃ (p:Option Addr) (cap:Nat),v = .slice p l.length cap∧NA W (.slice p l.length cap) l:=by
 obtain ⟨p,cap,rfl,h1⟩:=h;exact ⟨p,cap,rfl,p,cap,rfl,h1⟩
theorem Qak (x y:Int):(!(decide (x<0) == decide (y<0)) && decide (0<(natL (x.natAbs*y.natAbs)).length))=decide (x*y<0):=by
 have hz:(natL (x.natAbs*y.natAbs)).length=0↔x.natAbs*y.natAbs=0:=QaF;by_cases hx:x=0
 ·subst hx;rw [Int.zero_mul,show (0:Int).natAbs*y.natAbs=0 by simp,Qau];simp
 ·by_cases hy:y=0
  ·subst hy;rw [Int.mul_zero,show x.natAbs*(0:Int).natAbs=0 by simp,Qau];simp
  ·have hp:x.natAbs*y.natAbs≠0:=Nat.mul_ne_zero (by omega) (by omega);have hl:decide (0<(natL (x.natAbs*y.natAbs)).length)=true:=decide_eq_true (by have:=mt hz.1 hp;omega);rw [hl,Bool.and_true];by_cases h1:x<0
   ·by_cases h2:y<0
    ·have:=Int.mul_pos_of_neg_of_neg h1 h2;rw [decide_eq_true h1,decide_eq_true h2,decide_eq_false (show ¬ x*y<0 by omega)];rfl
    ·have:=Int.mul_neg_of_neg_of_pos h1 (show 0<y by omega);rw [decide_eq_true h1,decide_eq_false h2,decide_eq_true this];rfl
   ·by_cases h2:y<0
    ·have:=Int.mul_neg_of_pos_of_neg (show 0<x by omega) h2;rw [decide_eq_false h1,decide_eq_true h2,decide_eq_true this];rfl
    ·have:=Int.mul_pos (show 0<x by omega) (show 0<y by omega);rw [decide_eq_false h1,decide_eq_false h2,decide_eq_false (show ¬ x*y<0 by omega)];rfl
theorem QiF (x y:Int) (u v:Value) (w:World) (hx:IsN w u x) (hy:IsN w v y) (hl:(natL x.natAbs).length≤1000) (hl2:(natL y.natAbs).length≤1000) :
  Calls Tryz.prog 113 #[u,v] w fun e w'=>∃ r,e = .returned r∧IsN w' r (x*y)∧Below w.heap.size w w':=by
 obtain ⟨p,cap,rfl,hN⟩:=hx;obtain ⟨q,cap',rfl,hN'⟩:=hy;have HB0:Shut _:=⟨QcF w #[.bool (decide (x<0)),.slice p (natL x.natAbs).length cap] #[.bool (decide (y<0)),.slice q (natL y.natAbs).length cap'] #[.bool false,.slice none 0 0]⟩;have hZ:=QiE w #[.bool (decide (x<0)),.slice p (natL x.natAbs).length cap] #[.bool (decide (y<0)),.slice q (natL y.natAbs).length cap'] #[.bool false,.slice none 0 0];obtain ⟨r1,r2,r3⟩:=QeD w #[.bool (decide (x<0)),.slice p (natL x.natAbs).length cap] #[.bool (decide (y<0)),.slice q (natL y.natAbs).length cap'] #[.bool false,.slice none 0 0];go_enter Tryz.func113, Tryz.ntmps113;go_wp2;rw [show ((w.alloc (O #[.bool (decide (x<0)),.slice p (natL x.natAbs).length cap] 130)).alloc (O #[.bool (decide (y<0)),.slice q (natL y.natAbs).length cap'] 130)).alloc (O #[.bool false,.slice none 0 0] 130)=box3 w #[.bool (decide (x<0)),.slice p (natL x.natAbs).length cap] #[.bool (decide (y<0)),.slice q (natL y.natAbs).length cap'] #[.bool false,.slice none 0 0] from rfl];generalize box3 w #[.bool (decide (x<0)),.slice p (natL x.natAbs).length cap] #[.bool (decide (y<0)),.slice q (natL y.natAbs).length cap'] #[.bool false,.slice none 0 0]=W0 at *
 have hd:Below W0.heap.size W0 W0.drew:=(Below.refl _ _).drew;have hwd:Below w.heap.size w W0.drew:=HB0.o.drew;obtain ⟨a1,a2,_,_⟩:=Qaf r1 (Below.refl _ W0);obtain ⟨b1,b2,_,_⟩:=Qaf r2 (Below.refl _ W0);obtain ⟨d1,d2,d3,d4⟩:=Qaf r3 (Below.refl _ W0);have ct:=Qdd x.natAbs y.natAbs (.slice p (natL x.natAbs).length cap) (.slice q (natL y.natAbs).length cap') W0.drew (hN.below hwd Lr) (hN'.below hwd Lr) hl hl2;have HR1:Shut _:=⟨r1⟩;have HR2:Shut _:=⟨r2⟩;have HR3:Shut _:=⟨r3⟩;have n1:¬(w.heap.size=w.heap.size+1+1):=by omega
 have n2:¬(w.heap.size+1+1=w.heap.size):=by omega
 clear r1 r2 r3 hN hN'
 go_region_held3 (fun w'=>w'.cell? ⟨w.heap.size,0,none⟩=some (.bool (decide (x<0)))∧w'.cell? ⟨w.heap.size,1,none⟩=some (.slice p (natL x.natAbs).length cap)∧w'.cell? ⟨w.heap.size+1,0,none⟩=some (.bool (decide (y<0)))∧w'.cell? ⟨w.heap.size+1,1,none⟩=some (.slice q (natL y.natAbs).length cap')) (go_keep) (first | (go_at_call 151; refine ct.mono ?_;rintro e w1 ⟨v1,rfl,hv1,hB1⟩;obtain ⟨p1,cp1,rfl,hv1'⟩:=hv1.out;have hB1':=hd.trans hB1;obtain ⟨e1,e2,_,_⟩:=Qaf HR1.o hB1';obtain ⟨f1,f2,_,_⟩:=Qaf HR2.o hB1';obtain ⟨g1,g2,g3,g4⟩:=Qaf HR3.o hB1') | (go_at_call 150; refine (Qcf _ p1 _ cp1 _).mono ?_;rintro e w2 ⟨rfl,hB2⟩;have hB2':=hB1'.trans (hB2.mono hB1'.size);obtain ⟨h1,h2,_,_⟩:=Qaf HR1.o hB2';obtain ⟨i1,i2,_,_⟩:=Qaf HR2.o hB2';obtain ⟨j1,j2,j3,j4⟩:=Qaf HR3.o hB2'))
 all_goals go_wp2
 all_goals (have hF:=((HB0.o.trans (hB2'.mono HB0.o.size)).setCell (p:=⟨w.heap.size+1+1,0,none⟩) (by show w.heap.size≤w.heap.size+1+1;omega) (.bool (!(decide (x<0) == decide (y<0)) && decide (0<(natL (x.natAbs*y.natAbs)).length)))).setCell (p:=⟨w.heap.size+1+1,1,none⟩) (by show w.heap.size≤w.heap.size+1+1;omega) (.slice p1 (natL (x.natAbs*y.natAbs)).length cp1))
 all_goals (have hv2:=(hv1.below hB2 Lr).setNum2 (RowAt.below HR3.o hB2' (RowAt.lt HR3.o)) (fun _ _=>by simp) (fun _ _=>by simp) (!(decide (x<0) == decide (y<0)) && decide (0<(natL (x.natAbs*y.natAbs)).length)) (.slice p1 (natL (x.natAbs*y.natAbs)).length cp1))
 all_goals refine bodyPost_ret (v:=.agg #[.bool (!(decide (x<0) == decide (y<0)) && decide (0<(natL (x.natAbs*y.natAbs)).length)),.slice p1 (natL (x.natAbs*y.natAbs)).length cp1]) (by simp [results,Tryz.results113, go_sem,j1,j2]) rfl ⟨_,rfl,⟨p1,cp1,by rw [Int.natAbs_mul,Qak],by rw [Int.natAbs_mul];exact hv2⟩,hF⟩
theorem QpA {x y:Int} (h:(decide (x<0) == decide (y<0))=true):decide (x+y<0)=decide (x<0)∧(x+y).natAbs=x.natAbs+y.natAbs:=by
 rw [beq_iff_eq,decide_eq_decide] at h;rw [decide_eq_decide];constructor <;> omega
theorem Qky {x y:Int} (h:(decide (x<0) == decide (y<0))=false) (hl:y.natAbs≤x.natAbs):(decide (x<0) && decide (0<(natL (x.natAbs-y.natAbs)).length))=decide (x+y<0)∧(x+y).natAbs=x.natAbs-y.natAbs:=by
 have hz:(natL (x.natAbs-y.natAbs)).length=0↔x.natAbs-y.natAbs=0:=QaF
 have hn:¬(x<0↔y<0):=by
  intro h2;have h3:decide (x<0)=decide (y<0):=decide_eq_decide.2 h2;rw [h3] at h;simp at h
 refine ⟨?_,by omega⟩;by_cases h1:x<0
 ·rw [decide_eq_true h1,Bool.true_and,decide_eq_decide];constructor
  ·intro h3;omega
  ·intro h3;have:x.natAbs-y.natAbs≠0:=by omega
   have:=mt hz.1 this;omega
 ·rw [decide_eq_false h1,Bool.false_and,decide_eq_false (show ¬ x+y<0 by omega)]

theorem Qnp {W:World} {b:Nat} {x1 x2 y1 y2:Value} {c:Array Value} {T:TypeId} (r1:RowAt W b #[x1,x2] T) (r2:RowAt W (b+1) #[y1,y2] T) (r3:RowAt W (b+2) c T) :
  RowAt ((((W.setCell ⟨b,0,none⟩ y1).setCell ⟨b,1,none⟩ y2).setCell ⟨b+1,0,none⟩ x1).setCell ⟨b+1,1,none⟩ x2) b #[y1,y2] T∧RowAt ((((W.setCell ⟨b,0,none⟩ y1).setCell ⟨b,1,none⟩ y2).setCell ⟨b+1,0,none⟩ x1).setCell ⟨b+1,1,none⟩ x2) (b+1) #[x1,x2] T∧RowAt ((((W.setCell ⟨b,0,none⟩ y1).setCell ⟨b,1,none⟩ y2).setCell ⟨b+1,0,none⟩ x1).setCell ⟨b+1,1,none⟩ x2) (b+2) c T:=by
 have e1:b≠b+1:=by omega
 have e2:b+1≠b:=by omega
 have e3:b+2≠b:=by omega
 have e4:b+2≠b+1:=by omega
 exact ⟨((RowAt.set_same (RowAt.set_same r1 0 y1) 1 y2).set_other ⟨b+1,0,none⟩ e1 x1).set_other ⟨b+1,1,none⟩ e1 x2,
  RowAt.set_same (RowAt.set_same ((RowAt.set_other r2 ⟨b,0,none⟩ e2 y1).set_other ⟨b,1,none⟩ e2 y2) 0 x1) 1 x2,
  (((RowAt.set_other r3 ⟨b,0,none⟩ e3 y1).set_other ⟨b,1,none⟩ e3 y2).set_other ⟨b+1,0,none⟩ e4 x1).set_other ⟨b+1,1,none⟩ e4 x2⟩
theorem QrY (a b:Nat) (pa pb:Option Addr) (ca cb:Nat) (W:World) (h1:NA W (.slice pa (natL a).length ca) (natL a)) (h2:NA W (.slice pb (natL b).length cb) (natL b)) (h3:(natL a).length≤1000) (h4:(natL b).length≤1000) :
  Calls Tryz.prog 153 #[.slice pa (natL a).length ca,.slice pb (natL b).length cb] W fun e w'=>e = .returned (.int .i64 (cmpN a b))∧∃ m,w'=W.drewN m:=by
 obtain ⟨p1,c1,g1,o1,e1,_,_,hp1,hu1⟩:=h1.open;obtain ⟨p2,c2,g2,o2,e2,_,_,hp2,hu2⟩:=h2.open;injection e1 with e11 e12 e13;injection e2 with e21 e22 e23;subst e11;subst e13;subst e21;subst e23;exact Qgb a b pa ca g1 o1 pb cb g2 o2 W (fun h=>(hp1 h).1) hu1 (fun h=>(hp2 h).1) hu2 (by omega) (by omega)
theorem Qgc (x y:Int) (u v:Value) (w:World) (hx:IsN w u x) (hy:IsN w v y) (hl:(natL x.natAbs).length≤1000) (hl2:(natL y.natAbs).length≤1000) :
  Calls Tryz.prog 168 #[u,v] w fun e w'=>∃ r,e = .returned r∧IsN w' r (x+y)∧Below w.heap.size w w':=by
 obtain ⟨p,cap,rfl,hN⟩:=hx;obtain ⟨q,cap',rfl,hN'⟩:=hy;have HB0:Shut _:=⟨QcF w #[.bool (decide (x<0)),.slice p (natL x.natAbs).length cap] #[.bool (decide (y<0)),.slice q (natL y.natAbs).length cap'] #[.bool false,.slice none 0 0]⟩;obtain ⟨r1,r2,r3⟩:=QeD w #[.bool (decide (x<0)),.slice p (natL x.natAbs).length cap] #[.bool (decide (y<0)),.slice q (natL y.natAbs).length cap'] #[.bool false,.slice none 0 0];go_enter Tryz.func168, Tryz.ntmps168;go_upto_region 1 with fail
 rw [show ((w.alloc (O #[.bool (decide (x<0)),.slice p (natL x.natAbs).length cap] 130)).alloc (O #[.bool (decide (y<0)),.slice q (natL y.natAbs).length cap'] 130)).alloc (O #[.bool false,.slice none 0 0] 130)=box3 w #[.bool (decide (x<0)),.slice p (natL x.natAbs).length cap] #[.bool (decide (y<0)),.slice q (natL y.natAbs).length cap'] #[.bool false,.slice none 0 0] from rfl];generalize box3 w #[.bool (decide (x<0)),.slice p (natL x.natAbs).length cap] #[.bool (decide (y<0)),.slice q (natL y.natAbs).length cap'] #[.bool false,.slice none 0 0]=W0 at *
 have hd:Below W0.heap.size W0 W0.drew:=(Below.refl _ _).drew;have hwd:Below w.heap.size w W0.drew:=HB0.o.drew;obtain ⟨a1,a2,a3,a4⟩:=Qaf r1 (Below.refl _ W0);obtain ⟨b1,b2,b3,b4⟩:=Qaf r2 (Below.refl _ W0);obtain ⟨d1,d2,d3,d4⟩:=Qaf r3 (Below.refl _ W0);have HR1:Shut _:=⟨r1⟩;have HR2:Shut _:=⟨r2⟩;have HR3:Shut _:=⟨r3⟩;have HN:Shut _:=⟨hN⟩;have HN':Shut _:=⟨hN'⟩;have n1:¬(w.heap.size=w.heap.size+1+1):=by omega
 have n2:¬(w.heap.size+1+1=w.heap.size):=by omega
 clear r1 r2 r3 hN hN';cases hs:(decide (x<0) == decide (y<0)) with
 | true =>
  have HS:Shut _:=⟨QpA hs⟩;have ct:=Qey x.natAbs y.natAbs (.slice p (natL x.natAbs).length cap) (.slice q (natL y.natAbs).length cap') W0.drew (HN.o.below hwd Lr) (HN'.o.below hwd Lr) hl hl2;go_upto_region 2 with fail
  go_region_held3 (fun w'=>w'.cell? ⟨w.heap.size,0,none⟩=some (.bool (decide (x<0)))∧w'.cell? ⟨w.heap.size,1,none⟩=some (.slice p (natL x.natAbs).length cap)∧w'.cell? ⟨w.heap.size+1,0,none⟩=some (.bool (decide (y<0)))∧w'.cell? ⟨w.heap.size+1,1,none⟩=some (.slice q (natL y.natAbs).length cap')) (go_keep) (first | (go_at_call 155; refine ct.mono ?_;rintro e w1 ⟨v1,rfl,hv1,hB1⟩;obtain ⟨p1,cp1,rfl,hv1'⟩:=hv1.out;have hB1':=hd.trans hB1;obtain ⟨e1,e2,_,_⟩:=Qaf HR1.o hB1';obtain ⟨f1,f2,_,_⟩:=Qaf HR2.o hB1';obtain ⟨g1,g2,g3,g4⟩:=Qaf HR3.o hB1'))
  all_goals go_wp2
  all_goals (have hF:=((HB0.o.trans (hB1'.mono HB0.o.size)).setCell (p:=⟨w.heap.size+1+1,0,none⟩) (by show w.heap.size≤w.heap.size+1+1;omega) (.bool (decide (x<0)))).setCell (p:=⟨w.heap.size+1+1,1,none⟩) (by show w.heap.size≤w.heap.size+1+1;omega) (.slice p1 (natL (x.natAbs+y.natAbs)).length cp1))
  all_goals (have hv2:=hv1.setNum2 (RowAt.below HR3.o hB1' (RowAt.lt HR3.o)) (fun _ _=>by simp) (fun _ _=>by simp) (decide (x<0)) (.slice p1 (natL (x.natAbs+y.natAbs)).length cp1))
  all_goals refine bodyPost_ret (v:=.agg #[.bool (decide (x<0)),.slice p1 (natL (x.natAbs+y.natAbs)).length cp1]) (by simp [results,Tryz.results168, go_sem,g1,g2]) rfl ⟨_,rfl,⟨p1,cp1,by rw [HS.o.1,HS.o.2],by rw [HS.o.2];exact hv2⟩,hF⟩
 | false =>
  have cc:=QrY x.natAbs y.natAbs p q cap cap' W0 (HN.o.below HB0.o Lr) (HN'.o.below HB0.o Lr) hl hl2;by_cases hle:y.natAbs≤x.natAbs
  ·have HCM:0≤cmpN x.natAbs y.natAbs:=by unfold cmpN;(repeat' split) <;> omega
   have HS:Shut _:=⟨Qky hs hle⟩;have hcm:¬ cmpN x.natAbs y.natAbs<0:=by omega
   generalize cmpN x.natAbs y.natAbs=cv at *
   clear HCM;go_upto_region 5 with (go_at_call 153; refine cc.mono ?_;rintro e w9 ⟨rfl,m,rfl⟩)
   have hB9:Below W0.heap.size W0 (W0.drewN m):=Qag (Below.refl _ _) m;generalize W0.drewN m=W1 at *
   obtain ⟨a1,a2,a3,a4⟩:=Qaf HR1.o hB9;obtain ⟨b1,b2,b3,b4⟩:=Qaf HR2.o hB9;obtain ⟨d1,d2,d3,d4⟩:=Qaf HR3.o hB9;have hd9:Below W0.heap.size W0 W1.drew:=hB9.drew;have hw9:Below w.heap.size w W1.drew:=HB0.o.trans (hd9.mono HB0.o.size);have cm:=QdE x.natAbs y.natAbs hle (.slice p (natL x.natAbs).length cap) (.slice q (natL y.natAbs).length cap') W1.drew (HN.o.below hw9 Lr) (HN'.o.below hw9 Lr) hl
   go_region_held3 (fun w'=>w'.cell? ⟨w.heap.size,0,none⟩=some (.bool (decide (x<0)))∧w'.cell? ⟨w.heap.size,1,none⟩=some (.slice p (natL x.natAbs).length cap)∧w'.cell? ⟨w.heap.size+1,1,none⟩=some (.slice q (natL y.natAbs).length cap')) (go_keep) (first | (go_at_call 156; refine cm.mono ?_;rintro e w1 ⟨v1,rfl,hv1,hB1⟩;obtain ⟨p1,cp1,rfl,hv1'⟩:=hv1.out;have hB1':=hd9.trans (hB1.mono hd9.size);obtain ⟨e1,e2,_,_⟩:=Qaf HR1.o hB1';obtain ⟨f1,f2,_,_⟩:=Qaf HR2.o hB1';obtain ⟨g1,g2,g3,g4⟩:=Qaf HR3.o hB1') | (go_at_call 150; refine (Qcf _ p1 _ cp1 _).mono ?_;rintro e w2 ⟨rfl,hB2⟩;have hB2':=hB1'.trans (hB2.mono hB1'.size);obtain ⟨h1,h2,_,_⟩:=Qaf HR1.o hB2';obtain ⟨i1,i2,_,_⟩:=Qaf HR2.o hB2';obtain ⟨j1,j2,j3,j4⟩:=Qaf HR3.o hB2'))
   all_goals go_wp2
   all_goals (have hF:=((HB0.o.trans (hB2'.mono HB0.o.size)).setCell (p:=⟨w.heap.size+1+1,0,none⟩) (by show w.heap.size≤w.heap.size+1+1;omega) (.bool (decide (x<0) && decide (0<(natL (x.natAbs-y.natAbs)).length)))).setCell (p:=⟨w.heap.size+1+1,1,none⟩) (by show w.heap.size≤w.heap.size+1+1;omega) (.slice p1 (natL (x.natAbs-y.natAbs)).length cp1))
   all_goals (have hv2:=(hv1.below hB2 Lr).setNum2 (RowAt.below HR3.o hB2' (RowAt.lt HR3.o)) (fun _ _=>by simp) (fun _ _=>by simp) (decide (x<0) && decide (0<(natL (x.natAbs-y.natAbs)).length)) (.slice p1 (natL (x.natAbs-y.natAbs)).length cp1))
   all_goals refine bodyPost_ret (v:=.agg #[.bool (decide (x<0) && decide (0<(natL (x.natAbs-y.natAbs)).length)),.slice p1 (natL (x.natAbs-y.natAbs)).length cp1]) (by simp [results,Tryz.results168, go_sem,j1,j2]) rfl ⟨_,rfl,⟨p1,cp1,by rw [HS.o.1,HS.o.2],by rw [HS.o.2];exact hv2⟩,hF⟩
  ·have hcm:cmpN x.natAbs y.natAbs<0:=by unfold cmpN;(repeat' split) <;> omega
   have hs':(decide (y<0) == decide (x<0))=false:=by rw [←hs];exact Bool.beq_comm
   have HS:Shut _:=⟨Qky hs' (show x.natAbs≤y.natAbs by omega)⟩;generalize cmpN x.natAbs y.natAbs=cv at *
   go_upto_region 5 with (go_at_call 153; refine cc.mono ?_;rintro e w9 ⟨rfl,m,rfl⟩)
   have hB9:Below W0.heap.size W0 (W0.drewN m):=Qag (Below.refl _ _) m;have hQ:=Qnp (RowAt.drewN HR1.o m) (RowAt.drewN HR2.o m) (RowAt.drewN HR3.o m);have hQB:=((((HB0.o.trans (hB9.mono HB0.o.size)).setCell (p:=⟨w.heap.size,0,none⟩) Lr (.bool (decide (y<0)))).setCell (p:=⟨w.heap.size,1,none⟩) Lr (.slice q (natL y.natAbs).length cap')).setCell (p:=⟨w.heap.size+1,0,none⟩) (Nat.le_succ _) (.bool (decide (x<0)))).setCell (p:=⟨w.heap.size+1,1,none⟩) (Nat.le_succ _) (.slice p (natL x.natAbs).length cap);generalize ((((W0.drewN m).setCell ⟨w.heap.size,0,none⟩ (.bool (decide (y<0)))).setCell ⟨w.heap.size,1,none⟩ (.slice q (natL y.natAbs).length cap')).setCell ⟨w.heap.size+1,0,none⟩ (.bool (decide (x<0)))).setCell ⟨w.heap.size+1,1,none⟩ (.slice p (natL x.natAbs).length cap)=W1 at *
   have QR1:Shut _:=⟨hQ.1⟩;have QR2:Shut _:=⟨hQ.2.1⟩;have QR3:Shut _:=⟨hQ.2.2⟩;have QB0:Shut _:=⟨hQB⟩;clear hQ hQB a1 a2 a3 a4 b1 b2 b3 b4 d1 d2 d3 d4;obtain ⟨a1,a2,a3,a4⟩:=Qaf QR1.o (Below.refl _ W1);obtain ⟨b1,b2,b3,b4⟩:=Qaf QR2.o (Below.refl _ W1);obtain ⟨d1,d2,d3,d4⟩:=Qaf QR3.o (Below.refl _ W1);have hd9:Below W1.heap.size W1 W1.drew:=(Below.refl _ _).drew;have hw9:Below w.heap.size w W1.drew:=QB0.o.drew;have cm:=QdE y.natAbs x.natAbs (by omega) (.slice q (natL y.natAbs).length cap') (.slice p (natL x.natAbs).length cap) W1.drew (HN'.o.below hw9 Lr) (HN.o.below hw9 Lr) hl2
   go_region_held3 (fun w'=>w'.cell? ⟨w.heap.size,0,none⟩=some (.bool (decide (y<0)))∧w'.cell? ⟨w.heap.size,1,none⟩=some (.slice q (natL y.natAbs).length cap')∧w'.cell? ⟨w.heap.size+1,1,none⟩=some (.slice p (natL x.natAbs).length cap)) (go_keep) (first | (go_at_call 156; refine cm.mono ?_;rintro e w1 ⟨v1,rfl,hv1,hB1⟩;obtain ⟨p1,cp1,rfl,hv1'⟩:=hv1.out;have hB1':=hd9.trans (hB1.mono hd9.size);obtain ⟨e1,e2,_,_⟩:=Qaf QR1.o hB1';obtain ⟨f1,f2,_,_⟩:=Qaf QR2.o hB1';obtain ⟨g1,g2,g3,g4⟩:=Qaf QR3.o hB1') | (go_at_call 150; refine (Qcf _ p1 _ cp1 _).mono ?_;rintro e w2 ⟨rfl,hB2⟩;have hB2':=hB1'.trans (hB2.mono hB1'.size);obtain ⟨h1,h2,_,_⟩:=Qaf QR1.o hB2';obtain ⟨i1,i2,_,_⟩:=Qaf QR2.o hB2';obtain ⟨j1,j2,j3,j4⟩:=Qaf QR3.o hB2'))
   all_goals go_wp2
   all_goals (have hF:=((QB0.o.trans (hB2'.mono QB0.o.size)).setCell (p:=⟨w.heap.size+1+1,0,none⟩) (by show w.heap.size≤w.heap.size+1+1;omega) (.bool (decide (y<0) && decide (0<(natL (y.natAbs-x.natAbs)).length)))).setCell (p:=⟨w.heap.size+1+1,1,none⟩) (by show w.heap.size≤w.heap.size+1+1;omega) (.slice p1 (natL (y.natAbs-x.natAbs)).length cp1))
   all_goals (have hv2:=(hv1.below hB2 Lr).setNum2 (RowAt.below QR3.o hB2' (RowAt.lt QR3.o)) (fun _ _=>by simp) (fun _ _=>by simp) (decide (y<0) && decide (0<(natL (y.natAbs-x.natAbs)).length)) (.slice p1 (natL (y.natAbs-x.natAbs)).length cp1))
   all_goals refine bodyPost_ret (v:=.agg #[.bool (decide (y<0) && decide (0<(natL (y.natAbs-x.natAbs)).length)),.slice p1 (natL (y.natAbs-x.natAbs)).length cp1]) (by simp [results,Tryz.results168, go_sem,j1,j2]) rfl ⟨_,rfl,⟨p1,cp1,by rw [Int.add_comm,HS.o.1,HS.o.2],by rw [Int.add_comm,HS.o.2];exact hv2⟩,hF⟩
end
end Go.Proofs.YtihlgifojjeoaaaGreatDoor
