/-
  Contracts: the reference's choice of fractions.
-/
import Derived.Test.YtbfonkabmehlmaaGreatDoorY6A8
import Derived.Test.YtbfonkabmehlmaaGreatDoorY6B4
set_option maxRecDepth 1000000
set_option maxHeartbeats 40000000
open Go.Value renaming string→Z
open Go.Obj renaming cells→O
namespace Go.Proofs.YtbfonkabmehlmaaGreatDoor
section
namespace Rt
open Go.RowKit Go.Proofs.YtbfonkabmehlmaaGreatDoor.Nm
def updV (x:Nat→Value) (i:Nat) (v:Value):Nat→Value:=fun j=>if j=i then v else x j
structure Cs (k n:Nat) (W:World) (x:Nat→Value):Prop where
 cell:∀ i,i<n→W.cell? ⟨k,i,none⟩=some (x i)
 free:∀ i,i<n→W.frozen? ⟨k,i,none⟩=false
theorem Cs.keep {k n:Nat} {W W':World} {x:Nat→Value} (h:Cs k n W x) (hB:Below W.heap.size W W') (hn:0<n):Cs k n W' x:=by
 have hb:=hB.block k (World.block_lt_of_cell? W ⟨k,0,none⟩ (h.cell 0 hn))
 exact ⟨fun i hi=>(World.cell?_of_block hb).trans (h.cell i hi),fun i hi=>(World.frozen?_of_block hb).trans (h.free i hi)⟩
theorem Cs.set {k n:Nat} {W:World} {x:Nat→Value} (h:Cs k n W x) (i:Nat) (v:Value) (hi:i<n):Cs k n (W.setCell ⟨k,i,none⟩ v) (updV x i v):=by
 refine ⟨fun j hj => ?_,fun j hj=>by rw [World.frozen?_setCell];exact h.free j hj⟩
 by_cases he:j=i
 ·subst he
  rw [World.cell?_setCell_same W _ v (h.cell j hj),updV,if_pos rfl]
 ·rw [World.cell?_setCell_other W _ _ v (fun e=>he (by injection e with _ e;exact e.symm)),updV,if_neg he];exact h.cell j hj
theorem Cs.off {k n:Nat} {W:World} {x:Nat→Value} (h:Cs k n W x) (a:Addr) (v:Value) (ha:a.block≠k):Cs k n (W.setCell a v) x :=
 ⟨fun j hj=>by rw [World.cell?_setCell_other W _ _ v (fun e=>ha (by rw [e]))];exact h.cell j hj,fun j hj=>by rw [World.frozen?_setCell];exact h.free j hj⟩
theorem Cs.of {W:World} {k:Nat} {vs:Array Value} {T:TypeId} {n:Nat} {x:Nat→Value} (hg:W.heap[k]? = some (.cells vs T (0,0))) (h:∀ i,i<n→vs[i]? = some (x i)):Cs k n W x :=
 ⟨fun i hi=>by simp [World.cell?,hg,h i hi],fun i hi=>by simp [World.frozen?,hg]⟩
theorem Cs.new (w:World) (vs:Array Value) (T:TypeId) (n:Nat) (x:Nat→Value) (h:∀ i,i<n→vs[i]? = some (x i)):Cs w.heap.size n (w.alloc (.cells vs T)) x:=by
 exact Cs.of (World.alloc_heap_new w (.cells vs T)) h
theorem Cs.alloc {k n:Nat} {W:World} {x:Nat→Value} (h:Cs k n W x) (hn:0<n) (o:Obj):Cs k n (W.alloc o) x:=h.keep ((Below.refl W.heap.size W).alloc (Nat.le_refl _) o) hn
structure Fr (b:Nat) (W:World) (s t u v:ByteArray) (x y:Nat→Value):Prop where
 fa:Cs b 2 W (fun i=>if i=0 then Z s else Z t)
 fb:Cs (b+1) 2 W (fun i=>if i=0 then Z u else Z v)
 fp:Cs (b+1+1) 8 W (fun _=>Z ⟨#[]⟩)
 fq:Cs (b+1+1+1) 4 W (fun _ => .int .i64 0)
 fr:Cs (b+1+1+1+1) 8 W x
 fe:Cs (b+1+1+1+1+1) 4 W y
theorem Fr.keep {b:Nat} {W W':World} {s t u v:ByteArray} {x y:Nat→Value} (h:Fr b W s t u v x y) (hB:Below W.heap.size W W'):Fr b W' s t u v x y :=
 ⟨h.fa.keep hB (by decide),h.fb.keep hB (by decide),h.fp.keep hB (by decide),h.fq.keep hB (by decide),h.fr.keep hB (by decide),h.fe.keep hB (by decide)⟩
theorem Fr.new (w:World) (s t u v:ByteArray) (T1 T2 T3:TypeId):Fr w.heap.size ((((((w.alloc (O #[Z s,Z t] T1)).alloc (O #[Z u,Z v] T1)).alloc (O #[Z ⟨#[]⟩,Z ⟨#[]⟩,Z ⟨#[]⟩,Z ⟨#[]⟩,Z ⟨#[]⟩,Z ⟨#[]⟩,Z ⟨#[]⟩,Z ⟨#[]⟩] T2)).alloc (O #[.int .i64 0,.int .i64 0,.int .i64 0,.int .i64 0] T3)).alloc (O #[Z ⟨#[]⟩,Z ⟨#[]⟩,Z ⟨#[]⟩,Z ⟨#[]⟩,Z ⟨#[]⟩,Z ⟨#[]⟩,Z ⟨#[]⟩,Z ⟨#[]⟩] T2)).alloc (O #[.int .i64 0,.int .i64 0,.int .i64 0,.int .i64 0] T3)) s t u v (fun _=>Z ⟨#[]⟩) (fun _ => .int .i64 0):=by
 have h2:∀ (a b:ByteArray) (i:Nat),i<2→(#[Value.string a,Value.string b]:Array Value)[i]? = some (if i=0 then Z a else Z b):=fun a b i hi=>match i,hi with | 0,_=>rfl | 1,_=>rfl
 have h8:∀ i,i<8→(#[Z ⟨#[]⟩,Z ⟨#[]⟩,Z ⟨#[]⟩,Z ⟨#[]⟩,Z ⟨#[]⟩,Z ⟨#[]⟩,Z ⟨#[]⟩,Z ⟨#[]⟩]:Array Value)[i]? = some (Z ⟨#[]⟩):=fun i hi=>match i,hi with | 0,_=>rfl | 1,_=>rfl | 2,_=>rfl | 3,_=>rfl | 4,_=>rfl | 5,_=>rfl | 6,_=>rfl | 7,_=>rfl
 have h4:∀ i,i<4→(#[.int .i64 0,.int .i64 0,.int .i64 0,.int .i64 0]:Array Value)[i]? = some (.int .i64 0):=fun i hi=>match i,hi with | 0,_=>rfl | 1,_=>rfl | 2,_=>rfl | 3,_=>rfl
 have e:∀ (W:World) (o:Obj),(W.alloc o).heap.size=W.heap.size+1:=fun W o=>by simp
 refine ⟨?_, ?_, ?_, ?_, ?_, ?_⟩
 ·exact (((((Cs.new w _ _ 2 _ (h2 s t)).alloc (by decide) _).alloc (by decide) _).alloc (by decide) _).alloc (by decide) _).alloc (by decide) _
 ·have:=Cs.new (w.alloc (O #[Z s,Z t] T1)) _ T1 2 _ (h2 u v)
  rw [e] at this
  exact (((this.alloc (by decide) _).alloc (by decide) _).alloc (by decide) _).alloc (by decide) _
 ·have:=Cs.new ((w.alloc (O #[Z s,Z t] T1)).alloc (O #[Z u,Z v] T1)) _ T2 8 _ h8
  rw [e,e] at this
  exact ((this.alloc (by decide) _).alloc (by decide) _).alloc (by decide) _
 ·have:=Cs.new (((w.alloc (O #[Z s,Z t] T1)).alloc (O #[Z u,Z v] T1)).alloc (O #[Z ⟨#[]⟩,Z ⟨#[]⟩,Z ⟨#[]⟩,Z ⟨#[]⟩,Z ⟨#[]⟩,Z ⟨#[]⟩,Z ⟨#[]⟩,Z ⟨#[]⟩] T2)) _ T3 4 _ h4
  rw [e,e,e] at this
  exact (this.alloc (by decide) _).alloc (by decide) _
 ·have:=Cs.new ((((w.alloc (O #[Z s,Z t] T1)).alloc (O #[Z u,Z v] T1)).alloc (O #[Z ⟨#[]⟩,Z ⟨#[]⟩,Z ⟨#[]⟩,Z ⟨#[]⟩,Z ⟨#[]⟩,Z ⟨#[]⟩,Z ⟨#[]⟩,Z ⟨#[]⟩] T2)).alloc (O #[.int .i64 0,.int .i64 0,.int .i64 0,.int .i64 0] T3)) _ T2 8 _ h8
  rw [e,e,e,e] at this
  exact this.alloc (by decide) _
 ·have:=Cs.new (((((w.alloc (O #[Z s,Z t] T1)).alloc (O #[Z u,Z v] T1)).alloc (O #[Z ⟨#[]⟩,Z ⟨#[]⟩,Z ⟨#[]⟩,Z ⟨#[]⟩,Z ⟨#[]⟩,Z ⟨#[]⟩,Z ⟨#[]⟩,Z ⟨#[]⟩] T2)).alloc (O #[.int .i64 0,.int .i64 0,.int .i64 0,.int .i64 0] T3)).alloc (O #[Z ⟨#[]⟩,Z ⟨#[]⟩,Z ⟨#[]⟩,Z ⟨#[]⟩,Z ⟨#[]⟩,Z ⟨#[]⟩,Z ⟨#[]⟩,Z ⟨#[]⟩] T2)) _ T3 4 _ h4
  rw [e,e,e,e,e] at this
  exact this
end Rt
end
section
namespace Rt
open Go.RowKit Go.Proofs.YtbfonkabmehlmaaGreatDoor.Nm
open N10 (Two)
theorem lstep {w w':World} {o:Obj} (h:Below (w.alloc o).heap.size (w.alloc o) w'):Below w.heap.size w w'∧w'.heap[w.heap.size]? = some o :=
 ⟨((Below.refl w.heap.size w).alloc (Nat.le_refl _) o).trans (h.mono (by simp)),(h.block w.heap.size (by simp)).trans (World.alloc_heap_new w o)⟩
theorem lundrew {B:Nat} {w w':World} (h:Below B w.drew w'):Below B w w':=⟨h.os,h.tape,h.output,h.size,h.block⟩
theorem lkeep {w w':World} {b:Nat} {o:Obj} (h:w.heap[b]? = some o) (hB:Below w.heap.size w w'):w'.heap[b]? = some o:=(hB.block b (lt_of_block h)).trans h

theorem MakeR_up (s t n d g r1 r2:ByteArray) (w:World) (h0:(t.toList == [48])=false)
  (cV1:Two 48 #[Z s] (.bool true)) (cV2:Two 48 #[Z t] (.bool true))
  (cC:Two 49 #[Z t,Z ⟨#[48]⟩] (.int .i64 1))
  (cG:Two 50 #[Z s,Z t] (.tuple #[Z g,.int .i64 0]))
  (cD1:Two 98 #[Z s,Z g] (.tuple #[Z n,Z r1,.int .i64 0]))
  (cD2:Two 98 #[Z t,Z g] (.tuple #[Z d,Z r2,.int .i64 0])) :
  Calls Tryz.prog 44 #[Z s,Z t] w fun e w'=>e = .returned (.tuple #[.agg #[Z n,Z d],.int .i64 0])∧Below w.heap.size w w':=by
 go_enter Tryz.func44, Tryz.ntmps44
 go_wp2_with (first | (go_at_call 48; with_reducible refine (cV1.run _).mono ?_;rintro e w1 ⟨rfl,hB1⟩;have b1:=(lstep hB1).1;have n1:=(lstep hB1).2;clear hB1) | (go_at_call 48; with_reducible refine (cV2.run _).mono ?_;rintro e w2 ⟨rfl,hB2⟩;have b2:=b1.trans (hB2.mono b1.size);have n2:=lkeep n1 hB2;clear hB2) | (go_at_call 49; with_reducible refine (cC.run _).mono ?_;rintro e w3 ⟨rfl,hB3⟩;have b3:=b2.trans (hB3.mono b2.size);have n3:=lkeep n2 hB3;clear hB3) | (go_at_call 50; with_reducible refine (cG.run _).mono ?_;rintro e w4 ⟨rfl,hB4⟩;have b4:=b3.trans (hB4.mono b3.size);have n4:=lkeep n3 hB4;clear hB4) | (go_at_call 98; with_reducible refine (cD1.run _).mono ?_;rintro e w5 ⟨rfl,hB5⟩;have b5:=b4.trans (hB5.mono b4.size);have n5:=lkeep n4 hB5;clear hB5) | (go_at_call 98; with_reducible refine (cD2.run _).mono ?_;rintro e w6 ⟨rfl,hB6⟩;have b6:=b5.trans (hB6.mono b5.size);have n6:=lkeep n5 hB6;clear hB6;obtain ⟨c0,c1,z0,z1⟩:=cell_box n6))
 have k0:=cell_two w6 w.heap.size (Z n) (Z d) _ _ c0 c1
 refine bodyPost_ret (v:=.tuple #[.agg #[Z n,Z d],.int .i64 0]) (by simp [results,Tryz.results44, go_sem,k0.1,k0.2]) rfl ⟨rfl,(b6.setCell (by simp) _).setCell (by simp) _⟩
theorem MakeR_dn (s t s' t' n d g r1 r2:ByteArray) (w:World) (h0:(t.toList == [48])=false)
  (cV1:Two 48 #[Z s] (.bool true)) (cV2:Two 48 #[Z t] (.bool true))
  (cC:Two 49 #[Z t,Z ⟨#[48]⟩] (.int .i64 (-1)))
  (cS1:Two 46 #[Z ⟨#[48]⟩,Z s] (.tuple #[Z s',.int .i64 0]))
  (cS2:Two 46 #[Z ⟨#[48]⟩,Z t] (.tuple #[Z t',.int .i64 0]))
  (cG:Two 50 #[Z s',Z t'] (.tuple #[Z g,.int .i64 0]))
  (cD1:Two 98 #[Z s',Z g] (.tuple #[Z n,Z r1,.int .i64 0]))
  (cD2:Two 98 #[Z t',Z g] (.tuple #[Z d,Z r2,.int .i64 0])) :
  Calls Tryz.prog 44 #[Z s,Z t] w fun e w'=>e = .returned (.tuple #[.agg #[Z n,Z d],.int .i64 0])∧Below w.heap.size w w':=by
 go_enter Tryz.func44, Tryz.ntmps44
 go_wp2_with (first | (go_at_call 48; with_reducible refine (cV1.run _).mono ?_;rintro e w1 ⟨rfl,hB1⟩;have b1:=(lstep hB1).1;have n1:=(lstep hB1).2;clear hB1) | (go_at_call 48; with_reducible refine (cV2.run _).mono ?_;rintro e w2 ⟨rfl,hB2⟩;have b2:=b1.trans (hB2.mono b1.size);have n2:=lkeep n1 hB2;clear hB2) | (go_at_call 49; with_reducible refine (cC.run _).mono ?_;rintro e w3 ⟨rfl,hB3⟩;have b3:=b2.trans (hB3.mono b2.size);have n3:=lkeep n2 hB3;clear hB3) | (go_at_call 46; with_reducible refine (cS1.run _).mono ?_;rintro e x1 ⟨rfl,hB1⟩;have y1:=b3.trans (hB1.mono b3.size);have v1:=lkeep n3 hB1;clear hB1) | (go_at_call 46; with_reducible refine (cS2.run _).mono ?_;rintro e x2 ⟨rfl,hB2⟩;have y2:=y1.trans (hB2.mono y1.size);have v2:=lkeep v1 hB2;clear hB2) | (go_at_call 50; with_reducible refine (cG.run _).mono ?_;rintro e w4 ⟨rfl,hB4⟩;have b4:=y2.trans (hB4.mono y2.size);have n4:=lkeep v2 hB4;clear hB4) | (go_at_call 98; with_reducible refine (cD1.run _).mono ?_;rintro e w5 ⟨rfl,hB5⟩;have b5:=b4.trans (hB5.mono b4.size);have n5:=lkeep n4 hB5;clear hB5) | (go_at_call 98; with_reducible refine (cD2.run _).mono ?_;rintro e w6 ⟨rfl,hB6⟩;have b6:=b5.trans (hB6.mono b5.size);have n6:=lkeep n5 hB6;clear hB6;obtain ⟨c0,c1,z0,z1⟩:=cell_box n6))
 have k0:=cell_two w6 w.heap.size (Z n) (Z d) _ _ c0 c1
 refine bodyPost_ret (v:=.tuple #[.agg #[Z n,Z d],.int .i64 0]) (by simp [results,Tryz.results44, go_sem,k0.1,k0.2]) rfl ⟨rfl,(b6.setCell (by simp) _).setCell (by simp) _⟩
theorem MakeR_no (s t:ByteArray) (x y:Bool) (w:World) (h:(x && y && !(t.toList == [48]))=false)
  (cV1:Two 48 #[Z s] (.bool x)) (cV2:Two 48 #[Z t] (.bool y)) :
  Calls Tryz.prog 44 #[Z s,Z t] w fun e w'=>e = .returned (.tuple #[.agg #[Z ⟨#[]⟩,Z ⟨#[]⟩],.int .i64 40])∧Below w.heap.size w w':=by
 rcases (show x=false∨(x=true∧y=false)∨(x=true∧y=true∧(t.toList == [48])=true) by revert h;cases x <;> cases y <;> cases (t.toList == [48]) <;> simp) with rfl | ⟨rfl,rfl⟩ | ⟨rfl,rfl,h0⟩
 all_goals
  clear h
  go_enter Tryz.func44, Tryz.ntmps44
  go_wp2_with (first | (go_at_call 48; with_reducible refine (cV1.run _).mono ?_;rintro e w1 ⟨rfl,hB1⟩;have b1:=(lstep hB1).1;have n1:=(lstep hB1).2;clear hB1) | (go_at_call 48; with_reducible refine (cV2.run _).mono ?_;rintro e w2 ⟨rfl,hB2⟩;have b2:=b1.trans (hB2.mono b1.size);have n2:=lkeep n1 hB2;clear hB2;obtain ⟨c0,c1,z0,z1⟩:=cell_box n2))
  have k0:=cell_two w2 w.heap.size (Z ⟨#[]⟩) (Z ⟨#[]⟩) _ _ c0 c1
  refine bodyPost_ret (v:=.tuple #[.agg #[Z ⟨#[]⟩,Z ⟨#[]⟩],.int .i64 40]) (by simp [results,Tryz.results44, go_sem,k0.1,k0.2]) rfl ⟨rfl,(b2.setCell (by simp) _).setCell (by simp) _⟩
theorem two_V (s:ByteArray) (hs:s.size≤1000000):Two 48 #[Z s] (.bool (validB s)):=fun W=>(N10.Valid_ref s hs W).mono fun _ _ h=>⟨h.1,N10.drawn_below h.2⟩
theorem two_Vt {x:Int} (hx:Fits x):Two 48 #[Z (txt x)] (.bool true):=by
 have:=two_V (txt x) (txt_size6 hx)
 rwa [valid_txt x hx] at this
theorem two_C {x y:Int} (hx:Fits x) (hy:Fits y):Two 49 #[Z (txt x),Z (txt y)] (.int .i64 (cmpZ x y)):=fun W=>N10.Compare_ref x y hx hy W
theorem two_S {x y:Int} (hx:Fits x) (hy:Fits y) (h:Fits (x-y)):Two 46 #[Z (txt x),Z (txt y)] (.tuple #[Z (txt (x-y)),.int .i64 0]):=fun W=>by
 have:=N10.Sub_ref x y hx hy W
 rwa [calcR_fit h] at this
theorem two_G {x y:Int} (hx:Fits x) (hy:Fits y):Two 50 #[Z (txt x),Z (txt y)] (.tuple #[Z (txt (Nat.gcd x.natAbs y.natAbs:Nat)),.int .i64 0]):=fun W=>N10.Gcd_ref x y hx hy W
theorem two_D {x y:Int} (hx:Fits x) (hy:Fits y) (h0:y≠0):Two 98 #[Z (txt x),Z (txt y)] (.tuple #[Z (txt (x / y)),Z (txt (x % y)),.int .i64 0]):=fun W=>N10.Div_ref x y hx hy h0 W
theorem MakeR_all (s t:ByteArray) (hs:s.size≤1000000) (ht:t.size≤1000000) (w:World) :
  Calls Tryz.prog 44 #[Z s,Z t] w fun e w'=>e = .returned (bR (redR s t))∧Below w.heap.size w w':=by
 rcases N10.both s t with ⟨x,y,rfl,rfl,hx,hy⟩ | h
 ·by_cases h0:y=0
  ·rw [red_q0 hy h0]
   exact MakeR_no _ _ true true w (by rw [txt_eq0,h0];rfl) (two_Vt hx) (two_Vt hy)
  ·rw [red_q hx hy h0]
   have hne:((txt y).toList == [48])=false:=by rw [txt_eq0];simpa using h0
   have hg0:Nat.gcd x.natAbs y.natAbs≠0:=Nat.pos_iff_ne_zero.1 (Nat.gcd_pos_of_pos_right _ (by omega))
   have e0:y.gcd x=Nat.gcd x.natAbs y.natAbs:=by rw [Int.gcd,Nat.gcd_comm]
   have hgf:=fits_gcdO (x:=x) hy h0
   have cC:=two_C hy fits0
   rw [txt_0] at cC
   show Calls _ _ _ _ fun e w'=>e = .returned (.tuple #[.agg #[Z (txt (Rat.divInt x y).num),Z (txt ((Rat.divInt x y).den:Int))],.int .i64 0])∧_
   obtain ⟨d1,d2⟩:=gcd_dvdI x y
   rw [Rat.num_divInt,Rat.den_divInt,if_neg h0,e0]
   rcases Int.lt_trichotomy y 0 with hy0 | hy0 | hy0
   ·have cC':Two 49 #[Z (txt y),Z ⟨#[48]⟩] (.int .i64 (-1)):=by rwa [cmpZ,if_pos hy0] at cC
    have fx:=fits_neg hx
    have fy:=fits_neg hy
    have s1:=two_S fits0 hx (by rw [Int.zero_sub];exact fx)
    have s2:=two_S fits0 hy (by rw [Int.zero_sub];exact fy)
    rw [Int.zero_sub,txt_0] at s1 s2
    have hG:=two_G fx fy
    rw [Int.natAbs_neg,Int.natAbs_neg] at hG
    generalize Nat.gcd x.natAbs y.natAbs=g at *
    have hgi:(g:Int)≠0:=by omega
    have r:=MakeR_dn _ _ _ _ _ _ _ _ _ w hne (two_Vt hx) (two_Vt hy) cC' s1 s2 hG (two_D fx hgf hgi) (two_D fy hgf hgi)
    rw [Int.sign_eq_neg_one_of_neg hy0]
    have e1:(-1:Int)*x / (g:Int) = -x / (g:Int):=by rw [Int.neg_one_mul]
    have e2:((y.natAbs / g:Nat):Int) = -y / (g:Int):=by rw [Int.natCast_ediv,show ((y.natAbs:Nat):Int) = -y by omega]
    rw [e1,e2];exact r
   ·exact absurd hy0 h0
   ·have cC':Two 49 #[Z (txt y),Z ⟨#[48]⟩] (.int .i64 1):=by rwa [cmpZ,if_neg (by omega),if_neg (by omega)] at cC
    have hG:=two_G hx hy
    generalize Nat.gcd x.natAbs y.natAbs=g at *
    have hgi:(g:Int)≠0:=by omega
    have r:=MakeR_up _ _ _ _ _ _ _ w hne (two_Vt hx) (two_Vt hy) cC' hG (two_D hx hgf hgi) (two_D hy hgf hgi)
    rw [Int.sign_eq_one_of_pos hy0,Int.one_mul]
    have e2:((y.natAbs / g:Nat):Int)=y / (g:Int):=by rw [Int.natCast_ediv,show ((y.natAbs:Nat):Int)=y by omega]
    rw [e2];exact r
 ·have hn:redR s t=none:=by
   rw [redR,opGcd,op2_bad (N10.nb h)];rfl
  rw [hn]
  exact MakeR_no _ _ _ _ w (by rcases h with h | h <;> rw [h] <;> simp) (two_V s hs) (two_V t ht)
end Rt
end
section
namespace Rt
open Go.RowKit Go.Proofs.YtbfonkabmehlmaaGreatDoor.Nm

theorem pickR_any (c n:Int) (h1 : -9223372036854775808≤c) (h2:c≤9223372036854775807) (n1:1≤n) (n2:n≤9223372036854775807) (w:World) :
  Calls Tryz.prog 43 #[.int .i64 c,.int .i64 n] w fun e w'=>∃ k:Nat,(k:Int)<n∧e = .returned (.int .i64 (k:Int))∧w'=w:=by
 have hw:∀ x:Int, -9223372036854775808≤x→x≤9223372036854775807→IntKind.i64.wrap x=x:=fun x a b=>by simp [IntKind.wrap,IntKind.signed,IntKind.bits];omega
 have hn0:¬ n=0:=by omega
 by_cases hc:c<0
 ·have e1:=hw (c+1) (by omega) (by omega)
  have e2:=hw (-(c+1)) (by omega) (by omega)
  obtain ⟨k,hk⟩:∃ k:Nat, -(c+1)=(k:Int):=⟨(-(c+1)).toNat,by omega⟩
  obtain ⟨m,rfl⟩:=Int.eq_ofNat_of_zero_le (show 0≤n by omega)
  have hm:k % m<m:=Nat.mod_lt _ (by omega)
  go_enter Tryz.func43, Tryz.ntmps43
  go_wp2
  go_ret
  exact ⟨k % m,by omega,by congr 2,rfl⟩
 ·obtain ⟨k,rfl⟩:=Int.eq_ofNat_of_zero_le (show 0≤c by omega)
  obtain ⟨m,rfl⟩:=Int.eq_ofNat_of_zero_le (show 0≤n by omega)
  have hm:k % m<m:=Nat.mod_lt _ (by omega)
  go_enter Tryz.func43, Tryz.ntmps43
  go_wp2
  go_ret
  exact ⟨k % m,by omega,by congr 2,rfl⟩
structure Dg (s:ByteArray):Prop where
 dig:∀ y∈bl s,48≤y∧y<58
theorem Dg.nil:Dg ⟨#[]⟩:=⟨fun y hy=>by simp [bl] at hy⟩
theorem Dg.snoc {s:ByteArray} {d:Nat} (h:Dg s) (hd:d<10):Dg (s++ba [48+d])∧(s++ba [48+d]).size=s.size+1:=by
 refine ⟨⟨fun y hy => ?_⟩,by rw [ByteArray.size_append,ba_size];rfl⟩
 rw [bl_append,bl_ba _ (by simp;omega)] at hy
 rcases List.mem_append.1 hy with h1 | h1
 ·exact h.dig y h1
 ·simp at h1;omega
theorem bl_extract (s:ByteArray) (i:Nat):bl (s.extract i s.size)=(bl s).drop i:=by
 simp [bl]
 exact List.take_of_length_le (l:=(bl s).drop i) (by rw [List.length_drop,bl_len];exact Nat.le_refl _)
theorem Dg.tail {s:ByteArray} (h:Dg s):Dg (s.extract 1 s.size)∧(s.extract 1 s.size).size=s.size-1:=by
 refine ⟨⟨fun y hy => ?_⟩,by simp⟩
 rw [bl_extract] at hy
 exact h.dig y (List.mem_of_mem_drop hy)
theorem Dg.ends {s:ByteArray} (h:Dg s) (h1:1≤s.size) (h2:s.size=1∨s[0].toNat≠48):∃ z:Nat,s=txt (z:Int)∧z<10^s.size:=by
 refine ⟨dvl (bl s), ?_,by have:=dvl_lt (bl s) h.dig;rwa [bl_len] at this⟩
 have hg:=bl_get s 0 h1
 by_cases hz:s[0].toNat=48
 ·have hs:s.size=1:=h2.resolve_right (fun hc=>hc hz)
  have hl:bl s = [48]:=by
   have hlen:(bl s).length=1:=by rw [bl_len,hs]
   match hb:bl s,hlen with
   | [a],_ =>
    rw [hb,hz] at hg
    simp at hg
    rw [hg]
  apply bl_inj
  rw [hl,txt_bl]
  simp [dvl]
 ·have he:=decN_eq (bl s) h.dig (.inr (by rw [hg];exact hz))
  apply bl_inj
  rw [txt_bl]
  by_cases h0:dvl (bl s)=0
  ·rw [h0,decN_zero] at he
   have:s.size=0:=by rw [←bl_len,he];rfl
   omega
  ·rw [if_neg (by omega),if_neg (by omega),Int.natAbs_natCast]
   exact he
theorem txt_minus {z:Nat} (h:z≠0):⟨#[45]⟩++txt (z:Int)=txt (-(z:Int)):=by
 apply bl_inj
 rw [bl_append,txt_bl,txt_bl,if_neg (by omega),if_neg (by omega),if_neg (by omega),if_pos (by omega),Int.natAbs_neg]
 rfl
theorem small_fits {z:Nat} (h:z<10^100):Fits (z:Int):=fits_small (by rw [Int.natAbs_natCast];exact Nat.lt_trans h (by decide))
structure LongQ (q:Rat):Prop where
 num:q.num.natAbs<10^100
 den:q.den<10^100
theorem LongQ.fit {q:Rat} (h:LongQ q):FitQ q:=⟨fits_small (Nat.lt_trans h.num (by decide)),fits_small (by rw [Int.natAbs_natCast];exact Nat.lt_trans h.den (by decide))⟩
theorem longQ_div {a:Int} {b:Nat} (ha:a.natAbs<10^100) (hb:b<10^100) (h0:b≠0):LongQ (Rat.divInt a b):=by
 have hb0:(b:Int)≠0:=by omega
 rw [show LongQ (Rat.divInt a b)↔((Rat.divInt a b).num.natAbs<10^100∧(Rat.divInt a b).den<10^100) from ⟨fun h=>⟨h.1,h.2⟩,fun h=>⟨h.1,h.2⟩⟩,Rat.num_divInt,Rat.den_divInt,if_neg hb0]
 refine ⟨Nat.lt_of_le_of_lt (Int.natAbs_ediv_le_natAbs _ _) ?_,Nat.lt_of_le_of_lt (Nat.div_le_self _ _) ?_⟩
 ·rw [Int.natAbs_mul,Int.sign_eq_one_of_pos (by omega)];simpa using ha
 ·simpa using hb
end Rt
end
section
namespace Rt
open Go.RowKit Go.Proofs.YtbfonkabmehlmaaGreatDoor.Nm
structure LgM (b:Nat) (w V:World) (x0 x1 x2 x3:Int) (o:Nat→Value):Prop where
 x:V.heap[b]? = some (O #[.int .i64 x0,.int .i64 x1,.int .i64 x2,.int .i64 x3] 26 (0,0))
 r:V.heap[b+1]? = some (O #[Z ⟨#[]⟩,Z ⟨#[]⟩] 23 (0,0))
 o:Cs (b+1+1) 2 V o
 e:b=w.heap.size
 u:Below w.heap.size w V
theorem LgM.keep {b:Nat} {w V V':World} {x0 x1 x2 x3:Int} {o:Nat→Value} (h:LgM b w V x0 x1 x2 x3 o) (hB:Below V.heap.size V V'):LgM b w V' x0 x1 x2 x3 o :=
 ⟨lkeep h.x hB,lkeep h.r hB,h.o.keep hB (by decide),h.e,h.u.trans (hB.mono h.u.size)⟩
theorem LgM.set {b:Nat} {w V:World} {x0 x1 x2 x3:Int} {o:Nat→Value} (h:LgM b w V x0 x1 x2 x3 o) (i:Nat) (v:Value) (hi:i<2):LgM b w (V.setCell ⟨b+1+1,i,none⟩ v) x0 x1 x2 x3 (updV o i v) :=
 ⟨(Below.heap_setCell _ _ _ _ (by show b≠b+1+1;omega)).trans h.x,(Below.heap_setCell _ _ _ _ (by show b+1≠b+1+1;omega)).trans h.r,h.o.set i v hi,h.e,h.u.setCell (by show _≤b+1+1;have:=h.e;omega) _⟩
theorem lcell {W:World} {b:Nat} {cs:Array Value} {T:TypeId} (h:W.heap[b]? = some (.cells cs T (0,0))) (i:Nat) {v:Value} (hv:cs[i]? = some v):W.cell? ⟨b,i,none⟩=some v:=by simp [World.cell?,h,hv]
theorem lfree {W:World} {b:Nat} {cs:Array Value} {T:TypeId} (h:W.heap[b]? = some (.cells cs T (0,0))) (i:Nat):W.frozen? ⟨b,i,none⟩=false:=by simp [World.frozen?,h]
theorem up_one {o:Nat→Value} {s:ByteArray} {z:Nat} (h:s=txt (z:Int)) (hz:z<10^100):∀ i,i<1→∃ z:Nat,updV o 0 (Z s) i=Z (txt (z:Int))∧z<10^100:=fun i hi =>
 ⟨z,by rw [updV,if_pos (by omega),h],hz⟩
theorem up_two {o:Nat→Value} {s:ByteArray} {z:Nat} (h0:∀ i,i<1→∃ z:Nat,o i=Z (txt (z:Int))∧z<10^100) (h:s=txt (z:Int)) (hz:z<10^100):∀ i,i<2→∃ z:Nat,updV o 1 (Z s) i=Z (txt (z:Int))∧z<10^100:=fun i hi=>by
 by_cases hi1:i=1
 ·exact ⟨z,by rw [updV,if_pos hi1,h],hz⟩
 ·rw [updV,if_neg hi1];exact h0 i (by omega)
theorem cell_past (w:World) (b:Nat) (u v x y:Value) (h0:w.cell? ⟨b,0,none⟩=some x) (h1:w.cell? ⟨b,1,none⟩=some y) (o:Obj) :
  (((w.setCell ⟨b,0,none⟩ u).setCell ⟨b,1,none⟩ v).alloc o).cell? ⟨b,0,none⟩=some u∧(((w.setCell ⟨b,0,none⟩ u).setCell ⟨b,1,none⟩ v).alloc o).cell? ⟨b,1,none⟩=some v:=by
 have k:=cell_two w b u v x y h0 h1
 have hB:=(Below.refl ((w.setCell ⟨b,0,none⟩ u).setCell ⟨b,1,none⟩ v).heap.size ((w.setCell ⟨b,0,none⟩ u).setCell ⟨b,1,none⟩ v)).alloc (Nat.le_refl _) o
 have hl:b<((w.setCell ⟨b,0,none⟩ u).setCell ⟨b,1,none⟩ v).heap.size:=World.block_lt_of_cell? _ ⟨b,0,none⟩ k.1
 exact ⟨(hB.cell (p:=⟨b,0,none⟩) hl).trans k.1,(hB.cell (p:=⟨b,1,none⟩) hl).trans k.2⟩
theorem i64_ok {z:Int} (h : -9000000000000000000≤z) (h2:z≤9000000000000000000):IntKind.i64.wrap z=z:=by simp [IntKind.wrap,IntKind.signed,IntKind.bits];omega
theorem lcg (c:Nat):((c:Int)*48271+11) % 2147483647=(((c*48271+11) % 2147483647:Nat):Int):=by omega
theorem Long_any (x0 x1 x2 x3:Int) (h0 : -9223372036854775808≤x0∧x0≤9223372036854775807) (h1 : -9223372036854775808≤x1∧x1≤9223372036854775807) (h2 : -9223372036854775808≤x2∧x2≤9223372036854775807) (h3 : -9223372036854775808≤x3∧x3≤9223372036854775807) (w:World) :
  Calls Tryz.prog 10 #[.agg #[.int .i64 x0,.int .i64 x1,.int .i64 x2,.int .i64 x3]] w fun e w'=>∃ q:Rat,LongQ q∧e = .returned (rq q)∧Below w.heap.size w w':=by
 have P0:Shut _:=⟨fun W=>pickR_any x0 1000000007 h0.1 h0.2 (by decide) (by decide) W⟩
 have P1:Shut _:=⟨fun W=>pickR_any x1 100 h1.1 h1.2 (by decide) (by decide) W⟩
 have P2:Shut _:=⟨fun W=>pickR_any x2 1000000007 h2.1 h2.2 (by decide) (by decide) W⟩
 have P3:Shut _:=⟨fun W=>pickR_any x3 100 h3.1 h3.2 (by decide) (by decide) W⟩
 have P4:Shut _:=⟨fun W=>pickR_any x0 2 h0.1 h0.2 (by decide) (by decide) W⟩
 clear h0 h1 h2 h3
 go_enter Tryz.func10, Tryz.ntmps10
 go_wp2_with fail
 have hM:LgM w.heap.size w (((w.alloc (O #[.int .i64 x0,.int .i64 x1,.int .i64 x2,.int .i64 x3] 26)).alloc (O #[Z ⟨#[]⟩,Z ⟨#[]⟩] 23)).alloc (O #[Z ⟨#[]⟩,Z ⟨#[]⟩] 64)) x0 x1 x2 x3 (fun _=>Z ⟨#[]⟩):=by
  have q1:=(Below.refl w.heap.size w).alloc (Nat.le_refl _) (O #[.int .i64 x0,.int .i64 x1,.int .i64 x2,.int .i64 x3] 26)
  have q2:=q1.alloc (by simp) (O #[Z ⟨#[]⟩,Z ⟨#[]⟩] 23)
  have q3:=q2.alloc (by simp;omega) (O #[Z ⟨#[]⟩,Z ⟨#[]⟩] 64)
  exact ⟨(Below.heap_alloc _ _ _ (by simp;omega)).trans ((Below.heap_alloc _ _ _ (by simp)).trans (World.alloc_heap_new _ _)),(Below.heap_alloc _ _ _ (by simp)).trans (res_two _ _ _),Cs.of (res_three w _ _ _) (fun i hi=>match i,hi with | 0,_=>rfl | 1,_=>rfl),rfl,q3⟩
 generalize (((w.alloc (O #[.int .i64 x0,.int .i64 x1,.int .i64 x2,.int .i64 x3] 26)).alloc (O #[Z ⟨#[]⟩,Z ⟨#[]⟩] 23)).alloc (O #[Z ⟨#[]⟩,Z ⟨#[]⟩] 64))=V0 at *
 obtain ⟨b,hb⟩:∃ b,b=w.heap.size:=⟨_,rfl⟩
 rw [←hb] at hM
 rw [←hb]
 clear hb
 have HM:Shut _:=⟨hM⟩
 clear hM
 go_loopw [4] (fun iv wr=>∃ k:Nat,k≤2∧iv = .int .i64 (k:Int)∧∃ o:Nat→Value,Shut (LgM b w wr x0 x1 x2 x3 o)∧Shut (∀ i,i<k→∃ z:Nat,o i=Z (txt (z:Int))∧z<10^100)) (fun iv _=>2-(intOf iv).toNat)
 case atStart=>exact ⟨0,by omega,rfl,_,HM,⟨fun i hi=>by omega⟩⟩
 case round =>
  obtain ⟨k,hk,rfl,o,hM,hO⟩:=hrel
  clear HM
  rcases (show k=0∨k=1∨k=2 by omega) with rfl | rfl | rfl
  ·have c1:=lcell hM.o.x 1 (v:=.int .i64 x1) rfl
   go_wp2_with fail
   refine (P1.o _).mono ?_
   rintro e w1 ⟨i,hi,rfl,rfl⟩
   clear c1
   have c1:=lcell hM.o.x 0 (v:=.int .i64 x0) rfl
   go_wp2_with fail
   refine (P0.o _).mono ?_
   rintro e w2 ⟨c0,hc0,rfl,rfl⟩
   rename World=>v0
   clear c1
   go_wp2_with fail
   go_loopw [6,7] (fun sv cv wr=>∃ (s:ByteArray) (c:Nat),sv=Z s∧cv = .int .i64 (c:Int)∧Shut (Dg s)∧(s.size:Int)≤1+(i:Int)∧(c:Int)<2147483647∧Shut (LgM b w wr x0 x1 x2 x3 o)) (fun sv _ _=>1+i-(match sv with | Z s=>s.size | _=>0))
   case atStart=>exact ⟨_,c0,rfl,rfl,⟨Dg.nil⟩,by show ((0:Nat):Int)≤_;omega,by omega,hM⟩
   case round =>
    clear hM hc0
    obtain ⟨s,c,rfl,rfl,hD,hs,hc,hM⟩:=hrel
    by_cases hlt:(s.size:Int)<1+(i:Int)
    ·obtain ⟨c',hc'⟩:∃ c',c'=(c*48271+11) % 2147483647:=⟨_,rfl⟩
     obtain ⟨d,hd⟩:∃ d,d=c' / 65536 % 10:=⟨_,rfl⟩
     have hd10:d<10:=by omega
     have hcl:(c':Int)<2147483647:=by omega
     have hcv:=back_string (wr.alloc (O #[.int .u8 (48+(d:Int))] 5)) wr.heap.size 0 1 [48+d] (by simp;omega) (fun i hi=>by have hi0:i=0:=(by simpa using hi);subst hi0;exact cell_one_new _ _ _ 0 _ rfl)
     rw [List.length_singleton] at hcv
     have HCV:Shut _:=⟨hcv⟩
     have HC:Shut (((c:Int)*48271+11) % 2147483647=(c':Int)):=⟨by rw [hc'];exact lcg c⟩
     have HER:Shut (48+((c:Int)*48271+11) % 2147483647 / 65536 % 10=48+(d:Int)):=⟨by rw [HC.o,hd];omega⟩
     have hsn:=hD.o.snoc hd10
     have HSZ:Shut _:=⟨hsn.2⟩
     have h1s:(ba [48+d]).size=1:=ba_size _
     have HSn:Shut _:=⟨hsn.1⟩
     have HM2:Shut _:=⟨hM.o.keep ((Below.refl wr.heap.size wr).alloc (Nat.le_refl _) (O #[.int .u8 (48+(d:Int))] 5))⟩
     clear hcv hd hc' hsn hd10 hM hD
     generalize ba [48+d]=bd at *
     go_wp2_with fail
     rw [HER.o,HCV.o]
     go_wp2_with fail
     go_roundw
     case rel=>exact ⟨_,c',rfl,by rw [HC.o],HSn,by rw [HSZ.o];omega,hcl,HM2⟩
     case measure=>have:=HSZ.o;simp;omega
    ·have b1:1≤s.size:=by omega
     have b2:s.size≤100:=by omega
     clear hs hc
     rename World=>wo
     have cc0:=hM.o.o.cell 0 (by decide)
     have ff0:=hM.o.o.free 0 (by decide)
     go_wp2_with fail
     go_loopw [6] (fun sv wr2=>∃ s:ByteArray,sv=Z s∧Shut (Dg s)∧1≤s.size∧s.size≤100∧wr2=wo) (fun sv _=>match sv with | Z s=>s.size | _=>0)
     case atStart=>exact ⟨s,rfl,hD,b1,b2,rfl⟩
     case round =>
      clear hD b1 b2 hlt
      obtain ⟨s,rfl,hD,b1,b2,rfl⟩:=hrel
      by_cases hgo:1<s.size
      ·by_cases h48:(s[0]'(by omega)).toNat=48
       ·have hi1:(1:Int)≤(s.size:Int):=by omega
        have hT:=hD.o.tail
        have HT:Shut _:=⟨hT.1⟩
        have HZ:Shut _:=⟨hT.2⟩
        obtain ⟨t1,ht1⟩:∃ t1,s.extract 1 s.size=t1:=⟨_,rfl⟩
        rw [ht1] at HT HZ
        clear hT
        go_wp2_with fail
        go_roundw
        case rel=>exact ⟨_,rfl,HT,by rw [HZ.o];omega,by rw [HZ.o];omega,trivial⟩
        case measure=>have:=HZ.o;simp;omega
       ·have h48b:((((s[0]'(by omega)).toNat:Nat):Int) == 48)=false:=by rw [beq_eq_false_iff_ne];omega
        have hE:=hD.o.ends b1 (.inr h48)
        clear h48
        go_wp2_with fail
        go_roundw
        case rel =>
         obtain ⟨z,hz1,hz2⟩:=hE
         exact ⟨1,by omega,rfl,_,⟨hM.o.set 0 (Z s) (by decide)⟩,⟨fun i hi=>up_one hz1 (Nat.lt_of_lt_of_le hz2 (Nat.pow_le_pow_right (by decide) b2)) i hi⟩⟩
        case measure=>simp [intOf]
      ·have h1s:s.size=1:=by omega
       have hE:=hD.o.ends b1 (.inl h1s)
       clear h1s
       go_wp2_with fail
       go_roundw
       case rel =>
        obtain ⟨z,hz1,hz2⟩:=hE
        exact ⟨1,by omega,rfl,_,⟨hM.o.set 0 (Z s) (by decide)⟩,⟨fun i hi=>up_one hz1 (Nat.lt_of_lt_of_le hz2 (Nat.pow_le_pow_right (by decide) b2)) i hi⟩⟩
       case measure=>simp [intOf]
  ·have c1:=lcell hM.o.x 3 (v:=.int .i64 x3) rfl
   go_wp2_with fail
   refine (P3.o _).mono ?_
   rintro e w1 ⟨i,hi,rfl,rfl⟩
   clear c1
   have c1:=lcell hM.o.x 2 (v:=.int .i64 x2) rfl
   go_wp2_with fail
   refine (P2.o _).mono ?_
   rintro e w2 ⟨c0,hc0,rfl,rfl⟩
   rename World=>v0
   clear c1
   go_wp2_with fail
   go_loopw [6,7] (fun sv cv wr=>∃ (s:ByteArray) (c:Nat),sv=Z s∧cv = .int .i64 (c:Int)∧Shut (Dg s)∧(s.size:Int)≤1+(i:Int)∧(c:Int)<2147483647∧Shut (LgM b w wr x0 x1 x2 x3 o)) (fun sv _ _=>1+i-(match sv with | Z s=>s.size | _=>0))
   case atStart=>exact ⟨_,c0,rfl,rfl,⟨Dg.nil⟩,by show ((0:Nat):Int)≤_;omega,by omega,hM⟩
   case round =>
    clear hM hc0
    obtain ⟨s,c,rfl,rfl,hD,hs,hc,hM⟩:=hrel
    by_cases hlt:(s.size:Int)<1+(i:Int)
    ·obtain ⟨c',hc'⟩:∃ c',c'=(c*48271+11) % 2147483647:=⟨_,rfl⟩
     obtain ⟨d,hd⟩:∃ d,d=c' / 65536 % 10:=⟨_,rfl⟩
     have hd10:d<10:=by omega
     have hcl:(c':Int)<2147483647:=by omega
     have hcv:=back_string (wr.alloc (O #[.int .u8 (48+(d:Int))] 5)) wr.heap.size 0 1 [48+d] (by simp;omega) (fun i hi=>by have hi0:i=0:=(by simpa using hi);subst hi0;exact cell_one_new _ _ _ 0 _ rfl)
     rw [List.length_singleton] at hcv
     have HCV:Shut _:=⟨hcv⟩
     have HC:Shut (((c:Int)*48271+11) % 2147483647=(c':Int)):=⟨by rw [hc'];exact lcg c⟩
     have HER:Shut (48+((c:Int)*48271+11) % 2147483647 / 65536 % 10=48+(d:Int)):=⟨by rw [HC.o,hd];omega⟩
     have hsn:=hD.o.snoc hd10
     have HSZ:Shut _:=⟨hsn.2⟩
     have h1s:(ba [48+d]).size=1:=ba_size _
     have HSn:Shut _:=⟨hsn.1⟩
     have HM2:Shut _:=⟨hM.o.keep ((Below.refl wr.heap.size wr).alloc (Nat.le_refl _) (O #[.int .u8 (48+(d:Int))] 5))⟩
     clear hcv hd hc' hsn hd10 hM hD
     generalize ba [48+d]=bd at *
     go_wp2_with fail
     rw [HER.o,HCV.o]
     go_wp2_with fail
     go_roundw
     case rel=>exact ⟨_,c',rfl,by rw [HC.o],HSn,by rw [HSZ.o];omega,hcl,HM2⟩
     case measure=>have:=HSZ.o;simp;omega
    ·have b1:1≤s.size:=by omega
     have b2:s.size≤100:=by omega
     clear hs hc
     rename World=>wo
     have cc0:=hM.o.o.cell 1 (by decide)
     have ff0:=hM.o.o.free 1 (by decide)
     go_wp2_with fail
     go_loopw [6] (fun sv wr2=>∃ s:ByteArray,sv=Z s∧Shut (Dg s)∧1≤s.size∧s.size≤100∧wr2=wo) (fun sv _=>match sv with | Z s=>s.size | _=>0)
     case atStart=>exact ⟨s,rfl,hD,b1,b2,rfl⟩
     case round =>
      clear hD b1 b2 hlt
      obtain ⟨s,rfl,hD,b1,b2,rfl⟩:=hrel
      by_cases hgo:1<s.size
      ·by_cases h48:(s[0]'(by omega)).toNat=48
       ·have hi1:(1:Int)≤(s.size:Int):=by omega
        have hT:=hD.o.tail
        have HT:Shut _:=⟨hT.1⟩
        have HZ:Shut _:=⟨hT.2⟩
        obtain ⟨t1,ht1⟩:∃ t1,s.extract 1 s.size=t1:=⟨_,rfl⟩
        rw [ht1] at HT HZ
        clear hT
        go_wp2_with fail
        go_roundw
        case rel=>exact ⟨_,rfl,HT,by rw [HZ.o];omega,by rw [HZ.o];omega,trivial⟩
        case measure=>have:=HZ.o;simp;omega
       ·have h48b:((((s[0]'(by omega)).toNat:Nat):Int) == 48)=false:=by rw [beq_eq_false_iff_ne];omega
        have hE:=hD.o.ends b1 (.inr h48)
        clear h48
        go_wp2_with fail
        go_roundw
        case rel =>
         obtain ⟨z,hz1,hz2⟩:=hE
         exact ⟨2,by omega,rfl,_,⟨hM.o.set 1 (Z s) (by decide)⟩,⟨fun i hi=>up_two hO.o hz1 (Nat.lt_of_lt_of_le hz2 (Nat.pow_le_pow_right (by decide) b2)) i hi⟩⟩
        case measure=>simp [intOf]
      ·have h1s:s.size=1:=by omega
       have hE:=hD.o.ends b1 (.inl h1s)
       clear h1s
       go_wp2_with fail
       go_roundw
       case rel =>
        obtain ⟨z,hz1,hz2⟩:=hE
        exact ⟨2,by omega,rfl,_,⟨hM.o.set 1 (Z s) (by decide)⟩,⟨fun i hi=>up_two hO.o hz1 (Nat.lt_of_lt_of_le hz2 (Nat.pow_le_pow_right (by decide) b2)) i hi⟩⟩
       case measure=>simp [intOf]
  ·obtain ⟨z0,ho0,hz0⟩:=hO.o 0 (by decide)
   obtain ⟨z1,ho1,hz1⟩:=hO.o 1 (by decide)
   have cc0:=hM.o.o.cell 0 (by decide)
   have cc1:=hM.o.o.cell 1 (by decide)
   have ff0:=hM.o.o.free 0 (by decide)
   have ff1:=hM.o.o.free 1 (by decide)
   have cx0:=lcell hM.o.x 0 (v:=.int .i64 x0) rfl
   rw [ho0] at cc0
   rw [ho1] at cc1
   clear hO
   by_cases hz:z1=0
   ·have hq1:((txt (z1:Int)).toList == [48])=true:=by rw [txt_eq0];simpa using hz
    have hM2:=hM.o.set 1 (Z ⟨#[55]⟩) (by decide)
    clear hz hz1 ho1
    generalize txt (z1:Int)=sz at *
    go_wp2_with fail
    clear cc0 cc1 ff0 ff1 cx0 hM hq1
    obtain ⟨Z1,hZ⟩:∃ Z1:Nat,Z1=7:=⟨_,rfl⟩
    have hZ1:Z1<10^100:=by rw [hZ];decide
    have hZ0:Z1≠0:=by omega
    have hZt:(⟨#[55]⟩:ByteArray)=txt (Z1:Int):=by rw [hZ];decide +kernel
    have cc0:=hM2.o.cell 0 (by decide)
    have cc1:=hM2.o.cell 1 (by decide)
    have ff0:=hM2.o.free 0 (by decide)
    have cx0:=lcell hM2.x 0 (v:=.int .i64 x0) rfl
    have hM:Shut _:=⟨hM2⟩
    rw [updV,if_neg (by decide),ho0] at cc0
    rw [updV,if_pos rfl] at cc1
    generalize wr.setCell ⟨b+1+1,1,none⟩ (Z ⟨#[55]⟩)=wr2 at *
    rw [hZt] at cc1
    clear hM2 hZ hZt ho0
    refine (P4.o _).mono ?_
    rintro e w4 ⟨j,hj,rfl,rfl⟩
    by_cases hj0:j=0
    ·subst hj0
     clear hj
     by_cases hz:z0=0
     ·have hq0:((txt (z0:Int)).toList == [48])=true:=by rw [txt_eq0];simpa using hz
      have hL:LongQ (Rat.divInt (z0:Int) Z1):=longQ_div (by omega) hZ1 hZ0
      have fA:Fits (z0:Int):=fits_small (Nat.lt_trans (show ((z0:Int):Int).natAbs<10^100 by omega) (by decide))
      have hMk:∀ W:World,Calls Tryz.prog 44 #[Z (txt (z0:Int)),Z (txt (Z1:Int))] W fun e w'=>e = .returned (.tuple #[.agg #[Z (txt (Rat.divInt (z0:Int) Z1).num),Z (txt ((Rat.divInt (z0:Int) Z1).den:Int))],.int .i64 0])∧Below W.heap.size W w':=fun W=>by
       have:=MakeR_all (txt (z0:Int)) (txt (Z1:Int)) (txt_size6 fA) (txt_size6 (small_fits hZ1)) W
       rw [red_q fA (small_fits hZ1) (by omega)] at this
       exact this
      have HQ:Shut (∀ n d:ByteArray,n=txt (Rat.divInt (z0:Int) Z1).num→d=txt ((Rat.divInt (z0:Int) Z1).den:Int)→Value.agg #[Z n,Z d]=rq (Rat.divInt (z0:Int) Z1)):=⟨fun n d h1 h2=>by rw [h1,h2];rfl⟩
      obtain ⟨nn,hnn⟩:∃ nn,nn=txt (Rat.divInt (z0:Int) Z1).num:=⟨_,rfl⟩
      obtain ⟨dd,hdd⟩:∃ dd,dd=txt ((Rat.divInt (z0:Int) Z1).den:Int):=⟨_,rfl⟩
      rw [←hnn,←hdd] at hMk
      have HN:Shut _:=⟨hnn⟩
      have HD:Shut _:=⟨hdd⟩
      have HL:Shut _:=⟨hL⟩
      clear hnn hdd hL fA
      clear hz hz0 hZ0 hZ1
      generalize txt (z0:Int)=s0 at *
      generalize txt (Z1:Int)=s1 at *
      have HM4:Shut _:=⟨hM.o⟩
      go_wp2_with fail
      refine (hMk _).mono ?_
      rintro e w5 ⟨rfl,hB5⟩
      have hM5:=HM4.o.keep hB5
      have hlt:=lt_of_block hM5.r
      have r0:=lcell hM5.r 0 (v:=Z ⟨#[]⟩) rfl
      have r1:=lcell hM5.r 1 (v:=Z ⟨#[]⟩) rfl
      have g0:=lfree hM5.r 0
      have g1:=lfree hM5.r 1
      have hbw:w.heap.size≤b+1:=by have:=hM5.e;omega
      have HU:Shut _:=⟨((hM5.u.setCell (p:=⟨b+1,0,none⟩) hbw (Z nn)).setCell (p:=⟨b+1,1,none⟩) hbw (Z dd)).alloc (Nat.le_trans hM5.u.size (by simp)) (O #[Z nn,Z dd] 23)⟩
      have k0:=cell_past w5 (b+1) (Z nn) (Z dd) _ _ r0 r1 (O #[Z nn,Z dd] 23)
      clear hM5 hMk
      go_wp2_with fail
      refine bodyPost_ret (v:=.agg #[Z nn,Z dd]) (by simp [results,Tryz.results10, go_sem,k0.1,k0.2]) rfl ⟨_,HL.o,by rw [HQ.o nn dd HN.o HD.o],HU.o⟩
     ·have hq0:((txt (z0:Int)).toList == [48])=false:=by rw [txt_eq0];simpa using hz
      have HT0:Shut _:=⟨txt_minus hz⟩
      have h0s:=txt_size (z:=(z0:Int)) (small_fits hz0)
      have hL:LongQ (Rat.divInt (-(z0:Int)) Z1):=longQ_div (by omega) hZ1 hZ0
      have fA:Fits (-(z0:Int)):=fits_small (Nat.lt_trans (show ((-(z0:Int)):Int).natAbs<10^100 by omega) (by decide))
      have hMk:∀ W:World,Calls Tryz.prog 44 #[Z (txt (-(z0:Int))),Z (txt (Z1:Int))] W fun e w'=>e = .returned (.tuple #[.agg #[Z (txt (Rat.divInt (-(z0:Int)) Z1).num),Z (txt ((Rat.divInt (-(z0:Int)) Z1).den:Int))],.int .i64 0])∧Below W.heap.size W w':=fun W=>by
       have:=MakeR_all (txt (-(z0:Int))) (txt (Z1:Int)) (txt_size6 fA) (txt_size6 (small_fits hZ1)) W
       rw [red_q fA (small_fits hZ1) (by omega)] at this
       exact this
      have HQ:Shut (∀ n d:ByteArray,n=txt (Rat.divInt (-(z0:Int)) Z1).num→d=txt ((Rat.divInt (-(z0:Int)) Z1).den:Int)→Value.agg #[Z n,Z d]=rq (Rat.divInt (-(z0:Int)) Z1)):=⟨fun n d h1 h2=>by rw [h1,h2];rfl⟩
      obtain ⟨nn,hnn⟩:∃ nn,nn=txt (Rat.divInt (-(z0:Int)) Z1).num:=⟨_,rfl⟩
      obtain ⟨dd,hdd⟩:∃ dd,dd=txt ((Rat.divInt (-(z0:Int)) Z1).den:Int):=⟨_,rfl⟩
      rw [←hnn,←hdd] at hMk
      have HN:Shut _:=⟨hnn⟩
      have HD:Shut _:=⟨hdd⟩
      have HL:Shut _:=⟨hL⟩
      clear hnn hdd hL fA
      rw [←HT0.o] at hMk
      have h1s:(⟨#[45]⟩:ByteArray).size=1:=rfl
      clear hz hz0 hZ0 hZ1
      generalize txt (z0:Int)=s0 at *
      generalize txt (Z1:Int)=s1 at *
      have HM4:Shut _:=⟨hM.o.set 0 (Z (⟨#[45]⟩++s0)) (by decide)⟩
      go_wp2_with fail
      refine (hMk _).mono ?_
      rintro e w5 ⟨rfl,hB5⟩
      have hM5:=HM4.o.keep hB5
      have hlt:=lt_of_block hM5.r
      have r0:=lcell hM5.r 0 (v:=Z ⟨#[]⟩) rfl
      have r1:=lcell hM5.r 1 (v:=Z ⟨#[]⟩) rfl
      have g0:=lfree hM5.r 0
      have g1:=lfree hM5.r 1
      have hbw:w.heap.size≤b+1:=by have:=hM5.e;omega
      have HU:Shut _:=⟨((hM5.u.setCell (p:=⟨b+1,0,none⟩) hbw (Z nn)).setCell (p:=⟨b+1,1,none⟩) hbw (Z dd)).alloc (Nat.le_trans hM5.u.size (by simp)) (O #[Z nn,Z dd] 23)⟩
      have k0:=cell_past w5 (b+1) (Z nn) (Z dd) _ _ r0 r1 (O #[Z nn,Z dd] 23)
      clear hM5 hMk
      go_wp2_with fail
      refine bodyPost_ret (v:=.agg #[Z nn,Z dd]) (by simp [results,Tryz.results10, go_sem,k0.1,k0.2]) rfl ⟨_,HL.o,by rw [HQ.o nn dd HN.o HD.o],HU.o⟩
    ·have hj1:j=1:=by omega
     subst hj1
     clear hj hj0
     have hL:LongQ (Rat.divInt (z0:Int) Z1):=longQ_div (by omega) hZ1 hZ0
     have fA:Fits (z0:Int):=fits_small (Nat.lt_trans (show ((z0:Int):Int).natAbs<10^100 by omega) (by decide))
     have hMk:∀ W:World,Calls Tryz.prog 44 #[Z (txt (z0:Int)),Z (txt (Z1:Int))] W fun e w'=>e = .returned (.tuple #[.agg #[Z (txt (Rat.divInt (z0:Int) Z1).num),Z (txt ((Rat.divInt (z0:Int) Z1).den:Int))],.int .i64 0])∧Below W.heap.size W w':=fun W=>by
      have:=MakeR_all (txt (z0:Int)) (txt (Z1:Int)) (txt_size6 fA) (txt_size6 (small_fits hZ1)) W
      rw [red_q fA (small_fits hZ1) (by omega)] at this
      exact this
     have HQ:Shut (∀ n d:ByteArray,n=txt (Rat.divInt (z0:Int) Z1).num→d=txt ((Rat.divInt (z0:Int) Z1).den:Int)→Value.agg #[Z n,Z d]=rq (Rat.divInt (z0:Int) Z1)):=⟨fun n d h1 h2=>by rw [h1,h2];rfl⟩
     obtain ⟨nn,hnn⟩:∃ nn,nn=txt (Rat.divInt (z0:Int) Z1).num:=⟨_,rfl⟩
     obtain ⟨dd,hdd⟩:∃ dd,dd=txt ((Rat.divInt (z0:Int) Z1).den:Int):=⟨_,rfl⟩
     rw [←hnn,←hdd] at hMk
     have HN:Shut _:=⟨hnn⟩
     have HD:Shut _:=⟨hdd⟩
     have HL:Shut _:=⟨hL⟩
     clear hnn hdd hL fA
     clear hz0 hZ0 hZ1
     generalize txt (z0:Int)=s0 at *
     generalize txt (Z1:Int)=s1 at *
     have HM4:Shut _:=⟨hM.o⟩
     go_wp2_with fail
     refine (hMk _).mono ?_
     rintro e w5 ⟨rfl,hB5⟩
     have hM5:=HM4.o.keep hB5
     have hlt:=lt_of_block hM5.r
     have r0:=lcell hM5.r 0 (v:=Z ⟨#[]⟩) rfl
     have r1:=lcell hM5.r 1 (v:=Z ⟨#[]⟩) rfl
     have g0:=lfree hM5.r 0
     have g1:=lfree hM5.r 1
     have hbw:w.heap.size≤b+1:=by have:=hM5.e;omega
     have HU:Shut _:=⟨((hM5.u.setCell (p:=⟨b+1,0,none⟩) hbw (Z nn)).setCell (p:=⟨b+1,1,none⟩) hbw (Z dd)).alloc (Nat.le_trans hM5.u.size (by simp)) (O #[Z nn,Z dd] 23)⟩
     have k0:=cell_past w5 (b+1) (Z nn) (Z dd) _ _ r0 r1 (O #[Z nn,Z dd] 23)
     clear hM5 hMk
     go_wp2_with fail
     refine bodyPost_ret (v:=.agg #[Z nn,Z dd]) (by simp [results,Tryz.results10, go_sem,k0.1,k0.2]) rfl ⟨_,HL.o,by rw [HQ.o nn dd HN.o HD.o],HU.o⟩
   ·have hq1:((txt (z1:Int)).toList == [48])=false:=by rw [txt_eq0];simpa using hz
    obtain ⟨Z1,rfl⟩:∃ Z1:Nat,Z1=z1:=⟨_,rfl⟩
    have hZ1:=hz1
    have hZ0:=hz
    clear hz hz1 ho0 ho1
    go_wp2_with fail
    refine (P4.o _).mono ?_
    rintro e w4 ⟨j,hj,rfl,rfl⟩
    by_cases hj0:j=0
    ·subst hj0
     clear hj
     by_cases hz:z0=0
     ·have hq0:((txt (z0:Int)).toList == [48])=true:=by rw [txt_eq0];simpa using hz
      have hL:LongQ (Rat.divInt (z0:Int) Z1):=longQ_div (by omega) hZ1 hZ0
      have fA:Fits (z0:Int):=fits_small (Nat.lt_trans (show ((z0:Int):Int).natAbs<10^100 by omega) (by decide))
      have hMk:∀ W:World,Calls Tryz.prog 44 #[Z (txt (z0:Int)),Z (txt (Z1:Int))] W fun e w'=>e = .returned (.tuple #[.agg #[Z (txt (Rat.divInt (z0:Int) Z1).num),Z (txt ((Rat.divInt (z0:Int) Z1).den:Int))],.int .i64 0])∧Below W.heap.size W w':=fun W=>by
       have:=MakeR_all (txt (z0:Int)) (txt (Z1:Int)) (txt_size6 fA) (txt_size6 (small_fits hZ1)) W
       rw [red_q fA (small_fits hZ1) (by omega)] at this
       exact this
      have HQ:Shut (∀ n d:ByteArray,n=txt (Rat.divInt (z0:Int) Z1).num→d=txt ((Rat.divInt (z0:Int) Z1).den:Int)→Value.agg #[Z n,Z d]=rq (Rat.divInt (z0:Int) Z1)):=⟨fun n d h1 h2=>by rw [h1,h2];rfl⟩
      obtain ⟨nn,hnn⟩:∃ nn,nn=txt (Rat.divInt (z0:Int) Z1).num:=⟨_,rfl⟩
      obtain ⟨dd,hdd⟩:∃ dd,dd=txt ((Rat.divInt (z0:Int) Z1).den:Int):=⟨_,rfl⟩
      rw [←hnn,←hdd] at hMk
      have HN:Shut _:=⟨hnn⟩
      have HD:Shut _:=⟨hdd⟩
      have HL:Shut _:=⟨hL⟩
      clear hnn hdd hL fA
      clear hz hz0 hZ0 hZ1
      generalize txt (z0:Int)=s0 at *
      generalize txt (Z1:Int)=s1 at *
      have HM4:Shut _:=⟨hM.o⟩
      go_wp2_with fail
      refine (hMk _).mono ?_
      rintro e w5 ⟨rfl,hB5⟩
      have hM5:=HM4.o.keep hB5
      have hlt:=lt_of_block hM5.r
      have r0:=lcell hM5.r 0 (v:=Z ⟨#[]⟩) rfl
      have r1:=lcell hM5.r 1 (v:=Z ⟨#[]⟩) rfl
      have g0:=lfree hM5.r 0
      have g1:=lfree hM5.r 1
      have hbw:w.heap.size≤b+1:=by have:=hM5.e;omega
      have HU:Shut _:=⟨((hM5.u.setCell (p:=⟨b+1,0,none⟩) hbw (Z nn)).setCell (p:=⟨b+1,1,none⟩) hbw (Z dd)).alloc (Nat.le_trans hM5.u.size (by simp)) (O #[Z nn,Z dd] 23)⟩
      have k0:=cell_past w5 (b+1) (Z nn) (Z dd) _ _ r0 r1 (O #[Z nn,Z dd] 23)
      clear hM5 hMk
      go_wp2_with fail
      refine bodyPost_ret (v:=.agg #[Z nn,Z dd]) (by simp [results,Tryz.results10, go_sem,k0.1,k0.2]) rfl ⟨_,HL.o,by rw [HQ.o nn dd HN.o HD.o],HU.o⟩
     ·have hq0:((txt (z0:Int)).toList == [48])=false:=by rw [txt_eq0];simpa using hz
      have HT0:Shut _:=⟨txt_minus hz⟩
      have h0s:=txt_size (z:=(z0:Int)) (small_fits hz0)
      have hL:LongQ (Rat.divInt (-(z0:Int)) Z1):=longQ_div (by omega) hZ1 hZ0
      have fA:Fits (-(z0:Int)):=fits_small (Nat.lt_trans (show ((-(z0:Int)):Int).natAbs<10^100 by omega) (by decide))
      have hMk:∀ W:World,Calls Tryz.prog 44 #[Z (txt (-(z0:Int))),Z (txt (Z1:Int))] W fun e w'=>e = .returned (.tuple #[.agg #[Z (txt (Rat.divInt (-(z0:Int)) Z1).num),Z (txt ((Rat.divInt (-(z0:Int)) Z1).den:Int))],.int .i64 0])∧Below W.heap.size W w':=fun W=>by
       have:=MakeR_all (txt (-(z0:Int))) (txt (Z1:Int)) (txt_size6 fA) (txt_size6 (small_fits hZ1)) W
       rw [red_q fA (small_fits hZ1) (by omega)] at this
       exact this
      have HQ:Shut (∀ n d:ByteArray,n=txt (Rat.divInt (-(z0:Int)) Z1).num→d=txt ((Rat.divInt (-(z0:Int)) Z1).den:Int)→Value.agg #[Z n,Z d]=rq (Rat.divInt (-(z0:Int)) Z1)):=⟨fun n d h1 h2=>by rw [h1,h2];rfl⟩
      obtain ⟨nn,hnn⟩:∃ nn,nn=txt (Rat.divInt (-(z0:Int)) Z1).num:=⟨_,rfl⟩
      obtain ⟨dd,hdd⟩:∃ dd,dd=txt ((Rat.divInt (-(z0:Int)) Z1).den:Int):=⟨_,rfl⟩
      rw [←hnn,←hdd] at hMk
      have HN:Shut _:=⟨hnn⟩
      have HD:Shut _:=⟨hdd⟩
      have HL:Shut _:=⟨hL⟩
      clear hnn hdd hL fA
      rw [←HT0.o] at hMk
      have h1s:(⟨#[45]⟩:ByteArray).size=1:=rfl
      clear hz hz0 hZ0 hZ1
      generalize txt (z0:Int)=s0 at *
      generalize txt (Z1:Int)=s1 at *
      have HM4:Shut _:=⟨hM.o.set 0 (Z (⟨#[45]⟩++s0)) (by decide)⟩
      go_wp2_with fail
      refine (hMk _).mono ?_
      rintro e w5 ⟨rfl,hB5⟩
      have hM5:=HM4.o.keep hB5
      have hlt:=lt_of_block hM5.r
      have r0:=lcell hM5.r 0 (v:=Z ⟨#[]⟩) rfl
      have r1:=lcell hM5.r 1 (v:=Z ⟨#[]⟩) rfl
      have g0:=lfree hM5.r 0
      have g1:=lfree hM5.r 1
      have hbw:w.heap.size≤b+1:=by have:=hM5.e;omega
      have HU:Shut _:=⟨((hM5.u.setCell (p:=⟨b+1,0,none⟩) hbw (Z nn)).setCell (p:=⟨b+1,1,none⟩) hbw (Z dd)).alloc (Nat.le_trans hM5.u.size (by simp)) (O #[Z nn,Z dd] 23)⟩
      have k0:=cell_past w5 (b+1) (Z nn) (Z dd) _ _ r0 r1 (O #[Z nn,Z dd] 23)
      clear hM5 hMk
      go_wp2_with fail
      refine bodyPost_ret (v:=.agg #[Z nn,Z dd]) (by simp [results,Tryz.results10, go_sem,k0.1,k0.2]) rfl ⟨_,HL.o,by rw [HQ.o nn dd HN.o HD.o],HU.o⟩
    ·have hj1:j=1:=by omega
     subst hj1
     clear hj hj0
     have hL:LongQ (Rat.divInt (z0:Int) Z1):=longQ_div (by omega) hZ1 hZ0
     have fA:Fits (z0:Int):=fits_small (Nat.lt_trans (show ((z0:Int):Int).natAbs<10^100 by omega) (by decide))
     have hMk:∀ W:World,Calls Tryz.prog 44 #[Z (txt (z0:Int)),Z (txt (Z1:Int))] W fun e w'=>e = .returned (.tuple #[.agg #[Z (txt (Rat.divInt (z0:Int) Z1).num),Z (txt ((Rat.divInt (z0:Int) Z1).den:Int))],.int .i64 0])∧Below W.heap.size W w':=fun W=>by
      have:=MakeR_all (txt (z0:Int)) (txt (Z1:Int)) (txt_size6 fA) (txt_size6 (small_fits hZ1)) W
      rw [red_q fA (small_fits hZ1) (by omega)] at this
      exact this
     have HQ:Shut (∀ n d:ByteArray,n=txt (Rat.divInt (z0:Int) Z1).num→d=txt ((Rat.divInt (z0:Int) Z1).den:Int)→Value.agg #[Z n,Z d]=rq (Rat.divInt (z0:Int) Z1)):=⟨fun n d h1 h2=>by rw [h1,h2];rfl⟩
     obtain ⟨nn,hnn⟩:∃ nn,nn=txt (Rat.divInt (z0:Int) Z1).num:=⟨_,rfl⟩
     obtain ⟨dd,hdd⟩:∃ dd,dd=txt ((Rat.divInt (z0:Int) Z1).den:Int):=⟨_,rfl⟩
     rw [←hnn,←hdd] at hMk
     have HN:Shut _:=⟨hnn⟩
     have HD:Shut _:=⟨hdd⟩
     have HL:Shut _:=⟨hL⟩
     clear hnn hdd hL fA
     clear hz0 hZ0 hZ1
     generalize txt (z0:Int)=s0 at *
     generalize txt (Z1:Int)=s1 at *
     have HM4:Shut _:=⟨hM.o⟩
     go_wp2_with fail
     refine (hMk _).mono ?_
     rintro e w5 ⟨rfl,hB5⟩
     have hM5:=HM4.o.keep hB5
     have hlt:=lt_of_block hM5.r
     have r0:=lcell hM5.r 0 (v:=Z ⟨#[]⟩) rfl
     have r1:=lcell hM5.r 1 (v:=Z ⟨#[]⟩) rfl
     have g0:=lfree hM5.r 0
     have g1:=lfree hM5.r 1
     have hbw:w.heap.size≤b+1:=by have:=hM5.e;omega
     have HU:Shut _:=⟨((hM5.u.setCell (p:=⟨b+1,0,none⟩) hbw (Z nn)).setCell (p:=⟨b+1,1,none⟩) hbw (Z dd)).alloc (Nat.le_trans hM5.u.size (by simp)) (O #[Z nn,Z dd] 23)⟩
     have k0:=cell_past w5 (b+1) (Z nn) (Z dd) _ _ r0 r1 (O #[Z nn,Z dd] 23)
     clear hM5 hMk
     go_wp2_with fail
     refine bodyPost_ret (v:=.agg #[Z nn,Z dd]) (by simp [results,Tryz.results10, go_sem,k0.1,k0.2]) rfl ⟨_,HL.o,by rw [HQ.o nn dd HN.o HD.o],HU.o⟩
end Rt
end
section
namespace Rt
open Go.RowKit Go.Proofs.YtbfonkabmehlmaaGreatDoor.Nm
open N10 (Two)

theorem make_rq {x y:Int} {q:Rat} (hx:Fits x) (hy:Fits y) (h0:y≠0) (hq:Rat.divInt x y=q):Two 87 #[Z (txt x),Z (txt y)] (.tuple #[.agg #[Z (txt q.num),Z (txt (q.den:Int))],.int .i64 0]):=fun W=>by
 have:=Make_all (txt x) (txt y) (txt_size6 hx) (txt_size6 hy) W
 rw [red_q hx hy h0,hq] at this
 exact this
structure LoM (A B C D:Nat) (w V:World) (sn sd:ByteArray):Prop where
 r:V.heap[A]? = some (O #[Z sn,Z sd] 23 (0,0))
 a:V.heap[B]? = some (O #[Z sn,Z sd] 23 (0,0))
 b:V.heap[C]? = some (O #[Z sn,Z sd] 23 (0,0))
 z:V.heap[D]? = some (O #[Z ⟨#[48]⟩,Z ⟨#[49]⟩] 23 (0,0))
 u:Below w.heap.size w V
theorem LoM.keep {A B C D:Nat} {w V V':World} {sn sd:ByteArray} (h:LoM A B C D w V sn sd) (hB:Below V.heap.size V V'):LoM A B C D w V' sn sd :=
 ⟨lkeep h.r hB,lkeep h.a hB,lkeep h.b hB,lkeep h.z hB,h.u.trans (hB.mono h.u.size)⟩
theorem LoM.cells {A B C D:Nat} {w V:World} {sn sd:ByteArray} (h:LoM A B C D w V sn sd):V.cell? ⟨A,0,none⟩=some (Z sn)∧V.cell? ⟨A,1,none⟩=some (Z sd)∧V.cell? ⟨B,0,none⟩=some (Z sn)∧V.cell? ⟨B,1,none⟩=some (Z sd)∧V.cell? ⟨C,0,none⟩=some (Z sn)∧V.cell? ⟨C,1,none⟩=some (Z sd)∧V.cell? ⟨D,0,none⟩=some (Z ⟨#[48]⟩)∧V.cell? ⟨D,1,none⟩=some (Z ⟨#[49]⟩) :=
 ⟨(cell_box h.r).1,(cell_box h.r).2.1,(cell_box h.a).1,(cell_box h.a).2.1,(cell_box h.b).1,(cell_box h.b).2.1,(cell_box h.z).1,(cell_box h.z).2.1⟩

end Rt
end
end Go.Proofs.YtbfonkabmehlmaaGreatDoor
