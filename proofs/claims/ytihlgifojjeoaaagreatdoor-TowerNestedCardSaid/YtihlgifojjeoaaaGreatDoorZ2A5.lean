/-
  Package enclosure: closures, root, Point, Within, Contains.
-/
import Derived.Test.YtihlgifojjeoaaaGreatDoorZ2A1
import Derived.Deep.RegionHeld
import Derived.Test.YtihlgifojjeoaaaGreatDoorZ2A4
set_option maxRecDepth 1000000
set_option maxHeartbeats 40000000
open Go.Value renaming string→Z
open Go.Obj renaming cells→O
namespace Go.Proofs.YtihlgifojjeoaaaGreatDoor
section
namespace En
open Go.RowKit Go.Extern.Stop Go.Stop Go.Extern
theorem lundrew {B:Nat} {w w':World} (h:Below B w.drew w'):Below B w w':=⟨h.os,h.tape,h.output,h.size,h.block⟩
theorem add_clo (a:Addr) (Bx By:Nat) (x0 x1 x2 x3 y0 y1 y2 y3 n1 d1 n2 d2:ByteArray) (c1 c2:Int)
  (hA1:∀ W:World,Calls Tryz.prog 77 #[.agg #[Z x0,Z x1],.agg #[Z y0,Z y1]] W fun e W'=>e = .returned (.tuple #[.agg #[Z n1,Z d1],.int .i64 c1])∧Below W.heap.size W W')
  (hA2:∀ W:World,Calls Tryz.prog 77 #[.agg #[Z x2,Z x3],.agg #[Z y2,Z y3]] W fun e W'=>e = .returned (.tuple #[.agg #[Z n2,Z d2],.int .i64 c2])∧Below W.heap.size W W')
  (w:World) (hv:Ref a w) (hx:w.heap[Bx]? = some (O #[Z x0,Z x1,Z x2,Z x3] 55 (0,0))) (hy:w.heap[By]? = some (O #[Z y0,Z y1,Z y2,Z y3] 55 (0,0))) :
  Calls Tryz.prog 75 #[.pointer (some ⟨Bx,0,none⟩),.pointer (some ⟨By,0,none⟩)] w fun e w'=>e=(if c1=0∧c2=0 then .returned (.agg #[Z n1,Z d1,Z n2,Z d2]) else .panicked (refP a))∧Below w.heap.size w w':=by
 have n_x:(w.alloc (O #[Z ⟨#[]⟩,Z ⟨#[]⟩,Z ⟨#[]⟩,Z ⟨#[]⟩] 55)).heap[Bx]? = _:=(Below.heap_alloc w _ _ (Array.getElem?_eq_some_iff.1 hx).1).trans hx
 have n_y:(w.alloc (O #[Z ⟨#[]⟩,Z ⟨#[]⟩,Z ⟨#[]⟩,Z ⟨#[]⟩] 55)).heap[By]? = _:=(Below.heap_alloc w _ _ (Array.getElem?_eq_some_iff.1 hy).1).trans hy
 have n_r:(w.alloc (O #[Z ⟨#[]⟩,Z ⟨#[]⟩,Z ⟨#[]⟩,Z ⟨#[]⟩] 55)).heap[w.heap.size]? = _:=World.alloc_heap_new w _
 have u:=(Below.refl w.heap.size w).alloc (Nat.le_refl _) (O #[Z ⟨#[]⟩,Z ⟨#[]⟩,Z ⟨#[]⟩,Z ⟨#[]⟩] 55)
 have nx:=Nat.ne_of_lt (Array.getElem?_eq_some_iff.1 hx).1
 have ny:=Nat.ne_of_lt (Array.getElem?_eq_some_iff.1 hy).1
 have nx2:=nx.symm
 have ny2:=ny.symm
 have HV:Shut _:=⟨hv⟩
 have CA1:Shut _:=⟨hA1⟩
 have CA2:Shut _:=⟨hA2⟩
 clear hx hy hv hA1 hA2
 have CM1:=fun W h=>must_att a n1 d1 c1 W h
 have CM2:=fun W h=>must_att a n2 d2 c2 W h
 go_enter Tryz.func75, Tryz.ntmps75
 go_wp2_with fail
 generalize w.alloc (O #[Z ⟨#[]⟩,Z ⟨#[]⟩,Z ⟨#[]⟩,Z ⟨#[]⟩] 55)=W0 at *
 have cx0:=lcell n_x 0 (v:=Z x0) rfl
 have cx1:=lcell n_x 1 (v:=Z x1) rfl
 have cx2:=lcell n_x 2 (v:=Z x2) rfl
 have cx3:=lcell n_x 3 (v:=Z x3) rfl
 have cy0:=lcell n_y 0 (v:=Z y0) rfl
 have cy1:=lcell n_y 1 (v:=Z y1) rfl
 have cy2:=lcell n_y 2 (v:=Z y2) rfl
 have cy3:=lcell n_y 3 (v:=Z y3) rfl
 have k0:=lcell n_r 0 (v:=Z ⟨#[]⟩) rfl
 have f0:=lfree n_r 0
 have k1:=lcell n_r 1 (v:=Z ⟨#[]⟩) rfl
 have f1:=lfree n_r 1
 have k2:=lcell n_r 2 (v:=Z ⟨#[]⟩) rfl
 have f2:=lfree n_r 2
 have k3:=lcell n_r 3 (v:=Z ⟨#[]⟩) rfl
 have f3:=lfree n_r 3
 go_region_held (fun X=>X.cell? ⟨Bx,0,none⟩=some (Z x0)∧X.cell? ⟨Bx,1,none⟩=some (Z x1)∧X.cell? ⟨Bx,2,none⟩=some (Z x2)∧X.cell? ⟨Bx,3,none⟩=some (Z x3)∧X.cell? ⟨By,0,none⟩=some (Z y0)∧X.cell? ⟨By,1,none⟩=some (Z y1)∧X.cell? ⟨By,2,none⟩=some (Z y2)∧X.cell? ⟨By,3,none⟩=some (Z y3)) (go_keep) (first | (go_at_call 77; (with_reducible refine (CA1.o _).mono ?_);rintro e v1 ⟨rfl,g⟩;have g:Below W0.heap.size W0 v1:=lundrew g;replace u:=u.trans (g.mono u.size);replace n_x:=lkeep n_x g;replace n_y:=lkeep n_y g;replace n_r:=lkeep n_r g;clear g;have cx0:=lcell n_x 0 (v:=Z x0) rfl;have cx1:=lcell n_x 1 (v:=Z x1) rfl;have cx2:=lcell n_x 2 (v:=Z x2) rfl;have cx3:=lcell n_x 3 (v:=Z x3) rfl;have cy0:=lcell n_y 0 (v:=Z y0) rfl;have cy1:=lcell n_y 1 (v:=Z y1) rfl;have cy2:=lcell n_y 2 (v:=Z y2) rfl;have cy3:=lcell n_y 3 (v:=Z y3) rfl;have k0:=lcell n_r 0 (v:=Z ⟨#[]⟩) rfl;have f0:=lfree n_r 0;have k1:=lcell n_r 1 (v:=Z ⟨#[]⟩) rfl;have f1:=lfree n_r 1;have k2:=lcell n_r 2 (v:=Z ⟨#[]⟩) rfl;have f2:=lfree n_r 2;have k3:=lcell n_r 3 (v:=Z ⟨#[]⟩) rfl;have f3:=lfree n_r 3) | (go_at_call 77; (with_reducible refine (CA2.o _).mono ?_);rintro e v3 ⟨rfl,g⟩;have g:Below v2.heap.size v2 v3:=g;replace u:=u.trans (g.mono u.size);replace n_x:=lkeep n_x g;replace n_y:=lkeep n_y g;replace n_r:=lkeep n_r g;clear g;have cx0:=lcell n_x 0 (v:=Z x0) rfl;have cx1:=lcell n_x 1 (v:=Z x1) rfl;have cx2:=lcell n_x 2 (v:=Z x2) rfl;have cx3:=lcell n_x 3 (v:=Z x3) rfl;have cy0:=lcell n_y 0 (v:=Z y0) rfl;have cy1:=lcell n_y 1 (v:=Z y1) rfl;have cy2:=lcell n_y 2 (v:=Z y2) rfl;have cy3:=lcell n_y 3 (v:=Z y3) rfl;have k0:=lcell n_r 0 (v:=Z ⟨#[]⟩) rfl;have f0:=lfree n_r 0;have k1:=lcell n_r 1 (v:=Z ⟨#[]⟩) rfl;have f1:=lfree n_r 1;have k2:=lcell n_r 2 (v:=Z ⟨#[]⟩) rfl;have f2:=lfree n_r 2;have k3:=lcell n_r 3 (v:=Z ⟨#[]⟩) rfl;have f3:=lfree n_r 3) | (go_at_call 76; have cM:=CM2 v3 (HV.o.keep u);(with_reducible refine cM.mono ?_);clear cM;rintro e v4 ⟨rfl,g⟩;have g:Below v3.heap.size v3 v4:=g;replace u:=u.trans (g.mono u.size);replace n_x:=lkeep n_x g;replace n_y:=lkeep n_y g;replace n_r:=lkeep n_r g;clear g;by_cases hc2:c2=0;rotate_left;(rw [if_neg hc2];dsimp +zetaDelta only [Exit.then,Exit.inBlock];exact ⟨rfl,by rw [if_neg (fun h=>hc2 h.2)],u⟩);rw [if_pos hc2];have cx0:=lcell n_x 0 (v:=Z x0) rfl;have cx1:=lcell n_x 1 (v:=Z x1) rfl;have cx2:=lcell n_x 2 (v:=Z x2) rfl;have cx3:=lcell n_x 3 (v:=Z x3) rfl;have cy0:=lcell n_y 0 (v:=Z y0) rfl;have cy1:=lcell n_y 1 (v:=Z y1) rfl;have cy2:=lcell n_y 2 (v:=Z y2) rfl;have cy3:=lcell n_y 3 (v:=Z y3) rfl;have k0:=lcell n_r 0 (v:=Z ⟨#[]⟩) rfl;have f0:=lfree n_r 0;have k1:=lcell n_r 1 (v:=Z ⟨#[]⟩) rfl;have f1:=lfree n_r 1;have k2:=lcell n_r 2 (v:=Z ⟨#[]⟩) rfl;have f2:=lfree n_r 2;have k3:=lcell n_r 3 (v:=Z ⟨#[]⟩) rfl;have f3:=lfree n_r 3) | (go_at_call 76; have cM:=CM1 v1 (HV.o.keep u);(with_reducible refine cM.mono ?_);clear cM;rintro e v2 ⟨rfl,g⟩;have g:Below v1.heap.size v1 v2:=g;replace u:=u.trans (g.mono u.size);replace n_x:=lkeep n_x g;replace n_y:=lkeep n_y g;replace n_r:=lkeep n_r g;clear g;by_cases hc1:c1=0;rotate_left;(rw [if_neg hc1];dsimp +zetaDelta only [Exit.then,Exit.inBlock];exact ⟨rfl,by rw [if_neg (fun h=>hc1 h.1)],u⟩);rw [if_pos hc1];have cx0:=lcell n_x 0 (v:=Z x0) rfl;have cx1:=lcell n_x 1 (v:=Z x1) rfl;have cx2:=lcell n_x 2 (v:=Z x2) rfl;have cx3:=lcell n_x 3 (v:=Z x3) rfl;have cy0:=lcell n_y 0 (v:=Z y0) rfl;have cy1:=lcell n_y 1 (v:=Z y1) rfl;have cy2:=lcell n_y 2 (v:=Z y2) rfl;have cy3:=lcell n_y 3 (v:=Z y3) rfl;have k0:=lcell n_r 0 (v:=Z ⟨#[]⟩) rfl;have f0:=lfree n_r 0;have k1:=lcell n_r 1 (v:=Z ⟨#[]⟩) rfl;have f1:=lfree n_r 1;have k2:=lcell n_r 2 (v:=Z ⟨#[]⟩) rfl;have f2:=lfree n_r 2;have k3:=lcell n_r 3 (v:=Z ⟨#[]⟩) rfl;have f3:=lfree n_r 3))
 have s_r:=box4_set (x:=Z n1) (y:=Z d1) (z:=Z n2) (t:=Z d2) n_r
 have z0:=lcell s_r 0 (v:=Z n1) rfl
 have z1:=lcell s_r 1 (v:=Z d1) rfl
 have z2:=lcell s_r 2 (v:=Z n2) rfl
 have z3:=lcell s_r 3 (v:=Z d2) rfl
 have hb:∀ i,w.heap.size≤(⟨w.heap.size,i,none⟩:Addr).block:=fun _=>Nat.le_refl _
 go_wp
 exact bodyPost_ret (v:=.agg #[Z n1,Z d1,Z n2,Z d2]) (by simp [results,Tryz.results75, go_sem,z0,z1,z2,z3]) rfl ⟨by rw [if_pos ⟨hc1,hc2⟩],(((u.setCell (hb 0) _).setCell (hb 1) _).setCell (hb 2) _).setCell (hb 3) _⟩
end En
end
section
namespace En
open Go.RowKit Go.Extern.Stop Go.Stop Go.Extern
theorem Ret.run {f:Nat} {args:Array Value} {v:Value} (h:Ret f args v) (W:World):Calls Tryz.prog f args W fun e W'=>e = .returned v∧Below W.heap.size W W':=h W
theorem mul_clo (a:Addr) (Bx By:Nat) (x0 x1 x2 x3 y0 y1 y2 y3 r0 r1 r2 r3:ByteArray) (bad:Bool)
  (hC:∀ W:World,Ref a W→Calls Tryz.prog 163 #[.func (.func 95) #[] #[],.agg #[Z x0,Z x1,Z x2,Z x3],.agg #[Z y0,Z y1,Z y2,Z y3]] W fun e W'=>e=(if bad=false then .returned (.agg #[Z r0,Z r1,Z r2,Z r3]) else .panicked (refP a))∧Below W.heap.size W W')
  (w:World) (hv:Ref a w) (hx:w.heap[Bx]? = some (O #[Z x0,Z x1,Z x2,Z x3] 55 (0,0))) (hy:w.heap[By]? = some (O #[Z y0,Z y1,Z y2,Z y3] 55 (0,0))) :
  Calls Tryz.prog 162 #[.pointer (some ⟨Bx,0,none⟩),.pointer (some ⟨By,0,none⟩)] w fun e w'=>e=(if bad then .panicked (refP a) else .returned (.agg #[Z r0,Z r1,Z r2,Z r3]))∧Below w.heap.size w w':=by
 have h_W0:Hu w (w.alloc (O #[Z ⟨#[]⟩,Z ⟨#[]⟩,Z ⟨#[]⟩,Z ⟨#[]⟩] 55)) Bx By #[Z x0,Z x1,Z x2,Z x3] #[Z y0,Z y1,Z y2,Z y3]:=⟨lold hx,lold hy,World.alloc_heap_new w _,(Below.refl w.heap.size w).alloc (Nat.le_refl _) _⟩
 have HV:Shut _:=⟨hv⟩
 have CC:Shut _:=⟨hC⟩
 clear hx hy hv hC
 go_enter Tryz.func162, Tryz.ntmps162
 have cx0:(w.alloc (O #[Z ⟨#[]⟩,Z ⟨#[]⟩,Z ⟨#[]⟩,Z ⟨#[]⟩] 55)).cell? ⟨Bx,0,none⟩=some (Z x0):=lcell h_W0.x 0 rfl
 have cx1:(w.alloc (O #[Z ⟨#[]⟩,Z ⟨#[]⟩,Z ⟨#[]⟩,Z ⟨#[]⟩] 55)).cell? ⟨Bx,1,none⟩=some (Z x1):=lcell h_W0.x 1 rfl
 have cx2:(w.alloc (O #[Z ⟨#[]⟩,Z ⟨#[]⟩,Z ⟨#[]⟩,Z ⟨#[]⟩] 55)).cell? ⟨Bx,2,none⟩=some (Z x2):=lcell h_W0.x 2 rfl
 have cx3:(w.alloc (O #[Z ⟨#[]⟩,Z ⟨#[]⟩,Z ⟨#[]⟩,Z ⟨#[]⟩] 55)).cell? ⟨Bx,3,none⟩=some (Z x3):=lcell h_W0.x 3 rfl
 have cy0:(w.alloc (O #[Z ⟨#[]⟩,Z ⟨#[]⟩,Z ⟨#[]⟩,Z ⟨#[]⟩] 55)).cell? ⟨By,0,none⟩=some (Z y0):=lcell h_W0.y 0 rfl
 have cy1:(w.alloc (O #[Z ⟨#[]⟩,Z ⟨#[]⟩,Z ⟨#[]⟩,Z ⟨#[]⟩] 55)).cell? ⟨By,1,none⟩=some (Z y1):=lcell h_W0.y 1 rfl
 have cy2:(w.alloc (O #[Z ⟨#[]⟩,Z ⟨#[]⟩,Z ⟨#[]⟩,Z ⟨#[]⟩] 55)).cell? ⟨By,2,none⟩=some (Z y2):=lcell h_W0.y 2 rfl
 have cy3:(w.alloc (O #[Z ⟨#[]⟩,Z ⟨#[]⟩,Z ⟨#[]⟩,Z ⟨#[]⟩] 55)).cell? ⟨By,3,none⟩=some (Z y3):=lcell h_W0.y 3 rfl
 go_wp2_with fail
 generalize w.alloc (O #[Z ⟨#[]⟩,Z ⟨#[]⟩,Z ⟨#[]⟩,Z ⟨#[]⟩] 55)=W0 at *
 refine (CC.o W0 (HV.o.keep h_W0.u)).mono ?_
 rintro e v ⟨rfl,g⟩
 have h_v:=h_W0.below g
 clear g cx0 cx1 cx2 cx3 cy0 cy1 cy2 cy3
 cases bad with
 | true =>
  rw [if_neg (by decide)]
  dsimp +zetaDelta only [Exit.then,Exit.inBlock]
  exact ⟨rfl,rfl,h_v.u⟩
 | false =>
 rw [if_pos rfl]
 have s_r:=box4_set (x:=Z r0) (y:=Z r1) (z:=Z r2) (t:=Z r3) h_v.r
 have z0:=lcell s_r 0 (v:=Z r0) rfl
 have z1:=lcell s_r 1 (v:=Z r1) rfl
 have z2:=lcell s_r 2 (v:=Z r2) rfl
 have z3:=lcell s_r 3 (v:=Z r3) rfl
 have k0:=lcell h_v.r 0 (v:=Z ⟨#[]⟩) rfl
 have f0:=lfree h_v.r 0
 have k1:=lcell h_v.r 1 (v:=Z ⟨#[]⟩) rfl
 have f1:=lfree h_v.r 1
 have k2:=lcell h_v.r 2 (v:=Z ⟨#[]⟩) rfl
 have f2:=lfree h_v.r 2
 have k3:=lcell h_v.r 3 (v:=Z ⟨#[]⟩) rfl
 have f3:=lfree h_v.r 3
 have hb:∀ i,w.heap.size≤(⟨w.heap.size,i,none⟩:Addr).block:=fun _=>Nat.le_refl _
 dsimp only
 go_wp
 exact bodyPost_ret (v:=.agg #[Z r0,Z r1,Z r2,Z r3]) (by simp [results,Tryz.results162, go_sem,z0,z1,z2,z3]) rfl ⟨rfl,(((h_v.u.setCell (hb 0) _).setCell (hb 1) _).setCell (hb 2) _).setCell (hb 3) _⟩
theorem Point_any (x0 x1:ByteArray) (ok:Bool) (hV:Ret 65 #[.agg #[Z x0,Z x1]] (.bool ok)):Ret 84 #[.agg #[Z x0,Z x1]] (.agg (if ok then #[Z x0,Z x1,Z x0,Z x1] else #[Z ⟨#[]⟩,Z ⟨#[]⟩,Z ⟨#[]⟩,Z ⟨#[]⟩])):=by
 intro w
 obtain ⟨n_x,n_r⟩:=news2 w (O #[Z x0,Z x1] 42) (O #[Z ⟨#[]⟩,Z ⟨#[]⟩,Z ⟨#[]⟩,Z ⟨#[]⟩] 55)
 have u:=below2 w (O #[Z x0,Z x1] 42) (O #[Z ⟨#[]⟩,Z ⟨#[]⟩,Z ⟨#[]⟩,Z ⟨#[]⟩] 55)
 have CV:Shut _:=⟨hV⟩
 clear hV
 go_enter Tryz.func84, Tryz.ntmps84
 have c0:=lcell n_x 0 (v:=Z x0) rfl
 have c1:=lcell n_x 1 (v:=Z x1) rfl
 go_wp2_with fail
 refine (CV.o _).mono ?_
 rintro e v ⟨rfl,g⟩
 replace u:=u.trans (g.mono u.size)
 replace n_x:=lkeep n_x g
 replace n_r:=lkeep n_r g
 clear g c0 c1
 have c0:=lcell n_x 0 (v:=Z x0) rfl
 have c1:=lcell n_x 1 (v:=Z x1) rfl
 have k0:=lcell n_r 0 (v:=Z ⟨#[]⟩) rfl
 have f0:=lfree n_r 0
 have k1:=lcell n_r 1 (v:=Z ⟨#[]⟩) rfl
 have f1:=lfree n_r 1
 have k2:=lcell n_r 2 (v:=Z ⟨#[]⟩) rfl
 have f2:=lfree n_r 2
 have k3:=lcell n_r 3 (v:=Z ⟨#[]⟩) rfl
 have f3:=lfree n_r 3
 have hb:∀ i,w.heap.size≤(⟨w.heap.size+1,i,none⟩:Addr).block:=fun _=>Nat.le_succ _
 cases ok with
 | true =>
  have s_r:=box4_set (x:=Z x0) (y:=Z x1) (z:=Z x0) (t:=Z x1) n_r
  have z0:=lcell s_r 0 (v:=Z x0) rfl
  have z1:=lcell s_r 1 (v:=Z x1) rfl
  have z2:=lcell s_r 2 (v:=Z x0) rfl
  have z3:=lcell s_r 3 (v:=Z x1) rfl
  go_wp2_with fail
  exact bodyPost_ret (v:=.agg #[Z x0,Z x1,Z x0,Z x1]) (by simp [results,Tryz.results84, go_sem,z0,z1,z2,z3]) rfl ⟨rfl,(((u.setCell (hb 0) _).setCell (hb 1) _).setCell (hb 2) _).setCell (hb 3) _⟩
 | false =>
  have s_r:=box4_set (x:=Z ⟨#[]⟩) (y:=Z ⟨#[]⟩) (z:=Z ⟨#[]⟩) (t:=Z ⟨#[]⟩) n_r
  have z0:=lcell s_r 0 (v:=Z ⟨#[]⟩) rfl
  have z1:=lcell s_r 1 (v:=Z ⟨#[]⟩) rfl
  have z2:=lcell s_r 2 (v:=Z ⟨#[]⟩) rfl
  have z3:=lcell s_r 3 (v:=Z ⟨#[]⟩) rfl
  go_wp2_with fail
  exact bodyPost_ret (v:=.agg #[Z ⟨#[]⟩,Z ⟨#[]⟩,Z ⟨#[]⟩,Z ⟨#[]⟩]) (by simp [results,Tryz.results84, go_sem,z0,z1,z2,z3]) rfl ⟨rfl,(((u.setCell (hb 0) _).setCell (hb 1) _).setCell (hb 2) _).setCell (hb 3) _⟩
end En
end
section
namespace En
open Go.RowKit Go.Extern.Stop Go.Stop Go.Extern
theorem round_clo (a:Addr) (Bx By:Nat) (x0 x1 x2 x3 n1 d1 n2 d2:ByteArray) (p c1 c2:Int)
  (hA1:∀ W:World,Calls Tryz.prog 125 #[.agg #[Z x0,Z x1],.int .i64 p] W fun e W'=>e = .returned (.tuple #[.agg #[Z n1,Z d1],.int .i64 c1])∧Below W.heap.size W W')
  (hA2:∀ W:World,Calls Tryz.prog 126 #[.agg #[Z x2,Z x3],.int .i64 p] W fun e W'=>e = .returned (.tuple #[.agg #[Z n2,Z d2],.int .i64 c2])∧Below W.heap.size W W')
  (w:World) (hv:Ref a w) (hx:w.heap[Bx]? = some (O #[Z x0,Z x1,Z x2,Z x3] 55 (0,0))) (hy:w.heap[By]? = some (O #[.int .i64 p] 3 (0,0))) :
  Calls Tryz.prog 124 #[.pointer (some ⟨Bx,0,none⟩),.pointer (some ⟨By,0,none⟩)] w fun e w'=>e=(if c1=0∧c2=0 then .returned (.agg #[Z n1,Z d1,Z n2,Z d2]) else .panicked (refP a))∧Below w.heap.size w w':=by
 have n_x:(w.alloc (O #[Z ⟨#[]⟩,Z ⟨#[]⟩,Z ⟨#[]⟩,Z ⟨#[]⟩] 55)).heap[Bx]? = _:=(Below.heap_alloc w _ _ (Array.getElem?_eq_some_iff.1 hx).1).trans hx
 have n_y:(w.alloc (O #[Z ⟨#[]⟩,Z ⟨#[]⟩,Z ⟨#[]⟩,Z ⟨#[]⟩] 55)).heap[By]? = _:=(Below.heap_alloc w _ _ (Array.getElem?_eq_some_iff.1 hy).1).trans hy
 have n_r:(w.alloc (O #[Z ⟨#[]⟩,Z ⟨#[]⟩,Z ⟨#[]⟩,Z ⟨#[]⟩] 55)).heap[w.heap.size]? = _:=World.alloc_heap_new w _
 have u:=(Below.refl w.heap.size w).alloc (Nat.le_refl _) (O #[Z ⟨#[]⟩,Z ⟨#[]⟩,Z ⟨#[]⟩,Z ⟨#[]⟩] 55)
 have nx:=Nat.ne_of_lt (Array.getElem?_eq_some_iff.1 hx).1
 have ny:=Nat.ne_of_lt (Array.getElem?_eq_some_iff.1 hy).1
 have nx2:=nx.symm
 have ny2:=ny.symm
 have HV:Shut _:=⟨hv⟩
 have CA1:Shut _:=⟨hA1⟩
 have CA2:Shut _:=⟨hA2⟩
 clear hx hy hv hA1 hA2
 have CM1:=fun W h=>must_att a n1 d1 c1 W h
 have CM2:=fun W h=>must_att a n2 d2 c2 W h
 go_enter Tryz.func124, Tryz.ntmps124
 go_wp2_with fail
 generalize w.alloc (O #[Z ⟨#[]⟩,Z ⟨#[]⟩,Z ⟨#[]⟩,Z ⟨#[]⟩] 55)=W0 at *
 have cx0:=lcell n_x 0 (v:=Z x0) rfl
 have cx1:=lcell n_x 1 (v:=Z x1) rfl
 have cx2:=lcell n_x 2 (v:=Z x2) rfl
 have cx3:=lcell n_x 3 (v:=Z x3) rfl
 have cy0:=lcell n_y 0 (v:=.int .i64 p) rfl
 have k0:=lcell n_r 0 (v:=Z ⟨#[]⟩) rfl
 have f0:=lfree n_r 0
 have k1:=lcell n_r 1 (v:=Z ⟨#[]⟩) rfl
 have f1:=lfree n_r 1
 have k2:=lcell n_r 2 (v:=Z ⟨#[]⟩) rfl
 have f2:=lfree n_r 2
 have k3:=lcell n_r 3 (v:=Z ⟨#[]⟩) rfl
 have f3:=lfree n_r 3
 go_region_held (fun X=>X.cell? ⟨Bx,0,none⟩=some (Z x0)∧X.cell? ⟨Bx,1,none⟩=some (Z x1)∧X.cell? ⟨Bx,2,none⟩=some (Z x2)∧X.cell? ⟨Bx,3,none⟩=some (Z x3)∧X.cell? ⟨By,0,none⟩=some (.int .i64 p)) (go_keep) (first | (go_at_call 125; (with_reducible refine (CA1.o _).mono ?_);rintro e v1 ⟨rfl,g⟩;have g:Below W0.heap.size W0 v1:=lundrew2 g;replace u:=u.trans (g.mono u.size);replace n_x:=lkeep n_x g;replace n_y:=lkeep n_y g;replace n_r:=lkeep n_r g;clear g;have cx0:=lcell n_x 0 (v:=Z x0) rfl;have cx1:=lcell n_x 1 (v:=Z x1) rfl;have cx2:=lcell n_x 2 (v:=Z x2) rfl;have cx3:=lcell n_x 3 (v:=Z x3) rfl;have cy0:=lcell n_y 0 (v:=.int .i64 p) rfl;have k0:=lcell n_r 0 (v:=Z ⟨#[]⟩) rfl;have f0:=lfree n_r 0;have k1:=lcell n_r 1 (v:=Z ⟨#[]⟩) rfl;have f1:=lfree n_r 1;have k2:=lcell n_r 2 (v:=Z ⟨#[]⟩) rfl;have f2:=lfree n_r 2;have k3:=lcell n_r 3 (v:=Z ⟨#[]⟩) rfl;have f3:=lfree n_r 3) | (go_at_call 126; (with_reducible refine (CA2.o _).mono ?_);rintro e v3 ⟨rfl,g⟩;have g:Below v2.heap.size v2 v3:=g;replace u:=u.trans (g.mono u.size);replace n_x:=lkeep n_x g;replace n_y:=lkeep n_y g;replace n_r:=lkeep n_r g;clear g;have cx0:=lcell n_x 0 (v:=Z x0) rfl;have cx1:=lcell n_x 1 (v:=Z x1) rfl;have cx2:=lcell n_x 2 (v:=Z x2) rfl;have cx3:=lcell n_x 3 (v:=Z x3) rfl;have cy0:=lcell n_y 0 (v:=.int .i64 p) rfl;have k0:=lcell n_r 0 (v:=Z ⟨#[]⟩) rfl;have f0:=lfree n_r 0;have k1:=lcell n_r 1 (v:=Z ⟨#[]⟩) rfl;have f1:=lfree n_r 1;have k2:=lcell n_r 2 (v:=Z ⟨#[]⟩) rfl;have f2:=lfree n_r 2;have k3:=lcell n_r 3 (v:=Z ⟨#[]⟩) rfl;have f3:=lfree n_r 3) | (go_at_call 76; have cM:=CM2 v3 (HV.o.keep u);(with_reducible refine cM.mono ?_);clear cM;rintro e v4 ⟨rfl,g⟩;have g:Below v3.heap.size v3 v4:=g;replace u:=u.trans (g.mono u.size);replace n_x:=lkeep n_x g;replace n_y:=lkeep n_y g;replace n_r:=lkeep n_r g;clear g;by_cases hc2:c2=0;rotate_left;(rw [if_neg hc2];dsimp +zetaDelta only [Exit.then,Exit.inBlock];exact ⟨rfl,by rw [if_neg (fun h=>hc2 h.2)],u⟩);rw [if_pos hc2];have cx0:=lcell n_x 0 (v:=Z x0) rfl;have cx1:=lcell n_x 1 (v:=Z x1) rfl;have cx2:=lcell n_x 2 (v:=Z x2) rfl;have cx3:=lcell n_x 3 (v:=Z x3) rfl;have cy0:=lcell n_y 0 (v:=.int .i64 p) rfl;have k0:=lcell n_r 0 (v:=Z ⟨#[]⟩) rfl;have f0:=lfree n_r 0;have k1:=lcell n_r 1 (v:=Z ⟨#[]⟩) rfl;have f1:=lfree n_r 1;have k2:=lcell n_r 2 (v:=Z ⟨#[]⟩) rfl;have f2:=lfree n_r 2;have k3:=lcell n_r 3 (v:=Z ⟨#[]⟩) rfl;have f3:=lfree n_r 3) | (go_at_call 76; have cM:=CM1 v1 (HV.o.keep u);(with_reducible refine cM.mono ?_);clear cM;rintro e v2 ⟨rfl,g⟩;have g:Below v1.heap.size v1 v2:=g;replace u:=u.trans (g.mono u.size);replace n_x:=lkeep n_x g;replace n_y:=lkeep n_y g;replace n_r:=lkeep n_r g;clear g;by_cases hc1:c1=0;rotate_left;(rw [if_neg hc1];dsimp +zetaDelta only [Exit.then,Exit.inBlock];exact ⟨rfl,by rw [if_neg (fun h=>hc1 h.1)],u⟩);rw [if_pos hc1];have cx0:=lcell n_x 0 (v:=Z x0) rfl;have cx1:=lcell n_x 1 (v:=Z x1) rfl;have cx2:=lcell n_x 2 (v:=Z x2) rfl;have cx3:=lcell n_x 3 (v:=Z x3) rfl;have cy0:=lcell n_y 0 (v:=.int .i64 p) rfl;have k0:=lcell n_r 0 (v:=Z ⟨#[]⟩) rfl;have f0:=lfree n_r 0;have k1:=lcell n_r 1 (v:=Z ⟨#[]⟩) rfl;have f1:=lfree n_r 1;have k2:=lcell n_r 2 (v:=Z ⟨#[]⟩) rfl;have f2:=lfree n_r 2;have k3:=lcell n_r 3 (v:=Z ⟨#[]⟩) rfl;have f3:=lfree n_r 3))
 have s_r:=box4_set (x:=Z n1) (y:=Z d1) (z:=Z n2) (t:=Z d2) n_r
 have z0:=lcell s_r 0 (v:=Z n1) rfl
 have z1:=lcell s_r 1 (v:=Z d1) rfl
 have z2:=lcell s_r 2 (v:=Z n2) rfl
 have z3:=lcell s_r 3 (v:=Z d2) rfl
 have hb:∀ i,w.heap.size≤(⟨w.heap.size,i,none⟩:Addr).block:=fun _=>Nat.le_refl _
 go_wp
 exact bodyPost_ret (v:=.agg #[Z n1,Z d1,Z n2,Z d2]) (by simp [results,Tryz.results124, go_sem,z0,z1,z2,z3]) rfl ⟨by rw [if_pos ⟨hc1,hc2⟩],(((u.setCell (hb 0) _).setCell (hb 1) _).setCell (hb 2) _).setCell (hb 3) _⟩
end En
end
section
namespace En
open Go.RowKit Go.Extern.Stop Go.Stop Go.Extern
theorem mustS_att (a:Addr) (s:ByteArray) (c:Int) (w:World) (hv:Ref a w):Calls Tryz.prog 161 #[Z s,.int .i64 c] w fun e w'=>e=(if c=0 then .returned (Z s) else .panicked (refP a))∧Below w.heap.size w w':=by
 by_cases hc:c=0
 ·subst hc;exact mustS_ok s w
 ·rw [if_neg hc];exact mustS_no a s c hc w hv
theorem root_any (a:Addr) (rn rd un s1 s2 sq rest o s5:ByteArray) (c1 c2 c3 c4:Int) (b0 b1:Bool)
  (hM1:Ret 66 #[Z rn,Z un] (.tuple #[Z s1,.int .i64 c1]))
  (hM2:c1=0→Ret 66 #[Z s1,Z un] (.tuple #[Z s2,.int .i64 c2]))
  (hD:c1=0→c2=0→Ret 68 #[Z s2,Z rd] (.tuple #[Z sq,Z rest,.int .i64 c3]))
  (hR:c1=0→c2=0→Ret 203 #[Z sq] (.tuple #[Z o,.int .i64 c4]))
  (hb0:(rest.toList == [48])=b0) (hM5:c1=0→c2=0→c4=0→b0=true→Ret 66 #[Z o,Z o] (.tuple #[Z s5,.int .i64 0])) (hb1:(s5.toList == sq.toList)=b1)
  (w:World) (hv:Ref a w) :
  Calls Tryz.prog 160 #[.agg #[Z rn,Z rd],Z un] w fun e w'=>e=(if c1=0∧c2=0∧c4=0 then .returned (.tuple #[Z o,.bool (b0 && b1)]) else .panicked (refP a))∧Below w.heap.size w w':=by
 have n_x:(w.alloc (O #[Z rn,Z rd] 42)).heap[w.heap.size]? = _:=World.alloc_heap_new w _
 have u:=(Below.refl w.heap.size w).alloc (Nat.le_refl _) (O #[Z rn,Z rd] 42)
 have C1:Shut _:=⟨hM1⟩
 have C2:Shut _:=⟨hM2⟩
 have CD:Shut _:=⟨hD⟩
 have CR:Shut _:=⟨hR⟩
 have C5:Shut _:=⟨hM5⟩
 have HV:Shut _:=⟨hv⟩
 clear hM1 hM2 hD hR hM5 hv
 go_enter Tryz.func160, Tryz.ntmps160
 have x0:=lcell n_x 0 (v:=Z rn) rfl
 have x1:=lcell n_x 1 (v:=Z rd) rfl
 go_wp2_with fail
 refine (C1.o _).mono ?_
 rintro e v1 ⟨rfl,g⟩
 replace u:=u.trans (g.mono u.size)
 replace n_x:=lkeep n_x g
 clear g x0 x1
 have cM:=mustS_att a s1 c1 v1 (HV.o.keep u)
 go_wp2_with fail
 refine cM.mono ?_
 rintro e v2 ⟨rfl,g⟩
 replace u:=u.trans (g.mono u.size)
 replace n_x:=lkeep n_x g
 clear g cM
 by_cases hc1:c1=0
 rotate_left
 ·rw [if_neg hc1]
  dsimp +zetaDelta only [Exit.then,Exit.inBlock]
  exact ⟨rfl,by rw [if_neg (fun h=>hc1 h.1)],u⟩
 rw [if_pos hc1]
 dsimp only
 have q2:=C2.o hc1
 go_wp2_with fail
 refine (q2 _).mono ?_
 rintro e v3 ⟨rfl,g⟩
 replace u:=u.trans (g.mono u.size)
 replace n_x:=lkeep n_x g
 clear g q2
 have cM:=mustS_att a s2 c2 v3 (HV.o.keep u)
 go_wp2_with fail
 refine cM.mono ?_
 rintro e v4 ⟨rfl,g⟩
 replace u:=u.trans (g.mono u.size)
 replace n_x:=lkeep n_x g
 clear g cM
 by_cases hc2:c2=0
 rotate_left
 ·rw [if_neg hc2]
  dsimp +zetaDelta only [Exit.then,Exit.inBlock]
  exact ⟨rfl,by rw [if_neg (fun h=>hc2 h.2.1)],u⟩
 rw [if_pos hc2]
 dsimp only
 have x0:=lcell n_x 0 (v:=Z rn) rfl
 have x1:=lcell n_x 1 (v:=Z rd) rfl
 have q2:=CD.o hc1 hc2
 have q3:=CR.o hc1 hc2
 go_wp2_with fail
 refine (q2 _).mono ?_
 rintro e v5 ⟨rfl,g⟩
 replace u:=u.trans (g.mono u.size)
 clear g q2 x0 x1 n_x
 go_wp2_with fail
 refine (q3 _).mono ?_
 rintro e v6 ⟨rfl,g⟩
 replace u:=u.trans (g.mono u.size)
 clear g q3
 have cM:=mustS_att a o c4 v6 (HV.o.keep u)
 go_wp2_with fail
 refine cM.mono ?_
 rintro e v7 ⟨rfl,g⟩
 replace u:=u.trans (g.mono u.size)
 clear g cM
 by_cases hc4:c4=0
 rotate_left
 ·rw [if_neg hc4]
  dsimp +zetaDelta only [Exit.then,Exit.inBlock]
  exact ⟨rfl,by rw [if_neg (fun h=>hc4 h.2.2)],u⟩
 rw [if_pos hc4]
 dsimp only
 have hall:c1=0∧c2=0∧c4=0:=⟨hc1,hc2,hc4⟩
 cases b0 with
 | false =>
  go_wp2_with fail
  exact bodyPost_ret (v:=.tuple #[Z o,.bool false]) (by simp [results,Tryz.results160, go_sem]) rfl ⟨rfl,u⟩
 | true =>
 have q5:=C5.o hc1 hc2 hc4 rfl
 go_wp2_with fail
 refine (q5 _).mono ?_
 rintro e v8 ⟨rfl,g⟩
 replace u:=u.trans (g.mono u.size)
 clear g q5
 have cM:=mustS_ok s5 v8
 go_wp2_with fail
 refine cM.mono ?_
 rintro e v9 ⟨rfl,g⟩
 replace u:=u.trans (g.mono u.size)
 clear g cM
 go_wp2_with fail
 exact bodyPost_ret (v:=.tuple #[Z o,.bool b1]) (by simp [results,Tryz.results160, go_sem]) rfl ⟨rfl,u⟩
end En
end
section
namespace En
open Go.RowKit Go.Extern.Stop Go.Stop Go.Extern
structure Hs (w W:World) (Bx Bp:Nat) (X:Array Value) (p:Int):Prop where
 x:W.heap[Bx]? = some (.cells X 55 (0,0))
 p:W.heap[Bp]? = some (O #[.int .i64 p] 3 (0,0))
 r:W.heap[w.heap.size]? = some (O #[Z ⟨#[]⟩,Z ⟨#[]⟩,Z ⟨#[]⟩,Z ⟨#[]⟩] 55 (0,0))
 u:Below w.heap.size w W
theorem Hs.below {w W W':World} {Bx Bp:Nat} {X:Array Value} {p:Int} (h:Hs w W Bx Bp X p) (g:Below W.heap.size W W'):Hs w W' Bx Bp X p:=⟨lkeep h.x g,lkeep h.p g,lkeep h.r g,h.u.trans (g.mono h.u.size)⟩
def RootC (a:Addr) (n d un o:ByteArray) (ex bad:Bool):Prop:=∀ W:World,Ref a W→Calls Tryz.prog 160 #[.agg #[Z n,Z d],Z un] W fun e W'=>e=(if bad=false then .returned (.tuple #[Z o,.bool ex]) else .panicked (refP a))∧Below W.heap.size W W'
theorem sqrt_clo (a:Addr) (Bp Bx:Nat) (x0 x1 x2 x3 zs un l hi h2 h3 n1 d1 n2 d2:ByteArray) (p:Int) (pok bl bh exl exh:Bool) (hpok:pok=true↔0≤p∧p≤30)
  (hZ:pok=true→Ret 159 #[Z ⟨#[48]⟩,.int .i64 p] (Z zs)) (hzs:zs.size≤1000) (hun:(⟨#[49]⟩:ByteArray)++zs=un)
  (hL:pok=true→RootC a x0 x1 un l exl bl) (hH:pok=true→RootC a x2 x3 un hi exh bh)
  (hA:pok=true→bl=false→bh=false→exh=false→Ret 131 #[Z hi,Z ⟨#[49]⟩] (.tuple #[Z h2,.int .i64 0]))
  (hh3:(if exh then hi else h2)=h3)
  (hM1:pok=true→bl=false→bh=false→Ret 105 #[Z l,Z un] (.tuple #[.agg #[Z n1,Z d1],.int .i64 0]))
  (hM2:pok=true→bl=false→bh=false→Ret 105 #[Z h3,Z un] (.tuple #[.agg #[Z n2,Z d2],.int .i64 0]))
  (w:World) (hv:Ref a w) (hx:w.heap[Bx]? = some (O #[Z x0,Z x1,Z x2,Z x3] 55 (0,0))) (hp:w.heap[Bp]? = some (O #[.int .i64 p] 3 (0,0))) :
  Calls Tryz.prog 158 #[.pointer (some ⟨Bp,0,none⟩),.pointer (some ⟨Bx,0,none⟩)] w fun e w'=>e=(if pok=true∧bl=false∧bh=false then .returned (.agg #[Z n1,Z d1,Z n2,Z d2]) else .panicked (refP a))∧Below w.heap.size w w':=by
 have h_W0:Hs w (w.alloc (O #[Z ⟨#[]⟩,Z ⟨#[]⟩,Z ⟨#[]⟩,Z ⟨#[]⟩] 55)) Bx Bp #[Z x0,Z x1,Z x2,Z x3] p:=⟨lold hx,lold hp,World.alloc_heap_new w _,(Below.refl w.heap.size w).alloc (Nat.le_refl _) _⟩
 have HV:Shut _:=⟨hv⟩
 have CZ:Shut _:=⟨hZ⟩
 have CL:Shut _:=⟨hL⟩
 have CH:Shut _:=⟨hH⟩
 have CA:Shut _:=⟨hA⟩
 have C1:Shut _:=⟨hM1⟩
 have C2:Shut _:=⟨hM2⟩
 have HUN:Shut _:=⟨hun⟩
 have HH3:Shut _:=⟨hh3⟩
 clear hx hp hv hZ hL hH hA hM1 hM2 hun hh3
 go_enter Tryz.func158, Tryz.ntmps158
 have cp:=lcell h_W0.p 0 (v:=.int .i64 p) rfl
 cases hpk:pok with
 | false =>
  have hbad:¬(0≤p∧p≤30):=fun h=>by rw [hpok.2 h] at hpk;cases hpk
  have hr:=refuse_yes a (w.alloc (O #[Z ⟨#[]⟩,Z ⟨#[]⟩,Z ⟨#[]⟩,Z ⟨#[]⟩] 55)) (HV.o.keep h_W0.u)
  by_cases hp0:p<0
  ·go_wp2_with fail
   refine hr.mono ?_
   rintro e w' ⟨rfl,rfl⟩
   dsimp +zetaDelta only [Exit.then,Exit.inBlock]
   exact ⟨rfl,by rw [if_neg (fun h=>by cases h.1)],h_W0.u⟩
  ·have hp1:30<p:=by omega
   go_wp2_with fail
   refine hr.mono ?_
   rintro e w' ⟨rfl,rfl⟩
   dsimp +zetaDelta only [Exit.then,Exit.inBlock]
   exact ⟨rfl,by rw [if_neg (fun h=>by cases h.1)],h_W0.u⟩
 | true =>
 obtain ⟨hp0,hp1⟩:=hpok.1 hpk
 have hp2:¬ p<0:=by omega
 have hp3:¬ 30<p:=by omega
 have hr:=refuse_no (w.alloc (O #[Z ⟨#[]⟩,Z ⟨#[]⟩,Z ⟨#[]⟩,Z ⟨#[]⟩] 55))
 go_wp2_with fail
 refine hr.mono ?_
 rintro e w' ⟨rfl,rfl⟩
 clear hr
 have qz:=CZ.o hpk
 go_wp2_with fail
 refine (qz _).mono ?_
 rintro e v1 ⟨rfl,g⟩
 have h_1:=h_W0.below g
 clear g qz cp h_W0
 have cx0:=lcell h_1.x 0 (v:=Z x0) rfl
 have cx1:=lcell h_1.x 1 (v:=Z x1) rfl
 have cx2:=lcell h_1.x 2 (v:=Z x2) rfl
 have cx3:=lcell h_1.x 3 (v:=Z x3) rfl
 have hcs:¬((⟨#[49]⟩:ByteArray).size+zs.size > 9223372036854775807):=by show ¬(1+zs.size > _);omega
 have hcs2:¬(9223372036854775807<(⟨#[49]⟩:ByteArray).size+zs.size):=hcs
 have hun:=HUN.o
 have q:=CL.o hpk _ (HV.o.keep h_1.u)
 go_wp2_with fail
 refine q.mono ?_
 rintro e v2 ⟨rfl,g⟩
 have h_2:=h_1.below g
 clear g q cx0 cx1 cx2 cx3
 cases hbl:bl with
 | true =>
  rw [if_neg (by decide)]
  dsimp +zetaDelta only [Exit.then,Exit.inBlock]
  exact ⟨rfl,by rw [if_neg (fun h=>absurd (hbl.symm.trans h.2.1) (by decide))],h_2.u⟩
 | false =>
 rw [if_pos rfl]
 dsimp only
 have cx0:=lcell h_2.x 0 (v:=Z x0) rfl
 have cx1:=lcell h_2.x 1 (v:=Z x1) rfl
 have cx2:=lcell h_2.x 2 (v:=Z x2) rfl
 have cx3:=lcell h_2.x 3 (v:=Z x3) rfl
 have q:=CH.o hpk _ (HV.o.keep h_2.u)
 go_wp2_with fail
 refine q.mono ?_
 rintro e v3 ⟨rfl,g⟩
 have h_3:=h_2.below g
 clear g q cx0 cx1 cx2 cx3
 cases hbh:bh with
 | true =>
  rw [if_neg (by decide)]
  dsimp +zetaDelta only [Exit.then,Exit.inBlock]
  exact ⟨rfl,by rw [if_neg (fun h=>absurd (hbh.symm.trans h.2.2) (by decide))],h_3.u⟩
 | false =>
 rw [if_pos rfl]
 dsimp only
 clear hcs hcs2
 have q1:=C1.o hpk hbl hbh
 have q2:=C2.o hpk hbl hbh
 have hall:pok=true∧bl=false∧bh=false:=⟨hpk,hbl,hbh⟩
 have hhx:=HH3.o
 cases hexh:exh with
 | false =>
  have qA:=CA.o hpk hbl hbh hexh
  rw [hexh,if_neg (by decide)] at hhx
  subst hhx
  go_wp2_with fail
  refine (qA _).mono ?_
  rintro e v4 ⟨rfl,g⟩
  have h_4:=h_3.below g
  clear g qA
  have cM:=mustS_ok h2 v4
  go_wp2_with fail
  refine cM.mono ?_
  rintro e v5 ⟨rfl,g⟩
  have h_5:=h_4.below g
  clear g cM h_4 h_3
  go_wp2_with fail
  refine (q1 _).mono ?_
  rintro e v6 ⟨rfl,g⟩
  have h_6:=h_5.below g
  clear g
  have cM:=must_ok n1 d1 v6
  go_wp2_with fail
  refine cM.mono ?_
  rintro e v7 ⟨rfl,g⟩
  have h_7:=h_6.below g
  clear g cM
  go_wp2_with fail
  refine (q2 _).mono ?_
  rintro e v8 ⟨rfl,g⟩
  have h_8:=h_7.below g
  clear g
  have cM:=must_ok n2 d2 v8
  go_wp2_with fail
  refine cM.mono ?_
  rintro e v9 ⟨rfl,g⟩
  have h_9:=h_8.below g
  clear g cM
  have s_r:=box4_set (x:=Z n1) (y:=Z d1) (z:=Z n2) (t:=Z d2) h_9.r
  have z0:=lcell s_r 0 (v:=Z n1) rfl
  have z1:=lcell s_r 1 (v:=Z d1) rfl
  have z2:=lcell s_r 2 (v:=Z n2) rfl
  have z3:=lcell s_r 3 (v:=Z d2) rfl
  have k0:=lcell h_9.r 0 (v:=Z ⟨#[]⟩) rfl
  have f0:=lfree h_9.r 0
  have k1:=lcell h_9.r 1 (v:=Z ⟨#[]⟩) rfl
  have f1:=lfree h_9.r 1
  have k2:=lcell h_9.r 2 (v:=Z ⟨#[]⟩) rfl
  have f2:=lfree h_9.r 2
  have k3:=lcell h_9.r 3 (v:=Z ⟨#[]⟩) rfl
  have f3:=lfree h_9.r 3
  have hb:∀ i,w.heap.size≤(⟨w.heap.size,i,none⟩:Addr).block:=fun _=>Nat.le_refl _
  go_wp2_with fail
  exact bodyPost_ret (v:=.agg #[Z n1,Z d1,Z n2,Z d2]) (by simp [results,Tryz.results158, go_sem,z0,z1,z2,z3]) rfl ⟨by first | rfl | rw [if_pos hall],(((h_9.u.setCell (hb 0) _).setCell (hb 1) _).setCell (hb 2) _).setCell (hb 3) _⟩
 | true =>
  rw [hexh,if_pos rfl] at hhx
  subst hhx
  go_wp2_with fail
  refine (q1 _).mono ?_
  rintro e v6 ⟨rfl,g⟩
  have h_6:=h_3.below g
  clear g
  have cM:=must_ok n1 d1 v6
  go_wp2_with fail
  refine cM.mono ?_
  rintro e v7 ⟨rfl,g⟩
  have h_7:=h_6.below g
  clear g cM
  go_wp2_with fail
  refine (q2 _).mono ?_
  rintro e v8 ⟨rfl,g⟩
  have h_8:=h_7.below g
  clear g
  have cM:=must_ok n2 d2 v8
  go_wp2_with fail
  refine cM.mono ?_
  rintro e v9 ⟨rfl,g⟩
  have h_9:=h_8.below g
  clear g cM
  have s_r:=box4_set (x:=Z n1) (y:=Z d1) (z:=Z n2) (t:=Z d2) h_9.r
  have z0:=lcell s_r 0 (v:=Z n1) rfl
  have z1:=lcell s_r 1 (v:=Z d1) rfl
  have z2:=lcell s_r 2 (v:=Z n2) rfl
  have z3:=lcell s_r 3 (v:=Z d2) rfl
  have k0:=lcell h_9.r 0 (v:=Z ⟨#[]⟩) rfl
  have f0:=lfree h_9.r 0
  have k1:=lcell h_9.r 1 (v:=Z ⟨#[]⟩) rfl
  have f1:=lfree h_9.r 1
  have k2:=lcell h_9.r 2 (v:=Z ⟨#[]⟩) rfl
  have f2:=lfree h_9.r 2
  have k3:=lcell h_9.r 3 (v:=Z ⟨#[]⟩) rfl
  have f3:=lfree h_9.r 3
  have hb:∀ i,w.heap.size≤(⟨w.heap.size,i,none⟩:Addr).block:=fun _=>Nat.le_refl _
  go_wp2_with fail
  exact bodyPost_ret (v:=.agg #[Z n1,Z d1,Z n2,Z d2]) (by simp [results,Tryz.results158, go_sem,z0,z1,z2,z3]) rfl ⟨by first | rfl | rw [if_pos hall],(((h_9.u.setCell (hb 0) _).setCell (hb 1) _).setCell (hb 2) _).setCell (hb 3) _⟩
end En
end
end Go.Proofs.YtihlgifojjeoaaaGreatDoor
