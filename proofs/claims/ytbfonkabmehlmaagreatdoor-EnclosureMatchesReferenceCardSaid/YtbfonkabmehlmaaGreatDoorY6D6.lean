/-
  The reference of package enclosure: Hull, Meet, Width, Round.
-/
import Derived.Test.YtbfonkabmehlmaaGreatDoorY6D5
set_option maxRecDepth 1000000
set_option maxHeartbeats 40000000
open Go.Value renaming string→Z
open Go.Obj renaming cells→O
namespace Go.Proofs.YtbfonkabmehlmaaGreatDoor
namespace En
open Go.RowKit Go.Extern.Stop Go.Stop Go.Extern
open Go.Proofs.YtbfonkabmehlmaaGreatDoor.Nm Go.Proofs.YtbfonkabmehlmaaGreatDoor.Rt
open N10 (Two)
theorem HullS_no (x0 x1 x2 x3 y0 y1 y2 y3:ByteArray) (hB:Ret 108 #[.agg #[Z x0,Z x1,Z x2,Z x3],.agg #[Z y0,Z y1,Z y2,Z y3]] (.bool false)):Ret 59 #[.agg #[Z x0,Z x1,Z x2,Z x3],.agg #[Z y0,Z y1,Z y2,Z y3]] (.tuple #[.agg #[Z ⟨#[]⟩,Z ⟨#[]⟩,Z ⟨#[]⟩,Z ⟨#[]⟩],.int .i64 50]):=by
 intro w
 have C0:Shut _:=⟨hB⟩
 clear hB
 obtain ⟨n_x,n_y,n_r⟩:=news3 w (O #[Z x0,Z x1,Z x2,Z x3] 25) (O #[Z y0,Z y1,Z y2,Z y3] 25) (O #[Z ⟨#[]⟩,Z ⟨#[]⟩,Z ⟨#[]⟩,Z ⟨#[]⟩] 25)
 have u:=below3 w (O #[Z x0,Z x1,Z x2,Z x3] 25) (O #[Z y0,Z y1,Z y2,Z y3] 25) (O #[Z ⟨#[]⟩,Z ⟨#[]⟩,Z ⟨#[]⟩,Z ⟨#[]⟩] 25)
 go_enter Tryz.func59, Tryz.ntmps59
 have c_x0:=lcell n_x 0 (v:=Z x0) rfl
 have c_x1:=lcell n_x 1 (v:=Z x1) rfl
 have c_x2:=lcell n_x 2 (v:=Z x2) rfl
 have c_x3:=lcell n_x 3 (v:=Z x3) rfl
 have c_y0:=lcell n_y 0 (v:=Z y0) rfl
 have c_y1:=lcell n_y 1 (v:=Z y1) rfl
 have c_y2:=lcell n_y 2 (v:=Z y2) rfl
 have c_y3:=lcell n_y 3 (v:=Z y3) rfl
 go_wp2_with fail
 generalize (((w.alloc (O #[Z x0,Z x1,Z x2,Z x3] 25)).alloc (O #[Z y0,Z y1,Z y2,Z y3] 25)).alloc (O #[Z ⟨#[]⟩,Z ⟨#[]⟩,Z ⟨#[]⟩,Z ⟨#[]⟩] 25))=V0 at *
 refine (C0.o _).mono ?_
 rintro e v1 ⟨rfl,g⟩
 replace u:=u.trans (g.mono u.size)
 replace n_x:=lkeep n_x g
 replace n_y:=lkeep n_y g
 replace n_r:=lkeep n_r g
 clear c_x0 c_x1 c_x2 c_x3 c_y0 c_y1 c_y2 c_y3
 clear g
 have hb:∀ i,w.heap.size≤(⟨w.heap.size+1+1,i,none⟩:Addr).block:=fun _=>by show w.heap.size≤w.heap.size+1+1;omega
 have s_r:=box4_set (x:=Z ⟨#[]⟩) (y:=Z ⟨#[]⟩) (z:=Z ⟨#[]⟩) (t:=Z ⟨#[]⟩) n_r
 have k0:=lcell n_r 0 (v:=Z ⟨#[]⟩) rfl
 have f0:=lfree n_r 0
 have k1:=lcell n_r 1 (v:=Z ⟨#[]⟩) rfl
 have f1:=lfree n_r 1
 have k2:=lcell n_r 2 (v:=Z ⟨#[]⟩) rfl
 have f2:=lfree n_r 2
 have k3:=lcell n_r 3 (v:=Z ⟨#[]⟩) rfl
 have f3:=lfree n_r 3
 have z0:=lcell s_r 0 (v:=Z ⟨#[]⟩) rfl
 have z1:=lcell s_r 1 (v:=Z ⟨#[]⟩) rfl
 have z2:=lcell s_r 2 (v:=Z ⟨#[]⟩) rfl
 have z3:=lcell s_r 3 (v:=Z ⟨#[]⟩) rfl
 go_wp2_with fail
 exact bodyPost_ret (v:=.tuple #[.agg #[Z ⟨#[]⟩,Z ⟨#[]⟩,Z ⟨#[]⟩,Z ⟨#[]⟩],.int .i64 50]) (by simp [results,Tryz.results59, go_sem,z0,z1,z2,z3]) rfl ⟨rfl,((((u.setCell (hb 0) _).setCell (hb 1) _).setCell (hb 2) _).setCell (hb 3) _)⟩
theorem HullS (x0 x1 x2 x3 y0 y1 y2 y3:ByteArray) (l0 l1 g0 g1:ByteArray) (hB:Ret 108 #[.agg #[Z x0,Z x1,Z x2,Z x3],.agg #[Z y0,Z y1,Z y2,Z y3]] (.bool true)) (hL:Ret 51 #[.agg #[Z x0,Z x1],.agg #[Z y0,Z y1]] (.agg #[Z l0,Z l1])) (hH:Ret 52 #[.agg #[Z x2,Z x3],.agg #[Z y2,Z y3]] (.agg #[Z g0,Z g1])):Ret 59 #[.agg #[Z x0,Z x1,Z x2,Z x3],.agg #[Z y0,Z y1,Z y2,Z y3]] (.tuple #[.agg #[Z l0,Z l1,Z g0,Z g1],.int .i64 0]):=by
 intro w
 have C1:Shut _:=⟨hB⟩
 have C2:Shut _:=⟨hL⟩
 have C3:Shut _:=⟨hH⟩
 clear hB hL hH
 obtain ⟨n_x,n_y,n_r⟩:=news3 w (O #[Z x0,Z x1,Z x2,Z x3] 25) (O #[Z y0,Z y1,Z y2,Z y3] 25) (O #[Z ⟨#[]⟩,Z ⟨#[]⟩,Z ⟨#[]⟩,Z ⟨#[]⟩] 25)
 have u:=below3 w (O #[Z x0,Z x1,Z x2,Z x3] 25) (O #[Z y0,Z y1,Z y2,Z y3] 25) (O #[Z ⟨#[]⟩,Z ⟨#[]⟩,Z ⟨#[]⟩,Z ⟨#[]⟩] 25)
 go_enter Tryz.func59, Tryz.ntmps59
 have c_x0:=lcell n_x 0 (v:=Z x0) rfl
 have c_x1:=lcell n_x 1 (v:=Z x1) rfl
 have c_x2:=lcell n_x 2 (v:=Z x2) rfl
 have c_x3:=lcell n_x 3 (v:=Z x3) rfl
 have c_y0:=lcell n_y 0 (v:=Z y0) rfl
 have c_y1:=lcell n_y 1 (v:=Z y1) rfl
 have c_y2:=lcell n_y 2 (v:=Z y2) rfl
 have c_y3:=lcell n_y 3 (v:=Z y3) rfl
 go_wp2_with fail
 generalize (((w.alloc (O #[Z x0,Z x1,Z x2,Z x3] 25)).alloc (O #[Z y0,Z y1,Z y2,Z y3] 25)).alloc (O #[Z ⟨#[]⟩,Z ⟨#[]⟩,Z ⟨#[]⟩,Z ⟨#[]⟩] 25))=V0 at *
 refine (C1.o _).mono ?_
 rintro e v1 ⟨rfl,g⟩
 replace u:=u.trans (g.mono u.size)
 replace n_x:=lkeep n_x g
 replace n_y:=lkeep n_y g
 replace n_r:=lkeep n_r g
 clear c_x0 c_x1 c_x2 c_x3 c_y0 c_y1 c_y2 c_y3
 clear g
 go_upto_region 4 with fail
 have nxr:w.heap.size≠w.heap.size+1+1:=by omega
 have nyr:w.heap.size+1≠w.heap.size+1+1:=by omega
 go_region_held3 (fun X=>X.cell? ⟨w.heap.size,0,none⟩=some (Z x0)∧X.cell? ⟨w.heap.size,1,none⟩=some (Z x1)∧X.cell? ⟨w.heap.size,2,none⟩=some (Z x2)∧X.cell? ⟨w.heap.size,3,none⟩=some (Z x3)∧X.cell? ⟨w.heap.size+1,0,none⟩=some (Z y0)∧X.cell? ⟨w.heap.size+1,1,none⟩=some (Z y1)∧X.cell? ⟨w.heap.size+1,2,none⟩=some (Z y2)∧X.cell? ⟨w.heap.size+1,3,none⟩=some (Z y3)) (first | exact ⟨lcell n_x 0 (v:=Z x0) rfl,lcell n_x 1 (v:=Z x1) rfl,lcell n_x 2 (v:=Z x2) rfl,lcell n_x 3 (v:=Z x3) rfl,lcell n_y 0 (v:=Z y0) rfl,lcell n_y 1 (v:=Z y1) rfl,lcell n_y 2 (v:=Z y2) rfl,lcell n_y 3 (v:=Z y3) rfl⟩ | exact ⟨lcell (lset4 n_x nxr _ _ _ _) 0 (v:=Z x0) rfl,lcell (lset4 n_x nxr _ _ _ _) 1 (v:=Z x1) rfl,lcell (lset4 n_x nxr _ _ _ _) 2 (v:=Z x2) rfl,lcell (lset4 n_x nxr _ _ _ _) 3 (v:=Z x3) rfl,lcell (lset4 n_y nyr _ _ _ _) 0 (v:=Z y0) rfl,lcell (lset4 n_y nyr _ _ _ _) 1 (v:=Z y1) rfl,lcell (lset4 n_y nyr _ _ _ _) 2 (v:=Z y2) rfl,lcell (lset4 n_y nyr _ _ _ _) 3 (v:=Z y3) rfl⟩) (first | (go_at_call 51; (with_reducible refine (Ret.run C2.o _).mono ?_);rintro e va ⟨rfl,g⟩;have g:Below v1.heap.size v1 va:=lundrew2 g;replace u:=u.trans (g.mono u.size);replace n_x:=lkeep n_x g;replace n_y:=lkeep n_y g;replace n_r:=lkeep n_r g;clear g;have k0:=lcell n_r 0 (v:=Z ⟨#[]⟩) rfl;have f0:=lfree n_r 0;have k1:=lcell n_r 1 (v:=Z ⟨#[]⟩) rfl;have f1:=lfree n_r 1;have k2:=lcell n_r 2 (v:=Z ⟨#[]⟩) rfl;have f2:=lfree n_r 2;have k3:=lcell n_r 3 (v:=Z ⟨#[]⟩) rfl;have f3:=lfree n_r 3;have m1:=0) | (go_at_call 52; have q_:=m1;clear q_;(with_reducible refine (Ret.run C3.o _).mono ?_);rintro e vb ⟨rfl,g⟩;have g:Below va.heap.size va vb:=g;replace u:=u.trans (g.mono u.size);replace n_x:=lkeep n_x g;replace n_y:=lkeep n_y g;replace n_r:=lkeep n_r g;clear g;have k0:=lcell n_r 0 (v:=Z ⟨#[]⟩) rfl;have f0:=lfree n_r 0;have k1:=lcell n_r 1 (v:=Z ⟨#[]⟩) rfl;have f1:=lfree n_r 1;have k2:=lcell n_r 2 (v:=Z ⟨#[]⟩) rfl;have f2:=lfree n_r 2;have k3:=lcell n_r 3 (v:=Z ⟨#[]⟩) rfl;have f3:=lfree n_r 3))
 have hb:∀ i,w.heap.size≤(⟨w.heap.size+1+1,i,none⟩:Addr).block:=fun _=>by show w.heap.size≤w.heap.size+1+1;omega
 have s_r:=box4_set (x:=Z l0) (y:=Z l1) (z:=Z g0) (t:=Z g1) n_r
 have z0:=lcell s_r 0 (v:=Z l0) rfl
 have z1:=lcell s_r 1 (v:=Z l1) rfl
 have z2:=lcell s_r 2 (v:=Z g0) rfl
 have z3:=lcell s_r 3 (v:=Z g1) rfl
 go_wp2_with fail
 exact bodyPost_ret (v:=.tuple #[.agg #[Z l0,Z l1,Z g0,Z g1],.int .i64 0]) (by simp [results,Tryz.results59, go_sem,z0,z1,z2,z3]) rfl ⟨rfl,(((u.setCell (hb 0) _).setCell (hb 1) _).setCell (hb 2) _).setCell (hb 3) _⟩
theorem WidthS_no (x0 x1 x2 x3:ByteArray) (s0 s1:ByteArray) (b:Bool) (e:Int) (hB:Ret 21 #[.agg #[Z x0,Z x1,Z x2,Z x3]] (.bool b)) (hS:Ret 11 #[.agg #[Z x2,Z x3],.agg #[Z x0,Z x1]] (.tuple #[.agg #[Z s0,Z s1],.int .i64 e])) (he:b=false∨(b=true∧e≠0)):Ret 19 #[.agg #[Z x0,Z x1,Z x2,Z x3]] (.tuple #[.agg #[Z ⟨#[]⟩,Z ⟨#[]⟩],.int .i64 50]):=by
 intro w
 have C1:Shut _:=⟨hB⟩
 have C2:Shut _:=⟨hS⟩
 clear hB hS
 obtain ⟨n_x,n_r⟩:=news2 w (O #[Z x0,Z x1,Z x2,Z x3] 25) (O #[Z ⟨#[]⟩,Z ⟨#[]⟩] 23)
 have u:=below2 w (O #[Z x0,Z x1,Z x2,Z x3] 25) (O #[Z ⟨#[]⟩,Z ⟨#[]⟩] 23)
 go_enter Tryz.func19, Tryz.ntmps19
 have c_x0:=lcell n_x 0 (v:=Z x0) rfl
 have c_x1:=lcell n_x 1 (v:=Z x1) rfl
 have c_x2:=lcell n_x 2 (v:=Z x2) rfl
 have c_x3:=lcell n_x 3 (v:=Z x3) rfl
 go_wp2_with fail
 generalize ((w.alloc (O #[Z x0,Z x1,Z x2,Z x3] 25)).alloc (O #[Z ⟨#[]⟩,Z ⟨#[]⟩] 23))=V0 at *
 refine (C1.o _).mono ?_
 rintro e v1 ⟨rfl,g⟩
 replace u:=u.trans (g.mono u.size)
 replace n_x:=lkeep n_x g
 replace n_r:=lkeep n_r g
 clear c_x0 c_x1 c_x2 c_x3
 clear g
 have c_x0:=lcell n_x 0 (v:=Z x0) rfl
 have c_x1:=lcell n_x 1 (v:=Z x1) rfl
 have c_x2:=lcell n_x 2 (v:=Z x2) rfl
 have c_x3:=lcell n_x 3 (v:=Z x3) rfl
 go_wp2_with fail
 refine (C2.o _).mono ?_
 rintro e v2 ⟨rfl,g⟩
 replace u:=u.trans (g.mono u.size)
 replace n_x:=lkeep n_x g
 replace n_r:=lkeep n_r g
 clear c_x0 c_x1 c_x2 c_x3
 clear g
 have g:=(Below.refl v2.heap.size v2).alloc (Nat.le_refl _) (O #[Z s0,Z s1] 23)
 have n_s:=World.alloc_heap_new v2 (O #[Z s0,Z s1] 23)
 replace u:=u.trans (g.mono u.size)
 replace n_x:=lkeep n_x g
 replace n_r:=lkeep n_r g
 clear g
 have c_s0:=lcell n_s 0 (v:=Z s0) rfl
 have c_s1:=lcell n_s 1 (v:=Z s1) rfl
 go_upto_region 3 with fail
 generalize v2.alloc (O #[Z s0,Z s1] 23)=V_s at *
 generalize v2.heap.size=b_s at *
 clear c_s0 c_s1
 rcases he with rfl | ⟨rfl,he⟩
 ·have hb:∀ i,w.heap.size≤(⟨w.heap.size+1,i,none⟩:Addr).block:=fun _=>by show w.heap.size≤w.heap.size+1;omega
  have s_r:=box2_setx (x:=Z ⟨#[]⟩) (y:=Z ⟨#[]⟩) n_r
  have k0:=lcell n_r 0 (v:=Z ⟨#[]⟩) rfl
  have f0:=lfree n_r 0
  have k1:=lcell n_r 1 (v:=Z ⟨#[]⟩) rfl
  have f1:=lfree n_r 1
  have z0:=lcell s_r 0 (v:=Z ⟨#[]⟩) rfl
  have z1:=lcell s_r 1 (v:=Z ⟨#[]⟩) rfl
  go_wp2_with fail
  exact bodyPost_ret (v:=.tuple #[.agg #[Z ⟨#[]⟩,Z ⟨#[]⟩],.int .i64 50]) (by simp [results,Tryz.results19, go_sem,z0,z1]) rfl ⟨rfl,((u.setCell (hb 0) _).setCell (hb 1) _)⟩
 ·have hb:∀ i,w.heap.size≤(⟨w.heap.size+1,i,none⟩:Addr).block:=fun _=>by show w.heap.size≤w.heap.size+1;omega
  have s_r:=box2_setx (x:=Z ⟨#[]⟩) (y:=Z ⟨#[]⟩) n_r
  have k0:=lcell n_r 0 (v:=Z ⟨#[]⟩) rfl
  have f0:=lfree n_r 0
  have k1:=lcell n_r 1 (v:=Z ⟨#[]⟩) rfl
  have f1:=lfree n_r 1
  have z0:=lcell s_r 0 (v:=Z ⟨#[]⟩) rfl
  have z1:=lcell s_r 1 (v:=Z ⟨#[]⟩) rfl
  go_wp2_with fail
  exact bodyPost_ret (v:=.tuple #[.agg #[Z ⟨#[]⟩,Z ⟨#[]⟩],.int .i64 50]) (by simp [results,Tryz.results19, go_sem,z0,z1]) rfl ⟨rfl,((u.setCell (hb 0) _).setCell (hb 1) _)⟩
theorem WidthS (x0 x1 x2 x3:ByteArray) (s0 s1:ByteArray) (hB:Ret 21 #[.agg #[Z x0,Z x1,Z x2,Z x3]] (.bool true)) (hS:Ret 11 #[.agg #[Z x2,Z x3],.agg #[Z x0,Z x1]] (.tuple #[.agg #[Z s0,Z s1],.int .i64 0])):Ret 19 #[.agg #[Z x0,Z x1,Z x2,Z x3]] (.tuple #[.agg #[Z s0,Z s1],.int .i64 0]):=by
 intro w
 have C1:Shut _:=⟨hB⟩
 have C2:Shut _:=⟨hS⟩
 clear hB hS
 obtain ⟨n_x,n_r⟩:=news2 w (O #[Z x0,Z x1,Z x2,Z x3] 25) (O #[Z ⟨#[]⟩,Z ⟨#[]⟩] 23)
 have u:=below2 w (O #[Z x0,Z x1,Z x2,Z x3] 25) (O #[Z ⟨#[]⟩,Z ⟨#[]⟩] 23)
 go_enter Tryz.func19, Tryz.ntmps19
 have c_x0:=lcell n_x 0 (v:=Z x0) rfl
 have c_x1:=lcell n_x 1 (v:=Z x1) rfl
 have c_x2:=lcell n_x 2 (v:=Z x2) rfl
 have c_x3:=lcell n_x 3 (v:=Z x3) rfl
 go_wp2_with fail
 generalize ((w.alloc (O #[Z x0,Z x1,Z x2,Z x3] 25)).alloc (O #[Z ⟨#[]⟩,Z ⟨#[]⟩] 23))=V0 at *
 refine (C1.o _).mono ?_
 rintro e v1 ⟨rfl,g⟩
 replace u:=u.trans (g.mono u.size)
 replace n_x:=lkeep n_x g
 replace n_r:=lkeep n_r g
 clear c_x0 c_x1 c_x2 c_x3
 clear g
 have c_x0:=lcell n_x 0 (v:=Z x0) rfl
 have c_x1:=lcell n_x 1 (v:=Z x1) rfl
 have c_x2:=lcell n_x 2 (v:=Z x2) rfl
 have c_x3:=lcell n_x 3 (v:=Z x3) rfl
 go_wp2_with fail
 refine (C2.o _).mono ?_
 rintro e v2 ⟨rfl,g⟩
 replace u:=u.trans (g.mono u.size)
 replace n_x:=lkeep n_x g
 replace n_r:=lkeep n_r g
 clear c_x0 c_x1 c_x2 c_x3
 clear g
 have g:=(Below.refl v2.heap.size v2).alloc (Nat.le_refl _) (O #[Z s0,Z s1] 23)
 have n_s:=World.alloc_heap_new v2 (O #[Z s0,Z s1] 23)
 replace u:=u.trans (g.mono u.size)
 replace n_x:=lkeep n_x g
 replace n_r:=lkeep n_r g
 clear g
 have c_s0:=lcell n_s 0 (v:=Z s0) rfl
 have c_s1:=lcell n_s 1 (v:=Z s1) rfl
 go_upto_region 3 with fail
 generalize v2.alloc (O #[Z s0,Z s1] 23)=V_s at *
 generalize v2.heap.size=b_s at *
 clear c_s0 c_s1
 have c_s0:=lcell n_s 0 (v:=Z s0) rfl
 have c_s1:=lcell n_s 1 (v:=Z s1) rfl
 have hb:∀ i,w.heap.size≤(⟨w.heap.size+1,i,none⟩:Addr).block:=fun _=>by show w.heap.size≤w.heap.size+1;omega
 have s_r:=box2_setx (x:=Z s0) (y:=Z s1) n_r
 have k0:=lcell n_r 0 (v:=Z ⟨#[]⟩) rfl
 have f0:=lfree n_r 0
 have k1:=lcell n_r 1 (v:=Z ⟨#[]⟩) rfl
 have f1:=lfree n_r 1
 have z0:=lcell s_r 0 (v:=Z s0) rfl
 have z1:=lcell s_r 1 (v:=Z s1) rfl
 go_wp2_with fail
 exact bodyPost_ret (v:=.tuple #[.agg #[Z s0,Z s1],.int .i64 0]) (by simp [results,Tryz.results19, go_sem,z0,z1]) rfl ⟨rfl,((u.setCell (hb 0) _).setCell (hb 1) _)⟩
theorem RoundS_no (x0 x1 x2 x3:ByteArray) (p:Int) (hB:Ret 21 #[.agg #[Z x0,Z x1,Z x2,Z x3]] (.bool false)):Ret 62 #[.agg #[Z x0,Z x1,Z x2,Z x3],.int .i64 p] (.tuple #[.agg #[Z ⟨#[]⟩,Z ⟨#[]⟩,Z ⟨#[]⟩,Z ⟨#[]⟩],.int .i64 50]):=by
 intro w
 have C1:Shut _:=⟨hB⟩
 clear hB
 obtain ⟨n_x,n_r⟩:=news2 w (O #[Z x0,Z x1,Z x2,Z x3] 25) (O #[Z ⟨#[]⟩,Z ⟨#[]⟩,Z ⟨#[]⟩,Z ⟨#[]⟩] 25)
 have u:=below2 w (O #[Z x0,Z x1,Z x2,Z x3] 25) (O #[Z ⟨#[]⟩,Z ⟨#[]⟩,Z ⟨#[]⟩,Z ⟨#[]⟩] 25)
 go_enter Tryz.func62, Tryz.ntmps62
 have c_x0:=lcell n_x 0 (v:=Z x0) rfl
 have c_x1:=lcell n_x 1 (v:=Z x1) rfl
 have c_x2:=lcell n_x 2 (v:=Z x2) rfl
 have c_x3:=lcell n_x 3 (v:=Z x3) rfl
 go_wp2_with fail
 generalize ((w.alloc (O #[Z x0,Z x1,Z x2,Z x3] 25)).alloc (O #[Z ⟨#[]⟩,Z ⟨#[]⟩,Z ⟨#[]⟩,Z ⟨#[]⟩] 25))=V0 at *
 refine (C1.o _).mono ?_
 rintro e v1 ⟨rfl,g⟩
 replace u:=u.trans (g.mono u.size)
 replace n_x:=lkeep n_x g
 replace n_r:=lkeep n_r g
 clear c_x0 c_x1 c_x2 c_x3
 clear g
 have hb:∀ i,w.heap.size≤(⟨w.heap.size+1,i,none⟩:Addr).block:=fun _=>by show w.heap.size≤w.heap.size+1;omega
 have s_r:=box4_set (x:=Z ⟨#[]⟩) (y:=Z ⟨#[]⟩) (z:=Z ⟨#[]⟩) (t:=Z ⟨#[]⟩) n_r
 have k0:=lcell n_r 0 (v:=Z ⟨#[]⟩) rfl
 have f0:=lfree n_r 0
 have k1:=lcell n_r 1 (v:=Z ⟨#[]⟩) rfl
 have f1:=lfree n_r 1
 have k2:=lcell n_r 2 (v:=Z ⟨#[]⟩) rfl
 have f2:=lfree n_r 2
 have k3:=lcell n_r 3 (v:=Z ⟨#[]⟩) rfl
 have f3:=lfree n_r 3
 have z0:=lcell s_r 0 (v:=Z ⟨#[]⟩) rfl
 have z1:=lcell s_r 1 (v:=Z ⟨#[]⟩) rfl
 have z2:=lcell s_r 2 (v:=Z ⟨#[]⟩) rfl
 have z3:=lcell s_r 3 (v:=Z ⟨#[]⟩) rfl
 go_wp2_with fail
 exact bodyPost_ret (v:=.tuple #[.agg #[Z ⟨#[]⟩,Z ⟨#[]⟩,Z ⟨#[]⟩,Z ⟨#[]⟩],.int .i64 50]) (by simp [results,Tryz.results62, go_sem,z0,z1,z2,z3]) rfl ⟨rfl,((((u.setCell (hb 0) _).setCell (hb 1) _).setCell (hb 2) _).setCell (hb 3) _)⟩
theorem RoundS (x0 x1 x2 x3:ByteArray) (l0 l1 g0 g1 m0 m1 m2 m3:ByteArray) (p e f c:Int) (hB:Ret 21 #[.agg #[Z x0,Z x1,Z x2,Z x3]] (.bool true)) (hL:Ret 114 #[.agg #[Z x0,Z x1],.int .i64 p] (.tuple #[.agg #[Z l0,Z l1],.int .i64 e])) (hH:Ret 115 #[.agg #[Z x2,Z x3],.int .i64 p] (.tuple #[.agg #[Z g0,Z g1],.int .i64 f])) (hR:Ret 109 #[.agg #[Z l0,Z l1],.int .i64 e,.agg #[Z g0,Z g1],.int .i64 f] (.tuple #[.agg #[Z m0,Z m1,Z m2,Z m3],.int .i64 c])):Ret 62 #[.agg #[Z x0,Z x1,Z x2,Z x3],.int .i64 p] (.tuple #[.agg #[Z m0,Z m1,Z m2,Z m3],.int .i64 c]):=by
 intro w
 have C1:Shut _:=⟨hB⟩
 have C2:Shut _:=⟨hL⟩
 have C3:Shut _:=⟨hH⟩
 have C4:Shut _:=⟨hR⟩
 clear hB hL hH hR
 obtain ⟨n_x,n_r⟩:=news2 w (O #[Z x0,Z x1,Z x2,Z x3] 25) (O #[Z ⟨#[]⟩,Z ⟨#[]⟩,Z ⟨#[]⟩,Z ⟨#[]⟩] 25)
 have u:=below2 w (O #[Z x0,Z x1,Z x2,Z x3] 25) (O #[Z ⟨#[]⟩,Z ⟨#[]⟩,Z ⟨#[]⟩,Z ⟨#[]⟩] 25)
 go_enter Tryz.func62, Tryz.ntmps62
 have c_x0:=lcell n_x 0 (v:=Z x0) rfl
 have c_x1:=lcell n_x 1 (v:=Z x1) rfl
 have c_x2:=lcell n_x 2 (v:=Z x2) rfl
 have c_x3:=lcell n_x 3 (v:=Z x3) rfl
 go_wp2_with fail
 generalize ((w.alloc (O #[Z x0,Z x1,Z x2,Z x3] 25)).alloc (O #[Z ⟨#[]⟩,Z ⟨#[]⟩,Z ⟨#[]⟩,Z ⟨#[]⟩] 25))=V0 at *
 refine (C1.o _).mono ?_
 rintro e v1 ⟨rfl,g⟩
 replace u:=u.trans (g.mono u.size)
 replace n_x:=lkeep n_x g
 replace n_r:=lkeep n_r g
 clear c_x0 c_x1 c_x2 c_x3
 clear g
 have c_x0:=lcell n_x 0 (v:=Z x0) rfl
 have c_x1:=lcell n_x 1 (v:=Z x1) rfl
 have c_x2:=lcell n_x 2 (v:=Z x2) rfl
 have c_x3:=lcell n_x 3 (v:=Z x3) rfl
 go_wp2_with fail
 refine (C2.o _).mono ?_
 rintro e v2 ⟨rfl,g⟩
 replace u:=u.trans (g.mono u.size)
 replace n_x:=lkeep n_x g
 replace n_r:=lkeep n_r g
 clear c_x0 c_x1 c_x2 c_x3
 clear g
 have g:=(Below.refl v2.heap.size v2).alloc (Nat.le_refl _) (O #[Z l0,Z l1] 23)
 have n_l:=World.alloc_heap_new v2 (O #[Z l0,Z l1] 23)
 replace u:=u.trans (g.mono u.size)
 replace n_x:=lkeep n_x g
 replace n_r:=lkeep n_r g
 clear g
 have c_x0:=lcell n_x 0 (v:=Z x0) rfl
 have c_x1:=lcell n_x 1 (v:=Z x1) rfl
 have c_x2:=lcell n_x 2 (v:=Z x2) rfl
 have c_x3:=lcell n_x 3 (v:=Z x3) rfl
 go_wp2_with fail
 generalize v2.alloc (O #[Z l0,Z l1] 23)=V_l at *
 generalize v2.heap.size=b_l at *
 refine (C3.o _).mono ?_
 rintro e v3 ⟨rfl,g⟩
 replace u:=u.trans (g.mono u.size)
 replace n_x:=lkeep n_x g
 replace n_r:=lkeep n_r g
 replace n_l:=lkeep n_l g
 clear c_x0 c_x1 c_x2 c_x3
 clear g
 have g:=(Below.refl v3.heap.size v3).alloc (Nat.le_refl _) (O #[Z g0,Z g1] 23)
 have n_g:=World.alloc_heap_new v3 (O #[Z g0,Z g1] 23)
 replace u:=u.trans (g.mono u.size)
 replace n_x:=lkeep n_x g
 replace n_r:=lkeep n_r g
 replace n_l:=lkeep n_l g
 clear g
 have c_l0:=lcell n_l 0 (v:=Z l0) rfl
 have c_l1:=lcell n_l 1 (v:=Z l1) rfl
 have c_g0:=lcell n_g 0 (v:=Z g0) rfl
 have c_g1:=lcell n_g 1 (v:=Z g1) rfl
 go_wp2_with fail
 generalize v3.alloc (O #[Z g0,Z g1] 23)=V_g at *
 generalize v3.heap.size=b_g at *
 refine (C4.o _).mono ?_
 rintro e v4 ⟨rfl,g⟩
 replace u:=u.trans (g.mono u.size)
 replace n_x:=lkeep n_x g
 replace n_r:=lkeep n_r g
 replace n_l:=lkeep n_l g
 replace n_g:=lkeep n_g g
 clear c_l0 c_l1 c_g0 c_g1
 clear g
 have hb:∀ i,w.heap.size≤(⟨w.heap.size+1,i,none⟩:Addr).block:=fun _=>by show w.heap.size≤w.heap.size+1;omega
 have s_r:=box4_set (x:=Z m0) (y:=Z m1) (z:=Z m2) (t:=Z m3) n_r
 have k0:=lcell n_r 0 (v:=Z ⟨#[]⟩) rfl
 have f0:=lfree n_r 0
 have k1:=lcell n_r 1 (v:=Z ⟨#[]⟩) rfl
 have f1:=lfree n_r 1
 have k2:=lcell n_r 2 (v:=Z ⟨#[]⟩) rfl
 have f2:=lfree n_r 2
 have k3:=lcell n_r 3 (v:=Z ⟨#[]⟩) rfl
 have f3:=lfree n_r 3
 have z0:=lcell s_r 0 (v:=Z m0) rfl
 have z1:=lcell s_r 1 (v:=Z m1) rfl
 have z2:=lcell s_r 2 (v:=Z m2) rfl
 have z3:=lcell s_r 3 (v:=Z m3) rfl
 go_wp2_with fail
 exact bodyPost_ret (v:=.tuple #[.agg #[Z m0,Z m1,Z m2,Z m3],.int .i64 c]) (by simp [results,Tryz.results62, go_sem,z0,z1,z2,z3]) rfl ⟨rfl,((((u.setCell (hb 0) _).setCell (hb 1) _).setCell (hb 2) _).setCell (hb 3) _)⟩
end En
end Go.Proofs.YtbfonkabmehlmaaGreatDoor
