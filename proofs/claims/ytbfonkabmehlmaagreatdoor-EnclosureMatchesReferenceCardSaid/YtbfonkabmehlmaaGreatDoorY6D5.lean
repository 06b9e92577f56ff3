/-
  The reference of package enclosure: Valid, Point, Contains, Within, both, result.
-/
import Derived.Test.YtbfonkabmehlmaaGreatDoorY6C6
import Derived.Test.YtbfonkabmehlmaaGreatDoorY6C8
import Derived.Test.YtbfonkabmehlmaaGreatDoorY6C7
set_option maxRecDepth 1000000
set_option maxHeartbeats 40000000
open Go.Value renaming string→Z
open Go.Obj renaming cells→O
namespace Go.Proofs.YtbfonkabmehlmaaGreatDoor
section
namespace En
open Go.RowKit Go.Extern.Stop Go.Stop Go.Extern
open Go.Proofs.YtbfonkabmehlmaaGreatDoor.Nm Go.Proofs.YtbfonkabmehlmaaGreatDoor.Rt
open N10 (Two)
theorem ValidS (x0 x1 x2 x3:ByteArray) (b1 b2:Bool) (k:Int) (hV1:Ret 13 #[.agg #[Z x0,Z x1]] (.bool b1)) (hV2:Ret 13 #[.agg #[Z x2,Z x3]] (.bool b2)) (hC:b1=true→b2=true→Ret 67 #[.agg #[Z x0,Z x1],.agg #[Z x2,Z x3]] (.int .i64 k)):Ret 21 #[.agg #[Z x0,Z x1,Z x2,Z x3]] (.bool (b1 && (b2 && decide (k≤0)))):=by
 intro w
 have C1:Shut _:=⟨hV1⟩
 have C2:Shut _:=⟨hV2⟩
 have C3:Shut _:=⟨hC⟩
 clear hV1 hV2 hC
 have n_x:=World.alloc_heap_new w (O #[Z x0,Z x1,Z x2,Z x3] 25)
 have u:=(Below.refl w.heap.size w).alloc (Nat.le_refl _) (O #[Z x0,Z x1,Z x2,Z x3] 25)
 go_enter Tryz.func21, Tryz.ntmps21
 have c_x0:=lcell n_x 0 (v:=Z x0) rfl
 have c_x1:=lcell n_x 1 (v:=Z x1) rfl
 have c_x2:=lcell n_x 2 (v:=Z x2) rfl
 have c_x3:=lcell n_x 3 (v:=Z x3) rfl
 go_wp2_with fail
 generalize (w.alloc (O #[Z x0,Z x1,Z x2,Z x3] 25))=V0 at *
 refine (C1.o _).mono ?_
 rintro e v1 ⟨rfl,g⟩
 replace u:=u.trans (g.mono u.size)
 replace n_x:=lkeep n_x g
 clear c_x0 c_x1 c_x2 c_x3
 clear g
 have c_x0:=lcell n_x 0 (v:=Z x0) rfl
 have c_x1:=lcell n_x 1 (v:=Z x1) rfl
 have c_x2:=lcell n_x 2 (v:=Z x2) rfl
 have c_x3:=lcell n_x 3 (v:=Z x3) rfl
 go_wp2_with fail
 refine (C2.o _).mono ?_
 rintro e v2 ⟨rfl,g⟩
 replace u:=u.trans (g.mono u.size)
 replace n_x:=lkeep n_x g
 clear c_x0 c_x1 c_x2 c_x3
 clear g
 cases b1 with
 | false=>go_wp2_with fail;go_ret;exact ⟨rfl,u⟩
 | true =>
  cases b2 with
  | false=>go_wp2_with fail;go_ret;exact ⟨rfl,u⟩
  | true =>
   have c_x0:=lcell n_x 0 (v:=Z x0) rfl
   have c_x1:=lcell n_x 1 (v:=Z x1) rfl
   have c_x2:=lcell n_x 2 (v:=Z x2) rfl
   have c_x3:=lcell n_x 3 (v:=Z x3) rfl
   go_wp2_with fail
   refine (C3.o (by first | trivial | rfl) (by first | trivial | rfl) _).mono ?_
   rintro e v3 ⟨rfl,g⟩
   replace u:=u.trans (g.mono u.size)
   replace n_x:=lkeep n_x g
   clear c_x0 c_x1 c_x2 c_x3
   clear g
   go_wp2_with fail
   go_ret
   exact ⟨rfl,u⟩
theorem PointS_no (r0 r1:ByteArray) (hV:Ret 13 #[.agg #[Z r0,Z r1]] (.bool false)):Ret 23 #[.agg #[Z r0,Z r1]] (.agg #[Z ⟨#[]⟩,Z ⟨#[]⟩,Z ⟨#[]⟩,Z ⟨#[]⟩]):=by
 intro w
 have C1:Shut _:=⟨hV⟩
 clear hV
 obtain ⟨n_x,n_r⟩:=news2 w (O #[Z r0,Z r1] 23) (O #[Z ⟨#[]⟩,Z ⟨#[]⟩,Z ⟨#[]⟩,Z ⟨#[]⟩] 25)
 have u:=below2 w (O #[Z r0,Z r1] 23) (O #[Z ⟨#[]⟩,Z ⟨#[]⟩,Z ⟨#[]⟩,Z ⟨#[]⟩] 25)
 go_enter Tryz.func23, Tryz.ntmps23
 have c_x0:=lcell n_x 0 (v:=Z r0) rfl
 have c_x1:=lcell n_x 1 (v:=Z r1) rfl
 go_wp2_with fail
 generalize ((w.alloc (O #[Z r0,Z r1] 23)).alloc (O #[Z ⟨#[]⟩,Z ⟨#[]⟩,Z ⟨#[]⟩,Z ⟨#[]⟩] 25))=V0 at *
 refine (C1.o _).mono ?_
 rintro e v1 ⟨rfl,g⟩
 replace u:=u.trans (g.mono u.size)
 replace n_x:=lkeep n_x g
 replace n_r:=lkeep n_r g
 clear c_x0 c_x1
 clear g
 have hb:∀ i,w.heap.size≤(⟨w.heap.size+1,i,none⟩:Addr).block:=fun _=>by show w.heap.size≤w.heap.size+1;omega
 have s_r:=box4_set (x:=Z ⟨#[]⟩) (y:=Z ⟨#[]⟩) (z:=Z ⟨#[]⟩) (t:=Z ⟨#[]⟩) n_r
 have k0:=lcell n_r 0 (v:=Z ⟨#[]⟩) rfl
 have f0:=lfree n_r 0
 have k1:=lcell n_r 1 (v:=Z ⟨#[]⟩) rfl
 have f1:=lfree n_r 1
 have k2:=lcell n_r 2 (v:=Z ⟨#[]⟩) rfl
 have f2:=lfree n_r 2
 have k3:=lcell n_r 3 (v:=Z ⟨#[]⟩) rfl
 have f3:=lfree n_r 3
 have z0:=lcell s_r 0 (v:=Z ⟨#[]⟩) rfl
 have z1:=lcell s_r 1 (v:=Z ⟨#[]⟩) rfl
 have z2:=lcell s_r 2 (v:=Z ⟨#[]⟩) rfl
 have z3:=lcell s_r 3 (v:=Z ⟨#[]⟩) rfl
 go_wp2_with fail
 exact bodyPost_ret (v:=.agg #[Z ⟨#[]⟩,Z ⟨#[]⟩,Z ⟨#[]⟩,Z ⟨#[]⟩]) (by simp [results,Tryz.results23, go_sem,z0,z1,z2,z3]) rfl ⟨rfl,((((u.setCell (hb 0) _).setCell (hb 1) _).setCell (hb 2) _).setCell (hb 3) _)⟩
theorem PointS_yes (r0 r1:ByteArray) (hV:Ret 13 #[.agg #[Z r0,Z r1]] (.bool true)):Ret 23 #[.agg #[Z r0,Z r1]] (.agg #[Z r0,Z r1,Z r0,Z r1]):=by
 intro w
 have C1:Shut _:=⟨hV⟩
 clear hV
 obtain ⟨n_x,n_r⟩:=news2 w (O #[Z r0,Z r1] 23) (O #[Z ⟨#[]⟩,Z ⟨#[]⟩,Z ⟨#[]⟩,Z ⟨#[]⟩] 25)
 have u:=below2 w (O #[Z r0,Z r1] 23) (O #[Z ⟨#[]⟩,Z ⟨#[]⟩,Z ⟨#[]⟩,Z ⟨#[]⟩] 25)
 go_enter Tryz.func23, Tryz.ntmps23
 have c_x0:=lcell n_x 0 (v:=Z r0) rfl
 have c_x1:=lcell n_x 1 (v:=Z r1) rfl
 go_wp2_with fail
 generalize ((w.alloc (O #[Z r0,Z r1] 23)).alloc (O #[Z ⟨#[]⟩,Z ⟨#[]⟩,Z ⟨#[]⟩,Z ⟨#[]⟩] 25))=V0 at *
 refine (C1.o _).mono ?_
 rintro e v1 ⟨rfl,g⟩
 replace u:=u.trans (g.mono u.size)
 replace n_x:=lkeep n_x g
 replace n_r:=lkeep n_r g
 clear c_x0 c_x1
 clear g
 have c_x0:=lcell n_x 0 (v:=Z r0) rfl
 have c_x1:=lcell n_x 1 (v:=Z r1) rfl
 have hb:∀ i,w.heap.size≤(⟨w.heap.size+1,i,none⟩:Addr).block:=fun _=>by show w.heap.size≤w.heap.size+1;omega
 have s_r:=box4_set (x:=Z r0) (y:=Z r1) (z:=Z r0) (t:=Z r1) n_r
 have k0:=lcell n_r 0 (v:=Z ⟨#[]⟩) rfl
 have f0:=lfree n_r 0
 have k1:=lcell n_r 1 (v:=Z ⟨#[]⟩) rfl
 have f1:=lfree n_r 1
 have k2:=lcell n_r 2 (v:=Z ⟨#[]⟩) rfl
 have f2:=lfree n_r 2
 have k3:=lcell n_r 3 (v:=Z ⟨#[]⟩) rfl
 have f3:=lfree n_r 3
 have z0:=lcell s_r 0 (v:=Z r0) rfl
 have z1:=lcell s_r 1 (v:=Z r1) rfl
 have z2:=lcell s_r 2 (v:=Z r0) rfl
 have z3:=lcell s_r 3 (v:=Z r1) rfl
 go_wp2_with fail
 exact bodyPost_ret (v:=.agg #[Z r0,Z r1,Z r0,Z r1]) (by simp [results,Tryz.results23, go_sem,z0,z1,z2,z3]) rfl ⟨rfl,((((u.setCell (hb 0) _).setCell (hb 1) _).setCell (hb 2) _).setCell (hb 3) _)⟩
theorem ContainsS (x0 x1 x2 x3:ByteArray) (r0 r1:ByteArray) (b1 b2:Bool) (k m:Int) (hV1:Ret 21 #[.agg #[Z x0,Z x1,Z x2,Z x3]] (.bool b1)) (hV2:Ret 13 #[.agg #[Z r0,Z r1]] (.bool b2)) (hA:b1=true→b2=true→Ret 67 #[.agg #[Z x0,Z x1],.agg #[Z r0,Z r1]] (.int .i64 k)) (hB:b1=true→b2=true→k≤0→Ret 67 #[.agg #[Z r0,Z r1],.agg #[Z x2,Z x3]] (.int .i64 m)):Ret 25 #[.agg #[Z x0,Z x1,Z x2,Z x3],.agg #[Z r0,Z r1]] (.bool (b1 && (b2 && (decide (k≤0) && decide (m≤0))))):=by
 intro w
 have C1:Shut _:=⟨hV1⟩
 have C2:Shut _:=⟨hV2⟩
 have C3:Shut _:=⟨hA⟩
 have C4:Shut _:=⟨hB⟩
 clear hV1 hV2 hA hB
 obtain ⟨n_x,n_r⟩:=news2 w (O #[Z x0,Z x1,Z x2,Z x3] 25) (O #[Z r0,Z r1] 23)
 have u:=below2 w (O #[Z x0,Z x1,Z x2,Z x3] 25) (O #[Z r0,Z r1] 23)
 go_enter Tryz.func25, Tryz.ntmps25
 have c_x0:=lcell n_x 0 (v:=Z x0) rfl
 have c_x1:=lcell n_x 1 (v:=Z x1) rfl
 have c_x2:=lcell n_x 2 (v:=Z x2) rfl
 have c_x3:=lcell n_x 3 (v:=Z x3) rfl
 have c_r0:=lcell n_r 0 (v:=Z r0) rfl
 have c_r1:=lcell n_r 1 (v:=Z r1) rfl
 go_wp2_with fail
 generalize ((w.alloc (O #[Z x0,Z x1,Z x2,Z x3] 25)).alloc (O #[Z r0,Z r1] 23))=V0 at *
 refine (C1.o _).mono ?_
 rintro e v1 ⟨rfl,g⟩
 replace u:=u.trans (g.mono u.size)
 replace n_x:=lkeep n_x g
 replace n_r:=lkeep n_r g
 clear c_x0 c_x1 c_x2 c_x3 c_r0 c_r1
 clear g
 have c_r0:=lcell n_r 0 (v:=Z r0) rfl
 have c_r1:=lcell n_r 1 (v:=Z r1) rfl
 go_wp2_with fail
 refine (C2.o _).mono ?_
 rintro e v2 ⟨rfl,g⟩
 replace u:=u.trans (g.mono u.size)
 replace n_x:=lkeep n_x g
 replace n_r:=lkeep n_r g
 clear c_r0 c_r1
 clear g
 cases b1 with
 | false=>go_wp2_with fail;go_ret;exact ⟨rfl,u⟩
 | true =>
  cases b2 with
  | false=>go_wp2_with fail;go_ret;exact ⟨rfl,u⟩
  | true =>
   have c_x0:=lcell n_x 0 (v:=Z x0) rfl
   have c_x1:=lcell n_x 1 (v:=Z x1) rfl
   have c_x2:=lcell n_x 2 (v:=Z x2) rfl
   have c_x3:=lcell n_x 3 (v:=Z x3) rfl
   have c_r0:=lcell n_r 0 (v:=Z r0) rfl
   have c_r1:=lcell n_r 1 (v:=Z r1) rfl
   go_wp2_with fail
   refine (C3.o (by first | trivial | rfl) (by first | trivial | rfl) _).mono ?_
   rintro e v3 ⟨rfl,g⟩
   replace u:=u.trans (g.mono u.size)
   replace n_x:=lkeep n_x g
   replace n_r:=lkeep n_r g
   clear c_x0 c_x1 c_x2 c_x3 c_r0 c_r1
   clear g
   by_cases hk:k≤0
   ·have c_x0:=lcell n_x 0 (v:=Z x0) rfl
    have c_x1:=lcell n_x 1 (v:=Z x1) rfl
    have c_x2:=lcell n_x 2 (v:=Z x2) rfl
    have c_x3:=lcell n_x 3 (v:=Z x3) rfl
    have c_r0:=lcell n_r 0 (v:=Z r0) rfl
    have c_r1:=lcell n_r 1 (v:=Z r1) rfl
    go_wp2_with fail
    refine (C4.o (by first | trivial | rfl) (by first | trivial | rfl) (by omega) _).mono ?_
    rintro e v4 ⟨rfl,g⟩
    replace u:=u.trans (g.mono u.size)
    replace n_x:=lkeep n_x g
    replace n_r:=lkeep n_r g
    clear c_x0 c_x1 c_x2 c_x3 c_r0 c_r1
    clear g
    go_wp2_with fail
    go_ret
    exact ⟨by rw [decide_eq_true (show k≤0 by omega)];rfl,u⟩
   ·go_wp2_with fail
    go_ret
    exact ⟨by rw [decide_eq_false (show ¬ k≤0 by omega)];rfl,u⟩
theorem WithinS (x0 x1 x2 x3 y0 y1 y2 y3:ByteArray) (b1 b2 b3:Bool) (hV1:Ret 21 #[.agg #[Z x0,Z x1,Z x2,Z x3]] (.bool b1)) (hA:Ret 25 #[.agg #[Z y0,Z y1,Z y2,Z y3],.agg #[Z x0,Z x1]] (.bool b2)) (hB:Ret 25 #[.agg #[Z y0,Z y1,Z y2,Z y3],.agg #[Z x2,Z x3]] (.bool b3)):Ret 27 #[.agg #[Z x0,Z x1,Z x2,Z x3],.agg #[Z y0,Z y1,Z y2,Z y3]] (.bool (b1 && (b2 && b3))):=by
 intro w
 have C1:Shut _:=⟨hV1⟩
 have C2:Shut _:=⟨hA⟩
 have C3:Shut _:=⟨hB⟩
 clear hV1 hA hB
 obtain ⟨n_x,n_y⟩:=news2 w (O #[Z x0,Z x1,Z x2,Z x3] 25) (O #[Z y0,Z y1,Z y2,Z y3] 25)
 have u:=below2 w (O #[Z x0,Z x1,Z x2,Z x3] 25) (O #[Z y0,Z y1,Z y2,Z y3] 25)
 go_enter Tryz.func27, Tryz.ntmps27
 have c_x0:=lcell n_x 0 (v:=Z x0) rfl
 have c_x1:=lcell n_x 1 (v:=Z x1) rfl
 have c_x2:=lcell n_x 2 (v:=Z x2) rfl
 have c_x3:=lcell n_x 3 (v:=Z x3) rfl
 have c_y0:=lcell n_y 0 (v:=Z y0) rfl
 have c_y1:=lcell n_y 1 (v:=Z y1) rfl
 have c_y2:=lcell n_y 2 (v:=Z y2) rfl
 have c_y3:=lcell n_y 3 (v:=Z y3) rfl
 go_wp2_with fail
 generalize ((w.alloc (O #[Z x0,Z x1,Z x2,Z x3] 25)).alloc (O #[Z y0,Z y1,Z y2,Z y3] 25))=V0 at *
 refine (C1.o _).mono ?_
 rintro e v1 ⟨rfl,g⟩
 replace u:=u.trans (g.mono u.size)
 replace n_x:=lkeep n_x g
 replace n_y:=lkeep n_y g
 clear c_x0 c_x1 c_x2 c_x3 c_y0 c_y1 c_y2 c_y3
 clear g
 have c_x0:=lcell n_x 0 (v:=Z x0) rfl
 have c_x1:=lcell n_x 1 (v:=Z x1) rfl
 have c_x2:=lcell n_x 2 (v:=Z x2) rfl
 have c_x3:=lcell n_x 3 (v:=Z x3) rfl
 have c_y0:=lcell n_y 0 (v:=Z y0) rfl
 have c_y1:=lcell n_y 1 (v:=Z y1) rfl
 have c_y2:=lcell n_y 2 (v:=Z y2) rfl
 have c_y3:=lcell n_y 3 (v:=Z y3) rfl
 go_wp2_with fail
 refine (C2.o _).mono ?_
 rintro e v2 ⟨rfl,g⟩
 replace u:=u.trans (g.mono u.size)
 replace n_x:=lkeep n_x g
 replace n_y:=lkeep n_y g
 clear c_x0 c_x1 c_x2 c_x3 c_y0 c_y1 c_y2 c_y3
 clear g
 have c_x0:=lcell n_x 0 (v:=Z x0) rfl
 have c_x1:=lcell n_x 1 (v:=Z x1) rfl
 have c_x2:=lcell n_x 2 (v:=Z x2) rfl
 have c_x3:=lcell n_x 3 (v:=Z x3) rfl
 have c_y0:=lcell n_y 0 (v:=Z y0) rfl
 have c_y1:=lcell n_y 1 (v:=Z y1) rfl
 have c_y2:=lcell n_y 2 (v:=Z y2) rfl
 have c_y3:=lcell n_y 3 (v:=Z y3) rfl
 go_wp2_with fail
 refine (C3.o _).mono ?_
 rintro e v3 ⟨rfl,g⟩
 replace u:=u.trans (g.mono u.size)
 replace n_x:=lkeep n_x g
 replace n_y:=lkeep n_y g
 clear c_x0 c_x1 c_x2 c_x3 c_y0 c_y1 c_y2 c_y3
 clear g
 cases b1 with
 | false=>go_wp2_with fail;go_ret;exact ⟨rfl,u⟩
 | true =>
  cases b2 with
  | false=>go_wp2_with fail;go_ret;exact ⟨rfl,u⟩
  | true =>
   cases b3 with
   | false=>go_wp2_with fail;go_ret;exact ⟨rfl,u⟩
   | true =>
    go_wp2_with fail
    go_ret
    exact ⟨rfl,u⟩
theorem bothS (x0 x1 x2 x3 y0 y1 y2 y3:ByteArray) (b1 b2:Bool) (hA:Ret 21 #[.agg #[Z x0,Z x1,Z x2,Z x3]] (.bool b1)) (hB:Ret 21 #[.agg #[Z y0,Z y1,Z y2,Z y3]] (.bool b2)):Ret 108 #[.agg #[Z x0,Z x1,Z x2,Z x3],.agg #[Z y0,Z y1,Z y2,Z y3]] (.bool (b1 && b2)):=by
 intro w
 have C1:Shut _:=⟨hA⟩
 have C2:Shut _:=⟨hB⟩
 clear hA hB
 obtain ⟨n_x,n_y⟩:=news2 w (O #[Z x0,Z x1,Z x2,Z x3] 25) (O #[Z y0,Z y1,Z y2,Z y3] 25)
 have u:=below2 w (O #[Z x0,Z x1,Z x2,Z x3] 25) (O #[Z y0,Z y1,Z y2,Z y3] 25)
 go_enter Tryz.func108, Tryz.ntmps108
 have c_x0:=lcell n_x 0 (v:=Z x0) rfl
 have c_x1:=lcell n_x 1 (v:=Z x1) rfl
 have c_x2:=lcell n_x 2 (v:=Z x2) rfl
 have c_x3:=lcell n_x 3 (v:=Z x3) rfl
 have c_y0:=lcell n_y 0 (v:=Z y0) rfl
 have c_y1:=lcell n_y 1 (v:=Z y1) rfl
 have c_y2:=lcell n_y 2 (v:=Z y2) rfl
 have c_y3:=lcell n_y 3 (v:=Z y3) rfl
 go_wp2_with fail
 generalize ((w.alloc (O #[Z x0,Z x1,Z x2,Z x3] 25)).alloc (O #[Z y0,Z y1,Z y2,Z y3] 25))=V0 at *
 refine (C1.o _).mono ?_
 rintro e v1 ⟨rfl,g⟩
 replace u:=u.trans (g.mono u.size)
 replace n_x:=lkeep n_x g
 replace n_y:=lkeep n_y g
 clear c_x0 c_x1 c_x2 c_x3 c_y0 c_y1 c_y2 c_y3
 clear g
 have c_y0:=lcell n_y 0 (v:=Z y0) rfl
 have c_y1:=lcell n_y 1 (v:=Z y1) rfl
 have c_y2:=lcell n_y 2 (v:=Z y2) rfl
 have c_y3:=lcell n_y 3 (v:=Z y3) rfl
 go_wp2_with fail
 refine (C2.o _).mono ?_
 rintro e v2 ⟨rfl,g⟩
 replace u:=u.trans (g.mono u.size)
 replace n_x:=lkeep n_x g
 replace n_y:=lkeep n_y g
 clear c_y0 c_y1 c_y2 c_y3
 clear g
 cases b1 with
 | false=>go_wp2_with fail;go_ret;exact ⟨rfl,u⟩
 | true =>
  cases b2 with
  | false=>go_wp2_with fail;go_ret;exact ⟨rfl,u⟩
  | true =>
   go_wp2_with fail
   go_ret
   exact ⟨rfl,u⟩
theorem resultS_ok (l0 l1 g0 g1:ByteArray):Ret 109 #[.agg #[Z l0,Z l1],.int .i64 0,.agg #[Z g0,Z g1],.int .i64 0] (.tuple #[.agg #[Z l0,Z l1,Z g0,Z g1],.int .i64 0]):=by
 intro w
 obtain ⟨n_l,n_g,n_r⟩:=news3 w (O #[Z l0,Z l1] 23) (O #[Z g0,Z g1] 23) (O #[Z ⟨#[]⟩,Z ⟨#[]⟩,Z ⟨#[]⟩,Z ⟨#[]⟩] 25)
 have u:=below3 w (O #[Z l0,Z l1] 23) (O #[Z g0,Z g1] 23) (O #[Z ⟨#[]⟩,Z ⟨#[]⟩,Z ⟨#[]⟩,Z ⟨#[]⟩] 25)
 go_enter Tryz.func109, Tryz.ntmps109
 have c_l0:=lcell n_l 0 (v:=Z l0) rfl
 have c_l1:=lcell n_l 1 (v:=Z l1) rfl
 have c_g0:=lcell n_g 0 (v:=Z g0) rfl
 have c_g1:=lcell n_g 1 (v:=Z g1) rfl
 have k0:=lcell n_r 0 (v:=Z ⟨#[]⟩) rfl
 have f0:=lfree n_r 0
 have k1:=lcell n_r 1 (v:=Z ⟨#[]⟩) rfl
 have f1:=lfree n_r 1
 have k2:=lcell n_r 2 (v:=Z ⟨#[]⟩) rfl
 have f2:=lfree n_r 2
 have k3:=lcell n_r 3 (v:=Z ⟨#[]⟩) rfl
 have f3:=lfree n_r 3
 go_wp2_with fail
 exact bodyPost_ret (v:=.tuple #[.agg #[Z l0,Z l1,Z g0,Z g1],.int .i64 0]) (by simp [results,Tryz.results109, go_sem]) rfl ⟨rfl,below3 _ _ _ _⟩
theorem resultS_bad (l0 l1 g0 g1:ByteArray) (e f:Int) (he:¬(e=0∧f=0)):Ret 109 #[.agg #[Z l0,Z l1],.int .i64 e,.agg #[Z g0,Z g1],.int .i64 f] (.tuple #[.agg #[Z ⟨#[]⟩,Z ⟨#[]⟩,Z ⟨#[]⟩,Z ⟨#[]⟩],.int .i64 50]):=by
 intro w
 have he2:e≠0∨(e=0∧f≠0):=by omega
 clear he
 rcases he2 with he | ⟨rfl,he⟩
 ·obtain ⟨n_l,n_g,n_r⟩:=news3 w (O #[Z l0,Z l1] 23) (O #[Z g0,Z g1] 23) (O #[Z ⟨#[]⟩,Z ⟨#[]⟩,Z ⟨#[]⟩,Z ⟨#[]⟩] 25)
  have u:=below3 w (O #[Z l0,Z l1] 23) (O #[Z g0,Z g1] 23) (O #[Z ⟨#[]⟩,Z ⟨#[]⟩,Z ⟨#[]⟩,Z ⟨#[]⟩] 25)
  go_enter Tryz.func109, Tryz.ntmps109
  have k0:=lcell n_r 0 (v:=Z ⟨#[]⟩) rfl
  have f0:=lfree n_r 0
  have k1:=lcell n_r 1 (v:=Z ⟨#[]⟩) rfl
  have f1:=lfree n_r 1
  have k2:=lcell n_r 2 (v:=Z ⟨#[]⟩) rfl
  have f2:=lfree n_r 2
  have k3:=lcell n_r 3 (v:=Z ⟨#[]⟩) rfl
  have f3:=lfree n_r 3
  go_wp2_with fail
  exact bodyPost_ret (v:=.tuple #[.agg #[Z ⟨#[]⟩,Z ⟨#[]⟩,Z ⟨#[]⟩,Z ⟨#[]⟩],.int .i64 50]) (by simp [results,Tryz.results109, go_sem]) rfl ⟨rfl,below3 _ _ _ _⟩
 ·obtain ⟨n_l,n_g,n_r⟩:=news3 w (O #[Z l0,Z l1] 23) (O #[Z g0,Z g1] 23) (O #[Z ⟨#[]⟩,Z ⟨#[]⟩,Z ⟨#[]⟩,Z ⟨#[]⟩] 25)
  have u:=below3 w (O #[Z l0,Z l1] 23) (O #[Z g0,Z g1] 23) (O #[Z ⟨#[]⟩,Z ⟨#[]⟩,Z ⟨#[]⟩,Z ⟨#[]⟩] 25)
  go_enter Tryz.func109, Tryz.ntmps109
  have k0:=lcell n_r 0 (v:=Z ⟨#[]⟩) rfl
  have f0:=lfree n_r 0
  have k1:=lcell n_r 1 (v:=Z ⟨#[]⟩) rfl
  have f1:=lfree n_r 1
  have k2:=lcell n_r 2 (v:=Z ⟨#[]⟩) rfl
  have f2:=lfree n_r 2
  have k3:=lcell n_r 3 (v:=Z ⟨#[]⟩) rfl
  have f3:=lfree n_r 3
  go_wp2_with fail
  exact bodyPost_ret (v:=.tuple #[.agg #[Z ⟨#[]⟩,Z ⟨#[]⟩,Z ⟨#[]⟩,Z ⟨#[]⟩],.int .i64 50]) (by simp [results,Tryz.results109, go_sem]) rfl ⟨rfl,below3 _ _ _ _⟩
end En
end
section
namespace En
open Go.RowKit Go.Extern.Stop Go.Stop Go.Extern
open Go.Proofs.YtbfonkabmehlmaaGreatDoor.Nm Go.Proofs.YtbfonkabmehlmaaGreatDoor.Rt
open N10 (Two)
theorem AddS_no (x0 x1 x2 x3 y0 y1 y2 y3:ByteArray) (hB:Ret 108 #[.agg #[Z x0,Z x1,Z x2,Z x3],.agg #[Z y0,Z y1,Z y2,Z y3]] (.bool false)):Ret 55 #[.agg #[Z x0,Z x1,Z x2,Z x3],.agg #[Z y0,Z y1,Z y2,Z y3]] (.tuple #[.agg #[Z ⟨#[]⟩,Z ⟨#[]⟩,Z ⟨#[]⟩,Z ⟨#[]⟩],.int .i64 50]):=by
 intro w
 have C0:Shut _:=⟨hB⟩
 clear hB
 obtain ⟨n_x,n_y,n_r⟩:=news3 w (O #[Z x0,Z x1,Z x2,Z x3] 25) (O #[Z y0,Z y1,Z y2,Z y3] 25) (O #[Z ⟨#[]⟩,Z ⟨#[]⟩,Z ⟨#[]⟩,Z ⟨#[]⟩] 25)
 have u:=below3 w (O #[Z x0,Z x1,Z x2,Z x3] 25) (O #[Z y0,Z y1,Z y2,Z y3] 25) (O #[Z ⟨#[]⟩,Z ⟨#[]⟩,Z ⟨#[]⟩,Z ⟨#[]⟩] 25)
 go_enter Tryz.func55, Tryz.ntmps55
 have c_x0:=lcell n_x 0 (v:=Z x0) rfl
 have c_x1:=lcell n_x 1 (v:=Z x1) rfl
 have c_x2:=lcell n_x 2 (v:=Z x2) rfl
 have c_x3:=lcell n_x 3 (v:=Z x3) rfl
 have c_y0:=lcell n_y 0 (v:=Z y0) rfl
 have c_y1:=lcell n_y 1 (v:=Z y1) rfl
 have c_y2:=lcell n_y 2 (v:=Z y2) rfl
 have c_y3:=lcell n_y 3 (v:=Z y3) rfl
 go_wp2_with fail
 generalize (((w.alloc (O #[Z x0,Z x1,Z x2,Z x3] 25)).alloc (O #[Z y0,Z y1,Z y2,Z y3] 25)).alloc (O #[Z ⟨#[]⟩,Z ⟨#[]⟩,Z ⟨#[]⟩,Z ⟨#[]⟩] 25))=V0 at *
 refine (C0.o _).mono ?_
 rintro e v1 ⟨rfl,g⟩
 replace u:=u.trans (g.mono u.size)
 replace n_x:=lkeep n_x g
 replace n_y:=lkeep n_y g
 replace n_r:=lkeep n_r g
 clear c_x0 c_x1 c_x2 c_x3 c_y0 c_y1 c_y2 c_y3
 clear g
 have hb:∀ i,w.heap.size≤(⟨w.heap.size+1+1,i,none⟩:Addr).block:=fun _=>by show w.heap.size≤w.heap.size+1+1;omega
 have s_r:=box4_set (x:=Z ⟨#[]⟩) (y:=Z ⟨#[]⟩) (z:=Z ⟨#[]⟩) (t:=Z ⟨#[]⟩) n_r
 have k0:=lcell n_r 0 (v:=Z ⟨#[]⟩) rfl
 have f0:=lfree n_r 0
 have k1:=lcell n_r 1 (v:=Z ⟨#[]⟩) rfl
 have f1:=lfree n_r 1
 have k2:=lcell n_r 2 (v:=Z ⟨#[]⟩) rfl
 have f2:=lfree n_r 2
 have k3:=lcell n_r 3 (v:=Z ⟨#[]⟩) rfl
 have f3:=lfree n_r 3
 have z0:=lcell s_r 0 (v:=Z ⟨#[]⟩) rfl
 have z1:=lcell s_r 1 (v:=Z ⟨#[]⟩) rfl
 have z2:=lcell s_r 2 (v:=Z ⟨#[]⟩) rfl
 have z3:=lcell s_r 3 (v:=Z ⟨#[]⟩) rfl
 go_wp2_with fail
 exact bodyPost_ret (v:=.tuple #[.agg #[Z ⟨#[]⟩,Z ⟨#[]⟩,Z ⟨#[]⟩,Z ⟨#[]⟩],.int .i64 50]) (by simp [results,Tryz.results55, go_sem,z0,z1,z2,z3]) rfl ⟨rfl,((((u.setCell (hb 0) _).setCell (hb 1) _).setCell (hb 2) _).setCell (hb 3) _)⟩
theorem AddS (x0 x1 x2 x3 y0 y1 y2 y3:ByteArray) (l0 l1 g0 g1 m0 m1 m2 m3:ByteArray) (e f c:Int) (hB:Ret 108 #[.agg #[Z x0,Z x1,Z x2,Z x3],.agg #[Z y0,Z y1,Z y2,Z y3]] (.bool true)) (hL:Ret 80 #[.agg #[Z x0,Z x1],.agg #[Z y0,Z y1]] (.tuple #[.agg #[Z l0,Z l1],.int .i64 e])) (hH:Ret 80 #[.agg #[Z x2,Z x3],.agg #[Z y2,Z y3]] (.tuple #[.agg #[Z g0,Z g1],.int .i64 f])) (hR:Ret 109 #[.agg #[Z l0,Z l1],.int .i64 e,.agg #[Z g0,Z g1],.int .i64 f] (.tuple #[.agg #[Z m0,Z m1,Z m2,Z m3],.int .i64 c])):Ret 55 #[.agg #[Z x0,Z x1,Z x2,Z x3],.agg #[Z y0,Z y1,Z y2,Z y3]] (.tuple #[.agg #[Z m0,Z m1,Z m2,Z m3],.int .i64 c]):=by
 intro w
 have C1:Shut _:=⟨hB⟩
 have C2:Shut _:=⟨hL⟩
 have C3:Shut _:=⟨hH⟩
 have C4:Shut _:=⟨hR⟩
 clear hB hL hH hR
 obtain ⟨n_x,n_y,n_r⟩:=news3 w (O #[Z x0,Z x1,Z x2,Z x3] 25) (O #[Z y0,Z y1,Z y2,Z y3] 25) (O #[Z ⟨#[]⟩,Z ⟨#[]⟩,Z ⟨#[]⟩,Z ⟨#[]⟩] 25)
 have u:=below3 w (O #[Z x0,Z x1,Z x2,Z x3] 25) (O #[Z y0,Z y1,Z y2,Z y3] 25) (O #[Z ⟨#[]⟩,Z ⟨#[]⟩,Z ⟨#[]⟩,Z ⟨#[]⟩] 25)
 go_enter Tryz.func55, Tryz.ntmps55
 have c_x0:=lcell n_x 0 (v:=Z x0) rfl
 have c_x1:=lcell n_x 1 (v:=Z x1) rfl
 have c_x2:=lcell n_x 2 (v:=Z x2) rfl
 have c_x3:=lcell n_x 3 (v:=Z x3) rfl
 have c_y0:=lcell n_y 0 (v:=Z y0) rfl
 have c_y1:=lcell n_y 1 (v:=Z y1) rfl
 have c_y2:=lcell n_y 2 (v:=Z y2) rfl
 have c_y3:=lcell n_y 3 (v:=Z y3) rfl
 go_wp2_with fail
 generalize (((w.alloc (O #[Z x0,Z x1,Z x2,Z x3] 25)).alloc (O #[Z y0,Z y1,Z y2,Z y3] 25)).alloc (O #[Z ⟨#[]⟩,Z ⟨#[]⟩,Z ⟨#[]⟩,Z ⟨#[]⟩] 25))=V0 at *
 refine (C1.o _).mono ?_
 rintro e v1 ⟨rfl,g⟩
 replace u:=u.trans (g.mono u.size)
 replace n_x:=lkeep n_x g
 replace n_y:=lkeep n_y g
 replace n_r:=lkeep n_r g
 clear c_x0 c_x1 c_x2 c_x3 c_y0 c_y1 c_y2 c_y3
 clear g
 have c_x0:=lcell n_x 0 (v:=Z x0) rfl
 have c_x1:=lcell n_x 1 (v:=Z x1) rfl
 have c_x2:=lcell n_x 2 (v:=Z x2) rfl
 have c_x3:=lcell n_x 3 (v:=Z x3) rfl
 have c_y0:=lcell n_y 0 (v:=Z y0) rfl
 have c_y1:=lcell n_y 1 (v:=Z y1) rfl
 have c_y2:=lcell n_y 2 (v:=Z y2) rfl
 have c_y3:=lcell n_y 3 (v:=Z y3) rfl
 go_wp2_with fail
 refine (C2.o _).mono ?_
 rintro e v2 ⟨rfl,g⟩
 replace u:=u.trans (g.mono u.size)
 replace n_x:=lkeep n_x g
 replace n_y:=lkeep n_y g
 replace n_r:=lkeep n_r g
 clear c_x0 c_x1 c_x2 c_x3 c_y0 c_y1 c_y2 c_y3
 clear g
 have g:=(Below.refl v2.heap.size v2).alloc (Nat.le_refl _) (O #[Z l0,Z l1] 23)
 have n_l:=World.alloc_heap_new v2 (O #[Z l0,Z l1] 23)
 replace u:=u.trans (g.mono u.size)
 replace n_x:=lkeep n_x g
 replace n_y:=lkeep n_y g
 replace n_r:=lkeep n_r g
 clear g
 have c_x0:=lcell n_x 0 (v:=Z x0) rfl
 have c_x1:=lcell n_x 1 (v:=Z x1) rfl
 have c_x2:=lcell n_x 2 (v:=Z x2) rfl
 have c_x3:=lcell n_x 3 (v:=Z x3) rfl
 have c_y0:=lcell n_y 0 (v:=Z y0) rfl
 have c_y1:=lcell n_y 1 (v:=Z y1) rfl
 have c_y2:=lcell n_y 2 (v:=Z y2) rfl
 have c_y3:=lcell n_y 3 (v:=Z y3) rfl
 go_wp2_with fail
 generalize v2.alloc (O #[Z l0,Z l1] 23)=V_l at *
 generalize v2.heap.size=b_l at *
 refine (C3.o _).mono ?_
 rintro e v3 ⟨rfl,g⟩
 replace u:=u.trans (g.mono u.size)
 replace n_x:=lkeep n_x g
 replace n_y:=lkeep n_y g
 replace n_r:=lkeep n_r g
 replace n_l:=lkeep n_l g
 clear c_x0 c_x1 c_x2 c_x3 c_y0 c_y1 c_y2 c_y3
 clear g
 have g:=(Below.refl v3.heap.size v3).alloc (Nat.le_refl _) (O #[Z g0,Z g1] 23)
 have n_g:=World.alloc_heap_new v3 (O #[Z g0,Z g1] 23)
 replace u:=u.trans (g.mono u.size)
 replace n_x:=lkeep n_x g
 replace n_y:=lkeep n_y g
 replace n_r:=lkeep n_r g
 replace n_l:=lkeep n_l g
 clear g
 have c_l0:=lcell n_l 0 (v:=Z l0) rfl
 have c_l1:=lcell n_l 1 (v:=Z l1) rfl
 have c_g0:=lcell n_g 0 (v:=Z g0) rfl
 have c_g1:=lcell n_g 1 (v:=Z g1) rfl
 go_wp2_with fail
 generalize v3.alloc (O #[Z g0,Z g1] 23)=V_g at *
 generalize v3.heap.size=b_g at *
 refine (C4.o _).mono ?_
 rintro e v4 ⟨rfl,g⟩
 replace u:=u.trans (g.mono u.size)
 replace n_x:=lkeep n_x g
 replace n_y:=lkeep n_y g
 replace n_r:=lkeep n_r g
 replace n_l:=lkeep n_l g
 replace n_g:=lkeep n_g g
 clear c_l0 c_l1 c_g0 c_g1
 clear g
 have hb:∀ i,w.heap.size≤(⟨w.heap.size+1+1,i,none⟩:Addr).block:=fun _=>by show w.heap.size≤w.heap.size+1+1;omega
 have s_r:=box4_set (x:=Z m0) (y:=Z m1) (z:=Z m2) (t:=Z m3) n_r
 have k0:=lcell n_r 0 (v:=Z ⟨#[]⟩) rfl
 have f0:=lfree n_r 0
 have k1:=lcell n_r 1 (v:=Z ⟨#[]⟩) rfl
 have f1:=lfree n_r 1
 have k2:=lcell n_r 2 (v:=Z ⟨#[]⟩) rfl
 have f2:=lfree n_r 2
 have k3:=lcell n_r 3 (v:=Z ⟨#[]⟩) rfl
 have f3:=lfree n_r 3
 have z0:=lcell s_r 0 (v:=Z m0) rfl
 have z1:=lcell s_r 1 (v:=Z m1) rfl
 have z2:=lcell s_r 2 (v:=Z m2) rfl
 have z3:=lcell s_r 3 (v:=Z m3) rfl
 go_wp2_with fail
 exact bodyPost_ret (v:=.tuple #[.agg #[Z m0,Z m1,Z m2,Z m3],.int .i64 c]) (by simp [results,Tryz.results55, go_sem,z0,z1,z2,z3]) rfl ⟨rfl,((((u.setCell (hb 0) _).setCell (hb 1) _).setCell (hb 2) _).setCell (hb 3) _)⟩
theorem SubS_no (x0 x1 x2 x3 y0 y1 y2 y3:ByteArray) (hB:Ret 108 #[.agg #[Z x0,Z x1,Z x2,Z x3],.agg #[Z y0,Z y1,Z y2,Z y3]] (.bool false)):Ret 56 #[.agg #[Z x0,Z x1,Z x2,Z x3],.agg #[Z y0,Z y1,Z y2,Z y3]] (.tuple #[.agg #[Z ⟨#[]⟩,Z ⟨#[]⟩,Z ⟨#[]⟩,Z ⟨#[]⟩],.int .i64 50]):=by
 intro w
 have C0:Shut _:=⟨hB⟩
 clear hB
 obtain ⟨n_x,n_y,n_r⟩:=news3 w (O #[Z x0,Z x1,Z x2,Z x3] 25) (O #[Z y0,Z y1,Z y2,Z y3] 25) (O #[Z ⟨#[]⟩,Z ⟨#[]⟩,Z ⟨#[]⟩,Z ⟨#[]⟩] 25)
 have u:=below3 w (O #[Z x0,Z x1,Z x2,Z x3] 25) (O #[Z y0,Z y1,Z y2,Z y3] 25) (O #[Z ⟨#[]⟩,Z ⟨#[]⟩,Z ⟨#[]⟩,Z ⟨#[]⟩] 25)
 go_enter Tryz.func56, Tryz.ntmps56
 have c_x0:=lcell n_x 0 (v:=Z x0) rfl
 have c_x1:=lcell n_x 1 (v:=Z x1) rfl
 have c_x2:=lcell n_x 2 (v:=Z x2) rfl
 have c_x3:=lcell n_x 3 (v:=Z x3) rfl
 have c_y0:=lcell n_y 0 (v:=Z y0) rfl
 have c_y1:=lcell n_y 1 (v:=Z y1) rfl
 have c_y2:=lcell n_y 2 (v:=Z y2) rfl
 have c_y3:=lcell n_y 3 (v:=Z y3) rfl
 go_wp2_with fail
 generalize (((w.alloc (O #[Z x0,Z x1,Z x2,Z x3] 25)).alloc (O #[Z y0,Z y1,Z y2,Z y3] 25)).alloc (O #[Z ⟨#[]⟩,Z ⟨#[]⟩,Z ⟨#[]⟩,Z ⟨#[]⟩] 25))=V0 at *
 refine (C0.o _).mono ?_
 rintro e v1 ⟨rfl,g⟩
 replace u:=u.trans (g.mono u.size)
 replace n_x:=lkeep n_x g
 replace n_y:=lkeep n_y g
 replace n_r:=lkeep n_r g
 clear c_x0 c_x1 c_x2 c_x3 c_y0 c_y1 c_y2 c_y3
 clear g
 have hb:∀ i,w.heap.size≤(⟨w.heap.size+1+1,i,none⟩:Addr).block:=fun _=>by show w.heap.size≤w.heap.size+1+1;omega
 have s_r:=box4_set (x:=Z ⟨#[]⟩) (y:=Z ⟨#[]⟩) (z:=Z ⟨#[]⟩) (t:=Z ⟨#[]⟩) n_r
 have k0:=lcell n_r 0 (v:=Z ⟨#[]⟩) rfl
 have f0:=lfree n_r 0
 have k1:=lcell n_r 1 (v:=Z ⟨#[]⟩) rfl
 have f1:=lfree n_r 1
 have k2:=lcell n_r 2 (v:=Z ⟨#[]⟩) rfl
 have f2:=lfree n_r 2
 have k3:=lcell n_r 3 (v:=Z ⟨#[]⟩) rfl
 have f3:=lfree n_r 3
 have z0:=lcell s_r 0 (v:=Z ⟨#[]⟩) rfl
 have z1:=lcell s_r 1 (v:=Z ⟨#[]⟩) rfl
 have z2:=lcell s_r 2 (v:=Z ⟨#[]⟩) rfl
 have z3:=lcell s_r 3 (v:=Z ⟨#[]⟩) rfl
 go_wp2_with fail
 exact bodyPost_ret (v:=.tuple #[.agg #[Z ⟨#[]⟩,Z ⟨#[]⟩,Z ⟨#[]⟩,Z ⟨#[]⟩],.int .i64 50]) (by simp [results,Tryz.results56, go_sem,z0,z1,z2,z3]) rfl ⟨rfl,((((u.setCell (hb 0) _).setCell (hb 1) _).setCell (hb 2) _).setCell (hb 3) _)⟩
theorem SubS (x0 x1 x2 x3 y0 y1 y2 y3:ByteArray) (l0 l1 g0 g1 m0 m1 m2 m3:ByteArray) (e f c:Int) (hB:Ret 108 #[.agg #[Z x0,Z x1,Z x2,Z x3],.agg #[Z y0,Z y1,Z y2,Z y3]] (.bool true)) (hL:Ret 11 #[.agg #[Z x0,Z x1],.agg #[Z y2,Z y3]] (.tuple #[.agg #[Z l0,Z l1],.int .i64 e])) (hH:Ret 11 #[.agg #[Z x2,Z x3],.agg #[Z y0,Z y1]] (.tuple #[.agg #[Z g0,Z g1],.int .i64 f])) (hR:Ret 109 #[.agg #[Z l0,Z l1],.int .i64 e,.agg #[Z g0,Z g1],.int .i64 f] (.tuple #[.agg #[Z m0,Z m1,Z m2,Z m3],.int .i64 c])):Ret 56 #[.agg #[Z x0,Z x1,Z x2,Z x3],.agg #[Z y0,Z y1,Z y2,Z y3]] (.tuple #[.agg #[Z m0,Z m1,Z m2,Z m3],.int .i64 c]):=by
 intro w
 have C1:Shut _:=⟨hB⟩
 have C2:Shut _:=⟨hL⟩
 have C3:Shut _:=⟨hH⟩
 have C4:Shut _:=⟨hR⟩
 clear hB hL hH hR
 obtain ⟨n_x,n_y,n_r⟩:=news3 w (O #[Z x0,Z x1,Z x2,Z x3] 25) (O #[Z y0,Z y1,Z y2,Z y3] 25) (O #[Z ⟨#[]⟩,Z ⟨#[]⟩,Z ⟨#[]⟩,Z ⟨#[]⟩] 25)
 have u:=below3 w (O #[Z x0,Z x1,Z x2,Z x3] 25) (O #[Z y0,Z y1,Z y2,Z y3] 25) (O #[Z ⟨#[]⟩,Z ⟨#[]⟩,Z ⟨#[]⟩,Z ⟨#[]⟩] 25)
 go_enter Tryz.func56, Tryz.ntmps56
 have c_x0:=lcell n_x 0 (v:=Z x0) rfl
 have c_x1:=lcell n_x 1 (v:=Z x1) rfl
 have c_x2:=lcell n_x 2 (v:=Z x2) rfl
 have c_x3:=lcell n_x 3 (v:=Z x3) rfl
 have c_y0:=lcell n_y 0 (v:=Z y0) rfl
 have c_y1:=lcell n_y 1 (v:=Z y1) rfl
 have c_y2:=lcell n_y 2 (v:=Z y2) rfl
 have c_y3:=lcell n_y 3 (v:=Z y3) rfl
 go_wp2_with fail
 generalize (((w.alloc (O #[Z x0,Z x1,Z x2,Z x3] 25)).alloc (O #[Z y0,Z y1,Z y2,Z y3] 25)).alloc (O #[Z ⟨#[]⟩,Z ⟨#[]⟩,Z ⟨#[]⟩,Z ⟨#[]⟩] 25))=V0 at *
 refine (C1.o _).mono ?_
 rintro e v1 ⟨rfl,g⟩
 replace u:=u.trans (g.mono u.size)
 replace n_x:=lkeep n_x g
 replace n_y:=lkeep n_y g
 replace n_r:=lkeep n_r g
 clear c_x0 c_x1 c_x2 c_x3 c_y0 c_y1 c_y2 c_y3
 clear g
 have c_x0:=lcell n_x 0 (v:=Z x0) rfl
 have c_x1:=lcell n_x 1 (v:=Z x1) rfl
 have c_x2:=lcell n_x 2 (v:=Z x2) rfl
 have c_x3:=lcell n_x 3 (v:=Z x3) rfl
 have c_y0:=lcell n_y 0 (v:=Z y0) rfl
 have c_y1:=lcell n_y 1 (v:=Z y1) rfl
 have c_y2:=lcell n_y 2 (v:=Z y2) rfl
 have c_y3:=lcell n_y 3 (v:=Z y3) rfl
 go_wp2_with fail
 refine (C2.o _).mono ?_
 rintro e v2 ⟨rfl,g⟩
 replace u:=u.trans (g.mono u.size)
 replace n_x:=lkeep n_x g
 replace n_y:=lkeep n_y g
 replace n_r:=lkeep n_r g
 clear c_x0 c_x1 c_x2 c_x3 c_y0 c_y1 c_y2 c_y3
 clear g
 have g:=(Below.refl v2.heap.size v2).alloc (Nat.le_refl _) (O #[Z l0,Z l1] 23)
 have n_l:=World.alloc_heap_new v2 (O #[Z l0,Z l1] 23)
 replace u:=u.trans (g.mono u.size)
 replace n_x:=lkeep n_x g
 replace n_y:=lkeep n_y g
 replace n_r:=lkeep n_r g
 clear g
 have c_x0:=lcell n_x 0 (v:=Z x0) rfl
 have c_x1:=lcell n_x 1 (v:=Z x1) rfl
 have c_x2:=lcell n_x 2 (v:=Z x2) rfl
 have c_x3:=lcell n_x 3 (v:=Z x3) rfl
 have c_y0:=lcell n_y 0 (v:=Z y0) rfl
 have c_y1:=lcell n_y 1 (v:=Z y1) rfl
 have c_y2:=lcell n_y 2 (v:=Z y2) rfl
 have c_y3:=lcell n_y 3 (v:=Z y3) rfl
 go_wp2_with fail
 generalize v2.alloc (O #[Z l0,Z l1] 23)=V_l at *
 generalize v2.heap.size=b_l at *
 refine (C3.o _).mono ?_
 rintro e v3 ⟨rfl,g⟩
 replace u:=u.trans (g.mono u.size)
 replace n_x:=lkeep n_x g
 replace n_y:=lkeep n_y g
 replace n_r:=lkeep n_r g
 replace n_l:=lkeep n_l g
 clear c_x0 c_x1 c_x2 c_x3 c_y0 c_y1 c_y2 c_y3
 clear g
 have g:=(Below.refl v3.heap.size v3).alloc (Nat.le_refl _) (O #[Z g0,Z g1] 23)
 have n_g:=World.alloc_heap_new v3 (O #[Z g0,Z g1] 23)
 replace u:=u.trans (g.mono u.size)
 replace n_x:=lkeep n_x g
 replace n_y:=lkeep n_y g
 replace n_r:=lkeep n_r g
 replace n_l:=lkeep n_l g
 clear g
 have c_l0:=lcell n_l 0 (v:=Z l0) rfl
 have c_l1:=lcell n_l 1 (v:=Z l1) rfl
 have c_g0:=lcell n_g 0 (v:=Z g0) rfl
 have c_g1:=lcell n_g 1 (v:=Z g1) rfl
 go_wp2_with fail
 generalize v3.alloc (O #[Z g0,Z g1] 23)=V_g at *
 generalize v3.heap.size=b_g at *
 refine (C4.o _).mono ?_
 rintro e v4 ⟨rfl,g⟩
 replace u:=u.trans (g.mono u.size)
 replace n_x:=lkeep n_x g
 replace n_y:=lkeep n_y g
 replace n_r:=lkeep n_r g
 replace n_l:=lkeep n_l g
 replace n_g:=lkeep n_g g
 clear c_l0 c_l1 c_g0 c_g1
 clear g
 have hb:∀ i,w.heap.size≤(⟨w.heap.size+1+1,i,none⟩:Addr).block:=fun _=>by show w.heap.size≤w.heap.size+1+1;omega
 have s_r:=box4_set (x:=Z m0) (y:=Z m1) (z:=Z m2) (t:=Z m3) n_r
 have k0:=lcell n_r 0 (v:=Z ⟨#[]⟩) rfl
 have f0:=lfree n_r 0
 have k1:=lcell n_r 1 (v:=Z ⟨#[]⟩) rfl
 have f1:=lfree n_r 1
 have k2:=lcell n_r 2 (v:=Z ⟨#[]⟩) rfl
 have f2:=lfree n_r 2
 have k3:=lcell n_r 3 (v:=Z ⟨#[]⟩) rfl
 have f3:=lfree n_r 3
 have z0:=lcell s_r 0 (v:=Z m0) rfl
 have z1:=lcell s_r 1 (v:=Z m1) rfl
 have z2:=lcell s_r 2 (v:=Z m2) rfl
 have z3:=lcell s_r 3 (v:=Z m3) rfl
 go_wp2_with fail
 exact bodyPost_ret (v:=.tuple #[.agg #[Z m0,Z m1,Z m2,Z m3],.int .i64 c]) (by simp [results,Tryz.results56, go_sem,z0,z1,z2,z3]) rfl ⟨rfl,((((u.setCell (hb 0) _).setCell (hb 1) _).setCell (hb 2) _).setCell (hb 3) _)⟩
theorem MulS_no (x0 x1 x2 x3 y0 y1 y2 y3:ByteArray) (hB:Ret 108 #[.agg #[Z x0,Z x1,Z x2,Z x3],.agg #[Z y0,Z y1,Z y2,Z y3]] (.bool false)):Ret 57 #[.agg #[Z x0,Z x1,Z x2,Z x3],.agg #[Z y0,Z y1,Z y2,Z y3]] (.tuple #[.agg #[Z ⟨#[]⟩,Z ⟨#[]⟩,Z ⟨#[]⟩,Z ⟨#[]⟩],.int .i64 50]):=by
 intro w
 have C0:Shut _:=⟨hB⟩
 clear hB
 obtain ⟨n_x,n_y,n_r⟩:=news3 w (O #[Z x0,Z x1,Z x2,Z x3] 25) (O #[Z y0,Z y1,Z y2,Z y3] 25) (O #[Z ⟨#[]⟩,Z ⟨#[]⟩,Z ⟨#[]⟩,Z ⟨#[]⟩] 25)
 have u:=below3 w (O #[Z x0,Z x1,Z x2,Z x3] 25) (O #[Z y0,Z y1,Z y2,Z y3] 25) (O #[Z ⟨#[]⟩,Z ⟨#[]⟩,Z ⟨#[]⟩,Z ⟨#[]⟩] 25)
 go_enter Tryz.func57, Tryz.ntmps57
 have c_x0:=lcell n_x 0 (v:=Z x0) rfl
 have c_x1:=lcell n_x 1 (v:=Z x1) rfl
 have c_x2:=lcell n_x 2 (v:=Z x2) rfl
 have c_x3:=lcell n_x 3 (v:=Z x3) rfl
 have c_y0:=lcell n_y 0 (v:=Z y0) rfl
 have c_y1:=lcell n_y 1 (v:=Z y1) rfl
 have c_y2:=lcell n_y 2 (v:=Z y2) rfl
 have c_y3:=lcell n_y 3 (v:=Z y3) rfl
 go_wp2_with fail
 generalize (((w.alloc (O #[Z x0,Z x1,Z x2,Z x3] 25)).alloc (O #[Z y0,Z y1,Z y2,Z y3] 25)).alloc (O #[Z ⟨#[]⟩,Z ⟨#[]⟩,Z ⟨#[]⟩,Z ⟨#[]⟩] 25))=V0 at *
 refine (C0.o _).mono ?_
 rintro e v1 ⟨rfl,g⟩
 replace u:=u.trans (g.mono u.size)
 replace n_x:=lkeep n_x g
 replace n_y:=lkeep n_y g
 replace n_r:=lkeep n_r g
 clear c_x0 c_x1 c_x2 c_x3 c_y0 c_y1 c_y2 c_y3
 clear g
 have hb:∀ i,w.heap.size≤(⟨w.heap.size+1+1,i,none⟩:Addr).block:=fun _=>by show w.heap.size≤w.heap.size+1+1;omega
 have s_r:=box4_set (x:=Z ⟨#[]⟩) (y:=Z ⟨#[]⟩) (z:=Z ⟨#[]⟩) (t:=Z ⟨#[]⟩) n_r
 have k0:=lcell n_r 0 (v:=Z ⟨#[]⟩) rfl
 have f0:=lfree n_r 0
 have k1:=lcell n_r 1 (v:=Z ⟨#[]⟩) rfl
 have f1:=lfree n_r 1
 have k2:=lcell n_r 2 (v:=Z ⟨#[]⟩) rfl
 have f2:=lfree n_r 2
 have k3:=lcell n_r 3 (v:=Z ⟨#[]⟩) rfl
 have f3:=lfree n_r 3
 have z0:=lcell s_r 0 (v:=Z ⟨#[]⟩) rfl
 have z1:=lcell s_r 1 (v:=Z ⟨#[]⟩) rfl
 have z2:=lcell s_r 2 (v:=Z ⟨#[]⟩) rfl
 have z3:=lcell s_r 3 (v:=Z ⟨#[]⟩) rfl
 go_wp2_with fail
 exact bodyPost_ret (v:=.tuple #[.agg #[Z ⟨#[]⟩,Z ⟨#[]⟩,Z ⟨#[]⟩,Z ⟨#[]⟩],.int .i64 50]) (by simp [results,Tryz.results57, go_sem,z0,z1,z2,z3]) rfl ⟨rfl,((((u.setCell (hb 0) _).setCell (hb 1) _).setCell (hb 2) _).setCell (hb 3) _)⟩
theorem MulS (x0 x1 x2 x3 y0 y1 y2 y3:ByteArray) (m0 m1 m2 m3:ByteArray) (c:Int) (hB:Ret 108 #[.agg #[Z x0,Z x1,Z x2,Z x3],.agg #[Z y0,Z y1,Z y2,Z y3]] (.bool true)) (hF:Ret 110 #[.agg #[Z x0,Z x1,Z x2,Z x3],.agg #[Z y0,Z y1,Z y2,Z y3],.bool false] (.tuple #[.agg #[Z m0,Z m1,Z m2,Z m3],.int .i64 c])):Ret 57 #[.agg #[Z x0,Z x1,Z x2,Z x3],.agg #[Z y0,Z y1,Z y2,Z y3]] (.tuple #[.agg #[Z m0,Z m1,Z m2,Z m3],.int .i64 c]):=by
 intro w
 have C1:Shut _:=⟨hB⟩
 have C2:Shut _:=⟨hF⟩
 clear hB hF
 obtain ⟨n_x,n_y,n_r⟩:=news3 w (O #[Z x0,Z x1,Z x2,Z x3] 25) (O #[Z y0,Z y1,Z y2,Z y3] 25) (O #[Z ⟨#[]⟩,Z ⟨#[]⟩,Z ⟨#[]⟩,Z ⟨#[]⟩] 25)
 have u:=below3 w (O #[Z x0,Z x1,Z x2,Z x3] 25) (O #[Z y0,Z y1,Z y2,Z y3] 25) (O #[Z ⟨#[]⟩,Z ⟨#[]⟩,Z ⟨#[]⟩,Z ⟨#[]⟩] 25)
 go_enter Tryz.func57, Tryz.ntmps57
 have c_x0:=lcell n_x 0 (v:=Z x0) rfl
 have c_x1:=lcell n_x 1 (v:=Z x1) rfl
 have c_x2:=lcell n_x 2 (v:=Z x2) rfl
 have c_x3:=lcell n_x 3 (v:=Z x3) rfl
 have c_y0:=lcell n_y 0 (v:=Z y0) rfl
 have c_y1:=lcell n_y 1 (v:=Z y1) rfl
 have c_y2:=lcell n_y 2 (v:=Z y2) rfl
 have c_y3:=lcell n_y 3 (v:=Z y3) rfl
 go_wp2_with fail
 generalize (((w.alloc (O #[Z x0,Z x1,Z x2,Z x3] 25)).alloc (O #[Z y0,Z y1,Z y2,Z y3] 25)).alloc (O #[Z ⟨#[]⟩,Z ⟨#[]⟩,Z ⟨#[]⟩,Z ⟨#[]⟩] 25))=V0 at *
 refine (C1.o _).mono ?_
 rintro e v1 ⟨rfl,g⟩
 replace u:=u.trans (g.mono u.size)
 replace n_x:=lkeep n_x g
 replace n_y:=lkeep n_y g
 replace n_r:=lkeep n_r g
 clear c_x0 c_x1 c_x2 c_x3 c_y0 c_y1 c_y2 c_y3
 clear g
 have c_x0:=lcell n_x 0 (v:=Z x0) rfl
 have c_x1:=lcell n_x 1 (v:=Z x1) rfl
 have c_x2:=lcell n_x 2 (v:=Z x2) rfl
 have c_x3:=lcell n_x 3 (v:=Z x3) rfl
 have c_y0:=lcell n_y 0 (v:=Z y0) rfl
 have c_y1:=lcell n_y 1 (v:=Z y1) rfl
 have c_y2:=lcell n_y 2 (v:=Z y2) rfl
 have c_y3:=lcell n_y 3 (v:=Z y3) rfl
 go_wp2_with fail
 refine (C2.o _).mono ?_
 rintro e v2 ⟨rfl,g⟩
 replace u:=u.trans (g.mono u.size)
 replace n_x:=lkeep n_x g
 replace n_y:=lkeep n_y g
 replace n_r:=lkeep n_r g
 clear c_x0 c_x1 c_x2 c_x3 c_y0 c_y1 c_y2 c_y3
 clear g
 have hb:∀ i,w.heap.size≤(⟨w.heap.size+1+1,i,none⟩:Addr).block:=fun _=>by show w.heap.size≤w.heap.size+1+1;omega
 have s_r:=box4_set (x:=Z m0) (y:=Z m1) (z:=Z m2) (t:=Z m3) n_r
 have k0:=lcell n_r 0 (v:=Z ⟨#[]⟩) rfl
 have f0:=lfree n_r 0
 have k1:=lcell n_r 1 (v:=Z ⟨#[]⟩) rfl
 have f1:=lfree n_r 1
 have k2:=lcell n_r 2 (v:=Z ⟨#[]⟩) rfl
 have f2:=lfree n_r 2
 have k3:=lcell n_r 3 (v:=Z ⟨#[]⟩) rfl
 have f3:=lfree n_r 3
 have z0:=lcell s_r 0 (v:=Z m0) rfl
 have z1:=lcell s_r 1 (v:=Z m1) rfl
 have z2:=lcell s_r 2 (v:=Z m2) rfl
 have z3:=lcell s_r 3 (v:=Z m3) rfl
 go_wp2_with fail
 exact bodyPost_ret (v:=.tuple #[.agg #[Z m0,Z m1,Z m2,Z m3],.int .i64 c]) (by simp [results,Tryz.results57, go_sem,z0,z1,z2,z3]) rfl ⟨rfl,((((u.setCell (hb 0) _).setCell (hb 1) _).setCell (hb 2) _).setCell (hb 3) _)⟩
theorem zeroS  : Ret 111 #[] (.agg #[Z ⟨#[48]⟩,Z ⟨#[49]⟩]):=by
 intro w
 have n_r:=World.alloc_heap_new w (O #[Z ⟨#[]⟩,Z ⟨#[]⟩] 23)
 have u:=(Below.refl w.heap.size w).alloc (Nat.le_refl _) (O #[Z ⟨#[]⟩,Z ⟨#[]⟩] 23)
 go_enter Tryz.func111, Tryz.ntmps111
 have k0:=lcell n_r 0 (v:=Z ⟨#[]⟩) rfl
 have f0:=lfree n_r 0
 have k1:=lcell n_r 1 (v:=Z ⟨#[]⟩) rfl
 have f1:=lfree n_r 1
 go_wp2_with fail
 exact bodyPost_ret (v:=.agg #[Z ⟨#[48]⟩,Z ⟨#[49]⟩]) (by simp [results,Tryz.results111, go_sem]) rfl ⟨rfl,(Below.refl w.heap.size w).alloc (Nat.le_refl _) _⟩
theorem DivS_no (x0 x1 x2 x3 y0 y1 y2 y3:ByteArray) (b n:Bool) (hB:Ret 108 #[.agg #[Z x0,Z x1,Z x2,Z x3],.agg #[Z y0,Z y1,Z y2,Z y3]] (.bool b)) (hN:Ret 25 #[.agg #[Z y0,Z y1,Z y2,Z y3],.agg #[Z ⟨#[48]⟩,Z ⟨#[49]⟩]] (.bool n)) (hz:b=false∨(b=true∧n=true)):Ret 58 #[.agg #[Z x0,Z x1,Z x2,Z x3],.agg #[Z y0,Z y1,Z y2,Z y3]] (.tuple #[.agg #[Z ⟨#[]⟩,Z ⟨#[]⟩,Z ⟨#[]⟩,Z ⟨#[]⟩],.int .i64 50]):=by
 intro w
 have C1:Shut _:=⟨hB⟩
 have C2:Shut _:=⟨hN⟩
 clear hB hN
 obtain ⟨n_x,n_y,n_r⟩:=news3 w (O #[Z x0,Z x1,Z x2,Z x3] 25) (O #[Z y0,Z y1,Z y2,Z y3] 25) (O #[Z ⟨#[]⟩,Z ⟨#[]⟩,Z ⟨#[]⟩,Z ⟨#[]⟩] 25)
 have u:=below3 w (O #[Z x0,Z x1,Z x2,Z x3] 25) (O #[Z y0,Z y1,Z y2,Z y3] 25) (O #[Z ⟨#[]⟩,Z ⟨#[]⟩,Z ⟨#[]⟩,Z ⟨#[]⟩] 25)
 go_enter Tryz.func58, Tryz.ntmps58
 have c_x0:=lcell n_x 0 (v:=Z x0) rfl
 have c_x1:=lcell n_x 1 (v:=Z x1) rfl
 have c_x2:=lcell n_x 2 (v:=Z x2) rfl
 have c_x3:=lcell n_x 3 (v:=Z x3) rfl
 have c_y0:=lcell n_y 0 (v:=Z y0) rfl
 have c_y1:=lcell n_y 1 (v:=Z y1) rfl
 have c_y2:=lcell n_y 2 (v:=Z y2) rfl
 have c_y3:=lcell n_y 3 (v:=Z y3) rfl
 go_wp2_with fail
 generalize (((w.alloc (O #[Z x0,Z x1,Z x2,Z x3] 25)).alloc (O #[Z y0,Z y1,Z y2,Z y3] 25)).alloc (O #[Z ⟨#[]⟩,Z ⟨#[]⟩,Z ⟨#[]⟩,Z ⟨#[]⟩] 25))=V0 at *
 refine (C1.o _).mono ?_
 rintro e v1 ⟨rfl,g⟩
 replace u:=u.trans (g.mono u.size)
 replace n_x:=lkeep n_x g
 replace n_y:=lkeep n_y g
 replace n_r:=lkeep n_r g
 clear c_x0 c_x1 c_x2 c_x3 c_y0 c_y1 c_y2 c_y3
 clear g
 go_upto_region 2 with fail
 go_region_held3 (fun X=>X.cell? ⟨w.heap.size+1,0,none⟩=some (Z y0)∧X.cell? ⟨w.heap.size+1,1,none⟩=some (Z y1)∧X.cell? ⟨w.heap.size+1,2,none⟩=some (Z y2)∧X.cell? ⟨w.heap.size+1,3,none⟩=some (Z y3)) (exact ⟨lcell n_y 0 (v:=Z y0) rfl,lcell n_y 1 (v:=Z y1) rfl,lcell n_y 2 (v:=Z y2) rfl,lcell n_y 3 (v:=Z y3) rfl⟩) (first | (go_at_call 111; (with_reducible refine (Ret.run zeroS _).mono ?_);rintro e va ⟨rfl,g⟩;have g:Below v1.heap.size v1 va:=lundrew2 g;replace u:=u.trans (g.mono u.size);replace n_x:=lkeep n_x g;replace n_y:=lkeep n_y g;replace n_r:=lkeep n_r g;clear g;have mk1:=0) | (go_at_call 25; have q_:=mk1;clear q_;(with_reducible refine (Ret.run C2.o _).mono ?_);rintro e vb ⟨rfl,g⟩;have g:Below va.heap.size va vb:=g;replace u:=u.trans (g.mono u.size);replace n_x:=lkeep n_x g;replace n_y:=lkeep n_y g;replace n_r:=lkeep n_r g;clear g))
 rcases hz with rfl | ⟨rfl,rfl⟩
 ·have hb:∀ i,w.heap.size≤(⟨w.heap.size+1+1,i,none⟩:Addr).block:=fun _=>by show w.heap.size≤w.heap.size+1+1;omega
  have s_r:=box4_set (x:=Z ⟨#[]⟩) (y:=Z ⟨#[]⟩) (z:=Z ⟨#[]⟩) (t:=Z ⟨#[]⟩) n_r
  have k0:=lcell n_r 0 (v:=Z ⟨#[]⟩) rfl
  have f0:=lfree n_r 0
  have k1:=lcell n_r 1 (v:=Z ⟨#[]⟩) rfl
  have f1:=lfree n_r 1
  have k2:=lcell n_r 2 (v:=Z ⟨#[]⟩) rfl
  have f2:=lfree n_r 2
  have k3:=lcell n_r 3 (v:=Z ⟨#[]⟩) rfl
  have f3:=lfree n_r 3
  have z0:=lcell s_r 0 (v:=Z ⟨#[]⟩) rfl
  have z1:=lcell s_r 1 (v:=Z ⟨#[]⟩) rfl
  have z2:=lcell s_r 2 (v:=Z ⟨#[]⟩) rfl
  have z3:=lcell s_r 3 (v:=Z ⟨#[]⟩) rfl
  go_wp2_with fail
  exact bodyPost_ret (v:=.tuple #[.agg #[Z ⟨#[]⟩,Z ⟨#[]⟩,Z ⟨#[]⟩,Z ⟨#[]⟩],.int .i64 50]) (by simp [results,Tryz.results58, go_sem,z0,z1,z2,z3]) rfl ⟨rfl,((((u.setCell (hb 0) _).setCell (hb 1) _).setCell (hb 2) _).setCell (hb 3) _)⟩
 ·have hb:∀ i,w.heap.size≤(⟨w.heap.size+1+1,i,none⟩:Addr).block:=fun _=>by show w.heap.size≤w.heap.size+1+1;omega
  have s_r:=box4_set (x:=Z ⟨#[]⟩) (y:=Z ⟨#[]⟩) (z:=Z ⟨#[]⟩) (t:=Z ⟨#[]⟩) n_r
  have k0:=lcell n_r 0 (v:=Z ⟨#[]⟩) rfl
  have f0:=lfree n_r 0
  have k1:=lcell n_r 1 (v:=Z ⟨#[]⟩) rfl
  have f1:=lfree n_r 1
  have k2:=lcell n_r 2 (v:=Z ⟨#[]⟩) rfl
  have f2:=lfree n_r 2
  have k3:=lcell n_r 3 (v:=Z ⟨#[]⟩) rfl
  have f3:=lfree n_r 3
  have z0:=lcell s_r 0 (v:=Z ⟨#[]⟩) rfl
  have z1:=lcell s_r 1 (v:=Z ⟨#[]⟩) rfl
  have z2:=lcell s_r 2 (v:=Z ⟨#[]⟩) rfl
  have z3:=lcell s_r 3 (v:=Z ⟨#[]⟩) rfl
  go_wp2_with fail
  exact bodyPost_ret (v:=.tuple #[.agg #[Z ⟨#[]⟩,Z ⟨#[]⟩,Z ⟨#[]⟩,Z ⟨#[]⟩],.int .i64 50]) (by simp [results,Tryz.results58, go_sem,z0,z1,z2,z3]) rfl ⟨rfl,((((u.setCell (hb 0) _).setCell (hb 1) _).setCell (hb 2) _).setCell (hb 3) _)⟩
theorem DivS (x0 x1 x2 x3 y0 y1 y2 y3:ByteArray) (m0 m1 m2 m3:ByteArray) (c:Int) (hB:Ret 108 #[.agg #[Z x0,Z x1,Z x2,Z x3],.agg #[Z y0,Z y1,Z y2,Z y3]] (.bool true)) (hN:Ret 25 #[.agg #[Z y0,Z y1,Z y2,Z y3],.agg #[Z ⟨#[48]⟩,Z ⟨#[49]⟩]] (.bool false)) (hF:Ret 110 #[.agg #[Z x0,Z x1,Z x2,Z x3],.agg #[Z y0,Z y1,Z y2,Z y3],.bool true] (.tuple #[.agg #[Z m0,Z m1,Z m2,Z m3],.int .i64 c])):Ret 58 #[.agg #[Z x0,Z x1,Z x2,Z x3],.agg #[Z y0,Z y1,Z y2,Z y3]] (.tuple #[.agg #[Z m0,Z m1,Z m2,Z m3],.int .i64 c]):=by
 intro w
 have C1:Shut _:=⟨hB⟩
 have C2:Shut _:=⟨hN⟩
 have C3:Shut _:=⟨hF⟩
 clear hB hN hF
 obtain ⟨n_x,n_y,n_r⟩:=news3 w (O #[Z x0,Z x1,Z x2,Z x3] 25) (O #[Z y0,Z y1,Z y2,Z y3] 25) (O #[Z ⟨#[]⟩,Z ⟨#[]⟩,Z ⟨#[]⟩,Z ⟨#[]⟩] 25)
 have u:=below3 w (O #[Z x0,Z x1,Z x2,Z x3] 25) (O #[Z y0,Z y1,Z y2,Z y3] 25) (O #[Z ⟨#[]⟩,Z ⟨#[]⟩,Z ⟨#[]⟩,Z ⟨#[]⟩] 25)
 go_enter Tryz.func58, Tryz.ntmps58
 have c_x0:=lcell n_x 0 (v:=Z x0) rfl
 have c_x1:=lcell n_x 1 (v:=Z x1) rfl
 have c_x2:=lcell n_x 2 (v:=Z x2) rfl
 have c_x3:=lcell n_x 3 (v:=Z x3) rfl
 have c_y0:=lcell n_y 0 (v:=Z y0) rfl
 have c_y1:=lcell n_y 1 (v:=Z y1) rfl
 have c_y2:=lcell n_y 2 (v:=Z y2) rfl
 have c_y3:=lcell n_y 3 (v:=Z y3) rfl
 go_wp2_with fail
 generalize (((w.alloc (O #[Z x0,Z x1,Z x2,Z x3] 25)).alloc (O #[Z y0,Z y1,Z y2,Z y3] 25)).alloc (O #[Z ⟨#[]⟩,Z ⟨#[]⟩,Z ⟨#[]⟩,Z ⟨#[]⟩] 25))=V0 at *
 refine (C1.o _).mono ?_
 rintro e v1 ⟨rfl,g⟩
 replace u:=u.trans (g.mono u.size)
 replace n_x:=lkeep n_x g
 replace n_y:=lkeep n_y g
 replace n_r:=lkeep n_r g
 clear c_x0 c_x1 c_x2 c_x3 c_y0 c_y1 c_y2 c_y3
 clear g
 go_upto_region 2 with fail
 go_region_held3 (fun X=>X.cell? ⟨w.heap.size+1,0,none⟩=some (Z y0)∧X.cell? ⟨w.heap.size+1,1,none⟩=some (Z y1)∧X.cell? ⟨w.heap.size+1,2,none⟩=some (Z y2)∧X.cell? ⟨w.heap.size+1,3,none⟩=some (Z y3)) (exact ⟨lcell n_y 0 (v:=Z y0) rfl,lcell n_y 1 (v:=Z y1) rfl,lcell n_y 2 (v:=Z y2) rfl,lcell n_y 3 (v:=Z y3) rfl⟩) (first | (go_at_call 111; (with_reducible refine (Ret.run zeroS _).mono ?_);rintro e va ⟨rfl,g⟩;have g:Below v1.heap.size v1 va:=lundrew2 g;replace u:=u.trans (g.mono u.size);replace n_x:=lkeep n_x g;replace n_y:=lkeep n_y g;replace n_r:=lkeep n_r g;clear g;have mk1:=0) | (go_at_call 25; have q_:=mk1;clear q_;(with_reducible refine (Ret.run C2.o _).mono ?_);rintro e vb ⟨rfl,g⟩;have g:Below va.heap.size va vb:=g;replace u:=u.trans (g.mono u.size);replace n_x:=lkeep n_x g;replace n_y:=lkeep n_y g;replace n_r:=lkeep n_r g;clear g))
 have c_x0:=lcell n_x 0 (v:=Z x0) rfl
 have c_x1:=lcell n_x 1 (v:=Z x1) rfl
 have c_x2:=lcell n_x 2 (v:=Z x2) rfl
 have c_x3:=lcell n_x 3 (v:=Z x3) rfl
 have c_y0:=lcell n_y 0 (v:=Z y0) rfl
 have c_y1:=lcell n_y 1 (v:=Z y1) rfl
 have c_y2:=lcell n_y 2 (v:=Z y2) rfl
 have c_y3:=lcell n_y 3 (v:=Z y3) rfl
 go_wp2_with fail
 refine (C3.o _).mono ?_
 rintro e v2 ⟨rfl,g⟩
 replace u:=u.trans (g.mono u.size)
 replace n_x:=lkeep n_x g
 replace n_y:=lkeep n_y g
 replace n_r:=lkeep n_r g
 clear c_x0 c_x1 c_x2 c_x3 c_y0 c_y1 c_y2 c_y3
 clear g
 have hb:∀ i,w.heap.size≤(⟨w.heap.size+1+1,i,none⟩:Addr).block:=fun _=>by show w.heap.size≤w.heap.size+1+1;omega
 have s_r:=box4_set (x:=Z m0) (y:=Z m1) (z:=Z m2) (t:=Z m3) n_r
 have k0:=lcell n_r 0 (v:=Z ⟨#[]⟩) rfl
 have f0:=lfree n_r 0
 have k1:=lcell n_r 1 (v:=Z ⟨#[]⟩) rfl
 have f1:=lfree n_r 1
 have k2:=lcell n_r 2 (v:=Z ⟨#[]⟩) rfl
 have f2:=lfree n_r 2
 have k3:=lcell n_r 3 (v:=Z ⟨#[]⟩) rfl
 have f3:=lfree n_r 3
 have z0:=lcell s_r 0 (v:=Z m0) rfl
 have z1:=lcell s_r 1 (v:=Z m1) rfl
 have z2:=lcell s_r 2 (v:=Z m2) rfl
 have z3:=lcell s_r 3 (v:=Z m3) rfl
 go_wp2_with fail
 exact bodyPost_ret (v:=.tuple #[.agg #[Z m0,Z m1,Z m2,Z m3],.int .i64 c]) (by simp [results,Tryz.results58, go_sem,z0,z1,z2,z3]) rfl ⟨rfl,((((u.setCell (hb 0) _).setCell (hb 1) _).setCell (hb 2) _).setCell (hb 3) _)⟩
end En
end
end Go.Proofs.YtbfonkabmehlmaaGreatDoor
