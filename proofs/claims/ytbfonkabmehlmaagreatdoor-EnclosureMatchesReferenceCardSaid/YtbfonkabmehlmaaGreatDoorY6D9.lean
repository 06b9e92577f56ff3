/-
  The reference of package enclosure: Meet.
-/
import Derived.Test.YtbfonkabmehlmaaGreatDoorY6D5
import Derived.Deep.DeepCutAuto
set_option maxRecDepth 1000000
set_option maxHeartbeats 40000000
open Go.Value renaming string→Z
open Go.Obj renaming cells→O
namespace Go.Proofs.YtbfonkabmehlmaaGreatDoor
namespace En
open Go.RowKit Go.Extern.Stop Go.Stop Go.Extern
open Go.Proofs.YtbfonkabmehlmaaGreatDoor.Nm Go.Proofs.YtbfonkabmehlmaaGreatDoor.Rt
open N10 (Two)
theorem ne_abz {a z:Nat} (h:a+1+1<z):¬(a=z)∧¬(a+1=z)∧¬(z=a)∧¬(z=a+1):=by omega
theorem MeetS (x0 x1 x2 x3 y0 y1 y2 y3:ByteArray) (l0 l1 g0 g1:ByteArray) (b:Bool) (k:Int) (hB:Ret 108 #[.agg #[Z x0,Z x1,Z x2,Z x3],.agg #[Z y0,Z y1,Z y2,Z y3]] (.bool b)) (hL:Ret 52 #[.agg #[Z x0,Z x1],.agg #[Z y0,Z y1]] (.agg #[Z l0,Z l1])) (hH:Ret 51 #[.agg #[Z x2,Z x3],.agg #[Z y2,Z y3]] (.agg #[Z g0,Z g1])) (hK:b=true→Ret 67 #[.agg #[Z l0,Z l1],.agg #[Z g0,Z g1]] (.int .i64 k)):Ret 60 #[.agg #[Z x0,Z x1,Z x2,Z x3],.agg #[Z y0,Z y1,Z y2,Z y3]] (if b=true∧k≤0 then .tuple #[.agg #[Z l0,Z l1,Z g0,Z g1],.int .i64 0] else .tuple #[.agg #[Z ⟨#[]⟩,Z ⟨#[]⟩,Z ⟨#[]⟩,Z ⟨#[]⟩],.int .i64 50]):=by
 intro w
 have C1:Shut _:=⟨hB⟩
 have C2:Shut _:=⟨hL⟩
 have C3:Shut _:=⟨hH⟩
 have C4:Shut _:=⟨hK⟩
 clear hB hL hH hK
 obtain ⟨n_x,n_y,n_r⟩:=news3 w (O #[Z x0,Z x1,Z x2,Z x3] 25) (O #[Z y0,Z y1,Z y2,Z y3] 25) (O #[Z ⟨#[]⟩,Z ⟨#[]⟩,Z ⟨#[]⟩,Z ⟨#[]⟩] 25)
 have u:=below3 w (O #[Z x0,Z x1,Z x2,Z x3] 25) (O #[Z y0,Z y1,Z y2,Z y3] 25) (O #[Z ⟨#[]⟩,Z ⟨#[]⟩,Z ⟨#[]⟩,Z ⟨#[]⟩] 25)
 go_enter Tryz.func60, Tryz.ntmps60
 have c_x0:=lcell n_x 0 (v:=Z x0) rfl
 have c_x1:=lcell n_x 1 (v:=Z x1) rfl
 have c_x2:=lcell n_x 2 (v:=Z x2) rfl
 have c_x3:=lcell n_x 3 (v:=Z x3) rfl
 have c_y0:=lcell n_y 0 (v:=Z y0) rfl
 have c_y1:=lcell n_y 1 (v:=Z y1) rfl
 have c_y2:=lcell n_y 2 (v:=Z y2) rfl
 have c_y3:=lcell n_y 3 (v:=Z y3) rfl
 go_wp2_with fail
 generalize (((w.alloc (O #[Z x0,Z x1,Z x2,Z x3] 25)).alloc (O #[Z y0,Z y1,Z y2,Z y3] 25)).alloc (O #[Z ⟨#[]⟩,Z ⟨#[]⟩,Z ⟨#[]⟩,Z ⟨#[]⟩] 25))=V0 at *
 refine (C1.o _).mono ?_
 rintro e v1 ⟨rfl,g⟩
 replace u:=u.trans (g.mono u.size)
 replace n_x:=lkeep n_x g
 replace n_y:=lkeep n_y g
 replace n_r:=lkeep n_r g
 clear c_x0 c_x1 c_x2 c_x3 c_y0 c_y1 c_y2 c_y3
 clear g
 go_upto_region 2 with fail
 go_cut [7] from 11 to 21 (fun s wx=>∃ bq:Nat,s = .pointer (some ⟨bq,0,none⟩)∧wx.heap[bq]? = some (O #[Z l0,Z l1,Z g0,Z g1] 25 (0,0))∧wx.heap[w.heap.size+1+1]? = some (O #[Z ⟨#[]⟩,Z ⟨#[]⟩,Z ⟨#[]⟩,Z ⟨#[]⟩] 25 (0,0))∧Below w.heap.size w wx)
 case first =>
  have c_x0:=lcell n_x 0 (v:=Z x0) rfl
  have c_x1:=lcell n_x 1 (v:=Z x1) rfl
  have c_x2:=lcell n_x 2 (v:=Z x2) rfl
  have c_x3:=lcell n_x 3 (v:=Z x3) rfl
  have c_y0:=lcell n_y 0 (v:=Z y0) rfl
  have c_y1:=lcell n_y 1 (v:=Z y1) rfl
  have c_y2:=lcell n_y 2 (v:=Z y2) rfl
  have c_y3:=lcell n_y 3 (v:=Z y3) rfl
  have lr0:=(Array.getElem?_eq_some_iff.1 n_r).1
  have hxr:¬(w.heap.size=v1.heap.size):=by omega
  have hyr:¬(w.heap.size+1=v1.heap.size):=by have:=(Array.getElem?_eq_some_iff.1 n_r).1;omega
  go_region_held3 (fun X=>X.cell? ⟨w.heap.size,0,none⟩=some (Z x0)∧X.cell? ⟨w.heap.size,1,none⟩=some (Z x1)∧X.cell? ⟨w.heap.size,2,none⟩=some (Z x2)∧X.cell? ⟨w.heap.size,3,none⟩=some (Z x3)∧X.cell? ⟨w.heap.size+1,0,none⟩=some (Z y0)∧X.cell? ⟨w.heap.size+1,1,none⟩=some (Z y1)∧X.cell? ⟨w.heap.size+1,2,none⟩=some (Z y2)∧X.cell? ⟨w.heap.size+1,3,none⟩=some (Z y3)) (go_keep) (first | (go_at_call 52; (with_reducible refine (Ret.run C2.o _).mono ?_);rintro e va ⟨rfl,g⟩;(first | (have g3:Below (v1.alloc (O #[Z ⟨#[]⟩,Z ⟨#[]⟩,Z ⟨#[]⟩,Z ⟨#[]⟩] 25)).drew.heap.size (v1.alloc (O #[Z ⟨#[]⟩,Z ⟨#[]⟩,Z ⟨#[]⟩,Z ⟨#[]⟩] 25)).drew va:=(by with_reducible exact g);have g2:Below (v1.alloc (O #[Z ⟨#[]⟩,Z ⟨#[]⟩,Z ⟨#[]⟩,Z ⟨#[]⟩] 25)).heap.size (v1.alloc (O #[Z ⟨#[]⟩,Z ⟨#[]⟩,Z ⟨#[]⟩,Z ⟨#[]⟩] 25)) va:=lundrew2 g3;have lr:=(Array.getElem?_eq_some_iff.1 n_r).1;have nz:va.heap[v1.heap.size]? = some (O #[Z ⟨#[]⟩,Z ⟨#[]⟩,Z ⟨#[]⟩,Z ⟨#[]⟩] 25):=lkeep (World.alloc_heap_new _ _) g2;have ltz:w.heap.size+1+1<v1.heap.size:=lr;have buz:w.heap.size≤v1.heap.size:=u.size;have hza:=(ne_abz ltz).1;have hzb:=(ne_abz ltz).2.1;have hzc:=(ne_abz ltz).2.2.1;have hzd:=(ne_abz ltz).2.2.2;have ua:Below w.heap.size w (v1.alloc (O #[Z ⟨#[]⟩,Z ⟨#[]⟩,Z ⟨#[]⟩,Z ⟨#[]⟩] 25)):=(show Below w.heap.size w v1 from u).alloc u.size (O #[Z ⟨#[]⟩,Z ⟨#[]⟩,Z ⟨#[]⟩,Z ⟨#[]⟩] 25);replace u:=ua.trans (g2.mono ua.size);replace n_x:=lkeep (lold (show v1.heap[_]? = _ from n_x)) g2;replace n_y:=lkeep (lold (show v1.heap[_]? = _ from n_y)) g2;replace n_r:=lkeep (lold (show v1.heap[_]? = _ from n_r)) g2;clear g2) | (have g1:Below v1.heap.size v1 va:=lundrew2 g;replace u:=u.trans (g1.mono u.size);replace n_x:=lkeep n_x g1;replace n_y:=lkeep n_y g1;replace n_r:=lkeep n_r g1;(try replace nz:=lkeep nz g1);clear g1));clear g;have c_x0:=lcell n_x 0 (v:=Z x0) rfl;have c_x1:=lcell n_x 1 (v:=Z x1) rfl;have c_x2:=lcell n_x 2 (v:=Z x2) rfl;have c_x3:=lcell n_x 3 (v:=Z x3) rfl;have c_y0:=lcell n_y 0 (v:=Z y0) rfl;have c_y1:=lcell n_y 1 (v:=Z y1) rfl;have c_y2:=lcell n_y 2 (v:=Z y2) rfl;have c_y3:=lcell n_y 3 (v:=Z y3) rfl;(try (have kz0:=lcell nz 0 (v:=Z ⟨#[]⟩) rfl;have fz0:=lfree nz 0;have kz1:=lcell nz 1 (v:=Z ⟨#[]⟩) rfl;have fz1:=lfree nz 1;have kz2:=lcell nz 2 (v:=Z ⟨#[]⟩) rfl;have fz2:=lfree nz 2;have kz3:=lcell nz 3 (v:=Z ⟨#[]⟩) rfl;have fz3:=lfree nz 3));have mk1:=0) | (go_at_call 51; have q_:=mk1;clear q_;(with_reducible refine (Ret.run C3.o _).mono ?_);rintro e vb ⟨rfl,g⟩;(first | (have g2:Below (va.alloc (O #[Z ⟨#[]⟩,Z ⟨#[]⟩,Z ⟨#[]⟩,Z ⟨#[]⟩] 25)).heap.size (va.alloc (O #[Z ⟨#[]⟩,Z ⟨#[]⟩,Z ⟨#[]⟩,Z ⟨#[]⟩] 25)) vb:=(by with_reducible exact g);have lr:=(Array.getElem?_eq_some_iff.1 n_r).1;have nz:vb.heap[va.heap.size]? = some (O #[Z ⟨#[]⟩,Z ⟨#[]⟩,Z ⟨#[]⟩,Z ⟨#[]⟩] 25):=lkeep (World.alloc_heap_new _ _) g2;have ltz:w.heap.size+1+1<va.heap.size:=lr;have buz:w.heap.size≤va.heap.size:=u.size;have hza:=(ne_abz ltz).1;have hzb:=(ne_abz ltz).2.1;have hzc:=(ne_abz ltz).2.2.1;have hzd:=(ne_abz ltz).2.2.2;have ua:Below w.heap.size w (va.alloc (O #[Z ⟨#[]⟩,Z ⟨#[]⟩,Z ⟨#[]⟩,Z ⟨#[]⟩] 25)):=(show Below w.heap.size w va from u).alloc u.size (O #[Z ⟨#[]⟩,Z ⟨#[]⟩,Z ⟨#[]⟩,Z ⟨#[]⟩] 25);replace u:=ua.trans (g2.mono ua.size);replace n_x:=lkeep (lold (show va.heap[_]? = _ from n_x)) g2;replace n_y:=lkeep (lold (show va.heap[_]? = _ from n_y)) g2;replace n_r:=lkeep (lold (show va.heap[_]? = _ from n_r)) g2;clear g2) | (have g1:Below va.heap.size va vb:=g;replace u:=u.trans (g1.mono u.size);replace n_x:=lkeep n_x g1;replace n_y:=lkeep n_y g1;replace n_r:=lkeep n_r g1;(try replace nz:=lkeep nz g1);clear g1));clear g;have c_x0:=lcell n_x 0 (v:=Z x0) rfl;have c_x1:=lcell n_x 1 (v:=Z x1) rfl;have c_x2:=lcell n_x 2 (v:=Z x2) rfl;have c_x3:=lcell n_x 3 (v:=Z x3) rfl;have c_y0:=lcell n_y 0 (v:=Z y0) rfl;have c_y1:=lcell n_y 1 (v:=Z y1) rfl;have c_y2:=lcell n_y 2 (v:=Z y2) rfl;have c_y3:=lcell n_y 3 (v:=Z y3) rfl;(try (have kz0:=lcell nz 0 (v:=Z ⟨#[]⟩) rfl;have fz0:=lfree nz 0;have kz1:=lcell nz 1 (v:=Z ⟨#[]⟩) rfl;have fz1:=lfree nz 1;have kz2:=lcell nz 2 (v:=Z ⟨#[]⟩) rfl;have fz2:=lfree nz 2;have kz3:=lcell nz 3 (v:=Z ⟨#[]⟩) rfl;have fz3:=lfree nz 3));have mk2:=0))
  all_goals (go_wp2_with fail)
  all_goals go_meet
  all_goals first | exact ⟨_,rfl,box4_set (x:=Z l0) (y:=Z l1) (z:=Z g0) (t:=Z g1) nz,lset4 n_r (Nat.ne_of_lt ltz) _ _ _ _,((((u.setCell (show w.heap.size≤(⟨_,0,none⟩:Addr).block from buz) _).setCell (show w.heap.size≤(⟨_,1,none⟩:Addr).block from buz) _).setCell (show w.heap.size≤(⟨_,2,none⟩:Addr).block from buz) _).setCell (show w.heap.size≤(⟨_,3,none⟩:Addr).block from buz) _)⟩ | exact ⟨_,rfl,World.alloc_heap_new _ _,lold n_r,u.alloc u.size _⟩
 obtain ⟨b_o,rfl,n_o,n_r,u⟩:=hcut
 obtain ⟨V2,hv⟩:∃ v,v=wc:=⟨_,rfl⟩
 rw [←hv] at n_o n_r u
 go_upto_region 3 with fail
 rw [←hv]
 clear hv
 cases b with
 | false =>
  have hb:∀ i,w.heap.size≤(⟨w.heap.size+1+1,i,none⟩:Addr).block:=fun _=>by show w.heap.size≤w.heap.size+1+1;omega
  have s_r:=box4_set (x:=Z ⟨#[]⟩) (y:=Z ⟨#[]⟩) (z:=Z ⟨#[]⟩) (t:=Z ⟨#[]⟩) n_r
  have k0:=lcell n_r 0 (v:=Z ⟨#[]⟩) rfl
  have f0:=lfree n_r 0
  have k1:=lcell n_r 1 (v:=Z ⟨#[]⟩) rfl
  have f1:=lfree n_r 1
  have k2:=lcell n_r 2 (v:=Z ⟨#[]⟩) rfl
  have f2:=lfree n_r 2
  have k3:=lcell n_r 3 (v:=Z ⟨#[]⟩) rfl
  have f3:=lfree n_r 3
  have z0:=lcell s_r 0 (v:=Z ⟨#[]⟩) rfl
  have z1:=lcell s_r 1 (v:=Z ⟨#[]⟩) rfl
  have z2:=lcell s_r 2 (v:=Z ⟨#[]⟩) rfl
  have z3:=lcell s_r 3 (v:=Z ⟨#[]⟩) rfl
  go_wp2_with fail
  exact bodyPost_ret (v:=.tuple #[.agg #[Z ⟨#[]⟩,Z ⟨#[]⟩,Z ⟨#[]⟩,Z ⟨#[]⟩],.int .i64 50]) (by simp [results,Tryz.results60, go_sem,z0,z1,z2,z3]) rfl ⟨by simp,((((u.setCell (hb 0) _).setCell (hb 1) _).setCell (hb 2) _).setCell (hb 3) _)⟩
 | true =>
  have c_o0:=lcell n_o 0 (v:=Z l0) rfl
  have c_o1:=lcell n_o 1 (v:=Z l1) rfl
  have c_o2:=lcell n_o 2 (v:=Z g0) rfl
  have c_o3:=lcell n_o 3 (v:=Z g1) rfl
  go_wp2_with fail
  refine (C4.o (by first | trivial | rfl) _).mono ?_
  rintro e v2 ⟨rfl,g⟩
  replace u:=u.trans (g.mono u.size)
  replace n_o:=lkeep n_o g
  replace n_r:=lkeep n_r g
  clear c_o0 c_o1 c_o2 c_o3
  clear g
  by_cases hk:k≤0
  ·have hk2:¬ 0<k:=by omega
   have c_o0:=lcell n_o 0 (v:=Z l0) rfl
   have c_o1:=lcell n_o 1 (v:=Z l1) rfl
   have c_o2:=lcell n_o 2 (v:=Z g0) rfl
   have c_o3:=lcell n_o 3 (v:=Z g1) rfl
   have hb:∀ i,w.heap.size≤(⟨w.heap.size+1+1,i,none⟩:Addr).block:=fun _=>by show w.heap.size≤w.heap.size+1+1;omega
   have s_r:=box4_set (x:=Z l0) (y:=Z l1) (z:=Z g0) (t:=Z g1) n_r
   have k0:=lcell n_r 0 (v:=Z ⟨#[]⟩) rfl
   have f0:=lfree n_r 0
   have k1:=lcell n_r 1 (v:=Z ⟨#[]⟩) rfl
   have f1:=lfree n_r 1
   have k2:=lcell n_r 2 (v:=Z ⟨#[]⟩) rfl
   have f2:=lfree n_r 2
   have k3:=lcell n_r 3 (v:=Z ⟨#[]⟩) rfl
   have f3:=lfree n_r 3
   have z0:=lcell s_r 0 (v:=Z l0) rfl
   have z1:=lcell s_r 1 (v:=Z l1) rfl
   have z2:=lcell s_r 2 (v:=Z g0) rfl
   have z3:=lcell s_r 3 (v:=Z g1) rfl
   go_wp2_with fail
   exact bodyPost_ret (v:=.tuple #[.agg #[Z l0,Z l1,Z g0,Z g1],.int .i64 0]) (by simp [results,Tryz.results60, go_sem,z0,z1,z2,z3]) rfl ⟨by simp,((((u.setCell (hb 0) _).setCell (hb 1) _).setCell (hb 2) _).setCell (hb 3) _)⟩
  ·have hk2:0<k:=by omega
   have hb:∀ i,w.heap.size≤(⟨w.heap.size+1+1,i,none⟩:Addr).block:=fun _=>by show w.heap.size≤w.heap.size+1+1;omega
   have s_r:=box4_set (x:=Z ⟨#[]⟩) (y:=Z ⟨#[]⟩) (z:=Z ⟨#[]⟩) (t:=Z ⟨#[]⟩) n_r
   have k0:=lcell n_r 0 (v:=Z ⟨#[]⟩) rfl
   have f0:=lfree n_r 0
   have k1:=lcell n_r 1 (v:=Z ⟨#[]⟩) rfl
   have f1:=lfree n_r 1
   have k2:=lcell n_r 2 (v:=Z ⟨#[]⟩) rfl
   have f2:=lfree n_r 2
   have k3:=lcell n_r 3 (v:=Z ⟨#[]⟩) rfl
   have f3:=lfree n_r 3
   have z0:=lcell s_r 0 (v:=Z ⟨#[]⟩) rfl
   have z1:=lcell s_r 1 (v:=Z ⟨#[]⟩) rfl
   have z2:=lcell s_r 2 (v:=Z ⟨#[]⟩) rfl
   have z3:=lcell s_r 3 (v:=Z ⟨#[]⟩) rfl
   go_wp2_with fail
   exact bodyPost_ret (v:=.tuple #[.agg #[Z ⟨#[]⟩,Z ⟨#[]⟩,Z ⟨#[]⟩,Z ⟨#[]⟩],.int .i64 50]) (by simp [results,Tryz.results60, go_sem,z0,z1,z2,z3]) rfl ⟨by simp,((((u.setCell (hb 0) _).setCell (hb 1) _).setCell (hb 2) _).setCell (hb 3) _)⟩
end En
end Go.Proofs.YtbfonkabmehlmaaGreatDoor
