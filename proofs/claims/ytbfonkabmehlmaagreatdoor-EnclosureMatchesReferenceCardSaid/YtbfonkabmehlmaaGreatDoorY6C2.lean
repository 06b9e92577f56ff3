/-
  Package enclosure: the functions over their closures.
-/
import Derived.Test.YtbfonkabmehlmaaGreatDoorY6C1
import Derived.Deep.RegionHeld
import Derived.Maps.AppendAt
set_option maxRecDepth 1000000
set_option maxHeartbeats 40000000
open Go.Value renaming string→Z
open Go.Obj renaming cells→O
namespace Go.Proofs.YtbfonkabmehlmaaGreatDoor
section
namespace En
open Go.RowKit Go.Extern.Stop Go.Stop Go.Extern
def Ret (f:Nat) (args:Array Value) (v:Value):Prop:=∀ W:World,Calls Tryz.prog f args W fun e W'=>e = .returned v∧Below W.heap.size W W'
def g8 (a b c d x y z t:ByteArray):Nat→ByteArray
 | 0=>a | 1=>b | 2=>c | 3=>d | 4=>x | 5=>y | 6=>z | _=>t
theorem news4 (w:World) (a b c d:Obj):((((w.alloc a).alloc b).alloc c).alloc d).heap[w.heap.size]? = some a∧((((w.alloc a).alloc b).alloc c).alloc d).heap[w.heap.size+1]? = some b∧((((w.alloc a).alloc b).alloc c).alloc d).heap[w.heap.size+1+1]? = some c∧((((w.alloc a).alloc b).alloc c).alloc d).heap[w.heap.size+1+1+1]? = some d:=by
 obtain ⟨h1,h2,h3⟩:=new3 w a b c
 refine ⟨(Below.heap_alloc _ _ _ (by simp only [World.size_alloc];omega)).trans h1,(Below.heap_alloc _ _ _ (by simp only [World.size_alloc];omega)).trans h2,(Below.heap_alloc _ _ _ (by simp only [World.size_alloc];omega)).trans h3, ?_⟩
 have:=World.alloc_heap_new (((w.alloc a).alloc b).alloc c) d
 rwa [World.size_alloc,World.size_alloc,World.size_alloc] at this
theorem below4 (w:World) (a b c d:Obj):Below w.heap.size w ((((w.alloc a).alloc b).alloc c).alloc d):=((((Below.refl w.heap.size w).alloc (Nat.le_refl _) a).alloc (by simp) b).alloc (by simp;omega) c).alloc (by simp;omega) d
theorem liftAdd (a:Addr) (x0 x1 x2 x3 y0 y1 y2 y3 r0 r1 r2 r3:ByteArray) (okx oky bad:Bool)
  (hC:okx=true→oky=true→∀ (Bx By:Nat) (W:World),Ref a W→W.heap[Bx]? = some (O #[Z x0,Z x1,Z x2,Z x3] 25 (0,0))→W.heap[By]? = some (O #[Z y0,Z y1,Z y2,Z y3] 25 (0,0))→Calls Tryz.prog 106 #[.pointer (some ⟨Bx,0,none⟩),.pointer (some ⟨By,0,none⟩)] W fun e W'=>e=(if bad then .panicked (refP a) else .returned (ivl r0 r1 r2 r3))∧Below W.heap.size W W')
  (hX:Ret 20 #[ivl x0 x1 x2 x3] (.bool okx)) (hY:Ret 20 #[ivl y0 y1 y2 y3] (.bool oky)) (w:World) (hv:Ref a w) :
  Calls Tryz.prog 53 #[.agg #[Z x0,Z x1,Z x2,Z x3],.agg #[Z y0,Z y1,Z y2,Z y3]] w fun e w'=>e = .returned (if okx=true∧oky=true∧bad=false then .tuple #[ivl r0 r1 r2 r3,.int .i64 0] else .tuple #[ivl0,.int .i64 50])∧Below w.heap.size w w':=by
 have hmf:∀ (fn:Fn) (first cap:Array Value) (w:World),(Instr.makeFunc fn first cap).run Tryz.prog w = .ok (.func fn first cap) w:=fun _ _ _ _=>rfl
 have CC:Shut _:=⟨hC⟩
 have CX:Shut _:=⟨hX⟩
 have CY:Shut _:=⟨hY⟩
 have HV:Shut _:=⟨hv⟩
 clear hC hX hY hv
 unfold ivl0 ivl at *
 go_enter Tryz.func53, Tryz.ntmps53
 go_wp2_with fail
 obtain ⟨n_x,n_y,n_r,n_s⟩:=news4 w (O #[Z x0,Z x1,Z x2,Z x3] 25) (O #[Z y0,Z y1,Z y2,Z y3] 25) (O #[Z ⟨#[]⟩,Z ⟨#[]⟩,Z ⟨#[]⟩,Z ⟨#[]⟩] 25) (O #[Z x0,Z x1,Z x2,Z x3,Z y0,Z y1,Z y2,Z y3] 25)
 have u:=below4 w (O #[Z x0,Z x1,Z x2,Z x3] 25) (O #[Z y0,Z y1,Z y2,Z y3] 25) (O #[Z ⟨#[]⟩,Z ⟨#[]⟩,Z ⟨#[]⟩,Z ⟨#[]⟩] 25) (O #[Z x0,Z x1,Z x2,Z x3,Z y0,Z y1,Z y2,Z y3] 25)
 generalize ((((w.alloc (O #[Z x0,Z x1,Z x2,Z x3] 25)).alloc (O #[Z y0,Z y1,Z y2,Z y3] 25)).alloc (O #[Z ⟨#[]⟩,Z ⟨#[]⟩,Z ⟨#[]⟩,Z ⟨#[]⟩] 25)).alloc (O #[Z x0,Z x1,Z x2,Z x3,Z y0,Z y1,Z y2,Z y3] 25))=W4 at *
 have cA:=attemptI 106 #[.pointer (some ⟨w.heap.size,0,none⟩),.pointer (some ⟨w.heap.size+1,0,none⟩)] (enters_of Tryz.func106 (by kernel_rfl) rfl) a (fun W=>W.heap[w.heap.size]? = some (O #[Z x0,Z x1,Z x2,Z x3] 25 (0,0))∧W.heap[w.heap.size+1]? = some (O #[Z y0,Z y1,Z y2,Z y3] 25 (0,0))) (fun W W' h hB=>⟨lkeep h.1 hB,lkeep h.2 hB⟩) r0 r1 r2 r3 bad
  2 (w.heap.size+1+1+1) 2 (g8 x0 x1 x2 x3 y0 y1 y2 y3) (fun j=>if j=0 then okx else oky) (by omega)
  (fun ho W hr hi=>CC.o (ho 0 (by omega)) (ho 1 (by omega)) _ _ W hr hi.1 hi.2)
  (fun j hj W=>by
   rcases (show j=0∨j=1 by omega) with rfl | rfl
   ·exact CX.o W
   ·exact CY.o W) W4 (HV.o.keep u) ⟨n_x,n_y⟩
  (fun W hB j hj=>by
   have q:=lkeep n_s hB
   rcases (show j=0∨j=1∨j=2∨j=3∨j=4∨j=5∨j=6∨j=7 by omega) with rfl | rfl | rfl | rfl | rfl | rfl | rfl | rfl
   ·exact lcell q 0 rfl
   ·exact lcell q 1 rfl
   ·exact lcell q 2 rfl
   ·exact lcell q 3 rfl
   ·exact lcell q 4 rfl
   ·exact lcell q 5 rfl
   ·exact lcell q 6 rfl
   ·exact lcell q 7 rfl)
 unfold ivl0 ivl at *
 refine cA.mono ?_
 rintro e v1 ⟨rfl,g⟩
 replace u:=u.trans (g.mono u.size)
 replace n_r:=lkeep n_r g
 clear g cA n_x n_y n_s hmf
 have d0:=lcell n_r 0 (v:=Z ⟨#[]⟩) rfl
 have d1:=lcell n_r 1 (v:=Z ⟨#[]⟩) rfl
 have d2:=lcell n_r 2 (v:=Z ⟨#[]⟩) rfl
 have d3:=lcell n_r 3 (v:=Z ⟨#[]⟩) rfl
 have h0:=lfree n_r 0
 have h1:=lfree n_r 1
 have h2:=lfree n_r 2
 have h3:=lfree n_r 3
 have hb:∀ i,w.heap.size≤(⟨w.heap.size+1+1,i,none⟩:Addr).block:=fun _=>Nat.le_trans (Nat.le_succ _) (Nat.le_succ _)
 by_cases hP:okx=true∧oky=true∧bad=false
 ·have hQ:(∀ j:Nat,j<2→(fun j:Nat=>if j=0 then okx else oky) j=true)∧bad=false:=⟨fun j hj=>(show j=0∨j=1 by omega).elim (fun h=>by subst h;exact hP.1) (fun h=>by subst h;exact hP.2.1),hP.2.2⟩
  rw [if_pos hQ]
  have s_r:=box4_set (x:=Z r0) (y:=Z r1) (z:=Z r2) (t:=Z r3) n_r
  have z0:=lcell s_r 0 (v:=Z r0) rfl
  have z1:=lcell s_r 1 (v:=Z r1) rfl
  have z2:=lcell s_r 2 (v:=Z r2) rfl
  have z3:=lcell s_r 3 (v:=Z r3) rfl
  dsimp only
  go_wp
  exact bodyPost_ret (v:=.tuple #[.agg #[Z r0,Z r1,Z r2,Z r3],.int .i64 0]) (by simp [results,Tryz.results53, go_sem,z0,z1,z2,z3]) rfl ⟨by rw [if_pos hP],(((u.setCell (hb 0) _).setCell (hb 1) _).setCell (hb 2) _).setCell (hb 3) _⟩
 ·have hQ:¬((∀ j:Nat,j<2→(fun j:Nat=>if j=0 then okx else oky) j=true)∧bad=false):=fun h=>hP ⟨h.1 0 (by omega),h.1 1 (by omega),h.2⟩
  rw [if_neg hQ]
  have s_r:=box4_set (x:=Z ⟨#[]⟩) (y:=Z ⟨#[]⟩) (z:=Z ⟨#[]⟩) (t:=Z ⟨#[]⟩) n_r
  have z0:=lcell s_r 0 (v:=Z ⟨#[]⟩) rfl
  have z1:=lcell s_r 1 (v:=Z ⟨#[]⟩) rfl
  have z2:=lcell s_r 2 (v:=Z ⟨#[]⟩) rfl
  have z3:=lcell s_r 3 (v:=Z ⟨#[]⟩) rfl
  dsimp only
  go_wp
  exact bodyPost_ret (v:=.tuple #[.agg #[Z ⟨#[]⟩,Z ⟨#[]⟩,Z ⟨#[]⟩,Z ⟨#[]⟩],.int .i64 50]) (by simp [results,Tryz.results53, go_sem,z0,z1,z2,z3]) rfl ⟨by rw [if_neg hP],(((u.setCell (hb 0) _).setCell (hb 1) _).setCell (hb 2) _).setCell (hb 3) _⟩
theorem liftSub (a:Addr) (x0 x1 x2 x3 y0 y1 y2 y3 r0 r1 r2 r3:ByteArray) (okx oky bad:Bool)
  (hC:okx=true→oky=true→∀ (Bx By:Nat) (W:World),Ref a W→W.heap[Bx]? = some (O #[Z x0,Z x1,Z x2,Z x3] 25 (0,0))→W.heap[By]? = some (O #[Z y0,Z y1,Z y2,Z y3] 25 (0,0))→Calls Tryz.prog 107 #[.pointer (some ⟨Bx,0,none⟩),.pointer (some ⟨By,0,none⟩)] W fun e W'=>e=(if bad then .panicked (refP a) else .returned (ivl r0 r1 r2 r3))∧Below W.heap.size W W')
  (hX:Ret 20 #[ivl x0 x1 x2 x3] (.bool okx)) (hY:Ret 20 #[ivl y0 y1 y2 y3] (.bool oky)) (w:World) (hv:Ref a w) :
  Calls Tryz.prog 54 #[.agg #[Z x0,Z x1,Z x2,Z x3],.agg #[Z y0,Z y1,Z y2,Z y3]] w fun e w'=>e = .returned (if okx=true∧oky=true∧bad=false then .tuple #[ivl r0 r1 r2 r3,.int .i64 0] else .tuple #[ivl0,.int .i64 50])∧Below w.heap.size w w':=by
 have hmf:∀ (fn:Fn) (first cap:Array Value) (w:World),(Instr.makeFunc fn first cap).run Tryz.prog w = .ok (.func fn first cap) w:=fun _ _ _ _=>rfl
 have CC:Shut _:=⟨hC⟩
 have CX:Shut _:=⟨hX⟩
 have CY:Shut _:=⟨hY⟩
 have HV:Shut _:=⟨hv⟩
 clear hC hX hY hv
 unfold ivl0 ivl at *
 go_enter Tryz.func54, Tryz.ntmps54
 go_wp2_with fail
 obtain ⟨n_x,n_y,n_r,n_s⟩:=news4 w (O #[Z x0,Z x1,Z x2,Z x3] 25) (O #[Z y0,Z y1,Z y2,Z y3] 25) (O #[Z ⟨#[]⟩,Z ⟨#[]⟩,Z ⟨#[]⟩,Z ⟨#[]⟩] 25) (O #[Z x0,Z x1,Z x2,Z x3,Z y0,Z y1,Z y2,Z y3] 25)
 have u:=below4 w (O #[Z x0,Z x1,Z x2,Z x3] 25) (O #[Z y0,Z y1,Z y2,Z y3] 25) (O #[Z ⟨#[]⟩,Z ⟨#[]⟩,Z ⟨#[]⟩,Z ⟨#[]⟩] 25) (O #[Z x0,Z x1,Z x2,Z x3,Z y0,Z y1,Z y2,Z y3] 25)
 generalize ((((w.alloc (O #[Z x0,Z x1,Z x2,Z x3] 25)).alloc (O #[Z y0,Z y1,Z y2,Z y3] 25)).alloc (O #[Z ⟨#[]⟩,Z ⟨#[]⟩,Z ⟨#[]⟩,Z ⟨#[]⟩] 25)).alloc (O #[Z x0,Z x1,Z x2,Z x3,Z y0,Z y1,Z y2,Z y3] 25))=W4 at *
 have cA:=attemptI 107 #[.pointer (some ⟨w.heap.size,0,none⟩),.pointer (some ⟨w.heap.size+1,0,none⟩)] (enters_of Tryz.func107 (by kernel_rfl) rfl) a (fun W=>W.heap[w.heap.size]? = some (O #[Z x0,Z x1,Z x2,Z x3] 25 (0,0))∧W.heap[w.heap.size+1]? = some (O #[Z y0,Z y1,Z y2,Z y3] 25 (0,0))) (fun W W' h hB=>⟨lkeep h.1 hB,lkeep h.2 hB⟩) r0 r1 r2 r3 bad
  2 (w.heap.size+1+1+1) 2 (g8 x0 x1 x2 x3 y0 y1 y2 y3) (fun j=>if j=0 then okx else oky) (by omega)
  (fun ho W hr hi=>CC.o (ho 0 (by omega)) (ho 1 (by omega)) _ _ W hr hi.1 hi.2)
  (fun j hj W=>by
   rcases (show j=0∨j=1 by omega) with rfl | rfl
   ·exact CX.o W
   ·exact CY.o W) W4 (HV.o.keep u) ⟨n_x,n_y⟩
  (fun W hB j hj=>by
   have q:=lkeep n_s hB
   rcases (show j=0∨j=1∨j=2∨j=3∨j=4∨j=5∨j=6∨j=7 by omega) with rfl | rfl | rfl | rfl | rfl | rfl | rfl | rfl
   ·exact lcell q 0 rfl
   ·exact lcell q 1 rfl
   ·exact lcell q 2 rfl
   ·exact lcell q 3 rfl
   ·exact lcell q 4 rfl
   ·exact lcell q 5 rfl
   ·exact lcell q 6 rfl
   ·exact lcell q 7 rfl)
 unfold ivl0 ivl at *
 refine cA.mono ?_
 rintro e v1 ⟨rfl,g⟩
 replace u:=u.trans (g.mono u.size)
 replace n_r:=lkeep n_r g
 clear g cA n_x n_y n_s hmf
 have d0:=lcell n_r 0 (v:=Z ⟨#[]⟩) rfl
 have d1:=lcell n_r 1 (v:=Z ⟨#[]⟩) rfl
 have d2:=lcell n_r 2 (v:=Z ⟨#[]⟩) rfl
 have d3:=lcell n_r 3 (v:=Z ⟨#[]⟩) rfl
 have h0:=lfree n_r 0
 have h1:=lfree n_r 1
 have h2:=lfree n_r 2
 have h3:=lfree n_r 3
 have hb:∀ i,w.heap.size≤(⟨w.heap.size+1+1,i,none⟩:Addr).block:=fun _=>Nat.le_trans (Nat.le_succ _) (Nat.le_succ _)
 by_cases hP:okx=true∧oky=true∧bad=false
 ·have hQ:(∀ j:Nat,j<2→(fun j:Nat=>if j=0 then okx else oky) j=true)∧bad=false:=⟨fun j hj=>(show j=0∨j=1 by omega).elim (fun h=>by subst h;exact hP.1) (fun h=>by subst h;exact hP.2.1),hP.2.2⟩
  rw [if_pos hQ]
  have s_r:=box4_set (x:=Z r0) (y:=Z r1) (z:=Z r2) (t:=Z r3) n_r
  have z0:=lcell s_r 0 (v:=Z r0) rfl
  have z1:=lcell s_r 1 (v:=Z r1) rfl
  have z2:=lcell s_r 2 (v:=Z r2) rfl
  have z3:=lcell s_r 3 (v:=Z r3) rfl
  dsimp only
  go_wp
  exact bodyPost_ret (v:=.tuple #[.agg #[Z r0,Z r1,Z r2,Z r3],.int .i64 0]) (by simp [results,Tryz.results54, go_sem,z0,z1,z2,z3]) rfl ⟨by rw [if_pos hP],(((u.setCell (hb 0) _).setCell (hb 1) _).setCell (hb 2) _).setCell (hb 3) _⟩
 ·have hQ:¬((∀ j:Nat,j<2→(fun j:Nat=>if j=0 then okx else oky) j=true)∧bad=false):=fun h=>hP ⟨h.1 0 (by omega),h.1 1 (by omega),h.2⟩
  rw [if_neg hQ]
  have s_r:=box4_set (x:=Z ⟨#[]⟩) (y:=Z ⟨#[]⟩) (z:=Z ⟨#[]⟩) (t:=Z ⟨#[]⟩) n_r
  have z0:=lcell s_r 0 (v:=Z ⟨#[]⟩) rfl
  have z1:=lcell s_r 1 (v:=Z ⟨#[]⟩) rfl
  have z2:=lcell s_r 2 (v:=Z ⟨#[]⟩) rfl
  have z3:=lcell s_r 3 (v:=Z ⟨#[]⟩) rfl
  dsimp only
  go_wp
  exact bodyPost_ret (v:=.tuple #[.agg #[Z ⟨#[]⟩,Z ⟨#[]⟩,Z ⟨#[]⟩,Z ⟨#[]⟩],.int .i64 50]) (by simp [results,Tryz.results54, go_sem,z0,z1,z2,z3]) rfl ⟨by rw [if_neg hP],(((u.setCell (hb 0) _).setCell (hb 1) _).setCell (hb 2) _).setCell (hb 3) _⟩
theorem liftMul (a:Addr) (x0 x1 x2 x3 y0 y1 y2 y3 r0 r1 r2 r3:ByteArray) (okx oky bad:Bool)
  (hC:okx=true→oky=true→∀ (Bx By:Nat) (W:World),Ref a W→W.heap[Bx]? = some (O #[Z x0,Z x1,Z x2,Z x3] 25 (0,0))→W.heap[By]? = some (O #[Z y0,Z y1,Z y2,Z y3] 25 (0,0))→Calls Tryz.prog 92 #[.pointer (some ⟨Bx,0,none⟩),.pointer (some ⟨By,0,none⟩)] W fun e W'=>e=(if bad then .panicked (refP a) else .returned (ivl r0 r1 r2 r3))∧Below W.heap.size W W')
  (hX:Ret 20 #[ivl x0 x1 x2 x3] (.bool okx)) (hY:Ret 20 #[ivl y0 y1 y2 y3] (.bool oky)) (w:World) (hv:Ref a w) :
  Calls Tryz.prog 38 #[.agg #[Z x0,Z x1,Z x2,Z x3],.agg #[Z y0,Z y1,Z y2,Z y3]] w fun e w'=>e = .returned (if okx=true∧oky=true∧bad=false then .tuple #[ivl r0 r1 r2 r3,.int .i64 0] else .tuple #[ivl0,.int .i64 50])∧Below w.heap.size w w':=by
 have hmf:∀ (fn:Fn) (first cap:Array Value) (w:World),(Instr.makeFunc fn first cap).run Tryz.prog w = .ok (.func fn first cap) w:=fun _ _ _ _=>rfl
 have CC:Shut _:=⟨hC⟩
 have CX:Shut _:=⟨hX⟩
 have CY:Shut _:=⟨hY⟩
 have HV:Shut _:=⟨hv⟩
 clear hC hX hY hv
 unfold ivl0 ivl at *
 go_enter Tryz.func38, Tryz.ntmps38
 go_wp2_with fail
 obtain ⟨n_x,n_y,n_r,n_s⟩:=news4 w (O #[Z x0,Z x1,Z x2,Z x3] 25) (O #[Z y0,Z y1,Z y2,Z y3] 25) (O #[Z ⟨#[]⟩,Z ⟨#[]⟩,Z ⟨#[]⟩,Z ⟨#[]⟩] 25) (O #[Z x0,Z x1,Z x2,Z x3,Z y0,Z y1,Z y2,Z y3] 25)
 have u:=below4 w (O #[Z x0,Z x1,Z x2,Z x3] 25) (O #[Z y0,Z y1,Z y2,Z y3] 25) (O #[Z ⟨#[]⟩,Z ⟨#[]⟩,Z ⟨#[]⟩,Z ⟨#[]⟩] 25) (O #[Z x0,Z x1,Z x2,Z x3,Z y0,Z y1,Z y2,Z y3] 25)
 generalize ((((w.alloc (O #[Z x0,Z x1,Z x2,Z x3] 25)).alloc (O #[Z y0,Z y1,Z y2,Z y3] 25)).alloc (O #[Z ⟨#[]⟩,Z ⟨#[]⟩,Z ⟨#[]⟩,Z ⟨#[]⟩] 25)).alloc (O #[Z x0,Z x1,Z x2,Z x3,Z y0,Z y1,Z y2,Z y3] 25))=W4 at *
 have cA:=attemptI 92 #[.pointer (some ⟨w.heap.size,0,none⟩),.pointer (some ⟨w.heap.size+1,0,none⟩)] (enters_of Tryz.func92 (by kernel_rfl) rfl) a (fun W=>W.heap[w.heap.size]? = some (O #[Z x0,Z x1,Z x2,Z x3] 25 (0,0))∧W.heap[w.heap.size+1]? = some (O #[Z y0,Z y1,Z y2,Z y3] 25 (0,0))) (fun W W' h hB=>⟨lkeep h.1 hB,lkeep h.2 hB⟩) r0 r1 r2 r3 bad
  2 (w.heap.size+1+1+1) 2 (g8 x0 x1 x2 x3 y0 y1 y2 y3) (fun j=>if j=0 then okx else oky) (by omega)
  (fun ho W hr hi=>CC.o (ho 0 (by omega)) (ho 1 (by omega)) _ _ W hr hi.1 hi.2)
  (fun j hj W=>by
   rcases (show j=0∨j=1 by omega) with rfl | rfl
   ·exact CX.o W
   ·exact CY.o W) W4 (HV.o.keep u) ⟨n_x,n_y⟩
  (fun W hB j hj=>by
   have q:=lkeep n_s hB
   rcases (show j=0∨j=1∨j=2∨j=3∨j=4∨j=5∨j=6∨j=7 by omega) with rfl | rfl | rfl | rfl | rfl | rfl | rfl | rfl
   ·exact lcell q 0 rfl
   ·exact lcell q 1 rfl
   ·exact lcell q 2 rfl
   ·exact lcell q 3 rfl
   ·exact lcell q 4 rfl
   ·exact lcell q 5 rfl
   ·exact lcell q 6 rfl
   ·exact lcell q 7 rfl)
 unfold ivl0 ivl at *
 refine cA.mono ?_
 rintro e v1 ⟨rfl,g⟩
 replace u:=u.trans (g.mono u.size)
 replace n_r:=lkeep n_r g
 clear g cA n_x n_y n_s hmf
 have d0:=lcell n_r 0 (v:=Z ⟨#[]⟩) rfl
 have d1:=lcell n_r 1 (v:=Z ⟨#[]⟩) rfl
 have d2:=lcell n_r 2 (v:=Z ⟨#[]⟩) rfl
 have d3:=lcell n_r 3 (v:=Z ⟨#[]⟩) rfl
 have h0:=lfree n_r 0
 have h1:=lfree n_r 1
 have h2:=lfree n_r 2
 have h3:=lfree n_r 3
 have hb:∀ i,w.heap.size≤(⟨w.heap.size+1+1,i,none⟩:Addr).block:=fun _=>Nat.le_trans (Nat.le_succ _) (Nat.le_succ _)
 by_cases hP:okx=true∧oky=true∧bad=false
 ·have hQ:(∀ j:Nat,j<2→(fun j:Nat=>if j=0 then okx else oky) j=true)∧bad=false:=⟨fun j hj=>(show j=0∨j=1 by omega).elim (fun h=>by subst h;exact hP.1) (fun h=>by subst h;exact hP.2.1),hP.2.2⟩
  rw [if_pos hQ]
  have s_r:=box4_set (x:=Z r0) (y:=Z r1) (z:=Z r2) (t:=Z r3) n_r
  have z0:=lcell s_r 0 (v:=Z r0) rfl
  have z1:=lcell s_r 1 (v:=Z r1) rfl
  have z2:=lcell s_r 2 (v:=Z r2) rfl
  have z3:=lcell s_r 3 (v:=Z r3) rfl
  dsimp only
  go_wp
  exact bodyPost_ret (v:=.tuple #[.agg #[Z r0,Z r1,Z r2,Z r3],.int .i64 0]) (by simp [results,Tryz.results38, go_sem,z0,z1,z2,z3]) rfl ⟨by rw [if_pos hP],(((u.setCell (hb 0) _).setCell (hb 1) _).setCell (hb 2) _).setCell (hb 3) _⟩
 ·have hQ:¬((∀ j:Nat,j<2→(fun j:Nat=>if j=0 then okx else oky) j=true)∧bad=false):=fun h=>hP ⟨h.1 0 (by omega),h.1 1 (by omega),h.2⟩
  rw [if_neg hQ]
  have s_r:=box4_set (x:=Z ⟨#[]⟩) (y:=Z ⟨#[]⟩) (z:=Z ⟨#[]⟩) (t:=Z ⟨#[]⟩) n_r
  have z0:=lcell s_r 0 (v:=Z ⟨#[]⟩) rfl
  have z1:=lcell s_r 1 (v:=Z ⟨#[]⟩) rfl
  have z2:=lcell s_r 2 (v:=Z ⟨#[]⟩) rfl
  have z3:=lcell s_r 3 (v:=Z ⟨#[]⟩) rfl
  dsimp only
  go_wp
  exact bodyPost_ret (v:=.tuple #[.agg #[Z ⟨#[]⟩,Z ⟨#[]⟩,Z ⟨#[]⟩,Z ⟨#[]⟩],.int .i64 50]) (by simp [results,Tryz.results38, go_sem,z0,z1,z2,z3]) rfl ⟨by rw [if_neg hP],(((u.setCell (hb 0) _).setCell (hb 1) _).setCell (hb 2) _).setCell (hb 3) _⟩
theorem liftDiv (a:Addr) (x0 x1 x2 x3 y0 y1 y2 y3 r0 r1 r2 r3:ByteArray) (okx oky bad:Bool)
  (hC:okx=true→oky=true→∀ (Bx By:Nat) (W:World),Ref a W→W.heap[Bx]? = some (O #[Z x0,Z x1,Z x2,Z x3] 25 (0,0))→W.heap[By]? = some (O #[Z y0,Z y1,Z y2,Z y3] 25 (0,0))→Calls Tryz.prog 94 #[.pointer (some ⟨By,0,none⟩),.pointer (some ⟨Bx,0,none⟩)] W fun e W'=>e=(if bad then .panicked (refP a) else .returned (ivl r0 r1 r2 r3))∧Below W.heap.size W W')
  (hX:Ret 20 #[ivl x0 x1 x2 x3] (.bool okx)) (hY:Ret 20 #[ivl y0 y1 y2 y3] (.bool oky)) (w:World) (hv:Ref a w) :
  Calls Tryz.prog 40 #[.agg #[Z x0,Z x1,Z x2,Z x3],.agg #[Z y0,Z y1,Z y2,Z y3]] w fun e w'=>e = .returned (if okx=true∧oky=true∧bad=false then .tuple #[ivl r0 r1 r2 r3,.int .i64 0] else .tuple #[ivl0,.int .i64 50])∧Below w.heap.size w w':=by
 have hmf:∀ (fn:Fn) (first cap:Array Value) (w:World),(Instr.makeFunc fn first cap).run Tryz.prog w = .ok (.func fn first cap) w:=fun _ _ _ _=>rfl
 have CC:Shut _:=⟨hC⟩
 have CX:Shut _:=⟨hX⟩
 have CY:Shut _:=⟨hY⟩
 have HV:Shut _:=⟨hv⟩
 clear hC hX hY hv
 unfold ivl0 ivl at *
 go_enter Tryz.func40, Tryz.ntmps40
 go_wp2_with fail
 obtain ⟨n_x,n_y,n_r,n_s⟩:=news4 w (O #[Z x0,Z x1,Z x2,Z x3] 25) (O #[Z y0,Z y1,Z y2,Z y3] 25) (O #[Z ⟨#[]⟩,Z ⟨#[]⟩,Z ⟨#[]⟩,Z ⟨#[]⟩] 25) (O #[Z x0,Z x1,Z x2,Z x3,Z y0,Z y1,Z y2,Z y3] 25)
 have u:=below4 w (O #[Z x0,Z x1,Z x2,Z x3] 25) (O #[Z y0,Z y1,Z y2,Z y3] 25) (O #[Z ⟨#[]⟩,Z ⟨#[]⟩,Z ⟨#[]⟩,Z ⟨#[]⟩] 25) (O #[Z x0,Z x1,Z x2,Z x3,Z y0,Z y1,Z y2,Z y3] 25)
 generalize ((((w.alloc (O #[Z x0,Z x1,Z x2,Z x3] 25)).alloc (O #[Z y0,Z y1,Z y2,Z y3] 25)).alloc (O #[Z ⟨#[]⟩,Z ⟨#[]⟩,Z ⟨#[]⟩,Z ⟨#[]⟩] 25)).alloc (O #[Z x0,Z x1,Z x2,Z x3,Z y0,Z y1,Z y2,Z y3] 25))=W4 at *
 have cA:=attemptI 94 #[.pointer (some ⟨w.heap.size+1,0,none⟩),.pointer (some ⟨w.heap.size,0,none⟩)] (enters_of Tryz.func94 (by kernel_rfl) rfl) a (fun W=>W.heap[w.heap.size]? = some (O #[Z x0,Z x1,Z x2,Z x3] 25 (0,0))∧W.heap[w.heap.size+1]? = some (O #[Z y0,Z y1,Z y2,Z y3] 25 (0,0))) (fun W W' h hB=>⟨lkeep h.1 hB,lkeep h.2 hB⟩) r0 r1 r2 r3 bad
  2 (w.heap.size+1+1+1) 2 (g8 x0 x1 x2 x3 y0 y1 y2 y3) (fun j=>if j=0 then okx else oky) (by omega)
  (fun ho W hr hi=>CC.o (ho 0 (by omega)) (ho 1 (by omega)) _ _ W hr hi.1 hi.2)
  (fun j hj W=>by
   rcases (show j=0∨j=1 by omega) with rfl | rfl
   ·exact CX.o W
   ·exact CY.o W) W4 (HV.o.keep u) ⟨n_x,n_y⟩
  (fun W hB j hj=>by
   have q:=lkeep n_s hB
   rcases (show j=0∨j=1∨j=2∨j=3∨j=4∨j=5∨j=6∨j=7 by omega) with rfl | rfl | rfl | rfl | rfl | rfl | rfl | rfl
   ·exact lcell q 0 rfl
   ·exact lcell q 1 rfl
   ·exact lcell q 2 rfl
   ·exact lcell q 3 rfl
   ·exact lcell q 4 rfl
   ·exact lcell q 5 rfl
   ·exact lcell q 6 rfl
   ·exact lcell q 7 rfl)
 unfold ivl0 ivl at *
 refine cA.mono ?_
 rintro e v1 ⟨rfl,g⟩
 replace u:=u.trans (g.mono u.size)
 replace n_r:=lkeep n_r g
 clear g cA n_x n_y n_s hmf
 have d0:=lcell n_r 0 (v:=Z ⟨#[]⟩) rfl
 have d1:=lcell n_r 1 (v:=Z ⟨#[]⟩) rfl
 have d2:=lcell n_r 2 (v:=Z ⟨#[]⟩) rfl
 have d3:=lcell n_r 3 (v:=Z ⟨#[]⟩) rfl
 have h0:=lfree n_r 0
 have h1:=lfree n_r 1
 have h2:=lfree n_r 2
 have h3:=lfree n_r 3
 have hb:∀ i,w.heap.size≤(⟨w.heap.size+1+1,i,none⟩:Addr).block:=fun _=>Nat.le_trans (Nat.le_succ _) (Nat.le_succ _)
 by_cases hP:okx=true∧oky=true∧bad=false
 ·have hQ:(∀ j:Nat,j<2→(fun j:Nat=>if j=0 then okx else oky) j=true)∧bad=false:=⟨fun j hj=>(show j=0∨j=1 by omega).elim (fun h=>by subst h;exact hP.1) (fun h=>by subst h;exact hP.2.1),hP.2.2⟩
  rw [if_pos hQ]
  have s_r:=box4_set (x:=Z r0) (y:=Z r1) (z:=Z r2) (t:=Z r3) n_r
  have z0:=lcell s_r 0 (v:=Z r0) rfl
  have z1:=lcell s_r 1 (v:=Z r1) rfl
  have z2:=lcell s_r 2 (v:=Z r2) rfl
  have z3:=lcell s_r 3 (v:=Z r3) rfl
  dsimp only
  go_wp
  exact bodyPost_ret (v:=.tuple #[.agg #[Z r0,Z r1,Z r2,Z r3],.int .i64 0]) (by simp [results,Tryz.results40, go_sem,z0,z1,z2,z3]) rfl ⟨by rw [if_pos hP],(((u.setCell (hb 0) _).setCell (hb 1) _).setCell (hb 2) _).setCell (hb 3) _⟩
 ·have hQ:¬((∀ j:Nat,j<2→(fun j:Nat=>if j=0 then okx else oky) j=true)∧bad=false):=fun h=>hP ⟨h.1 0 (by omega),h.1 1 (by omega),h.2⟩
  rw [if_neg hQ]
  have s_r:=box4_set (x:=Z ⟨#[]⟩) (y:=Z ⟨#[]⟩) (z:=Z ⟨#[]⟩) (t:=Z ⟨#[]⟩) n_r
  have z0:=lcell s_r 0 (v:=Z ⟨#[]⟩) rfl
  have z1:=lcell s_r 1 (v:=Z ⟨#[]⟩) rfl
  have z2:=lcell s_r 2 (v:=Z ⟨#[]⟩) rfl
  have z3:=lcell s_r 3 (v:=Z ⟨#[]⟩) rfl
  dsimp only
  go_wp
  exact bodyPost_ret (v:=.tuple #[.agg #[Z ⟨#[]⟩,Z ⟨#[]⟩,Z ⟨#[]⟩,Z ⟨#[]⟩],.int .i64 50]) (by simp [results,Tryz.results40, go_sem,z0,z1,z2,z3]) rfl ⟨by rw [if_neg hP],(((u.setCell (hb 0) _).setCell (hb 1) _).setCell (hb 2) _).setCell (hb 3) _⟩
theorem liftHull (a:Addr) (x0 x1 x2 x3 y0 y1 y2 y3 r0 r1 r2 r3:ByteArray) (okx oky bad:Bool)
  (hC:okx=true→oky=true→∀ (Bx By:Nat) (W:World),Ref a W→W.heap[Bx]? = some (O #[Z x0,Z x1,Z x2,Z x3] 25 (0,0))→W.heap[By]? = some (O #[Z y0,Z y1,Z y2,Z y3] 25 (0,0))→Calls Tryz.prog 91 #[.pointer (some ⟨Bx,0,none⟩),.pointer (some ⟨By,0,none⟩)] W fun e W'=>e=(if bad then .panicked (refP a) else .returned (ivl r0 r1 r2 r3))∧Below W.heap.size W W')
  (hX:Ret 20 #[ivl x0 x1 x2 x3] (.bool okx)) (hY:Ret 20 #[ivl y0 y1 y2 y3] (.bool oky)) (w:World) (hv:Ref a w) :
  Calls Tryz.prog 37 #[.agg #[Z x0,Z x1,Z x2,Z x3],.agg #[Z y0,Z y1,Z y2,Z y3]] w fun e w'=>e = .returned (if okx=true∧oky=true∧bad=false then .tuple #[ivl r0 r1 r2 r3,.int .i64 0] else .tuple #[ivl0,.int .i64 50])∧Below w.heap.size w w':=by
 have hmf:∀ (fn:Fn) (first cap:Array Value) (w:World),(Instr.makeFunc fn first cap).run Tryz.prog w = .ok (.func fn first cap) w:=fun _ _ _ _=>rfl
 have CC:Shut _:=⟨hC⟩
 have CX:Shut _:=⟨hX⟩
 have CY:Shut _:=⟨hY⟩
 have HV:Shut _:=⟨hv⟩
 clear hC hX hY hv
 unfold ivl0 ivl at *
 go_enter Tryz.func37, Tryz.ntmps37
 go_wp2_with fail
 obtain ⟨n_x,n_y,n_r,n_s⟩:=news4 w (O #[Z x0,Z x1,Z x2,Z x3] 25) (O #[Z y0,Z y1,Z y2,Z y3] 25) (O #[Z ⟨#[]⟩,Z ⟨#[]⟩,Z ⟨#[]⟩,Z ⟨#[]⟩] 25) (O #[Z x0,Z x1,Z x2,Z x3,Z y0,Z y1,Z y2,Z y3] 25)
 have u:=below4 w (O #[Z x0,Z x1,Z x2,Z x3] 25) (O #[Z y0,Z y1,Z y2,Z y3] 25) (O #[Z ⟨#[]⟩,Z ⟨#[]⟩,Z ⟨#[]⟩,Z ⟨#[]⟩] 25) (O #[Z x0,Z x1,Z x2,Z x3,Z y0,Z y1,Z y2,Z y3] 25)
 generalize ((((w.alloc (O #[Z x0,Z x1,Z x2,Z x3] 25)).alloc (O #[Z y0,Z y1,Z y2,Z y3] 25)).alloc (O #[Z ⟨#[]⟩,Z ⟨#[]⟩,Z ⟨#[]⟩,Z ⟨#[]⟩] 25)).alloc (O #[Z x0,Z x1,Z x2,Z x3,Z y0,Z y1,Z y2,Z y3] 25))=W4 at *
 have cA:=attemptI 91 #[.pointer (some ⟨w.heap.size,0,none⟩),.pointer (some ⟨w.heap.size+1,0,none⟩)] (enters_of Tryz.func91 (by kernel_rfl) rfl) a (fun W=>W.heap[w.heap.size]? = some (O #[Z x0,Z x1,Z x2,Z x3] 25 (0,0))∧W.heap[w.heap.size+1]? = some (O #[Z y0,Z y1,Z y2,Z y3] 25 (0,0))) (fun W W' h hB=>⟨lkeep h.1 hB,lkeep h.2 hB⟩) r0 r1 r2 r3 bad
  2 (w.heap.size+1+1+1) 2 (g8 x0 x1 x2 x3 y0 y1 y2 y3) (fun j=>if j=0 then okx else oky) (by omega)
  (fun ho W hr hi=>CC.o (ho 0 (by omega)) (ho 1 (by omega)) _ _ W hr hi.1 hi.2)
  (fun j hj W=>by
   rcases (show j=0∨j=1 by omega) with rfl | rfl
   ·exact CX.o W
   ·exact CY.o W) W4 (HV.o.keep u) ⟨n_x,n_y⟩
  (fun W hB j hj=>by
   have q:=lkeep n_s hB
   rcases (show j=0∨j=1∨j=2∨j=3∨j=4∨j=5∨j=6∨j=7 by omega) with rfl | rfl | rfl | rfl | rfl | rfl | rfl | rfl
   ·exact lcell q 0 rfl
   ·exact lcell q 1 rfl
   ·exact lcell q 2 rfl
   ·exact lcell q 3 rfl
   ·exact lcell q 4 rfl
   ·exact lcell q 5 rfl
   ·exact lcell q 6 rfl
   ·exact lcell q 7 rfl)
 unfold ivl0 ivl at *
 refine cA.mono ?_
 rintro e v1 ⟨rfl,g⟩
 replace u:=u.trans (g.mono u.size)
 replace n_r:=lkeep n_r g
 clear g cA n_x n_y n_s hmf
 have d0:=lcell n_r 0 (v:=Z ⟨#[]⟩) rfl
 have d1:=lcell n_r 1 (v:=Z ⟨#[]⟩) rfl
 have d2:=lcell n_r 2 (v:=Z ⟨#[]⟩) rfl
 have d3:=lcell n_r 3 (v:=Z ⟨#[]⟩) rfl
 have h0:=lfree n_r 0
 have h1:=lfree n_r 1
 have h2:=lfree n_r 2
 have h3:=lfree n_r 3
 have hb:∀ i,w.heap.size≤(⟨w.heap.size+1+1,i,none⟩:Addr).block:=fun _=>Nat.le_trans (Nat.le_succ _) (Nat.le_succ _)
 by_cases hP:okx=true∧oky=true∧bad=false
 ·have hQ:(∀ j:Nat,j<2→(fun j:Nat=>if j=0 then okx else oky) j=true)∧bad=false:=⟨fun j hj=>(show j=0∨j=1 by omega).elim (fun h=>by subst h;exact hP.1) (fun h=>by subst h;exact hP.2.1),hP.2.2⟩
  rw [if_pos hQ]
  have s_r:=box4_set (x:=Z r0) (y:=Z r1) (z:=Z r2) (t:=Z r3) n_r
  have z0:=lcell s_r 0 (v:=Z r0) rfl
  have z1:=lcell s_r 1 (v:=Z r1) rfl
  have z2:=lcell s_r 2 (v:=Z r2) rfl
  have z3:=lcell s_r 3 (v:=Z r3) rfl
  dsimp only
  go_wp
  exact bodyPost_ret (v:=.tuple #[.agg #[Z r0,Z r1,Z r2,Z r3],.int .i64 0]) (by simp [results,Tryz.results37, go_sem,z0,z1,z2,z3]) rfl ⟨by rw [if_pos hP],(((u.setCell (hb 0) _).setCell (hb 1) _).setCell (hb 2) _).setCell (hb 3) _⟩
 ·have hQ:¬((∀ j:Nat,j<2→(fun j:Nat=>if j=0 then okx else oky) j=true)∧bad=false):=fun h=>hP ⟨h.1 0 (by omega),h.1 1 (by omega),h.2⟩
  rw [if_neg hQ]
  have s_r:=box4_set (x:=Z ⟨#[]⟩) (y:=Z ⟨#[]⟩) (z:=Z ⟨#[]⟩) (t:=Z ⟨#[]⟩) n_r
  have z0:=lcell s_r 0 (v:=Z ⟨#[]⟩) rfl
  have z1:=lcell s_r 1 (v:=Z ⟨#[]⟩) rfl
  have z2:=lcell s_r 2 (v:=Z ⟨#[]⟩) rfl
  have z3:=lcell s_r 3 (v:=Z ⟨#[]⟩) rfl
  dsimp only
  go_wp
  exact bodyPost_ret (v:=.tuple #[.agg #[Z ⟨#[]⟩,Z ⟨#[]⟩,Z ⟨#[]⟩,Z ⟨#[]⟩],.int .i64 50]) (by simp [results,Tryz.results37, go_sem,z0,z1,z2,z3]) rfl ⟨by rw [if_neg hP],(((u.setCell (hb 0) _).setCell (hb 1) _).setCell (hb 2) _).setCell (hb 3) _⟩
theorem liftMeet (a:Addr) (x0 x1 x2 x3 y0 y1 y2 y3 r0 r1 r2 r3:ByteArray) (okx oky bad:Bool)
  (hC:okx=true→oky=true→∀ (Bx By:Nat) (W:World),Ref a W→W.heap[Bx]? = some (O #[Z x0,Z x1,Z x2,Z x3] 25 (0,0))→W.heap[By]? = some (O #[Z y0,Z y1,Z y2,Z y3] 25 (0,0))→Calls Tryz.prog 88 #[.pointer (some ⟨Bx,0,none⟩),.pointer (some ⟨By,0,none⟩)] W fun e W'=>e=(if bad then .panicked (refP a) else .returned (ivl r0 r1 r2 r3))∧Below W.heap.size W W')
  (hX:Ret 20 #[ivl x0 x1 x2 x3] (.bool okx)) (hY:Ret 20 #[ivl y0 y1 y2 y3] (.bool oky)) (w:World) (hv:Ref a w) :
  Calls Tryz.prog 36 #[.agg #[Z x0,Z x1,Z x2,Z x3],.agg #[Z y0,Z y1,Z y2,Z y3]] w fun e w'=>e = .returned (if okx=true∧oky=true∧bad=false then .tuple #[ivl r0 r1 r2 r3,.int .i64 0] else .tuple #[ivl0,.int .i64 50])∧Below w.heap.size w w':=by
 have hmf:∀ (fn:Fn) (first cap:Array Value) (w:World),(Instr.makeFunc fn first cap).run Tryz.prog w = .ok (.func fn first cap) w:=fun _ _ _ _=>rfl
 have CC:Shut _:=⟨hC⟩
 have CX:Shut _:=⟨hX⟩
 have CY:Shut _:=⟨hY⟩
 have HV:Shut _:=⟨hv⟩
 clear hC hX hY hv
 unfold ivl0 ivl at *
 go_enter Tryz.func36, Tryz.ntmps36
 go_wp2_with fail
 obtain ⟨n_x,n_y,n_r,n_s⟩:=news4 w (O #[Z x0,Z x1,Z x2,Z x3] 25) (O #[Z y0,Z y1,Z y2,Z y3] 25) (O #[Z ⟨#[]⟩,Z ⟨#[]⟩,Z ⟨#[]⟩,Z ⟨#[]⟩] 25) (O #[Z x0,Z x1,Z x2,Z x3,Z y0,Z y1,Z y2,Z y3] 25)
 have u:=below4 w (O #[Z x0,Z x1,Z x2,Z x3] 25) (O #[Z y0,Z y1,Z y2,Z y3] 25) (O #[Z ⟨#[]⟩,Z ⟨#[]⟩,Z ⟨#[]⟩,Z ⟨#[]⟩] 25) (O #[Z x0,Z x1,Z x2,Z x3,Z y0,Z y1,Z y2,Z y3] 25)
 generalize ((((w.alloc (O #[Z x0,Z x1,Z x2,Z x3] 25)).alloc (O #[Z y0,Z y1,Z y2,Z y3] 25)).alloc (O #[Z ⟨#[]⟩,Z ⟨#[]⟩,Z ⟨#[]⟩,Z ⟨#[]⟩] 25)).alloc (O #[Z x0,Z x1,Z x2,Z x3,Z y0,Z y1,Z y2,Z y3] 25))=W4 at *
 have cA:=attemptI 88 #[.pointer (some ⟨w.heap.size,0,none⟩),.pointer (some ⟨w.heap.size+1,0,none⟩)] (enters_of Tryz.func88 (by kernel_rfl) rfl) a (fun W=>W.heap[w.heap.size]? = some (O #[Z x0,Z x1,Z x2,Z x3] 25 (0,0))∧W.heap[w.heap.size+1]? = some (O #[Z y0,Z y1,Z y2,Z y3] 25 (0,0))) (fun W W' h hB=>⟨lkeep h.1 hB,lkeep h.2 hB⟩) r0 r1 r2 r3 bad
  2 (w.heap.size+1+1+1) 2 (g8 x0 x1 x2 x3 y0 y1 y2 y3) (fun j=>if j=0 then okx else oky) (by omega)
  (fun ho W hr hi=>CC.o (ho 0 (by omega)) (ho 1 (by omega)) _ _ W hr hi.1 hi.2)
  (fun j hj W=>by
   rcases (show j=0∨j=1 by omega) with rfl | rfl
   ·exact CX.o W
   ·exact CY.o W) W4 (HV.o.keep u) ⟨n_x,n_y⟩
  (fun W hB j hj=>by
   have q:=lkeep n_s hB
   rcases (show j=0∨j=1∨j=2∨j=3∨j=4∨j=5∨j=6∨j=7 by omega) with rfl | rfl | rfl | rfl | rfl | rfl | rfl | rfl
   ·exact lcell q 0 rfl
   ·exact lcell q 1 rfl
   ·exact lcell q 2 rfl
   ·exact lcell q 3 rfl
   ·exact lcell q 4 rfl
   ·exact lcell q 5 rfl
   ·exact lcell q 6 rfl
   ·exact lcell q 7 rfl)
 unfold ivl0 ivl at *
 refine cA.mono ?_
 rintro e v1 ⟨rfl,g⟩
 replace u:=u.trans (g.mono u.size)
 replace n_r:=lkeep n_r g
 clear g cA n_x n_y n_s hmf
 have d0:=lcell n_r 0 (v:=Z ⟨#[]⟩) rfl
 have d1:=lcell n_r 1 (v:=Z ⟨#[]⟩) rfl
 have d2:=lcell n_r 2 (v:=Z ⟨#[]⟩) rfl
 have d3:=lcell n_r 3 (v:=Z ⟨#[]⟩) rfl
 have h0:=lfree n_r 0
 have h1:=lfree n_r 1
 have h2:=lfree n_r 2
 have h3:=lfree n_r 3
 have hb:∀ i,w.heap.size≤(⟨w.heap.size+1+1,i,none⟩:Addr).block:=fun _=>Nat.le_trans (Nat.le_succ _) (Nat.le_succ _)
 by_cases hP:okx=true∧oky=true∧bad=false
 ·have hQ:(∀ j:Nat,j<2→(fun j:Nat=>if j=0 then okx else oky) j=true)∧bad=false:=⟨fun j hj=>(show j=0∨j=1 by omega).elim (fun h=>by subst h;exact hP.1) (fun h=>by subst h;exact hP.2.1),hP.2.2⟩
  rw [if_pos hQ]
  have s_r:=box4_set (x:=Z r0) (y:=Z r1) (z:=Z r2) (t:=Z r3) n_r
  have z0:=lcell s_r 0 (v:=Z r0) rfl
  have z1:=lcell s_r 1 (v:=Z r1) rfl
  have z2:=lcell s_r 2 (v:=Z r2) rfl
  have z3:=lcell s_r 3 (v:=Z r3) rfl
  dsimp only
  go_wp
  exact bodyPost_ret (v:=.tuple #[.agg #[Z r0,Z r1,Z r2,Z r3],.int .i64 0]) (by simp [results,Tryz.results36, go_sem,z0,z1,z2,z3]) rfl ⟨by rw [if_pos hP],(((u.setCell (hb 0) _).setCell (hb 1) _).setCell (hb 2) _).setCell (hb 3) _⟩
 ·have hQ:¬((∀ j:Nat,j<2→(fun j:Nat=>if j=0 then okx else oky) j=true)∧bad=false):=fun h=>hP ⟨h.1 0 (by omega),h.1 1 (by omega),h.2⟩
  rw [if_neg hQ]
  have s_r:=box4_set (x:=Z ⟨#[]⟩) (y:=Z ⟨#[]⟩) (z:=Z ⟨#[]⟩) (t:=Z ⟨#[]⟩) n_r
  have z0:=lcell s_r 0 (v:=Z ⟨#[]⟩) rfl
  have z1:=lcell s_r 1 (v:=Z ⟨#[]⟩) rfl
  have z2:=lcell s_r 2 (v:=Z ⟨#[]⟩) rfl
  have z3:=lcell s_r 3 (v:=Z ⟨#[]⟩) rfl
  dsimp only
  go_wp
  exact bodyPost_ret (v:=.tuple #[.agg #[Z ⟨#[]⟩,Z ⟨#[]⟩,Z ⟨#[]⟩,Z ⟨#[]⟩],.int .i64 50]) (by simp [results,Tryz.results36, go_sem,z0,z1,z2,z3]) rfl ⟨by rw [if_neg hP],(((u.setCell (hb 0) _).setCell (hb 1) _).setCell (hb 2) _).setCell (hb 3) _⟩
theorem liftSqrt (a:Addr) (x0 x1 x2 x3 r0 r1 r2 r3:ByteArray) (p:Int) (okx bad:Bool)
  (hC:okx=true→∀ (Bx Bp:Nat) (W:World),Ref a W→W.heap[Bx]? = some (O #[Z x0,Z x1,Z x2,Z x3] 25 (0,0))→W.heap[Bp]? = some (O #[.int .i64 p] 3 (0,0))→Calls Tryz.prog 82 #[.pointer (some ⟨Bp,0,none⟩),.pointer (some ⟨Bx,0,none⟩)] W fun e W'=>e=(if bad then .panicked (refP a) else .returned (ivl r0 r1 r2 r3))∧Below W.heap.size W W')
  (hX:Ret 20 #[ivl x0 x1 x2 x3] (.bool okx)) (w:World) (hv:Ref a w) :
  Calls Tryz.prog 34 #[.agg #[Z x0,Z x1,Z x2,Z x3],.int .i64 p] w fun e w'=>e = .returned (if okx=true∧bad=false then .tuple #[ivl r0 r1 r2 r3,.int .i64 0] else .tuple #[ivl0,.int .i64 50])∧Below w.heap.size w w':=by
 have hmf:∀ (fn:Fn) (first cap:Array Value) (w:World),(Instr.makeFunc fn first cap).run Tryz.prog w = .ok (.func fn first cap) w:=fun _ _ _ _=>rfl
 have CC:Shut _:=⟨hC⟩
 have CX:Shut _:=⟨hX⟩
 have HV:Shut _:=⟨hv⟩
 clear hC hX hv
 unfold ivl0 ivl at *
 go_enter Tryz.func34, Tryz.ntmps34
 go_wp2_with fail
 obtain ⟨n_x,n_p,n_r,n_s⟩:=news4 w (O #[Z x0,Z x1,Z x2,Z x3] 25) (O #[.int .i64 p] 3) (O #[Z ⟨#[]⟩,Z ⟨#[]⟩,Z ⟨#[]⟩,Z ⟨#[]⟩] 25) (O #[Z x0,Z x1,Z x2,Z x3] 25)
 have u:=below4 w (O #[Z x0,Z x1,Z x2,Z x3] 25) (O #[.int .i64 p] 3) (O #[Z ⟨#[]⟩,Z ⟨#[]⟩,Z ⟨#[]⟩,Z ⟨#[]⟩] 25) (O #[Z x0,Z x1,Z x2,Z x3] 25)
 generalize ((((w.alloc (O #[Z x0,Z x1,Z x2,Z x3] 25)).alloc (O #[.int .i64 p] 3)).alloc (O #[Z ⟨#[]⟩,Z ⟨#[]⟩,Z ⟨#[]⟩,Z ⟨#[]⟩] 25)).alloc (O #[Z x0,Z x1,Z x2,Z x3] 25))=W4 at *
 have cA:=attemptI 82 #[.pointer (some ⟨w.heap.size+1,0,none⟩),.pointer (some ⟨w.heap.size,0,none⟩)] (enters_of Tryz.func82 (by kernel_rfl) rfl) a (fun W=>W.heap[w.heap.size]? = some (O #[Z x0,Z x1,Z x2,Z x3] 25 (0,0))∧W.heap[w.heap.size+1]? = some (O #[.int .i64 p] 3 (0,0))) (fun W W' h hB=>⟨lkeep h.1 hB,lkeep h.2 hB⟩) r0 r1 r2 r3 bad
  1 (w.heap.size+1+1+1) 1 (g4 x0 x1 x2 x3) (fun _=>okx) (by omega)
  (fun ho W hr hi=>CC.o (ho 0 (by omega)) _ _ W hr hi.1 hi.2)
  (fun j hj W=>by obtain rfl:j=0:=(by omega);exact CX.o W) W4 (HV.o.keep u) ⟨n_x,n_p⟩
  (fun W hB j hj=>by
   have q:=lkeep n_s hB
   rcases (show j=0∨j=1∨j=2∨j=3 by omega) with rfl | rfl | rfl | rfl
   ·exact lcell q 0 rfl
   ·exact lcell q 1 rfl
   ·exact lcell q 2 rfl
   ·exact lcell q 3 rfl)
 unfold ivl0 ivl at *
 refine cA.mono ?_
 rintro e v1 ⟨rfl,g⟩
 replace u:=u.trans (g.mono u.size)
 replace n_r:=lkeep n_r g
 clear g cA n_x n_p n_s hmf
 have d0:=lcell n_r 0 (v:=Z ⟨#[]⟩) rfl
 have d1:=lcell n_r 1 (v:=Z ⟨#[]⟩) rfl
 have d2:=lcell n_r 2 (v:=Z ⟨#[]⟩) rfl
 have d3:=lcell n_r 3 (v:=Z ⟨#[]⟩) rfl
 have h0:=lfree n_r 0
 have h1:=lfree n_r 1
 have h2:=lfree n_r 2
 have h3:=lfree n_r 3
 have hb:∀ i,w.heap.size≤(⟨w.heap.size+1+1,i,none⟩:Addr).block:=fun _=>Nat.le_trans (Nat.le_succ _) (Nat.le_succ _)
 by_cases hP:okx=true∧bad=false
 ·have hQ:(∀ j:Nat,j<1→(fun _:Nat=>okx) j=true)∧bad=false:=⟨fun _ _=>hP.1,hP.2⟩
  rw [if_pos hQ]
  have s_r:=box4_set (x:=Z r0) (y:=Z r1) (z:=Z r2) (t:=Z r3) n_r
  have z0:=lcell s_r 0 (v:=Z r0) rfl
  have z1:=lcell s_r 1 (v:=Z r1) rfl
  have z2:=lcell s_r 2 (v:=Z r2) rfl
  have z3:=lcell s_r 3 (v:=Z r3) rfl
  dsimp only
  go_wp
  exact bodyPost_ret (v:=.tuple #[.agg #[Z r0,Z r1,Z r2,Z r3],.int .i64 0]) (by simp [results,Tryz.results34, go_sem,z0,z1,z2,z3]) rfl ⟨by rw [if_pos hP],(((u.setCell (hb 0) _).setCell (hb 1) _).setCell (hb 2) _).setCell (hb 3) _⟩
 ·have hQ:¬((∀ j:Nat,j<1→(fun _:Nat=>okx) j=true)∧bad=false):=fun h=>hP ⟨h.1 0 (by omega),h.2⟩
  rw [if_neg hQ]
  have s_r:=box4_set (x:=Z ⟨#[]⟩) (y:=Z ⟨#[]⟩) (z:=Z ⟨#[]⟩) (t:=Z ⟨#[]⟩) n_r
  have z0:=lcell s_r 0 (v:=Z ⟨#[]⟩) rfl
  have z1:=lcell s_r 1 (v:=Z ⟨#[]⟩) rfl
  have z2:=lcell s_r 2 (v:=Z ⟨#[]⟩) rfl
  have z3:=lcell s_r 3 (v:=Z ⟨#[]⟩) rfl
  dsimp only
  go_wp
  exact bodyPost_ret (v:=.tuple #[.agg #[Z ⟨#[]⟩,Z ⟨#[]⟩,Z ⟨#[]⟩,Z ⟨#[]⟩],.int .i64 50]) (by simp [results,Tryz.results34, go_sem,z0,z1,z2,z3]) rfl ⟨by rw [if_neg hP],(((u.setCell (hb 0) _).setCell (hb 1) _).setCell (hb 2) _).setCell (hb 3) _⟩
theorem liftRound (a:Addr) (x0 x1 x2 x3 r0 r1 r2 r3:ByteArray) (p:Int) (okx bad:Bool)
  (hC:okx=true→∀ (Bx Bp:Nat) (W:World),Ref a W→W.heap[Bx]? = some (O #[Z x0,Z x1,Z x2,Z x3] 25 (0,0))→W.heap[Bp]? = some (O #[.int .i64 p] 3 (0,0))→Calls Tryz.prog 95 #[.pointer (some ⟨Bx,0,none⟩),.pointer (some ⟨Bp,0,none⟩)] W fun e W'=>e=(if bad then .panicked (refP a) else .returned (ivl r0 r1 r2 r3))∧Below W.heap.size W W')
  (hX:Ret 20 #[ivl x0 x1 x2 x3] (.bool okx)) (w:World) (hv:Ref a w) :
  Calls Tryz.prog 41 #[.agg #[Z x0,Z x1,Z x2,Z x3],.int .i64 p] w fun e w'=>e = .returned (if okx=true∧bad=false then .tuple #[ivl r0 r1 r2 r3,.int .i64 0] else .tuple #[ivl0,.int .i64 50])∧Below w.heap.size w w':=by
 have hmf:∀ (fn:Fn) (first cap:Array Value) (w:World),(Instr.makeFunc fn first cap).run Tryz.prog w = .ok (.func fn first cap) w:=fun _ _ _ _=>rfl
 have CC:Shut _:=⟨hC⟩
 have CX:Shut _:=⟨hX⟩
 have HV:Shut _:=⟨hv⟩
 clear hC hX hv
 unfold ivl0 ivl at *
 go_enter Tryz.func41, Tryz.ntmps41
 go_wp2_with fail
 obtain ⟨n_x,n_p,n_r,n_s⟩:=news4 w (O #[Z x0,Z x1,Z x2,Z x3] 25) (O #[.int .i64 p] 3) (O #[Z ⟨#[]⟩,Z ⟨#[]⟩,Z ⟨#[]⟩,Z ⟨#[]⟩] 25) (O #[Z x0,Z x1,Z x2,Z x3] 25)
 have u:=below4 w (O #[Z x0,Z x1,Z x2,Z x3] 25) (O #[.int .i64 p] 3) (O #[Z ⟨#[]⟩,Z ⟨#[]⟩,Z ⟨#[]⟩,Z ⟨#[]⟩] 25) (O #[Z x0,Z x1,Z x2,Z x3] 25)
 generalize ((((w.alloc (O #[Z x0,Z x1,Z x2,Z x3] 25)).alloc (O #[.int .i64 p] 3)).alloc (O #[Z ⟨#[]⟩,Z ⟨#[]⟩,Z ⟨#[]⟩,Z ⟨#[]⟩] 25)).alloc (O #[Z x0,Z x1,Z x2,Z x3] 25))=W4 at *
 have cA:=attemptI 95 #[.pointer (some ⟨w.heap.size,0,none⟩),.pointer (some ⟨w.heap.size+1,0,none⟩)] (enters_of Tryz.func95 (by kernel_rfl) rfl) a (fun W=>W.heap[w.heap.size]? = some (O #[Z x0,Z x1,Z x2,Z x3] 25 (0,0))∧W.heap[w.heap.size+1]? = some (O #[.int .i64 p] 3 (0,0))) (fun W W' h hB=>⟨lkeep h.1 hB,lkeep h.2 hB⟩) r0 r1 r2 r3 bad
  1 (w.heap.size+1+1+1) 1 (g4 x0 x1 x2 x3) (fun _=>okx) (by omega)
  (fun ho W hr hi=>CC.o (ho 0 (by omega)) _ _ W hr hi.1 hi.2)
  (fun j hj W=>by obtain rfl:j=0:=(by omega);exact CX.o W) W4 (HV.o.keep u) ⟨n_x,n_p⟩
  (fun W hB j hj=>by
   have q:=lkeep n_s hB
   rcases (show j=0∨j=1∨j=2∨j=3 by omega) with rfl | rfl | rfl | rfl
   ·exact lcell q 0 rfl
   ·exact lcell q 1 rfl
   ·exact lcell q 2 rfl
   ·exact lcell q 3 rfl)
 unfold ivl0 ivl at *
 refine cA.mono ?_
 rintro e v1 ⟨rfl,g⟩
 replace u:=u.trans (g.mono u.size)
 replace n_r:=lkeep n_r g
 clear g cA n_x n_p n_s hmf
 have d0:=lcell n_r 0 (v:=Z ⟨#[]⟩) rfl
 have d1:=lcell n_r 1 (v:=Z ⟨#[]⟩) rfl
 have d2:=lcell n_r 2 (v:=Z ⟨#[]⟩) rfl
 have d3:=lcell n_r 3 (v:=Z ⟨#[]⟩) rfl
 have h0:=lfree n_r 0
 have h1:=lfree n_r 1
 have h2:=lfree n_r 2
 have h3:=lfree n_r 3
 have hb:∀ i,w.heap.size≤(⟨w.heap.size+1+1,i,none⟩:Addr).block:=fun _=>Nat.le_trans (Nat.le_succ _) (Nat.le_succ _)
 by_cases hP:okx=true∧bad=false
 ·have hQ:(∀ j:Nat,j<1→(fun _:Nat=>okx) j=true)∧bad=false:=⟨fun _ _=>hP.1,hP.2⟩
  rw [if_pos hQ]
  have s_r:=box4_set (x:=Z r0) (y:=Z r1) (z:=Z r2) (t:=Z r3) n_r
  have z0:=lcell s_r 0 (v:=Z r0) rfl
  have z1:=lcell s_r 1 (v:=Z r1) rfl
  have z2:=lcell s_r 2 (v:=Z r2) rfl
  have z3:=lcell s_r 3 (v:=Z r3) rfl
  dsimp only
  go_wp
  exact bodyPost_ret (v:=.tuple #[.agg #[Z r0,Z r1,Z r2,Z r3],.int .i64 0]) (by simp [results,Tryz.results41, go_sem,z0,z1,z2,z3]) rfl ⟨by rw [if_pos hP],(((u.setCell (hb 0) _).setCell (hb 1) _).setCell (hb 2) _).setCell (hb 3) _⟩
 ·have hQ:¬((∀ j:Nat,j<1→(fun _:Nat=>okx) j=true)∧bad=false):=fun h=>hP ⟨h.1 0 (by omega),h.2⟩
  rw [if_neg hQ]
  have s_r:=box4_set (x:=Z ⟨#[]⟩) (y:=Z ⟨#[]⟩) (z:=Z ⟨#[]⟩) (t:=Z ⟨#[]⟩) n_r
  have z0:=lcell s_r 0 (v:=Z ⟨#[]⟩) rfl
  have z1:=lcell s_r 1 (v:=Z ⟨#[]⟩) rfl
  have z2:=lcell s_r 2 (v:=Z ⟨#[]⟩) rfl
  have z3:=lcell s_r 3 (v:=Z ⟨#[]⟩) rfl
  dsimp only
  go_wp
  exact bodyPost_ret (v:=.tuple #[.agg #[Z ⟨#[]⟩,Z ⟨#[]⟩,Z ⟨#[]⟩,Z ⟨#[]⟩],.int .i64 50]) (by simp [results,Tryz.results41, go_sem,z0,z1,z2,z3]) rfl ⟨by rw [if_neg hP],(((u.setCell (hb 0) _).setCell (hb 1) _).setCell (hb 2) _).setCell (hb 3) _⟩
end En
end
section
namespace En
open Go.RowKit Go.Extern.Stop Go.Stop Go.Extern
theorem news2 (w:World) (a b:Obj):((w.alloc a).alloc b).heap[w.heap.size]? = some a∧((w.alloc a).alloc b).heap[w.heap.size+1]? = some b:=⟨(Below.heap_alloc _ _ _ (by simp)).trans (World.alloc_heap_new w a),res_two w a b⟩
theorem below2 (w:World) (a b:Obj):Below w.heap.size w ((w.alloc a).alloc b):=((Below.refl w.heap.size w).alloc (Nat.le_refl _) a).alloc (by simp) b
theorem atMost_same (x0 x1:ByteArray):Ret 68 #[frc x0 x1,frc x0 x1] (.bool true):=by
 intro w
 unfold frc
 obtain ⟨n_x,n_y⟩:=news2 w (O #[Z x0,Z x1] 23) (O #[Z x0,Z x1] 23)
 have u:=below2 w (O #[Z x0,Z x1] 23) (O #[Z x0,Z x1] 23)
 go_enter Tryz.func68, Tryz.ntmps68
 have y0:=lcell n_x 0 (v:=Z x0) rfl
 have y1:=lcell n_x 1 (v:=Z x1) rfl
 have y2:=lcell n_y 0 (v:=Z x0) rfl
 have y3:=lcell n_y 1 (v:=Z x1) rfl
 have e0:(x0.toList == x0.toList)=true:=beq_self_eq_true _
 have e1:(x1.toList == x1.toList)=true:=beq_self_eq_true _
 go_wp2_with fail
 go_ret
 exact ⟨rfl,u⟩
theorem atMost_other (x0 x1 x2 x3:ByteArray) (k:Int) (hC:Ret 32 #[frc x0 x1,frc x2 x3] (.int .i64 k))
  (hne:(x0.toList == x2.toList)=false∨((x0.toList == x2.toList)=true∧(x1.toList == x3.toList)=false)):Ret 68 #[frc x0 x1,frc x2 x3] (.bool (decide (k<0))):=by
 intro w
 unfold frc at *
 obtain ⟨n_x,n_y⟩:=news2 w (O #[Z x0,Z x1] 23) (O #[Z x2,Z x3] 23)
 have u:=below2 w (O #[Z x0,Z x1] 23) (O #[Z x2,Z x3] 23)
 have CC:Shut _:=⟨hC⟩
 clear hC
 go_enter Tryz.func68, Tryz.ntmps68
 have y0:=lcell n_x 0 (v:=Z x0) rfl
 have y1:=lcell n_x 1 (v:=Z x1) rfl
 have y2:=lcell n_y 0 (v:=Z x2) rfl
 have y3:=lcell n_y 1 (v:=Z x3) rfl
 rcases hne with e0 | ⟨e0,e1⟩
 ·go_wp2_with fail
  refine (CC.o _).mono ?_
  rintro e v1 ⟨rfl,g⟩
  replace u:=u.trans (g.mono u.size)
  clear g y0 y1 y2 y3 e0 n_x n_y
  go_wp2_with fail
  go_ret
  exact ⟨rfl,u⟩
 ·go_wp2_with fail
  refine (CC.o _).mono ?_
  rintro e v1 ⟨rfl,g⟩
  replace u:=u.trans (g.mono u.size)
  clear g y0 y1 y2 y3 e0 e1 n_x n_y
  go_wp2_with fail
  go_ret
  exact ⟨rfl,u⟩
theorem turned_any (x0 x1 x2 x3:ByteArray) (b:Bool) (hA:Ret 68 #[frc x2 x3,frc x0 x1] (.bool b)):Ret 143 #[frc x0 x1,frc x2 x3] (.bool b):=by
 intro w
 unfold frc at *
 obtain ⟨n_x,n_y⟩:=news2 w (O #[Z x0,Z x1] 23) (O #[Z x2,Z x3] 23)
 have u:=below2 w (O #[Z x0,Z x1] 23) (O #[Z x2,Z x3] 23)
 have CC:Shut _:=⟨hA⟩
 clear hA
 go_enter Tryz.func143, Tryz.ntmps143
 have y0:=lcell n_x 0 (v:=Z x0) rfl
 have y1:=lcell n_x 1 (v:=Z x1) rfl
 have y2:=lcell n_y 0 (v:=Z x2) rfl
 have y3:=lcell n_y 1 (v:=Z x3) rfl
 go_wp2_with fail
 refine (CC.o _).mono ?_
 rintro e v1 ⟨rfl,g⟩
 replace u:=u.trans (g.mono u.size)
 clear g y0 y1 y2 y3 n_x n_y
 go_wp2_with fail
 go_ret
 exact ⟨rfl,u⟩
end En
end
section
namespace En
open Go.RowKit Go.Extern.Stop Go.Stop Go.Extern
abbrev P2:=ByteArray×ByteArray
def pickN (A:P2→P2→Bool) (v:P2) (L:Nat→P2):Nat→P2
 | 0=>v
 | n+1=>if A (L n) (pickN A v L n) then L n else pickN A v L n
theorem pickN_in (A:P2→P2→Bool) (P:P2→Prop) (v:P2) (L:Nat→P2) (hv:P v):∀ n,(∀ i,i<n→P (L i))→P (pickN A v L n)
 | 0,_=>hv
 | n+1,h=>by
  rw [pickN]
  split
  ·exact h n (by omega)
  ·exact pickN_in A P v L hv n (fun i hi=>h i (by omega))
theorem box2_setx {W:World} {b:Nat} {a0 a1 x y:Value} {T:TypeId} (h:W.heap[b]? = some (O #[a0,a1] T (0,0))):((W.setCell ⟨b,0,none⟩ x).setCell ⟨b,1,none⟩ y).heap[b]? = some (O #[x,y] T (0,0)):=by
 obtain ⟨hl,hg⟩:=Array.getElem?_eq_some_iff.1 h
 simp [World.setCell,hl,Array.getElem_modify,hg]
theorem first_any (k:Nat) (hk:Enters Tryz.prog k) (P:P2→Prop) (A:P2→P2→Bool) (hA:∀ p q,P p→P q→Ret k #[frc p.1 p.2,frc q.1 q.2] (.bool (A p q))) (L:Nat→P2) (v:P2) (hv:P v) (m bi off cap:Nat) (hm:m≤1000) (hL:∀ i,i<m→P (L i)) (w:World)
  (hcs:∀ W,Below w.heap.size w W→∀ j,j<m→W.cell? ⟨bi,off+j*2,none⟩=some (Z (L j).1)∧W.cell? ⟨bi,off+j*2+1,none⟩=some (Z (L j).2)) :
  Calls Tryz.prog 142 #[.func (.func k) #[] #[],frc v.1 v.2,.slice (some ⟨bi,off,none⟩) m cap] w fun e w'=>e = .returned (frc (pickN A v L m).1 (pickN A v L m).2)∧Below w.heap.size w w':=by
 unfold frc at *
 obtain ⟨n_v,n_r⟩:=news2 w (O #[Z v.1,Z v.2] 23) (O #[Z ⟨#[]⟩,Z ⟨#[]⟩] 23)
 have u:=below2 w (O #[Z v.1,Z v.2] 23) (O #[Z ⟨#[]⟩,Z ⟨#[]⟩] 23)
 have CC:Shut _:=⟨hA⟩
 have HCS:Shut _:=⟨hcs⟩
 clear hA hcs
 go_enter Tryz.func142, Tryz.ntmps142
 go_wp2_with fail
 generalize ((w.alloc (O #[Z v.1,Z v.2] 23)).alloc (O #[Z ⟨#[]⟩,Z ⟨#[]⟩] 23))=W0 at *
 have NV:Shut _:=⟨n_v⟩
 have NR:Shut _:=⟨n_r⟩
 have U0:Shut _:=⟨u⟩
 clear n_v n_r u
 go_loopw [11] (fun jv wr=>∃ j:Nat,j≤m∧jv = .int .i64 (j:Int)∧Shut (wr.heap[w.heap.size]? = some (O #[Z (pickN A v L j).1,Z (pickN A v L j).2] 23 (0,0))∧wr.heap[w.heap.size+1]? = some (O #[Z ⟨#[]⟩,Z ⟨#[]⟩] 23 (0,0))∧Below w.heap.size w wr)) (fun jv _=>m-(intOf jv).toNat)
 case atStart=>exact ⟨0,Nat.zero_le _,rfl,⟨NV.o,NR.o,U0.o⟩⟩
 case round =>
  obtain ⟨j,hj,rfl,H⟩:=hrel
  clear NV NR U0
  obtain ⟨n_v,n_r,u⟩:=H.o
  clear H
  have hen:=fun a w=>hk a w
  by_cases hjn:j=m
  ·subst hjn
   have c0:=lcell n_v 0 (v:=Z (pickN A v L j).1) rfl
   have c1:=lcell n_v 1 (v:=Z (pickN A v L j).2) rfl
   have d0:=lcell n_r 0 (v:=Z ⟨#[]⟩) rfl
   have d1:=lcell n_r 1 (v:=Z ⟨#[]⟩) rfl
   have h0:=lfree n_r 0
   have h1:=lfree n_r 1
   have s_r:=box2_setx (x:=Z (pickN A v L j).1) (y:=Z (pickN A v L j).2) n_r
   have z0:=lcell s_r 0 (v:=Z (pickN A v L j).1) rfl
   have z1:=lcell s_r 1 (v:=Z (pickN A v L j).2) rfl
   go_wp2_with fail
   exact bodyPost_ret (v:=.agg #[Z (pickN A v L j).1,Z (pickN A v L j).2]) (by simp [results,Tryz.results142, go_sem,z0,z1]) rfl ⟨rfl,(u.setCell (show w.heap.size≤(⟨w.heap.size+1,0,none⟩:Addr).block from Nat.le_succ _) _).setCell (show w.heap.size≤(⟨w.heap.size+1,1,none⟩:Addr).block from Nat.le_succ _) _⟩
  ·have hj2:(j:Int)<(m:Int):=by omega
   have hj3:(0:Int)≤(j:Int):=by omega
   obtain ⟨y0,y1⟩:=HCS.o wr u j (by omega)
   have cK:=CC.o (L j) (pickN A v L j) (hL j (by omega)) (pickN_in A P v L hv j (fun i hi=>hL i (by omega)))
   have hp:pickN A v L (j+1)=if A (L j) (pickN A v L j) then L j else pickN A v L j:=rfl
   generalize pickN A v L j=pj at *
   generalize L j=lj at *
   have c0:=lcell n_v 0 (v:=Z pj.1) rfl
   have c1:=lcell n_v 1 (v:=Z pj.2) rfl
   have f0:=lfree n_v 0
   have f1:=lfree n_v 1
   have m_v:(wr.alloc (O #[Z lj.1,Z lj.2] 23)).heap[w.heap.size]? = _:=(Below.heap_alloc wr _ _ (Array.getElem?_eq_some_iff.1 n_v).1).trans n_v
   have m_r:(wr.alloc (O #[Z lj.1,Z lj.2] 23)).heap[w.heap.size+1]? = _:=(Below.heap_alloc wr _ _ (Array.getElem?_eq_some_iff.1 n_r).1).trans n_r
   have m_o:(wr.alloc (O #[Z lj.1,Z lj.2] 23)).heap[wr.heap.size]? = _:=World.alloc_heap_new wr _
   have a0:=lcell m_v 0 (v:=Z pj.1) rfl
   have a1:=lcell m_v 1 (v:=Z pj.2) rfl
   go_wp2_with fail
   refine (cK _).mono ?_
   rintro e v1 ⟨rfl,g⟩
   have hq:=u
   replace u:=u.trans (((Below.refl wr.heap.size wr).alloc (Nat.le_refl _) (O #[Z lj.1,Z lj.2] 23)).trans (g.mono (by simp)) |>.mono u.size)
   replace n_v:=lkeep m_v g
   replace n_r:=lkeep m_r g
   replace m_o:=lkeep m_o g
   clear g m_v m_r a0 a1 c0 c1 f0 f1 cK y0 y1
   have hw1:IntKind.i64.wrap ((j:Int)+1)=(j:Int)+1:=by simp [IntKind.wrap,IntKind.signed,IntKind.bits];omega
   have o0:=lcell m_o 0 (v:=Z lj.1) rfl
   have o1:=lcell m_o 1 (v:=Z lj.2) rfl
   have c0:=lcell n_v 0 (v:=Z pj.1) rfl
   have c1:=lcell n_v 1 (v:=Z pj.2) rfl
   have f0:=lfree n_v 0
   have f1:=lfree n_v 1
   cases hA:A lj pj with
   | true =>
    rw [hA,if_pos rfl] at hp
    go_wp2_with fail
    have s_v:=box2_setx (x:=Z lj.1) (y:=Z lj.2) n_v
    have s_r:((v1.setCell ⟨w.heap.size,0,none⟩ (Z lj.1)).setCell ⟨w.heap.size,1,none⟩ (Z lj.2)).heap[w.heap.size+1]? = _:=(Below.heap_setCell _ _ _ _ (by simp)).trans ((Below.heap_setCell _ _ _ _ (by simp)).trans n_r)
    have us:=(u.setCell (show w.heap.size≤(⟨w.heap.size,0,none⟩:Addr).block from Nat.le_refl _) (Z lj.1)).setCell (show w.heap.size≤(⟨w.heap.size,1,none⟩:Addr).block from Nat.le_refl _) (Z lj.2)
    go_roundw
    case rel=>exact ⟨j+1,by omega,by first | rfl | go_num | simp,⟨by rw [hp];exact s_v,s_r,us⟩⟩
    case measure=>simp [intOf];omega
   | false =>
    rw [hA,if_neg (by decide)] at hp
    go_wp2_with fail
    go_roundw
    case rel=>exact ⟨j+1,by omega,by first | rfl | go_num | simp,⟨by rw [hp];exact n_v,n_r,u⟩⟩
    case measure=>simp [intOf];omega
end En
end
section
namespace En
open Go.RowKit Go.Extern.Stop Go.Stop Go.Extern
theorem ldrew {B:Nat} {w w':World} (h:Below B w w'):Below B w w'.drew:=⟨h.os,h.tape,h.output,h.size,h.block⟩
theorem lundrew2 {B:Nat} {w w':World} (h:Below B w.drew w'):Below B w w':=⟨h.os,h.tape,h.output,h.size,h.block⟩
theorem least_any (P:P2→Prop) (A:P2→P2→Bool) (hA:∀ p q,P p→P q→Ret 68 #[frc p.1 p.2,frc q.1 q.2] (.bool (A p q))) (L:Nat→P2) (m bi cap:Nat) (h1:1≤m) (hm:m≤1000) (hcap:m≤cap) (hL:∀ i,i<m→P (L i)) (w:World)
  (hcs:∀ W,Below w.heap.size w W→∀ j,j<m→W.cell? ⟨bi,j*2,none⟩=some (Z (L j).1)∧W.cell? ⟨bi,j*2+1,none⟩=some (Z (L j).2)) :
  Calls Tryz.prog 90 #[.slice (some ⟨bi,0,none⟩) m cap] w fun e w'=>e = .returned (frc (pickN A (L 0) (fun i=>L (i+1)) (m-1)).1 (pickN A (L 0) (fun i=>L (i+1)) (m-1)).2)∧Below w.heap.size w w':=by
 obtain ⟨m,rfl⟩:∃ k,m=k+1:=⟨m-1,by omega⟩
 obtain ⟨cap,rfl⟩:∃ k,cap=k+1:=⟨cap-1,by omega⟩
 have n_r:(w.alloc (O #[Z ⟨#[]⟩,Z ⟨#[]⟩] 23)).heap[w.heap.size]? = _:=World.alloc_heap_new w _
 have u:=(Below.refl w.heap.size w).alloc (Nat.le_refl _) (O #[Z ⟨#[]⟩,Z ⟨#[]⟩] 23)
 have cF:=fun (off cap:Nat) (ho:0<m→off=2) (W:World) (hB:Below w.heap.size w W)=>first_any 68 (enters_of Tryz.func68 (by kernel_rfl) rfl) P A hA (fun i=>L (i+1)) (L 0) (hL 0 (by omega)) m bi off cap (by omega) (fun i hi=>hL (i+1) (by omega)) W (fun V hV j hj=>by
  have:=hcs V (hB.trans (hV.mono hB.size)) (j+1) (by omega)
  rw [ho (by omega)]
  rwa [show (j+1)*2=2+j*2 by omega] at this)
 obtain ⟨y0,y1⟩:=hcs _ u 0 (by omega)
 have CF:Shut _:=⟨cF⟩
 have HC:Shut _:=⟨fun W hW=>hcs W hW 0 (by omega)⟩
 have nx:=Nat.ne_of_lt (World.block_lt_of_cell? w _ (hcs w (Below.refl _ _) 0 (by omega)).1)
 have nx2:=nx.symm
 have hm1:(m+1-1:Nat)=m:=rfl
 rw [hm1]
 clear hcs cF hA
 unfold frc at *
 generalize hpk:pickN A (L 0) (fun i=>L (i+1)) m=pk at *
 generalize L 0=l0 at *
 rcases Nat.eq_zero_or_pos cap with rfl | hcp
 ·obtain rfl:m=0:=(by omega)
  go_enter Tryz.func90, Tryz.ntmps90
  go_wp2_with fail
  generalize (w.alloc (O #[Z ⟨#[]⟩,Z ⟨#[]⟩] 23))=W0 at *
  have k0:=lcell n_r 0 (v:=Z ⟨#[]⟩) rfl
  have f0:=lfree n_r 0
  have k1:=lcell n_r 1 (v:=Z ⟨#[]⟩) rfl
  have f1:=lfree n_r 1
  have y0:W0.cell? ⟨bi,0,none⟩=some (Z l0.1):=y0
  have y1:W0.cell? ⟨bi,1,none⟩=some (Z l0.2):=y1
  go_region_held (fun X=>X.cell? ⟨bi,0,none⟩=some (Z l0.1)∧X.cell? ⟨bi,1,none⟩=some (Z l0.2)) (go_keep) (first | (go_at_call 142; (with_reducible refine (CF.o _ _ (fun hh=>absurd hh (by omega)) _ (ldrew u)).mono ?_);rintro e v1 ⟨rfl,g⟩;have g:Below W0.heap.size W0 v1:=lundrew2 g;replace u:=u.trans (g.mono u.size);replace n_r:=lkeep n_r g;clear g;obtain ⟨q0,q1⟩:=HC.o _ u;have y0:v1.cell? ⟨bi,0,none⟩=some (Z l0.1):=q0;have y1:v1.cell? ⟨bi,1,none⟩=some (Z l0.2):=q1;clear q0 q1;have k0:=lcell n_r 0 (v:=Z ⟨#[]⟩) rfl;have f0:=lfree n_r 0;have k1:=lcell n_r 1 (v:=Z ⟨#[]⟩) rfl;have f1:=lfree n_r 1))
  have s_r:=box2_setx (x:=Z pk.1) (y:=Z pk.2) n_r
  have z0:=lcell s_r 0 (v:=Z pk.1) rfl
  have z1:=lcell s_r 1 (v:=Z pk.2) rfl
  go_wp
  exact bodyPost_ret (v:=.agg #[Z pk.1,Z pk.2]) (by simp [results,Tryz.results90, go_sem,z0,z1]) rfl ⟨rfl,(u.setCell (Nat.le_refl _) _).setCell (Nat.le_refl _) _⟩
 ·obtain ⟨c,rfl⟩:∃ c,cap=c+1:=⟨cap-1,by omega⟩
  have hc3:¬(c+1+1=1):=(by omega)
  have hc4:(1:Int)≤((m+1:Nat):Int):=(by omega)
  go_enter Tryz.func90, Tryz.ntmps90
  go_wp2_with fail
  generalize (w.alloc (O #[Z ⟨#[]⟩,Z ⟨#[]⟩] 23))=W0 at *
  have k0:=lcell n_r 0 (v:=Z ⟨#[]⟩) rfl
  have f0:=lfree n_r 0
  have k1:=lcell n_r 1 (v:=Z ⟨#[]⟩) rfl
  have f1:=lfree n_r 1
  have y0:W0.cell? ⟨bi,0,none⟩=some (Z l0.1):=y0
  have y1:W0.cell? ⟨bi,1,none⟩=some (Z l0.2):=y1
  go_region_held (fun X=>X.cell? ⟨bi,0,none⟩=some (Z l0.1)∧X.cell? ⟨bi,1,none⟩=some (Z l0.2)) (go_keep) (first | (go_at_call 142; (with_reducible refine (CF.o _ _ (fun hh=>rfl) _ (ldrew u)).mono ?_);rintro e v1 ⟨rfl,g⟩;have g:Below W0.heap.size W0 v1:=lundrew2 g;replace u:=u.trans (g.mono u.size);replace n_r:=lkeep n_r g;clear g;obtain ⟨q0,q1⟩:=HC.o _ u;have y0:v1.cell? ⟨bi,0,none⟩=some (Z l0.1):=q0;have y1:v1.cell? ⟨bi,1,none⟩=some (Z l0.2):=q1;clear q0 q1;have k0:=lcell n_r 0 (v:=Z ⟨#[]⟩) rfl;have f0:=lfree n_r 0;have k1:=lcell n_r 1 (v:=Z ⟨#[]⟩) rfl;have f1:=lfree n_r 1))
  have s_r:=box2_setx (x:=Z pk.1) (y:=Z pk.2) n_r
  have z0:=lcell s_r 0 (v:=Z pk.1) rfl
  have z1:=lcell s_r 1 (v:=Z pk.2) rfl
  go_wp
  exact bodyPost_ret (v:=.agg #[Z pk.1,Z pk.2]) (by simp [results,Tryz.results90, go_sem,z0,z1]) rfl ⟨rfl,(u.setCell (Nat.le_refl _) _).setCell (Nat.le_refl _) _⟩
theorem greatest_any (P:P2→Prop) (A:P2→P2→Bool) (hA:∀ p q,P p→P q→Ret 143 #[frc p.1 p.2,frc q.1 q.2] (.bool (A p q))) (L:Nat→P2) (m bi cap:Nat) (h1:1≤m) (hm:m≤1000) (hcap:m≤cap) (hL:∀ i,i<m→P (L i)) (w:World)
  (hcs:∀ W,Below w.heap.size w W→∀ j,j<m→W.cell? ⟨bi,j*2,none⟩=some (Z (L j).1)∧W.cell? ⟨bi,j*2+1,none⟩=some (Z (L j).2)) :
  Calls Tryz.prog 89 #[.slice (some ⟨bi,0,none⟩) m cap] w fun e w'=>e = .returned (frc (pickN A (L 0) (fun i=>L (i+1)) (m-1)).1 (pickN A (L 0) (fun i=>L (i+1)) (m-1)).2)∧Below w.heap.size w w':=by
 obtain ⟨m,rfl⟩:∃ k,m=k+1:=⟨m-1,by omega⟩
 obtain ⟨cap,rfl⟩:∃ k,cap=k+1:=⟨cap-1,by omega⟩
 have n_r:(w.alloc (O #[Z ⟨#[]⟩,Z ⟨#[]⟩] 23)).heap[w.heap.size]? = _:=World.alloc_heap_new w _
 have u:=(Below.refl w.heap.size w).alloc (Nat.le_refl _) (O #[Z ⟨#[]⟩,Z ⟨#[]⟩] 23)
 have cF:=fun (off cap:Nat) (ho:0<m→off=2) (W:World) (hB:Below w.heap.size w W)=>first_any 143 (enters_of Tryz.func143 (by kernel_rfl) rfl) P A hA (fun i=>L (i+1)) (L 0) (hL 0 (by omega)) m bi off cap (by omega) (fun i hi=>hL (i+1) (by omega)) W (fun V hV j hj=>by
  have:=hcs V (hB.trans (hV.mono hB.size)) (j+1) (by omega)
  rw [ho (by omega)]
  rwa [show (j+1)*2=2+j*2 by omega] at this)
 obtain ⟨y0,y1⟩:=hcs _ u 0 (by omega)
 have CF:Shut _:=⟨cF⟩
 have HC:Shut _:=⟨fun W hW=>hcs W hW 0 (by omega)⟩
 have nx:=Nat.ne_of_lt (World.block_lt_of_cell? w _ (hcs w (Below.refl _ _) 0 (by omega)).1)
 have nx2:=nx.symm
 have hm1:(m+1-1:Nat)=m:=rfl
 rw [hm1]
 clear hcs cF hA
 unfold frc at *
 generalize hpk:pickN A (L 0) (fun i=>L (i+1)) m=pk at *
 generalize L 0=l0 at *
 rcases Nat.eq_zero_or_pos cap with rfl | hcp
 ·obtain rfl:m=0:=(by omega)
  go_enter Tryz.func89, Tryz.ntmps89
  go_wp2_with fail
  generalize (w.alloc (O #[Z ⟨#[]⟩,Z ⟨#[]⟩] 23))=W0 at *
  have k0:=lcell n_r 0 (v:=Z ⟨#[]⟩) rfl
  have f0:=lfree n_r 0
  have k1:=lcell n_r 1 (v:=Z ⟨#[]⟩) rfl
  have f1:=lfree n_r 1
  have y0:W0.cell? ⟨bi,0,none⟩=some (Z l0.1):=y0
  have y1:W0.cell? ⟨bi,1,none⟩=some (Z l0.2):=y1
  go_region_held (fun X=>X.cell? ⟨bi,0,none⟩=some (Z l0.1)∧X.cell? ⟨bi,1,none⟩=some (Z l0.2)) (go_keep) (first | (go_at_call 142; (with_reducible refine (CF.o _ _ (fun hh=>absurd hh (by omega)) _ (ldrew u)).mono ?_);rintro e v1 ⟨rfl,g⟩;have g:Below W0.heap.size W0 v1:=lundrew2 g;replace u:=u.trans (g.mono u.size);replace n_r:=lkeep n_r g;clear g;obtain ⟨q0,q1⟩:=HC.o _ u;have y0:v1.cell? ⟨bi,0,none⟩=some (Z l0.1):=q0;have y1:v1.cell? ⟨bi,1,none⟩=some (Z l0.2):=q1;clear q0 q1;have k0:=lcell n_r 0 (v:=Z ⟨#[]⟩) rfl;have f0:=lfree n_r 0;have k1:=lcell n_r 1 (v:=Z ⟨#[]⟩) rfl;have f1:=lfree n_r 1))
  have s_r:=box2_setx (x:=Z pk.1) (y:=Z pk.2) n_r
  have z0:=lcell s_r 0 (v:=Z pk.1) rfl
  have z1:=lcell s_r 1 (v:=Z pk.2) rfl
  go_wp
  exact bodyPost_ret (v:=.agg #[Z pk.1,Z pk.2]) (by simp [results,Tryz.results89, go_sem,z0,z1]) rfl ⟨rfl,(u.setCell (Nat.le_refl _) _).setCell (Nat.le_refl _) _⟩
 ·obtain ⟨c,rfl⟩:∃ c,cap=c+1:=⟨cap-1,by omega⟩
  have hc3:¬(c+1+1=1):=(by omega)
  have hc4:(1:Int)≤((m+1:Nat):Int):=(by omega)
  go_enter Tryz.func89, Tryz.ntmps89
  go_wp2_with fail
  generalize (w.alloc (O #[Z ⟨#[]⟩,Z ⟨#[]⟩] 23))=W0 at *
  have k0:=lcell n_r 0 (v:=Z ⟨#[]⟩) rfl
  have f0:=lfree n_r 0
  have k1:=lcell n_r 1 (v:=Z ⟨#[]⟩) rfl
  have f1:=lfree n_r 1
  have y0:W0.cell? ⟨bi,0,none⟩=some (Z l0.1):=y0
  have y1:W0.cell? ⟨bi,1,none⟩=some (Z l0.2):=y1
  go_region_held (fun X=>X.cell? ⟨bi,0,none⟩=some (Z l0.1)∧X.cell? ⟨bi,1,none⟩=some (Z l0.2)) (go_keep) (first | (go_at_call 142; (with_reducible refine (CF.o _ _ (fun hh=>rfl) _ (ldrew u)).mono ?_);rintro e v1 ⟨rfl,g⟩;have g:Below W0.heap.size W0 v1:=lundrew2 g;replace u:=u.trans (g.mono u.size);replace n_r:=lkeep n_r g;clear g;obtain ⟨q0,q1⟩:=HC.o _ u;have y0:v1.cell? ⟨bi,0,none⟩=some (Z l0.1):=q0;have y1:v1.cell? ⟨bi,1,none⟩=some (Z l0.2):=q1;clear q0 q1;have k0:=lcell n_r 0 (v:=Z ⟨#[]⟩) rfl;have f0:=lfree n_r 0;have k1:=lcell n_r 1 (v:=Z ⟨#[]⟩) rfl;have f1:=lfree n_r 1))
  have s_r:=box2_setx (x:=Z pk.1) (y:=Z pk.2) n_r
  have z0:=lcell s_r 0 (v:=Z pk.1) rfl
  have z1:=lcell s_r 1 (v:=Z pk.2) rfl
  go_wp
  exact bodyPost_ret (v:=.agg #[Z pk.1,Z pk.2]) (by simp [results,Tryz.results89, go_sem,z0,z1]) rfl ⟨rfl,(u.setCell (Nat.le_refl _) _).setCell (Nat.le_refl _) _⟩
end En
end
section
namespace En
open Go.RowKit Go.Extern.Stop Go.Stop Go.Extern
def EndsC (x:Value) (n:Nat) (E:Nat→P2):Prop:=∀ W:World,Calls Tryz.prog 144 #[x] W fun e W'=>∃ b c,e = .returned (.slice (some ⟨b,0,none⟩) n n)∧W.heap.size≤b∧W'.heap[b]? = some (.cells c 23 (0,0))∧(∀ j,j<n→c[j*2]? = some (Z (E j).1)∧c[j*2+1]? = some (Z (E j).2))∧Below W.heap.size W W'
theorem ends_same (x0 x1:ByteArray) (E:Nat→P2) (hE:E 0=(x0,x1)):EndsC (ivl x0 x1 x0 x1) 1 E:=by
 intro w
 unfold ivl
 obtain ⟨n_x,n_y⟩:=news2 w (O #[Z x0,Z x1,Z x0,Z x1] 25) (O #[Z x0,Z x1] 23)
 have u:=below2 w (O #[Z x0,Z x1,Z x0,Z x1] 25) (O #[Z x0,Z x1] 23)
 have m_x:(w.alloc (O #[Z x0,Z x1,Z x0,Z x1] 25)).heap[w.heap.size]? = _:=World.alloc_heap_new w _
 go_enter Tryz.func144, Tryz.ntmps144
 have y0:=lcell m_x 0 (v:=Z x0) rfl
 have y1:=lcell m_x 1 (v:=Z x1) rfl
 have y2:=lcell m_x 2 (v:=Z x0) rfl
 have y3:=lcell m_x 3 (v:=Z x1) rfl
 have e0:(x0.toList == x0.toList)=true:=beq_self_eq_true _
 have e1:(x1.toList == x1.toList)=true:=beq_self_eq_true _
 go_wp2_with fail
 go_ret
 exact ⟨_,_,rfl,Nat.le_succ _,n_y,fun j hj=>by obtain rfl:j=0:=(by omega);rw [hE];exact ⟨rfl,rfl⟩,u⟩
theorem ends_other (x0 x1 x2 x3:ByteArray) (E:Nat→P2) (hE:E 0=(x0,x1)) (hE1:E 1=(x2,x3)) (hne:(x0.toList == x2.toList)=false∨((x0.toList == x2.toList)=true∧(x1.toList == x3.toList)=false)):EndsC (ivl x0 x1 x2 x3) 2 E:=by
 intro w
 unfold ivl
 obtain ⟨n_x,n_y⟩:=news2 w (O #[Z x0,Z x1,Z x2,Z x3] 25) (O #[Z x0,Z x1,Z x2,Z x3] 23)
 have u:=below2 w (O #[Z x0,Z x1,Z x2,Z x3] 25) (O #[Z x0,Z x1,Z x2,Z x3] 23)
 have m_x:(w.alloc (O #[Z x0,Z x1,Z x2,Z x3] 25)).heap[w.heap.size]? = _:=World.alloc_heap_new w _
 go_enter Tryz.func144, Tryz.ntmps144
 have y0:=lcell m_x 0 (v:=Z x0) rfl
 have y1:=lcell m_x 1 (v:=Z x1) rfl
 have y2:=lcell m_x 2 (v:=Z x2) rfl
 have y3:=lcell m_x 3 (v:=Z x3) rfl
 have hj2:∀ j,j<2→j=0∨j=1:=fun j h=>by omega
 rcases hne with e0 | ⟨e0,e1⟩
 ·go_wp2_with fail
  go_ret
  exact ⟨_,_,rfl,Nat.le_succ _,n_y,fun j hj=>by rcases hj2 j hj with rfl | rfl;(rw [hE];exact ⟨rfl,rfl⟩);(rw [hE1];exact ⟨rfl,rfl⟩),u⟩
 ·go_wp2_with fail
  go_ret
  exact ⟨_,_,rfl,Nat.le_succ _,n_y,fun j hj=>by rcases hj2 j hj with rfl | rfl;(rw [hE];exact ⟨rfl,rfl⟩);(rw [hE1];exact ⟨rfl,rfl⟩),u⟩
def cellsL (R:Nat→P2):Nat→List Value
 | 0 => []
 | t+1=>cellsL R t ++ [Z (R t).1,Z (R t).2]
theorem cellsL_len (R:Nat→P2):∀ t,(cellsL R t).length=t*2
 | 0=>rfl
 | t+1=>by rw [cellsL,List.length_append,cellsL_len R t];simp;omega
theorem cellsL_at (R:Nat→P2):∀ t j,j<t→(cellsL R t)[j*2]? = some (Z (R j).1)∧(cellsL R t)[j*2+1]? = some (Z (R j).2)
 | 0,_,h=>absurd h (by omega)
 | t+1,j,h=>by
  have hl:=cellsL_len R t
  rw [cellsL]
  rcases Nat.lt_or_ge j t with h1 | h1
  ·rw [List.getElem?_append_left (by omega),List.getElem?_append_left (by omega)]
   exact cellsL_at R t j h1
  ·obtain rfl:j=t:=by omega
   rw [List.getElem?_append_right (by omega),List.getElem?_append_right (by omega),hl]
   simp
def OwnL (W:World) (base:Nat) (v:Value) (t:Nat) (R:Nat→P2):Prop:=W.ownsRow base 23 2 v t (cellsL R t)
theorem OwnL.nil (W:World) (base:Nat) (R:Nat→P2):OwnL W base (.slice none 0 0) 0 R:=World.ownsRow_nil W base _ _
theorem OwnL.below {W W':World} {base t:Nat} {v:Value} {R:Nat→P2} (h:OwnL W base v t R) (hb:Below W.heap.size W W'):OwnL W' base v t R:=by
 refine ⟨h.1, ?_⟩
 rcases h.2 with hn | ⟨g,cap,cur,e,hg,hgg,rest⟩
 ·exact .inl hn
 ·exact .inr ⟨g,cap,cur,e,hg,by rw [hb.block g (Array.getElem?_eq_some_iff.1 hgg).1];exact hgg,rest⟩
theorem OwnL.new {W:World} {base t:Nat} {v:Value} {R:Nat→P2} (h:OwnL W base v t R) (b:Nat) (hb:W.heap.size≤b):v.ownBlock≠some b:=by
 rcases h.2 with ⟨rfl,_⟩ | ⟨g,cap,cur,rfl,hg,hgg,rest⟩
 ·simp [Value.ownBlock]
 ·have:=(Array.getElem?_eq_some_iff.1 hgg).1
  simp [Value.ownBlock];omega
theorem OwnL.low {W:World} {base t:Nat} {v:Value} {R:Nat→P2} (h:OwnL W base v t R) (b:Nat) (hb:b<base):v.ownBlock≠some b:=by
 rcases h.2 with ⟨rfl,_⟩ | ⟨g,cap,cur,rfl,hg,hgg,rest⟩
 ·simp [Value.ownBlock]
 ·simp [Value.ownBlock];omega
theorem OwnL.shape {W:World} {base t:Nat} {v:Value} {R:Nat→P2} (h:OwnL W base v (t+1) R):∃ g cap,v = .slice (some ⟨g,0,none⟩) (t+1) cap∧t+1≤cap∧cap≤maxLen∧∃ cur,W.heap[g]? = some (.cells cur 23 (0,0))∧∀ j,j<t+1→cur[j*2]? = some (Z (R j).1)∧cur[j*2+1]? = some (Z (R j).2):=by
 rcases h.2 with ⟨_,hn⟩ | ⟨g,cap,cur,rfl,hg,hgg,h1,h2,h3,h4⟩
 ·cases hn
 ·refine ⟨g,cap,rfl,h1,h2,cur,hgg,fun j hj => ?_⟩
  have hc:=cellsL_at R (t+1) j hj
  rw [←h4] at hc
  have e1:=hc.1
  have e2:=hc.2
  rw [List.getElem?_take_of_lt (by omega)] at e1
  rw [List.getElem?_take_of_lt (by omega)] at e2
  rw [Array.getElem?_toList] at e1 e2
  exact ⟨e1,e2⟩
structure Lv (W:World) (v:Value) (b:Nat) (o:Obj):Prop where
 at_:W.heap[b]? = some o
 off:v.ownBlock≠some b
theorem Lv.below {W W':World} {v:Value} {b:Nat} {o:Obj} (h:Lv W v b o) (hB:Below W.heap.size W W'):Lv W' v b o:=⟨lkeep h.at_ hB,h.off⟩
theorem Lv.app {W W':World} {v v':Value} {b:Nat} {o:Obj} (h:Lv W v b o) (hg:W.grownBy W' v.ownBlock) (hat:v'.ownBlock=v.ownBlock∨v'.ownBlock=some W.heap.size):Lv W' v' b o:=by
 have hlt:=(Array.getElem?_eq_some_iff.1 h.at_).1
 refine ⟨(hg.block b hlt (fun e=>h.off e.symm)).trans h.at_, ?_⟩
 rcases hat with e | e
 ·rw [e];exact h.off
 ·rw [e];intro e2;injection e2 with e2;omega
theorem infoRat:(Tryz.prog.info? 23).map (fun i=>(i.zero,i.size,i.bytes))=some (some (.agg #[Z ⟨#[]⟩,Z ⟨#[]⟩]),2,32):=by kernel_rfl
theorem below_app {B t base:Nat} {R:Nat→P2} {w w1 w3:World} {v:Value} (hb:Below B w w1) (hB:B≤w.heap.size) (hBb:B≤base) (hO:OwnL w1 base v t R) (hg:w1.grownBy w3 v.ownBlock):Below B w w3 :=
 hb.trans ⟨hg.os,hg.tape,hg.output,hg.size,fun k hk=>hg.block k (Nat.lt_of_lt_of_le (Nat.lt_of_lt_of_le hk hB) hb.size) (fun e=>by
  rcases hO.2 with ⟨rfl,_⟩ | ⟨g,cap,cur,rfl,h1,_⟩
  ·simp [Value.ownBlock] at e
  ·simp [Value.ownBlock] at e;omega)⟩
theorem append_one {w:World} {ops:Array Oper} {rest:List Oper} {o:Oper} {a:Act} {Q:Exit→Act→World→Prop} (hgd:o.guard=none) (s x:Operand)
  (ho:o.op = .call {callee:=.builtin .append,args:=#[s,x],argTypes:=#[50, 50]}) (base:Nat) (v:Value) (t:Nat) (R:Nat→P2) (hs:a.eval s=v) (hown:OwnL w base v t R)
  (Bx c:Nat) (hx:a.eval x = .slice (some ⟨Bx,0,none⟩) 1 c) (hB:w.heap[Bx]? = some (O #[Z (R t).1,Z (R t).2] 23 (0,0))) (ht:t≤1000) (hb:base≤w.heap.size)
  (h:∀ v' w',OwnL w' base v' (t+1) R→w.grownBy w' v.ownBlock→(v'.ownBlock=v.ownBlock∨v'.ownBlock=some w.heap.size)→wpList Tryz.prog ops Q rest (a.put o.dst v') w'):wpList Tryz.prog ops Q (o :: rest) a w:=by
 obtain ⟨i0,hinf,hz⟩:=Option.map_eq_some_iff.1 infoRat
 have hz0:i0.zero=some (.agg #[Z ⟨#[]⟩,Z ⟨#[]⟩]):=congrArg (fun q=>q.1) hz
 have hz1:i0.size=2:=congrArg (fun q=>q.2.1) hz
 have hz2:i0.bytes=32:=congrArg (fun q=>q.2.2) hz
 refine wpList_append_own_at w hgd s x 50 ho base 23 i0 (.agg #[Z ⟨#[]⟩,Z ⟨#[]⟩]) 2 32 Tryz.underlying50 hinf hz0 hz1 hz2 rfl (by decide) v t _ hs hown ⟨Bx,0,none⟩ 1 c [Z (R t).1,Z (R t).2] hx rfl ?_ ?_ (by unfold maxLen;omega) (by omega) hb ?_
 ·intro j u hj
  rw [Addr.add_lit,Nat.zero_add]
  match j,hj with
  | 0,hj=>exact lcell hB 0 hj
  | 1,hj=>exact lcell hB 1 hj
 ·intro u hu
  simp at hu
  rcases hu with rfl | rfl <;> rfl
 ·intro v' w' hown' hgrow _ hat
  exact h v' w' hown' hgrow hat
end En
end
section
namespace En
open Go.RowKit Go.Extern.Stop Go.Stop Go.Extern
theorem news3 (w:World) (a b c:Obj):(((w.alloc a).alloc b).alloc c).heap[w.heap.size]? = some a∧(((w.alloc a).alloc b).alloc c).heap[w.heap.size+1]? = some b∧(((w.alloc a).alloc b).alloc c).heap[w.heap.size+1+1]? = some c:=new3 w a b c
theorem below3 (w:World) (a b c:Obj):Below w.heap.size w (((w.alloc a).alloc b).alloc c):=(((Below.refl w.heap.size w).alloc (Nat.le_refl _) a).alloc (by simp) b).alloc (by simp;omega) c
def leastP (A:P2→P2→Bool) (L:Nat→P2) (n:Nat):P2:=pickN A (L 0) (fun i=>L (i+1)) (n-1)
theorem combined_any (a:Addr) (k:Nat) (hk:Enters Tryz.prog k) (x0 x1 x2 x3 y0 y1 y2 y3:ByteArray) (n m:Nat) (hn:1≤n∧n≤2) (hm:1≤m∧m≤2) (E D:Nat→P2) (hE:EndsC (ivl x0 x1 x2 x3) n E) (hD:EndsC (ivl y0 y1 y2 y3) m D)
  (R:Nat→Nat→P2) (C:Nat→Nat→Int) (hO:∀ i j,i<n→j<m→Ret k #[frc (E i).1 (E i).2,frc (D j).1 (D j).2] (.tuple #[frc (R i j).1 (R i j).2,.int .i64 (C i j)]))
  (P:P2→Prop) (A B:P2→P2→Bool) (hA:∀ p q,P p→P q→Ret 68 #[frc p.1 p.2,frc q.1 q.2] (.bool (A p q))) (hB:∀ p q,P p→P q→Ret 143 #[frc p.1 p.2,frc q.1 q.2] (.bool (B p q)))
  (hR:∀ i j,i<n→j<m→C i j=0→P (R i j)) (L:Nat→P2) (hLR:∀ i j,j<m→L (i*m+j)=R i j) (bad:Bool) (hbad:bad=false↔∀ i j,i<n→j<m→C i j=0) (w:World) (hv:Ref a w) :
  Calls Tryz.prog 93 #[.func (.func k) #[] #[],ivl x0 x1 x2 x3,ivl y0 y1 y2 y3] w fun e w'=>e=(if bad=false then .returned (ivl (leastP A L (n*m)).1 (leastP A L (n*m)).2 (leastP B L (n*m)).1 (leastP B L (n*m)).2) else .panicked (refP a))∧Below w.heap.size w w':=by
 have CE:Shut _:=⟨hE⟩
 have CD:Shut _:=⟨hD⟩
 have CO:Shut _:=⟨hO⟩
 have HR:Shut _:=⟨hR⟩
 have HA:Shut _:=⟨hA⟩
 have HB:Shut _:=⟨hB⟩
 have HV:Shut _:=⟨hv⟩
 clear hE hD hO hR hA hB hv
 unfold ivl frc at *
 go_enter Tryz.func93, Tryz.ntmps93
 have HBAD:Shut _:=⟨hbad⟩
 clear hbad
 obtain ⟨n_x,n_y,n_r⟩:=news3 w (O #[Z x0,Z x1,Z x2,Z x3] 25) (O #[Z y0,Z y1,Z y2,Z y3] 25) (O #[Z ⟨#[]⟩,Z ⟨#[]⟩,Z ⟨#[]⟩,Z ⟨#[]⟩] 25)
 have u:=below3 w (O #[Z x0,Z x1,Z x2,Z x3] 25) (O #[Z y0,Z y1,Z y2,Z y3] 25) (O #[Z ⟨#[]⟩,Z ⟨#[]⟩,Z ⟨#[]⟩,Z ⟨#[]⟩] 25)
 have c0:=lcell n_x 0 (v:=Z x0) rfl
 have c1:=lcell n_x 1 (v:=Z x1) rfl
 have c2:=lcell n_x 2 (v:=Z x2) rfl
 have c3:=lcell n_x 3 (v:=Z x3) rfl
 go_wp2_with fail
 clear c0 c1 c2 c3
 generalize (((w.alloc (O #[Z x0,Z x1,Z x2,Z x3] 25)).alloc (O #[Z y0,Z y1,Z y2,Z y3] 25)).alloc (O #[Z ⟨#[]⟩,Z ⟨#[]⟩,Z ⟨#[]⟩,Z ⟨#[]⟩] 25))=W0 at *
 refine (CE.o W0).mono ?_
 rintro e W1 ⟨bE,cE,rfl,hbE,n_E,hcE,g⟩
 replace u:=u.trans (g.mono u.size)
 replace n_x:=lkeep n_x g
 replace n_y:=lkeep n_y g
 replace n_r:=lkeep n_r g
 have HCE:Shut _:=⟨hcE⟩
 clear g hbE hcE
 go_wp2_with fail
 have NY:Shut _:=⟨n_y⟩
 have NR:Shut _:=⟨n_r⟩
 have NE:Shut _:=⟨n_E⟩
 have U:Shut _:=⟨u⟩
 clear n_x n_y n_r n_E u
 have HL:Shut _:=⟨hLR⟩
 clear hLR
 have S0:Shut (OwnL W1 W1.heap.size (.slice none 0 0) (0*m) L∧Below W1.heap.size W1 W1):=⟨by rw [Nat.zero_mul];exact OwnL.nil _ _ _,Below.refl _ _⟩
 go_loopw [7,15] (fun v iv wr=>∃ i:Nat,i≤n∧iv = .int .i64 (i:Int)∧Shut (OwnL wr W1.heap.size v (i*m) L∧Below W1.heap.size W1 wr)∧Shut (∀ i' j,i'<i→j<m→C i' j=0)) (fun _ iv _=>n-(intOf iv).toNat)
 case atStart=>exact ⟨0,Nat.zero_le _,rfl,S0,⟨fun i' j h=>by omega⟩⟩
 case round =>
  obtain ⟨i,hi,rfl,H,HZ⟩:=hrel
  clear S0
  by_cases hin:i=n
  ·subst hin
   obtain ⟨hO,u1⟩:=H.o
   clear H
   have hP:∀ t,t<i*m→P (L t):=fun t ht=>by
    have h1:=Nat.div_add_mod t m
    have h2:t / m<i:=Nat.div_lt_of_lt_mul (by rw [Nat.mul_comm];exact ht)
    have h3:=Nat.mod_lt t (show m > 0 by omega)
    have h4:=HL.o (t / m) (t % m) h3
    rw [Nat.mul_comm,h1] at h4
    rw [h4]
    exact HR.o _ _ h2 h3 (HZ.o _ _ h2 h3)
   have hbf:bad=false:=HBAD.o.2 (fun i' j' h1 h2=>HZ.o i' j' h1 h2)
   have hnm:i*m≤4:=Nat.mul_le_mul hn.2 hm.2
   have hnm1:1≤i*m:=Nat.mul_le_mul hn.1 hm.1
   generalize hnn:i*m=nn at *
   obtain ⟨t,rfl⟩:∃ t,nn=t+1:=⟨nn-1,by omega⟩
   obtain ⟨g,cap,rfl,hcap,hmax,cur,n_g,hcur⟩:=hO.shape
   have hcapb:cap≤9223372036854775807:=by unfold maxLen at hmax;omega
   have n_r:=lkeep NR.o u1
   have u:=U.o.trans (u1.mono U.o.size)
   have cLe:=least_any P A HA.o L (t+1) g cap (by omega) (by omega) hcap hP wr (fun W hW j hj=>⟨lcell (lkeep n_g hW) (j*2) (hcur j hj).1,lcell (lkeep n_g hW) (j*2+1) (hcur j hj).2⟩)
   unfold frc at cLe
   have HG:Shut _:=⟨hcur⟩
   obtain ⟨lo,hlo⟩:∃ p,leastP A L (t+1)=p:=⟨_,rfl⟩
   rw [show pickN A (L 0) (fun i=>L (i+1)) (t+1-1)=lo from hlo] at cLe
   clear hcur hO u1 hmax
   go_wp2_with fail
   refine cLe.mono ?_
   rintro e v1 ⟨rfl,gg⟩
   replace u:=u.trans (gg.mono u.size)
   replace n_r:=lkeep n_r gg
   replace n_g:=lkeep n_g gg
   clear gg cLe
   have cGr:=greatest_any P B HB.o L (t+1) g cap (by omega) (by omega) hcap hP v1 (fun W hW j hj=>⟨lcell (lkeep n_g hW) (j*2) (HG.o j hj).1,lcell (lkeep n_g hW) (j*2+1) (HG.o j hj).2⟩)
   unfold frc at cGr
   obtain ⟨hi',hhi⟩:∃ p,leastP B L (t+1)=p:=⟨_,rfl⟩
   rw [show pickN B (L 0) (fun i=>L (i+1)) (t+1-1)=hi' from hhi] at cGr
   go_wp2_with fail
   refine cGr.mono ?_
   rintro e v2 ⟨rfl,gg⟩
   replace u:=u.trans (gg.mono u.size)
   replace n_r:=lkeep n_r gg
   clear gg cGr n_g
   have d0:=lcell n_r 0 (v:=Z ⟨#[]⟩) rfl
   have d1:=lcell n_r 1 (v:=Z ⟨#[]⟩) rfl
   have d2:=lcell n_r 2 (v:=Z ⟨#[]⟩) rfl
   have d3:=lcell n_r 3 (v:=Z ⟨#[]⟩) rfl
   have h0:=lfree n_r 0
   have h1:=lfree n_r 1
   have h2:=lfree n_r 2
   have h3:=lfree n_r 3
   have hb:∀ i,w.heap.size≤(⟨w.heap.size+1+1,i,none⟩:Addr).block:=fun _=>Nat.le_trans (Nat.le_succ _) (Nat.le_succ _)
   have s_r:=box4_set (x:=Z lo.1) (y:=Z lo.2) (z:=Z hi'.1) (t:=Z hi'.2) n_r
   have z0:=lcell s_r 0 (v:=Z lo.1) rfl
   have z1:=lcell s_r 1 (v:=Z lo.2) rfl
   have z2:=lcell s_r 2 (v:=Z hi'.1) rfl
   have z3:=lcell s_r 3 (v:=Z hi'.2) rfl
   dsimp only
   go_wp
   exact bodyPost_ret (v:=.agg #[Z lo.1,Z lo.2,Z hi'.1,Z hi'.2]) (by simp [results,Tryz.results93, go_sem,z0,z1,z2,z3]) rfl ⟨by rw [if_pos hbf,hnn,hlo,hhi],(((u.setCell (hb 0) _).setCell (hb 1) _).setCell (hb 2) _).setCell (hb 3) _⟩
  ·obtain ⟨hO,u1⟩:=H.o
   clear H
   have n_y:=lkeep NY.o u1
   have n_E:=lkeep NE.o u1
   have hi2:(i:Int)<(n:Int):=by omega
   have hi3:(0:Int)≤(i:Int):=by omega
   obtain ⟨z0,z1⟩:=HCE.o i (by omega)
   have cOi:=fun j hj=>CO.o i j (by omega) hj
   generalize hEi:E i=ei at *
   have q0:=lcell n_E (i*2) z0
   have q1:=lcell n_E (i*2+1) z1
   have m_y:(wr.alloc (O #[Z ei.1,Z ei.2] 23)).heap[w.heap.size+1]? = _:=(Below.heap_alloc wr _ _ (Array.getElem?_eq_some_iff.1 n_y).1).trans n_y
   have m_o:(wr.alloc (O #[Z ei.1,Z ei.2] 23)).heap[wr.heap.size]? = _:=World.alloc_heap_new wr _
   have c0:=lcell m_y 0 (v:=Z y0) rfl
   have c1:=lcell m_y 1 (v:=Z y1) rfl
   have c2:=lcell m_y 2 (v:=Z y2) rfl
   have c3:=lcell m_y 3 (v:=Z y3) rfl
   have CI:Shut _:=⟨cOi⟩
   have hb9:=hO.new wr.heap.size (Nat.le_refl _)
   have ha:=((Below.refl wr.heap.size wr).alloc (Nat.le_refl _) (O #[Z ei.1,Z ei.2] 23))
   replace hO:=hO.below ha
   replace u1:=u1.trans (ha.mono u1.size)
   clear cOi ha
   go_wp2_with fail
   refine (CD.o _).mono ?_
   rintro e W3 ⟨bD,cD,rfl,hbD,n_D,hcD,g⟩
   have l9:=(Lv.mk m_o hb9).below g
   have lD:Lv W3 u7 bD _:=⟨n_D,hO.new bD hbD⟩
   replace hO:=hO.below g
   replace u1:=u1.trans (g.mono u1.size)
   have HCD:Shut _:=⟨hcD⟩
   clear g hcD hbD n_D m_y m_o c0 c1 c2 c3 q0 q1 z0 z1 n_y n_E hb9
   go_wp2_with fail
   generalize hb9:wr.heap.size=b9 at *
   have S1:Shut (OwnL W3 W1.heap.size u7 (i*m+0) L∧Below W1.heap.size W1 W3∧Lv W3 u7 b9 (O #[Z ei.1,Z ei.2] 23 (0,0))∧Lv W3 u7 bD (.cells cD 23 (0,0))):=⟨by rw [Nat.add_zero];exact hO,u1,l9,lD⟩
   clear hO u1 l9 lD
   go_loopw [7,22] (fun v jv w2=>∃ j:Nat,j≤m∧jv = .int .i64 (j:Int)∧Shut (OwnL w2 W1.heap.size v (i*m+j) L∧Below W1.heap.size W1 w2∧Lv w2 v b9 (O #[Z ei.1,Z ei.2] 23 (0,0))∧Lv w2 v bD (.cells cD 23 (0,0)))∧Shut (∀ j',j'<j→C i j'=0)) (fun _ jv _=>m-(intOf jv).toNat)
   case atStart=>exact ⟨0,Nat.zero_le _,rfl,S1,⟨fun j h=>by omega⟩⟩
   case round =>
    obtain ⟨j,hj,rfl,H,HZ2⟩:=hrel
    clear S1
    by_cases hjm:j=m
    ·subst hjm
     obtain ⟨hO,u1,l9,lD⟩:=H.o
     clear H l9 lD
     have hw1:IntKind.i64.wrap ((i:Int)+1)=(i:Int)+1:=by simp [IntKind.wrap,IntKind.signed,IntKind.bits];omega
     go_wp2_with fail
     go_roundw
     case rel=>exact ⟨i+1,by omega,by first | rfl | go_num | simp,⟨by rw [Nat.succ_mul];exact hO,u1⟩,⟨fun i' j' h hj'=>by
      rcases Nat.lt_or_ge i' i with h1 | h1
      ·exact HZ.o i' j' h1 hj'
      ·obtain rfl:i'=i:=by omega
       exact HZ2.o j' hj'⟩⟩
     case measure=>simp [intOf];omega
    ·obtain ⟨hO,u1,l9,lD⟩:=H.o
     clear H
     have hj2:(j:Int)<(m:Int):=by omega
     have hj3:(0:Int)≤(j:Int):=by omega
     obtain ⟨z0,z1⟩:=HCD.o j (by omega)
     have cO:=CI.o j (by omega)
     generalize hDj:D j=dj at *
     have q0:=lcell lD.at_ (j*2) z0
     have q1:=lcell lD.at_ (j*2+1) z1
     have k0:=lcell l9.at_ 0 (v:=Z ei.1) rfl
     have k1:=lcell l9.at_ 1 (v:=Z ei.2) rfl
     have r9:(wr.alloc (O #[Z dj.1,Z dj.2] 23)).heap[b9]? = _:=(Below.heap_alloc wr _ _ (Array.getElem?_eq_some_iff.1 l9.at_).1).trans l9.at_
     have t0:=lcell r9 0 (v:=Z ei.1) rfl
     have t1:=lcell r9 1 (v:=Z ei.2) rfl
     have ha:=((Below.refl wr.heap.size wr).alloc (Nat.le_refl _) (O #[Z dj.1,Z dj.2] 23))
     replace hO:=hO.below ha
     replace l9:=l9.below ha
     replace lD:=lD.below ha
     replace u1:=u1.trans (ha.mono u1.size)
     have hen:=fun a w=>hk a w
     clear ha
     go_wp2_with fail
     refine (cO _).mono ?_
     rintro e v1 ⟨rfl,g⟩
     replace hO:=hO.below g
     replace l9:=l9.below g
     replace lD:=lD.below g
     replace u1:=u1.trans (g.mono u1.size)
     clear g k0 k1 r9 t0 t1 q0 q1 z0 z1 cO hen
     have cM:=must_att a (R i j).1 (R i j).2 (C i j) v1 (HV.o.keep (U.o.trans (u1.mono U.o.size)))
     go_wp2_with fail
     refine cM.mono ?_
     rintro e v2 ⟨rfl,g⟩
     replace hO:=hO.below g
     replace l9:=l9.below g
     replace lD:=lD.below g
     replace u1:=u1.trans (g.mono u1.size)
     clear g cM
     by_cases hc:C i j=0
     ·rw [if_pos hc]
      dsimp only
      have e_ij:=HL.o i j (by omega)
      have hij:i*m+j≤1000:=by have:=Nat.mul_le_mul (show i≤2 by omega) hm.2;omega
      have n_n:(v2.alloc (O #[Z (R i j).1,Z (R i j).2] 23)).heap[v2.heap.size]? = some (O #[Z (L (i*m+j)).1,Z (L (i*m+j)).2] 23 (0,0)):=by rw [e_ij];exact World.alloc_heap_new v2 _
      have ha:=((Below.refl v2.heap.size v2).alloc (Nat.le_refl _) (O #[Z (R i j).1,Z (R i j).2] 23))
      replace hO:=hO.below ha
      replace l9:=l9.below ha
      replace lD:=lD.below ha
      replace u1:=u1.trans (ha.mono u1.size)
      have hw1:IntKind.i64.wrap ((j:Int)+1)=(j:Int)+1:=by simp [IntKind.wrap,IntKind.signed,IntKind.bits];omega
      clear ha
      generalize R i j=rij at *
      go_wp2_with (at_builtin;refine append_one rfl _ _ rfl W1.heap.size _ (i*m+j) L rfl hO v2.heap.size _ rfl n_n hij u1.size ?_;intro v' w' hO' hg hat)
      have u2:=below_app u1 (Nat.le_refl _) (Nat.le_refl _) hO hg
      replace l9:=l9.app hg hat
      replace lD:=lD.app hg hat
      clear hO hg hat u1 n_n
      go_roundw
      case rel=>exact ⟨j+1,by omega,by first | rfl | go_num | simp,⟨hO',u2,l9,lD⟩,⟨fun j' h=>by
       rcases Nat.lt_or_ge j' j with h1 | h1
       ·exact HZ2.o j' h1
       ·obtain rfl:j'=j:=by omega
        exact hc⟩⟩
      case measure=>simp [intOf];omega
     ·rw [if_neg hc]
      dsimp +zetaDelta only [Exit.then,Exit.inBlock]
      exact ⟨rfl,by rw [if_neg (fun h=>hc (HBAD.o.1 h i j (by omega) (by omega)))],U.o.trans (u1.mono U.o.size)⟩
end En
end
section
namespace En
open Go.RowKit Go.Extern.Stop Go.Stop Go.Extern
structure Hu (w W:World) (Bx By:Nat) (X Y:Array Value):Prop where
 x:W.heap[Bx]? = some (.cells X 25 (0,0))
 y:W.heap[By]? = some (.cells Y 25 (0,0))
 r:W.heap[w.heap.size]? = some (O #[Z ⟨#[]⟩,Z ⟨#[]⟩,Z ⟨#[]⟩,Z ⟨#[]⟩] 25 (0,0))
 u:Below w.heap.size w W
theorem Hu.below {w W W':World} {Bx By:Nat} {X Y:Array Value} (h:Hu w W Bx By X Y) (g:Below W.heap.size W W'):Hu w W' Bx By X Y:=⟨lkeep h.x g,lkeep h.y g,lkeep h.r g,h.u.trans (g.mono h.u.size)⟩
theorem Hu.alloc {w W:World} {Bx By:Nat} {X Y:Array Value} (h:Hu w W Bx By X Y) (o:Obj):Hu w (W.alloc o) Bx By X Y:=h.below ((Below.refl W.heap.size W).alloc (Nat.le_refl _) o)
theorem Hu.draw {w W:World} {Bx By:Nat} {X Y:Array Value} (h:Hu w W Bx By X Y):Hu w W.drew Bx By X Y:=⟨h.x,h.y,h.r,ldrew h.u⟩
theorem huS {w W:World} {Bx By:Nat} {x0 x1 x2 x3 y0 y1 y2 y3:ByteArray} (h:Hu w W Bx By #[Z x0,Z x1,Z x2,Z x3] #[Z y0,Z y1,Z y2,Z y3]):W.cell? ⟨Bx,0,none⟩=some (Z x0)∧W.cell? ⟨Bx,1,none⟩=some (Z x1)∧W.cell? ⟨Bx,2,none⟩=some (Z x2)∧W.cell? ⟨Bx,3,none⟩=some (Z x3)∧W.cell? ⟨By,0,none⟩=some (Z y0)∧W.cell? ⟨By,1,none⟩=some (Z y1)∧W.cell? ⟨By,2,none⟩=some (Z y2)∧W.cell? ⟨By,3,none⟩=some (Z y3):=⟨lcell h.x 0 rfl,lcell h.x 1 rfl,lcell h.x 2 rfl,lcell h.x 3 rfl,lcell h.y 0 rfl,lcell h.y 1 rfl,lcell h.y 2 rfl,lcell h.y 3 rfl⟩
theorem lset4 {W:World} {b zb:Nat} {o:Obj} (h:W.heap[b]? = some o) (hn:b≠zb) (p q r s:Value):((((W.setCell ⟨zb,0,none⟩ p).setCell ⟨zb,1,none⟩ q).setCell ⟨zb,2,none⟩ r).setCell ⟨zb,3,none⟩ s).heap[b]? = some o:=(Below.heap_setCell _ _ _ _ hn).trans ((Below.heap_setCell _ _ _ _ hn).trans ((Below.heap_setCell _ _ _ _ hn).trans ((Below.heap_setCell _ _ _ _ hn).trans h)))
theorem Hu.set4 {w W:World} {Bx By:Nat} {X Y:Array Value} (h:Hu w W Bx By X Y) (zb:Nat) (h1:Bx<zb) (h2:By<zb) (h3:w.heap.size<zb) (p q r s:Value):Hu w ((((W.setCell ⟨zb,0,none⟩ p).setCell ⟨zb,1,none⟩ q).setCell ⟨zb,2,none⟩ r).setCell ⟨zb,3,none⟩ s) Bx By X Y :=
 have hb:∀ i,w.heap.size≤(⟨zb,i,none⟩:Addr).block:=fun _=>Nat.le_of_lt h3
 ⟨lset4 h.x (Nat.ne_of_lt h1) p q r s,lset4 h.y (Nat.ne_of_lt h2) p q r s,lset4 h.r (Nat.ne_of_lt h3) p q r s,(((h.u.setCell (hb 0) _).setCell (hb 1) _).setCell (hb 2) _).setCell (hb 3) _⟩
theorem new3c (w:World) (a b c:Obj):(((w.alloc a).alloc b).alloc c).heap[w.heap.size+1+1]? = some c:=(new3 w a b c).2.2
theorem ldrow {W:World} {b:Nat} {o:Obj} (h:W.heap[b]? = some o):W.drew.heap[b]? = some o:=h
theorem lold {W:World} {b:Nat} {o o':Obj} (h:W.heap[b]? = some o):(W.alloc o').heap[b]? = some o:=(Below.heap_alloc W _ _ (Array.getElem?_eq_some_iff.1 h).1).trans h
theorem hull_clo (a:Addr) (Bx By:Nat) (x0 x1 x2 x3 y0 y1 y2 y3:ByteArray) (lo hi:P2)
  (hA1:∀ (b:Nat) (W:World),W.heap[b]? = some (O #[Z x0,Z x1,Z y0,Z y1] 23 (0,0))→Calls Tryz.prog 90 #[.slice (some ⟨b,0,none⟩) 2 2] W fun e W'=>e = .returned (frc lo.1 lo.2)∧Below W.heap.size W W')
  (hA2:∀ (b:Nat) (W:World),W.heap[b]? = some (O #[Z x2,Z x3,Z y2,Z y3] 23 (0,0))→Calls Tryz.prog 89 #[.slice (some ⟨b,0,none⟩) 2 2] W fun e W'=>e = .returned (frc hi.1 hi.2)∧Below W.heap.size W W')
  (w:World) (hv:Ref a w) (hx:w.heap[Bx]? = some (O #[Z x0,Z x1,Z x2,Z x3] 25 (0,0))) (hy:w.heap[By]? = some (O #[Z y0,Z y1,Z y2,Z y3] 25 (0,0))) :
  Calls Tryz.prog 91 #[.pointer (some ⟨Bx,0,none⟩),.pointer (some ⟨By,0,none⟩)] w fun e w'=>e = .returned (ivl lo.1 lo.2 hi.1 hi.2)∧Below w.heap.size w w':=by
 have h_W0:Hu w (w.alloc (O #[Z ⟨#[]⟩,Z ⟨#[]⟩,Z ⟨#[]⟩,Z ⟨#[]⟩] 25)) Bx By #[Z x0,Z x1,Z x2,Z x3] #[Z y0,Z y1,Z y2,Z y3]:=⟨lold hx,lold hy,World.alloc_heap_new w _,(Below.refl w.heap.size w).alloc (Nat.le_refl _) _⟩
 have nx:=Nat.ne_of_lt (Array.getElem?_eq_some_iff.1 hx).1
 have ny:=Nat.ne_of_lt (Array.getElem?_eq_some_iff.1 hy).1
 have nx2:=nx.symm
 have ny2:=ny.symm
 have HV:Shut _:=⟨hv⟩
 have CA1:Shut _:=⟨hA1⟩
 have CA2:Shut _:=⟨hA2⟩
 clear hx hy hv hA1 hA2
 unfold ivl frc at *
 go_enter Tryz.func91, Tryz.ntmps91
 go_wp2_with fail
 generalize w.alloc (O #[Z ⟨#[]⟩,Z ⟨#[]⟩,Z ⟨#[]⟩,Z ⟨#[]⟩] 25)=W0 at *
 have cx0:W0.cell? ⟨Bx,0,none⟩=some (Z x0):=lcell h_W0.x 0 rfl
 have cx1:W0.cell? ⟨Bx,1,none⟩=some (Z x1):=lcell h_W0.x 1 rfl
 have cx2:W0.cell? ⟨Bx,2,none⟩=some (Z x2):=lcell h_W0.x 2 rfl
 have cx3:W0.cell? ⟨Bx,3,none⟩=some (Z x3):=lcell h_W0.x 3 rfl
 have cy0:W0.cell? ⟨By,0,none⟩=some (Z y0):=lcell h_W0.y 0 rfl
 have cy1:W0.cell? ⟨By,1,none⟩=some (Z y1):=lcell h_W0.y 1 rfl
 have cy2:W0.cell? ⟨By,2,none⟩=some (Z y2):=lcell h_W0.y 2 rfl
 have cy3:W0.cell? ⟨By,3,none⟩=some (Z y3):=lcell h_W0.y 3 rfl
 have k0:=lcell h_W0.r 0 (v:=Z ⟨#[]⟩) rfl
 have f0:=lfree h_W0.r 0
 have k1:=lcell h_W0.r 1 (v:=Z ⟨#[]⟩) rfl
 have f1:=lfree h_W0.r 1
 have k2:=lcell h_W0.r 2 (v:=Z ⟨#[]⟩) rfl
 have f2:=lfree h_W0.r 2
 have k3:=lcell h_W0.r 3 (v:=Z ⟨#[]⟩) rfl
 have f3:=lfree h_W0.r 3
 have h_D:=h_W0.draw
 go_region_held (fun X=>X.cell? ⟨Bx,0,none⟩=some (Z x0)∧X.cell? ⟨Bx,1,none⟩=some (Z x1)∧X.cell? ⟨Bx,2,none⟩=some (Z x2)∧X.cell? ⟨Bx,3,none⟩=some (Z x3)∧X.cell? ⟨By,0,none⟩=some (Z y0)∧X.cell? ⟨By,1,none⟩=some (Z y1)∧X.cell? ⟨By,2,none⟩=some (Z y2)∧X.cell? ⟨By,3,none⟩=some (Z y3)) (go_keep) (first | (go_at_call 90; (with_reducible refine (CA1.o _ _ (by repeat (first | with_reducible refine ldrow ?_ | exact World.alloc_heap_new _ _ | exact res_two _ _ _ | exact (new3 _ _ _ _).2.2 | assumption | with_reducible refine lold ?_ | refine lkeep ?_ g1))).mono ?_);rintro e v1 ⟨rfl,g1⟩;have h_v1:Hu w v1 Bx By #[Z x0,Z x1,Z x2,Z x3] #[Z y0,Z y1,Z y2,Z y3]:=Hu.below (by repeat (first | assumption | refine Hu.draw ?_ | refine Hu.alloc ?_ _)) g1;have cx0:v1.cell? ⟨Bx,0,none⟩=some (Z x0):=lcell h_v1.x 0 rfl;have cx1:v1.cell? ⟨Bx,1,none⟩=some (Z x1):=lcell h_v1.x 1 rfl;have cx2:v1.cell? ⟨Bx,2,none⟩=some (Z x2):=lcell h_v1.x 2 rfl;have cx3:v1.cell? ⟨Bx,3,none⟩=some (Z x3):=lcell h_v1.x 3 rfl;have cy0:v1.cell? ⟨By,0,none⟩=some (Z y0):=lcell h_v1.y 0 rfl;have cy1:v1.cell? ⟨By,1,none⟩=some (Z y1):=lcell h_v1.y 1 rfl;have cy2:v1.cell? ⟨By,2,none⟩=some (Z y2):=lcell h_v1.y 2 rfl;have cy3:v1.cell? ⟨By,3,none⟩=some (Z y3):=lcell h_v1.y 3 rfl;have k0:=lcell h_v1.r 0 (v:=Z ⟨#[]⟩) rfl;have f0:=lfree h_v1.r 0;have k1:=lcell h_v1.r 1 (v:=Z ⟨#[]⟩) rfl;have f1:=lfree h_v1.r 1;have k2:=lcell h_v1.r 2 (v:=Z ⟨#[]⟩) rfl;have f2:=lfree h_v1.r 2;have k3:=lcell h_v1.r 3 (v:=Z ⟨#[]⟩) rfl;have f3:=lfree h_v1.r 3;have hq1:=0) | (go_at_call 89; (with_reducible refine (CA2.o _ _ (by repeat (first | with_reducible refine ldrow ?_ | exact World.alloc_heap_new _ _ | exact res_two _ _ _ | exact (new3 _ _ _ _).2.2 | assumption | with_reducible refine lold ?_ | refine lkeep ?_ g1))).mono ?_);rintro e v2 ⟨rfl,g2⟩;have h_v2:Hu w v2 Bx By #[Z x0,Z x1,Z x2,Z x3] #[Z y0,Z y1,Z y2,Z y3]:=Hu.below (by repeat (first | assumption | refine Hu.draw ?_ | refine Hu.alloc ?_ _)) g2;have cx0:v2.cell? ⟨Bx,0,none⟩=some (Z x0):=lcell h_v2.x 0 rfl;have cx1:v2.cell? ⟨Bx,1,none⟩=some (Z x1):=lcell h_v2.x 1 rfl;have cx2:v2.cell? ⟨Bx,2,none⟩=some (Z x2):=lcell h_v2.x 2 rfl;have cx3:v2.cell? ⟨Bx,3,none⟩=some (Z x3):=lcell h_v2.x 3 rfl;have cy0:v2.cell? ⟨By,0,none⟩=some (Z y0):=lcell h_v2.y 0 rfl;have cy1:v2.cell? ⟨By,1,none⟩=some (Z y1):=lcell h_v2.y 1 rfl;have cy2:v2.cell? ⟨By,2,none⟩=some (Z y2):=lcell h_v2.y 2 rfl;have cy3:v2.cell? ⟨By,3,none⟩=some (Z y3):=lcell h_v2.y 3 rfl;have k0:=lcell h_v2.r 0 (v:=Z ⟨#[]⟩) rfl;have f0:=lfree h_v2.r 0;have k1:=lcell h_v2.r 1 (v:=Z ⟨#[]⟩) rfl;have f1:=lfree h_v2.r 1;have k2:=lcell h_v2.r 2 (v:=Z ⟨#[]⟩) rfl;have f2:=lfree h_v2.r 2;have k3:=lcell h_v2.r 3 (v:=Z ⟨#[]⟩) rfl;have f3:=lfree h_v2.r 3;have hq2:=0))
 all_goals (
  have s_r:=box4_set (x:=Z lo.1) (y:=Z lo.2) (z:=Z hi.1) (t:=Z hi.2) h_v2.r
  have z0:=lcell s_r 0 (v:=Z lo.1) rfl
  have z1:=lcell s_r 1 (v:=Z lo.2) rfl
  have z2:=lcell s_r 2 (v:=Z hi.1) rfl
  have z3:=lcell s_r 3 (v:=Z hi.2) rfl
  have hb:∀ i,w.heap.size≤(⟨w.heap.size,i,none⟩:Addr).block:=fun _=>Nat.le_refl _
  go_wp
  exact bodyPost_ret (v:=.agg #[Z lo.1,Z lo.2,Z hi.1,Z hi.2]) (by simp [results,Tryz.results91, go_sem,z0,z1,z2,z3]) rfl ⟨rfl,(((h_v2.u.setCell (hb 0) _).setCell (hb 1) _).setCell (hb 2) _).setCell (hb 3) _⟩)
end En
end
end Go.Proofs.YtbfonkabmehlmaaGreatDoor
