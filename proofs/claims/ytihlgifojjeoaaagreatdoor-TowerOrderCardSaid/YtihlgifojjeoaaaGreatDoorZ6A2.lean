import Derived.Test.YtihlgifojjeoaaaGreatDoorZ6A1
set_option maxRecDepth 1000000
set_option maxHeartbeats 40000000
open Go.Value renaming string→Z
open Go.Obj renaming cells→O
namespace Go.Proofs.YtihlgifojjeoaaaGreatDoor
section
namespace En
open Go.RowKit Go.Extern.Stop Go.Stop Go.Extern
def Ret (f:Nat) (args:Array Value) (v:Value):Prop:=∀ W:World,Calls Tryz.prog f args W fun e W'=>e = .returned v∧Below W.heap.size W W'
def g8 (a b c d x y z t:ByteArray):Nat→ByteArray
 | 0=>a | 1=>b | 2=>c | 3=>d | 4=>x | 5=>y | 6=>z | _=>t
theorem Qpq (w:World) (a b c d:Obj):((((w.alloc a).alloc b).alloc c).alloc d).heap[w.heap.size]? = some a∧((((w.alloc a).alloc b).alloc c).alloc d).heap[w.heap.size+1]? = some b∧((((w.alloc a).alloc b).alloc c).alloc d).heap[w.heap.size+1+1]? = some c∧((((w.alloc a).alloc b).alloc c).alloc d).heap[w.heap.size+1+1+1]? = some d:=by
 obtain ⟨h1,h2,h3⟩:=new3 w a b c;refine ⟨(Below.heap_alloc _ _ _ (by simp only [World.size_alloc];omega)).trans h1,(Below.heap_alloc _ _ _ (by simp only [World.size_alloc];omega)).trans h2,(Below.heap_alloc _ _ _ (by simp only [World.size_alloc];omega)).trans h3, ?_⟩;have:=World.alloc_heap_new (((w.alloc a).alloc b).alloc c) d
 rwa [World.size_alloc,World.size_alloc,World.size_alloc] at this
theorem Qkr (w:World) (a b c d:Obj):Below w.heap.size w ((((w.alloc a).alloc b).alloc c).alloc d):=((((Below.refl w.heap.size w).alloc Lr a).alloc (by simp) b).alloc (by simp;omega) c).alloc (by simp;omega) d
theorem QrO (a:Addr) (x0 x1 x2 x3 y0 y1 y2 y3 r0 r1 r2 r3:ByteArray) (okx oky bad:Bool)
  (hC:okx=true→oky=true→∀ (Bx By:Nat) (W:World),Ref a W→W.heap[Bx]? = some (O #[Z x0,Z x1,Z x2,Z x3] 55 (0,0))→W.heap[By]? = some (O #[Z y0,Z y1,Z y2,Z y3] 55 (0,0))→Calls Tryz.prog 75 #[.pointer (some ⟨Bx,0,none⟩),.pointer (some ⟨By,0,none⟩)] W fun e W'=>e=(if bad then .panicked (refP a) else .returned (ivl r0 r1 r2 r3))∧Below W.heap.size W W')
  (hX:Ret 129 #[ivl x0 x1 x2 x3] (.bool okx)) (hY:Ret 129 #[ivl y0 y1 y2 y3] (.bool oky)) (w:World) (hv:Ref a w) :
  Calls Tryz.prog 29 #[.agg #[Z x0,Z x1,Z x2,Z x3],.agg #[Z y0,Z y1,Z y2,Z y3]] w fun e w'=>e = .returned (if okx=true∧oky=true∧bad=false then .tuple #[ivl r0 r1 r2 r3,.int .i64 0] else .tuple #[ivl0,.int .i64 50])∧Below w.heap.size w w':=by
 have hmf:∀ (fn:Fn) (first cap:Array Value) (w:World),(Instr.makeFunc fn first cap).run Tryz.prog w = .ok (.func fn first cap) w:=fun _ _ _ _=>rfl;have CC:Shut _:=⟨hC⟩;have CX:Shut _:=⟨hX⟩;have CY:Shut _:=⟨hY⟩;have HV:Shut _:=⟨hv⟩;clear hC hX hY hv;unfold ivl0 ivl at *
 go_enter Tryz.func29, Tryz.ntmps29;go_wp2_with fail;obtain ⟨n_x,n_y,n_r,n_s⟩:=Qpq w (O #[Z x0,Z x1,Z x2,Z x3] 55) (O #[Z y0,Z y1,Z y2,Z y3] 55) (O #[Z ⟨#[]⟩,Z ⟨#[]⟩,Z ⟨#[]⟩,Z ⟨#[]⟩] 55) (O #[Z x0,Z x1,Z x2,Z x3,Z y0,Z y1,Z y2,Z y3] 55);have u:=Qkr w (O #[Z x0,Z x1,Z x2,Z x3] 55) (O #[Z y0,Z y1,Z y2,Z y3] 55) (O #[Z ⟨#[]⟩,Z ⟨#[]⟩,Z ⟨#[]⟩,Z ⟨#[]⟩] 55) (O #[Z x0,Z x1,Z x2,Z x3,Z y0,Z y1,Z y2,Z y3] 55);generalize ((((w.alloc (O #[Z x0,Z x1,Z x2,Z x3] 55)).alloc (O #[Z y0,Z y1,Z y2,Z y3] 55)).alloc (O #[Z ⟨#[]⟩,Z ⟨#[]⟩,Z ⟨#[]⟩,Z ⟨#[]⟩] 55)).alloc (O #[Z x0,Z x1,Z x2,Z x3,Z y0,Z y1,Z y2,Z y3] 55))=W4 at *
 have cA:=QfB 75 #[.pointer (some ⟨w.heap.size,0,none⟩),.pointer (some ⟨w.heap.size+1,0,none⟩)] (enters_of Tryz.func75 (by kernel_rfl) rfl) a (fun W=>W.heap[w.heap.size]? = some (O #[Z x0,Z x1,Z x2,Z x3] 55 (0,0))∧W.heap[w.heap.size+1]? = some (O #[Z y0,Z y1,Z y2,Z y3] 55 (0,0))) (fun W W' h hB=>⟨Qac h.1 hB,Qac h.2 hB⟩) r0 r1 r2 r3 bad
  2 (w.heap.size+1+1+1) 2 (g8 x0 x1 x2 x3 y0 y1 y2 y3) (fun j=>if j=0 then okx else oky) (by omega)
  (fun ho W hr hi=>CC.o (ho 0 (by omega)) (ho 1 (by omega)) _ _ W hr hi.1 hi.2)
  (fun j hj W=>by
   rcases (show j=0∨j=1 by omega) with rfl | rfl
   ·exact CX.o W
   ·exact CY.o W) W4 (HV.o.keep u) ⟨n_x,n_y⟩
  (fun W hB j hj=>by
   have q:=Qac n_s hB;rcases (show j=0∨j=1∨j=2∨j=3∨j=4∨j=5∨j=6∨j=7 by omega) with rfl | rfl | rfl | rfl | rfl | rfl | rfl | rfl
   ·exact Qaa q 0 rfl
   ·exact Qaa q 1 rfl
   ·exact Qaa q 2 rfl
   ·exact Qaa q 3 rfl
   ·exact Qaa q 4 rfl
   ·exact Qaa q 5 rfl
   ·exact Qaa q 6 rfl
   ·exact Qaa q 7 rfl)
 unfold ivl0 ivl at *
 refine cA.mono ?_;rintro e v1 ⟨rfl,g⟩;replace u:=u.trans (g.mono u.size);replace n_r:=Qac n_r g;clear g cA n_x n_y n_s hmf;have d0:=Qaa n_r 0 (v:=Z ⟨#[]⟩) rfl;have d1:=Qaa n_r 1 (v:=Z ⟨#[]⟩) rfl;have d2:=Qaa n_r 2 (v:=Z ⟨#[]⟩) rfl;have d3:=Qaa n_r 3 (v:=Z ⟨#[]⟩) rfl;have h0:=Qad n_r 0;have h1:=Qad n_r 1;have h2:=Qad n_r 2;have h3:=Qad n_r 3;have hb:∀ i,w.heap.size≤(⟨w.heap.size+1+1,i,none⟩:Addr).block:=fun _=>Nat.le_trans (Nat.le_succ _) (Nat.le_succ _);by_cases hP:okx=true∧oky=true∧bad=false
 ·have hQ:(∀ j:Nat,j<2→(fun j:Nat=>if j=0 then okx else oky) j=true)∧bad=false:=⟨fun j hj=>(show j=0∨j=1 by omega).elim (fun h=>by subst h;exact hP.1) (fun h=>by subst h;exact hP.2.1),hP.2.2⟩;rw [if_pos hQ];have s_r:=QaL (x:=Z r0) (y:=Z r1) (z:=Z r2) (t:=Z r3) n_r;have z0:=Qaa s_r 0 (v:=Z r0) rfl;have z1:=Qaa s_r 1 (v:=Z r1) rfl;have z2:=Qaa s_r 2 (v:=Z r2) rfl;have z3:=Qaa s_r 3 (v:=Z r3) rfl;dsimp only
  go_wp
  exact bodyPost_ret (v:=.tuple #[.agg #[Z r0,Z r1,Z r2,Z r3],.int .i64 0]) (by simp [results,Tryz.results29, go_sem,z0,z1,z2,z3]) rfl ⟨by rw [if_pos hP],(((u.setCell (hb 0) _).setCell (hb 1) _).setCell (hb 2) _).setCell (hb 3) _⟩
 ·have hQ:¬((∀ j:Nat,j<2→(fun j:Nat=>if j=0 then okx else oky) j=true)∧bad=false):=fun h=>hP ⟨h.1 0 (by omega),h.1 1 (by omega),h.2⟩;rw [if_neg hQ];have s_r:=QaL (x:=Z ⟨#[]⟩) (y:=Z ⟨#[]⟩) (z:=Z ⟨#[]⟩) (t:=Z ⟨#[]⟩) n_r;have z0:=Qaa s_r 0 (v:=Z ⟨#[]⟩) rfl;have z1:=Qaa s_r 1 (v:=Z ⟨#[]⟩) rfl;have z2:=Qaa s_r 2 (v:=Z ⟨#[]⟩) rfl;have z3:=Qaa s_r 3 (v:=Z ⟨#[]⟩) rfl;dsimp only
  go_wp
  exact bodyPost_ret (v:=.tuple #[.agg #[Z ⟨#[]⟩,Z ⟨#[]⟩,Z ⟨#[]⟩,Z ⟨#[]⟩],.int .i64 50]) (by simp [results,Tryz.results29, go_sem,z0,z1,z2,z3]) rfl ⟨by rw [if_neg hP],(((u.setCell (hb 0) _).setCell (hb 1) _).setCell (hb 2) _).setCell (hb 3) _⟩
theorem QmR (a:Addr) (x0 x1 x2 x3 y0 y1 y2 y3 r0 r1 r2 r3:ByteArray) (okx oky bad:Bool)
  (hC:okx=true→oky=true→∀ (Bx By:Nat) (W:World),Ref a W→W.heap[Bx]? = some (O #[Z x0,Z x1,Z x2,Z x3] 55 (0,0))→W.heap[By]? = some (O #[Z y0,Z y1,Z y2,Z y3] 55 (0,0))→Calls Tryz.prog 162 #[.pointer (some ⟨Bx,0,none⟩),.pointer (some ⟨By,0,none⟩)] W fun e W'=>e=(if bad then .panicked (refP a) else .returned (ivl r0 r1 r2 r3))∧Below W.heap.size W W')
  (hX:Ret 129 #[ivl x0 x1 x2 x3] (.bool okx)) (hY:Ret 129 #[ivl y0 y1 y2 y3] (.bool oky)) (w:World) (hv:Ref a w) :
  Calls Tryz.prog 123 #[.agg #[Z x0,Z x1,Z x2,Z x3],.agg #[Z y0,Z y1,Z y2,Z y3]] w fun e w'=>e = .returned (if okx=true∧oky=true∧bad=false then .tuple #[ivl r0 r1 r2 r3,.int .i64 0] else .tuple #[ivl0,.int .i64 50])∧Below w.heap.size w w':=by
 have hmf:∀ (fn:Fn) (first cap:Array Value) (w:World),(Instr.makeFunc fn first cap).run Tryz.prog w = .ok (.func fn first cap) w:=fun _ _ _ _=>rfl;have CC:Shut _:=⟨hC⟩;have CX:Shut _:=⟨hX⟩;have CY:Shut _:=⟨hY⟩;have HV:Shut _:=⟨hv⟩;clear hC hX hY hv;unfold ivl0 ivl at *
 go_enter Tryz.func123, Tryz.ntmps123;go_wp2_with fail;obtain ⟨n_x,n_y,n_r,n_s⟩:=Qpq w (O #[Z x0,Z x1,Z x2,Z x3] 55) (O #[Z y0,Z y1,Z y2,Z y3] 55) (O #[Z ⟨#[]⟩,Z ⟨#[]⟩,Z ⟨#[]⟩,Z ⟨#[]⟩] 55) (O #[Z x0,Z x1,Z x2,Z x3,Z y0,Z y1,Z y2,Z y3] 55);have u:=Qkr w (O #[Z x0,Z x1,Z x2,Z x3] 55) (O #[Z y0,Z y1,Z y2,Z y3] 55) (O #[Z ⟨#[]⟩,Z ⟨#[]⟩,Z ⟨#[]⟩,Z ⟨#[]⟩] 55) (O #[Z x0,Z x1,Z x2,Z x3,Z y0,Z y1,Z y2,Z y3] 55);generalize ((((w.alloc (O #[Z x0,Z x1,Z x2,Z x3] 55)).alloc (O #[Z y0,Z y1,Z y2,Z y3] 55)).alloc (O #[Z ⟨#[]⟩,Z ⟨#[]⟩,Z ⟨#[]⟩,Z ⟨#[]⟩] 55)).alloc (O #[Z x0,Z x1,Z x2,Z x3,Z y0,Z y1,Z y2,Z y3] 55))=W4 at *
 have cA:=QfB 162 #[.pointer (some ⟨w.heap.size,0,none⟩),.pointer (some ⟨w.heap.size+1,0,none⟩)] (enters_of Tryz.func162 (by kernel_rfl) rfl) a (fun W=>W.heap[w.heap.size]? = some (O #[Z x0,Z x1,Z x2,Z x3] 55 (0,0))∧W.heap[w.heap.size+1]? = some (O #[Z y0,Z y1,Z y2,Z y3] 55 (0,0))) (fun W W' h hB=>⟨Qac h.1 hB,Qac h.2 hB⟩) r0 r1 r2 r3 bad
  2 (w.heap.size+1+1+1) 2 (g8 x0 x1 x2 x3 y0 y1 y2 y3) (fun j=>if j=0 then okx else oky) (by omega)
  (fun ho W hr hi=>CC.o (ho 0 (by omega)) (ho 1 (by omega)) _ _ W hr hi.1 hi.2)
  (fun j hj W=>by
   rcases (show j=0∨j=1 by omega) with rfl | rfl
   ·exact CX.o W
   ·exact CY.o W) W4 (HV.o.keep u) ⟨n_x,n_y⟩
  (fun W hB j hj=>by
   have q:=Qac n_s hB;rcases (show j=0∨j=1∨j=2∨j=3∨j=4∨j=5∨j=6∨j=7 by omega) with rfl | rfl | rfl | rfl | rfl | rfl | rfl | rfl
   ·exact Qaa q 0 rfl
   ·exact Qaa q 1 rfl
   ·exact Qaa q 2 rfl
   ·exact Qaa q 3 rfl
   ·exact Qaa q 4 rfl
   ·exact Qaa q 5 rfl
   ·exact Qaa q 6 rfl
   ·exact Qaa q 7 rfl)
 unfold ivl0 ivl at *
 refine cA.mono ?_;rintro e v1 ⟨rfl,g⟩;replace u:=u.trans (g.mono u.size);replace n_r:=Qac n_r g;clear g cA n_x n_y n_s hmf;have d0:=Qaa n_r 0 (v:=Z ⟨#[]⟩) rfl;have d1:=Qaa n_r 1 (v:=Z ⟨#[]⟩) rfl;have d2:=Qaa n_r 2 (v:=Z ⟨#[]⟩) rfl;have d3:=Qaa n_r 3 (v:=Z ⟨#[]⟩) rfl;have h0:=Qad n_r 0;have h1:=Qad n_r 1;have h2:=Qad n_r 2;have h3:=Qad n_r 3;have hb:∀ i,w.heap.size≤(⟨w.heap.size+1+1,i,none⟩:Addr).block:=fun _=>Nat.le_trans (Nat.le_succ _) (Nat.le_succ _);by_cases hP:okx=true∧oky=true∧bad=false
 ·have hQ:(∀ j:Nat,j<2→(fun j:Nat=>if j=0 then okx else oky) j=true)∧bad=false:=⟨fun j hj=>(show j=0∨j=1 by omega).elim (fun h=>by subst h;exact hP.1) (fun h=>by subst h;exact hP.2.1),hP.2.2⟩;rw [if_pos hQ];have s_r:=QaL (x:=Z r0) (y:=Z r1) (z:=Z r2) (t:=Z r3) n_r;have z0:=Qaa s_r 0 (v:=Z r0) rfl;have z1:=Qaa s_r 1 (v:=Z r1) rfl;have z2:=Qaa s_r 2 (v:=Z r2) rfl;have z3:=Qaa s_r 3 (v:=Z r3) rfl;dsimp only
  go_wp
  exact bodyPost_ret (v:=.tuple #[.agg #[Z r0,Z r1,Z r2,Z r3],.int .i64 0]) (by simp [results,Tryz.results123, go_sem,z0,z1,z2,z3]) rfl ⟨by rw [if_pos hP],(((u.setCell (hb 0) _).setCell (hb 1) _).setCell (hb 2) _).setCell (hb 3) _⟩
 ·have hQ:¬((∀ j:Nat,j<2→(fun j:Nat=>if j=0 then okx else oky) j=true)∧bad=false):=fun h=>hP ⟨h.1 0 (by omega),h.1 1 (by omega),h.2⟩;rw [if_neg hQ];have s_r:=QaL (x:=Z ⟨#[]⟩) (y:=Z ⟨#[]⟩) (z:=Z ⟨#[]⟩) (t:=Z ⟨#[]⟩) n_r;have z0:=Qaa s_r 0 (v:=Z ⟨#[]⟩) rfl;have z1:=Qaa s_r 1 (v:=Z ⟨#[]⟩) rfl;have z2:=Qaa s_r 2 (v:=Z ⟨#[]⟩) rfl;have z3:=Qaa s_r 3 (v:=Z ⟨#[]⟩) rfl;dsimp only
  go_wp
  exact bodyPost_ret (v:=.tuple #[.agg #[Z ⟨#[]⟩,Z ⟨#[]⟩,Z ⟨#[]⟩,Z ⟨#[]⟩],.int .i64 50]) (by simp [results,Tryz.results123, go_sem,z0,z1,z2,z3]) rfl ⟨by rw [if_neg hP],(((u.setCell (hb 0) _).setCell (hb 1) _).setCell (hb 2) _).setCell (hb 3) _⟩
theorem QhJ (a:Addr) (x0 x1 x2 x3 r0 r1 r2 r3:ByteArray) (p:Int) (okx bad:Bool)
  (hC:okx=true→∀ (Bx Bp:Nat) (W:World),Ref a W→W.heap[Bx]? = some (O #[Z x0,Z x1,Z x2,Z x3] 55 (0,0))→W.heap[Bp]? = some (O #[.int .i64 p] 3 (0,0))→Calls Tryz.prog 158 #[.pointer (some ⟨Bp,0,none⟩),.pointer (some ⟨Bx,0,none⟩)] W fun e W'=>e=(if bad then .panicked (refP a) else .returned (ivl r0 r1 r2 r3))∧Below W.heap.size W W')
  (hX:Ret 129 #[ivl x0 x1 x2 x3] (.bool okx)) (w:World) (hv:Ref a w) :
  Calls Tryz.prog 121 #[.agg #[Z x0,Z x1,Z x2,Z x3],.int .i64 p] w fun e w'=>e = .returned (if okx=true∧bad=false then .tuple #[ivl r0 r1 r2 r3,.int .i64 0] else .tuple #[ivl0,.int .i64 50])∧Below w.heap.size w w':=by
 have hmf:∀ (fn:Fn) (first cap:Array Value) (w:World),(Instr.makeFunc fn first cap).run Tryz.prog w = .ok (.func fn first cap) w:=fun _ _ _ _=>rfl;have CC:Shut _:=⟨hC⟩;have CX:Shut _:=⟨hX⟩;have HV:Shut _:=⟨hv⟩;clear hC hX hv;unfold ivl0 ivl at *
 go_enter Tryz.func121, Tryz.ntmps121;go_wp2_with fail;obtain ⟨n_x,n_p,n_r,n_s⟩:=Qpq w (O #[Z x0,Z x1,Z x2,Z x3] 55) (O #[.int .i64 p] 3) (O #[Z ⟨#[]⟩,Z ⟨#[]⟩,Z ⟨#[]⟩,Z ⟨#[]⟩] 55) (O #[Z x0,Z x1,Z x2,Z x3] 55);have u:=Qkr w (O #[Z x0,Z x1,Z x2,Z x3] 55) (O #[.int .i64 p] 3) (O #[Z ⟨#[]⟩,Z ⟨#[]⟩,Z ⟨#[]⟩,Z ⟨#[]⟩] 55) (O #[Z x0,Z x1,Z x2,Z x3] 55);generalize ((((w.alloc (O #[Z x0,Z x1,Z x2,Z x3] 55)).alloc (O #[.int .i64 p] 3)).alloc (O #[Z ⟨#[]⟩,Z ⟨#[]⟩,Z ⟨#[]⟩,Z ⟨#[]⟩] 55)).alloc (O #[Z x0,Z x1,Z x2,Z x3] 55))=W4 at *
 have cA:=QfB 158 #[.pointer (some ⟨w.heap.size+1,0,none⟩),.pointer (some ⟨w.heap.size,0,none⟩)] (enters_of Tryz.func158 (by kernel_rfl) rfl) a (fun W=>W.heap[w.heap.size]? = some (O #[Z x0,Z x1,Z x2,Z x3] 55 (0,0))∧W.heap[w.heap.size+1]? = some (O #[.int .i64 p] 3 (0,0))) (fun W W' h hB=>⟨Qac h.1 hB,Qac h.2 hB⟩) r0 r1 r2 r3 bad
  1 (w.heap.size+1+1+1) 1 (g4 x0 x1 x2 x3) (fun _=>okx) (by omega)
  (fun ho W hr hi=>CC.o (ho 0 (by omega)) _ _ W hr hi.1 hi.2)
  (fun j hj W=>by obtain rfl:j=0:=(by omega);exact CX.o W) W4 (HV.o.keep u) ⟨n_x,n_p⟩
  (fun W hB j hj=>by
   have q:=Qac n_s hB;rcases (show j=0∨j=1∨j=2∨j=3 by omega) with rfl | rfl | rfl | rfl
   ·exact Qaa q 0 rfl
   ·exact Qaa q 1 rfl
   ·exact Qaa q 2 rfl
   ·exact Qaa q 3 rfl)
 unfold ivl0 ivl at *
 refine cA.mono ?_;rintro e v1 ⟨rfl,g⟩;replace u:=u.trans (g.mono u.size);replace n_r:=Qac n_r g;clear g cA n_x n_p n_s hmf;have d0:=Qaa n_r 0 (v:=Z ⟨#[]⟩) rfl;have d1:=Qaa n_r 1 (v:=Z ⟨#[]⟩) rfl;have d2:=Qaa n_r 2 (v:=Z ⟨#[]⟩) rfl;have d3:=Qaa n_r 3 (v:=Z ⟨#[]⟩) rfl;have h0:=Qad n_r 0;have h1:=Qad n_r 1;have h2:=Qad n_r 2;have h3:=Qad n_r 3;have hb:∀ i,w.heap.size≤(⟨w.heap.size+1+1,i,none⟩:Addr).block:=fun _=>Nat.le_trans (Nat.le_succ _) (Nat.le_succ _);by_cases hP:okx=true∧bad=false
 ·have hQ:(∀ j:Nat,j<1→(fun _:Nat=>okx) j=true)∧bad=false:=⟨fun _ _=>hP.1,hP.2⟩;rw [if_pos hQ];have s_r:=QaL (x:=Z r0) (y:=Z r1) (z:=Z r2) (t:=Z r3) n_r;have z0:=Qaa s_r 0 (v:=Z r0) rfl;have z1:=Qaa s_r 1 (v:=Z r1) rfl;have z2:=Qaa s_r 2 (v:=Z r2) rfl;have z3:=Qaa s_r 3 (v:=Z r3) rfl;dsimp only
  go_wp
  exact bodyPost_ret (v:=.tuple #[.agg #[Z r0,Z r1,Z r2,Z r3],.int .i64 0]) (by simp [results,Tryz.results121, go_sem,z0,z1,z2,z3]) rfl ⟨by rw [if_pos hP],(((u.setCell (hb 0) _).setCell (hb 1) _).setCell (hb 2) _).setCell (hb 3) _⟩
 ·have hQ:¬((∀ j:Nat,j<1→(fun _:Nat=>okx) j=true)∧bad=false):=fun h=>hP ⟨h.1 0 (by omega),h.2⟩;rw [if_neg hQ];have s_r:=QaL (x:=Z ⟨#[]⟩) (y:=Z ⟨#[]⟩) (z:=Z ⟨#[]⟩) (t:=Z ⟨#[]⟩) n_r;have z0:=Qaa s_r 0 (v:=Z ⟨#[]⟩) rfl;have z1:=Qaa s_r 1 (v:=Z ⟨#[]⟩) rfl;have z2:=Qaa s_r 2 (v:=Z ⟨#[]⟩) rfl;have z3:=Qaa s_r 3 (v:=Z ⟨#[]⟩) rfl;dsimp only
  go_wp
  exact bodyPost_ret (v:=.tuple #[.agg #[Z ⟨#[]⟩,Z ⟨#[]⟩,Z ⟨#[]⟩,Z ⟨#[]⟩],.int .i64 50]) (by simp [results,Tryz.results121, go_sem,z0,z1,z2,z3]) rfl ⟨by rw [if_neg hP],(((u.setCell (hb 0) _).setCell (hb 1) _).setCell (hb 2) _).setCell (hb 3) _⟩
theorem QmS (a:Addr) (x0 x1 x2 x3 r0 r1 r2 r3:ByteArray) (p:Int) (okx bad:Bool)
  (hC:okx=true→∀ (Bx Bp:Nat) (W:World),Ref a W→W.heap[Bx]? = some (O #[Z x0,Z x1,Z x2,Z x3] 55 (0,0))→W.heap[Bp]? = some (O #[.int .i64 p] 3 (0,0))→Calls Tryz.prog 124 #[.pointer (some ⟨Bx,0,none⟩),.pointer (some ⟨Bp,0,none⟩)] W fun e W'=>e=(if bad then .panicked (refP a) else .returned (ivl r0 r1 r2 r3))∧Below W.heap.size W W')
  (hX:Ret 129 #[ivl x0 x1 x2 x3] (.bool okx)) (w:World) (hv:Ref a w) :
  Calls Tryz.prog 73 #[.agg #[Z x0,Z x1,Z x2,Z x3],.int .i64 p] w fun e w'=>e = .returned (if okx=true∧bad=false then .tuple #[ivl r0 r1 r2 r3,.int .i64 0] else .tuple #[ivl0,.int .i64 50])∧Below w.heap.size w w':=by
 have hmf:∀ (fn:Fn) (first cap:Array Value) (w:World),(Instr.makeFunc fn first cap).run Tryz.prog w = .ok (.func fn first cap) w:=fun _ _ _ _=>rfl;have CC:Shut _:=⟨hC⟩;have CX:Shut _:=⟨hX⟩;have HV:Shut _:=⟨hv⟩;clear hC hX hv;unfold ivl0 ivl at *
 go_enter Tryz.func73, Tryz.ntmps73;go_wp2_with fail;obtain ⟨n_x,n_p,n_r,n_s⟩:=Qpq w (O #[Z x0,Z x1,Z x2,Z x3] 55) (O #[.int .i64 p] 3) (O #[Z ⟨#[]⟩,Z ⟨#[]⟩,Z ⟨#[]⟩,Z ⟨#[]⟩] 55) (O #[Z x0,Z x1,Z x2,Z x3] 55);have u:=Qkr w (O #[Z x0,Z x1,Z x2,Z x3] 55) (O #[.int .i64 p] 3) (O #[Z ⟨#[]⟩,Z ⟨#[]⟩,Z ⟨#[]⟩,Z ⟨#[]⟩] 55) (O #[Z x0,Z x1,Z x2,Z x3] 55);generalize ((((w.alloc (O #[Z x0,Z x1,Z x2,Z x3] 55)).alloc (O #[.int .i64 p] 3)).alloc (O #[Z ⟨#[]⟩,Z ⟨#[]⟩,Z ⟨#[]⟩,Z ⟨#[]⟩] 55)).alloc (O #[Z x0,Z x1,Z x2,Z x3] 55))=W4 at *
 have cA:=QfB 124 #[.pointer (some ⟨w.heap.size,0,none⟩),.pointer (some ⟨w.heap.size+1,0,none⟩)] (enters_of Tryz.func124 (by kernel_rfl) rfl) a (fun W=>W.heap[w.heap.size]? = some (O #[Z x0,Z x1,Z x2,Z x3] 55 (0,0))∧W.heap[w.heap.size+1]? = some (O #[.int .i64 p] 3 (0,0))) (fun W W' h hB=>⟨Qac h.1 hB,Qac h.2 hB⟩) r0 r1 r2 r3 bad
  1 (w.heap.size+1+1+1) 1 (g4 x0 x1 x2 x3) (fun _=>okx) (by omega)
  (fun ho W hr hi=>CC.o (ho 0 (by omega)) _ _ W hr hi.1 hi.2)
  (fun j hj W=>by obtain rfl:j=0:=(by omega);exact CX.o W) W4 (HV.o.keep u) ⟨n_x,n_p⟩
  (fun W hB j hj=>by
   have q:=Qac n_s hB;rcases (show j=0∨j=1∨j=2∨j=3 by omega) with rfl | rfl | rfl | rfl
   ·exact Qaa q 0 rfl
   ·exact Qaa q 1 rfl
   ·exact Qaa q 2 rfl
   ·exact Qaa q 3 rfl)
 unfold ivl0 ivl at *
 refine cA.mono ?_;rintro e v1 ⟨rfl,g⟩;replace u:=u.trans (g.mono u.size);replace n_r:=Qac n_r g;clear g cA n_x n_p n_s hmf;have d0:=Qaa n_r 0 (v:=Z ⟨#[]⟩) rfl;have d1:=Qaa n_r 1 (v:=Z ⟨#[]⟩) rfl;have d2:=Qaa n_r 2 (v:=Z ⟨#[]⟩) rfl;have d3:=Qaa n_r 3 (v:=Z ⟨#[]⟩) rfl;have h0:=Qad n_r 0;have h1:=Qad n_r 1;have h2:=Qad n_r 2;have h3:=Qad n_r 3;have hb:∀ i,w.heap.size≤(⟨w.heap.size+1+1,i,none⟩:Addr).block:=fun _=>Nat.le_trans (Nat.le_succ _) (Nat.le_succ _);by_cases hP:okx=true∧bad=false
 ·have hQ:(∀ j:Nat,j<1→(fun _:Nat=>okx) j=true)∧bad=false:=⟨fun _ _=>hP.1,hP.2⟩;rw [if_pos hQ];have s_r:=QaL (x:=Z r0) (y:=Z r1) (z:=Z r2) (t:=Z r3) n_r;have z0:=Qaa s_r 0 (v:=Z r0) rfl;have z1:=Qaa s_r 1 (v:=Z r1) rfl;have z2:=Qaa s_r 2 (v:=Z r2) rfl;have z3:=Qaa s_r 3 (v:=Z r3) rfl;dsimp only
  go_wp
  exact bodyPost_ret (v:=.tuple #[.agg #[Z r0,Z r1,Z r2,Z r3],.int .i64 0]) (by simp [results,Tryz.results73, go_sem,z0,z1,z2,z3]) rfl ⟨by rw [if_pos hP],(((u.setCell (hb 0) _).setCell (hb 1) _).setCell (hb 2) _).setCell (hb 3) _⟩
 ·have hQ:¬((∀ j:Nat,j<1→(fun _:Nat=>okx) j=true)∧bad=false):=fun h=>hP ⟨h.1 0 (by omega),h.2⟩;rw [if_neg hQ];have s_r:=QaL (x:=Z ⟨#[]⟩) (y:=Z ⟨#[]⟩) (z:=Z ⟨#[]⟩) (t:=Z ⟨#[]⟩) n_r;have z0:=Qaa s_r 0 (v:=Z ⟨#[]⟩) rfl;have z1:=Qaa s_r 1 (v:=Z ⟨#[]⟩) rfl;have z2:=Qaa s_r 2 (v:=Z ⟨#[]⟩) rfl;have z3:=Qaa s_r 3 (v:=Z ⟨#[]⟩) rfl;dsimp only
  go_wp
  exact bodyPost_ret (v:=.tuple #[.agg #[Z ⟨#[]⟩,Z ⟨#[]⟩,Z ⟨#[]⟩,Z ⟨#[]⟩],.int .i64 50]) (by simp [results,Tryz.results73, go_sem,z0,z1,z2,z3]) rfl ⟨by rw [if_neg hP],(((u.setCell (hb 0) _).setCell (hb 1) _).setCell (hb 2) _).setCell (hb 3) _⟩
theorem Qiw (w:World) (a b:Obj):((w.alloc a).alloc b).heap[w.heap.size]? = some a∧((w.alloc a).alloc b).heap[w.heap.size+1]? = some b:=⟨(Below.heap_alloc _ _ _ (by simp)).trans (World.alloc_heap_new w a),QaP w a b⟩
theorem QfU (w:World) (a b:Obj):Below w.heap.size w ((w.alloc a).alloc b):=((Below.refl w.heap.size w).alloc Lr a).alloc (by simp) b
theorem QjE (x0 x1:ByteArray):Ret 82 #[frc x0 x1,frc x0 x1] (.bool true):=by
 intro w;unfold frc;obtain ⟨n_x,n_y⟩:=Qiw w (O #[Z x0,Z x1] 42) (O #[Z x0,Z x1] 42);have u:=QfU w (O #[Z x0,Z x1] 42) (O #[Z x0,Z x1] 42);go_enter Tryz.func82, Tryz.ntmps82;have y0:=Qaa n_x 0 (v:=Z x0) rfl;have y1:=Qaa n_x 1 (v:=Z x1) rfl;have y2:=Qaa n_y 0 (v:=Z x0) rfl;have y3:=Qaa n_y 1 (v:=Z x1) rfl;have e0:(x0.toList == x0.toList)=true:=beq_self_eq_true _;have e1:(x1.toList == x1.toList)=true:=beq_self_eq_true _;go_wp2_with fail;go_ret;exact ⟨rfl,u⟩
theorem Qix (x0 x1 x2 x3:ByteArray) (k:Int) (hC:Ret 27 #[frc x0 x1,frc x2 x3] (.int .i64 k))
  (hne:(x0.toList == x2.toList)=false∨((x0.toList == x2.toList)=true∧(x1.toList == x3.toList)=false)):Ret 82 #[frc x0 x1,frc x2 x3] (.bool (decide (k<0))):=by
 intro w;unfold frc at *
 obtain ⟨n_x,n_y⟩:=Qiw w (O #[Z x0,Z x1] 42) (O #[Z x2,Z x3] 42);have u:=QfU w (O #[Z x0,Z x1] 42) (O #[Z x2,Z x3] 42);have CC:Shut _:=⟨hC⟩;clear hC;go_enter Tryz.func82, Tryz.ntmps82;have y0:=Qaa n_x 0 (v:=Z x0) rfl;have y1:=Qaa n_x 1 (v:=Z x1) rfl;have y2:=Qaa n_y 0 (v:=Z x2) rfl;have y3:=Qaa n_y 1 (v:=Z x3) rfl;rcases hne with e0 | ⟨e0,e1⟩
 ·go_wp2_with fail;refine (CC.o _).mono ?_;rintro e v1 ⟨rfl,g⟩;replace u:=u.trans (g.mono u.size);clear g y0 y1 y2 y3 e0 n_x n_y;go_wp2_with fail;go_ret;exact ⟨rfl,u⟩
 ·go_wp2_with fail;refine (CC.o _).mono ?_;rintro e v1 ⟨rfl,g⟩;replace u:=u.trans (g.mono u.size);clear g y0 y1 y2 y3 e0 e1 n_x n_y;go_wp2_with fail;go_ret;exact ⟨rfl,u⟩
theorem QlD (x0 x1 x2 x3:ByteArray) (b:Bool) (hA:Ret 82 #[frc x2 x3,frc x0 x1] (.bool b)):Ret 133 #[frc x0 x1,frc x2 x3] (.bool b):=by
 intro w;unfold frc at *
 obtain ⟨n_x,n_y⟩:=Qiw w (O #[Z x0,Z x1] 42) (O #[Z x2,Z x3] 42);have u:=QfU w (O #[Z x0,Z x1] 42) (O #[Z x2,Z x3] 42);have CC:Shut _:=⟨hA⟩;clear hA;go_enter Tryz.func133, Tryz.ntmps133;have y0:=Qaa n_x 0 (v:=Z x0) rfl;have y1:=Qaa n_x 1 (v:=Z x1) rfl;have y2:=Qaa n_y 0 (v:=Z x2) rfl;have y3:=Qaa n_y 1 (v:=Z x3) rfl;go_wp2_with fail;refine (CC.o _).mono ?_;rintro e v1 ⟨rfl,g⟩;replace u:=u.trans (g.mono u.size);clear g y0 y1 y2 y3 n_x n_y;go_wp2_with fail;go_ret;exact ⟨rfl,u⟩
end En
end
end Go.Proofs.YtihlgifojjeoaaaGreatDoor
