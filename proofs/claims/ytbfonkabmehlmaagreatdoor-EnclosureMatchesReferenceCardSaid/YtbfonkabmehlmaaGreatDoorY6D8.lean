/-
  The reference of package enclosure: four, products.
-/
import Derived.Test.YtbfonkabmehlmaaGreatDoorY6D5
import Derived.Deep.DeepCutAuto
set_option maxRecDepth 1000000
set_option maxHeartbeats 40000000
open Go.Value renaming string→Z
open Go.Obj renaming cells→O
namespace Go.Proofs.YtbfonkabmehlmaaGreatDoor
section
namespace En
open Go.RowKit Go.Extern.Stop Go.Stop Go.Extern
open Go.Proofs.YtbfonkabmehlmaaGreatDoor.Nm Go.Proofs.YtbfonkabmehlmaaGreatDoor.Rt
open N10 (Two)
def loF (K:P2→P2→Int) (V:Nat→P2):Nat→P2
 | 0=>(⟨#[]⟩,⟨#[]⟩)
 | k+1=>if k=0∨K (V k) (loF K V k)<0 then V k else loF K V k
def hiF (K:P2→P2→Int) (V:Nat→P2):Nat→P2
 | 0=>(⟨#[]⟩,⟨#[]⟩)
 | k+1=>if k=0∨0<K (V k) (hiF K V k) then V k else hiF K V k
theorem loF_in (K:P2→P2→Int) (V:Nat→P2) (R:P2→Prop):∀ k,(∀ j,j<k+1→R (V j))→R (loF K V (k+1))
 | 0,h=>by rw [loF,if_pos (.inl rfl)];exact h 0 (by omega)
 | k+1,h=>by rw [loF];split;exact h _ (by omega);exact loF_in K V R k (fun j hj=>h j (by omega))
theorem hiF_in (K:P2→P2→Int) (V:Nat→P2) (R:P2→Prop):∀ k,(∀ j,j<k+1→R (V j))→R (hiF K V (k+1))
 | 0,h=>by rw [hiF,if_pos (.inl rfl)];exact h 0 (by omega)
 | k+1,h=>by rw [hiF];split;exact h _ (by omega);exact hiF_in K V R k (fun j hj=>h j (by omega))
theorem kept2b {W:World} {b zb:Nat} {o:Obj} (hn:b≠zb) (h:W.heap[b]? = some o) {i j:Nat} {p q:Value}:((W.setCell ⟨zb,i,none⟩ p).setCell ⟨zb,j,none⟩ q).heap[b]? = some o:=(Below.heap_setCell _ _ _ _ hn).trans ((Below.heap_setCell _ _ _ _ hn).trans h)
theorem box4_lob {W:World} {b:Nat} {a0 a1 a2 a3 x y:Value} {T:TypeId} (h:W.heap[b]? = some (O #[a0,a1,a2,a3] T (0,0))):((W.setCell ⟨b,0,none⟩ x).setCell ⟨b,1,none⟩ y).heap[b]? = some (O #[x,y,a2,a3] T (0,0)):=by
 obtain ⟨hl,hg⟩:=Array.getElem?_eq_some_iff.1 h
 simp [World.setCell,hl,Array.getElem_modify,hg]
theorem box4_hib {W:World} {b:Nat} {a0 a1 a2 a3 x y:Value} {T:TypeId} (h:W.heap[b]? = some (O #[a0,a1,a2,a3] T (0,0))):((W.setCell ⟨b,2,none⟩ x).setCell ⟨b,3,none⟩ y).heap[b]? = some (O #[a0,a1,x,y] T (0,0)):=by
 obtain ⟨hl,hg⟩:=Array.getElem?_eq_some_iff.1 h
 simp [World.setCell,hl,Array.getElem_modify,hg]
theorem four_mul (X Y V:Nat→P2) (C:Nat→Int) (K:P2→P2→Int) (R:P2→Prop) (hM:∀ k,k<4→Ret 79 #[.agg #[Z (X (k / 2)).1,Z (X (k / 2)).2],.agg #[Z (Y (k % 2)).1,Z (Y (k % 2)).2]] (.tuple #[.agg #[Z (V k).1,Z (V k).2],.int .i64 (C k)])) (hK:∀ p q,R p→R q→Ret 67 #[.agg #[Z (p).1,Z (p).2],.agg #[Z (q).1,Z (q).2]] (.int .i64 (K p q))) (hR:∀ k,k<4→C k=0→R (V k)) (v:Value) (hv:((∀ j,j<4→C j=0)∧v = .tuple #[.agg #[Z (loF K V 4).1,Z (loF K V 4).2,Z (hiF K V 4).1,Z (hiF K V 4).2],.int .i64 0])∨((∃ j,j<4∧C j≠0)∧v = .tuple #[.agg #[Z ⟨#[]⟩,Z ⟨#[]⟩,Z ⟨#[]⟩,Z ⟨#[]⟩],.int .i64 50])):Ret 110 #[.agg #[Z (X 0).1,Z (X 0).2,Z (X 1).1,Z (X 1).2],.agg #[Z (Y 0).1,Z (Y 0).2,Z (Y 1).1,Z (Y 1).2],.bool false] (v):=by
 intro w
 have HM:Shut _:=⟨hM⟩
 have HK:Shut _:=⟨hK⟩
 have HR:Shut _:=⟨hR⟩
 clear hM hK hR
 obtain ⟨LO,hLO⟩:∃ f,f=loF K V:=⟨_,rfl⟩
 obtain ⟨HI,hHI⟩:∃ f,f=hiF K V:=⟨_,rfl⟩
 rw [←hLO,←hHI] at hv
 have HVv:Shut _:=⟨hv⟩
 clear hv
 have HLO:Shut _:=⟨hLO⟩
 have HHI:Shut _:=⟨hHI⟩
 clear hLO hHI
 obtain ⟨n_x,n_y,n_r⟩:=news3 w (O #[Z (X 0).1,Z (X 0).2,Z (X 1).1,Z (X 1).2] 25) (O #[Z (Y 0).1,Z (Y 0).2,Z (Y 1).1,Z (Y 1).2] 25) (O #[Z ⟨#[]⟩,Z ⟨#[]⟩,Z ⟨#[]⟩,Z ⟨#[]⟩] 25)
 have u:=below3 w (O #[Z (X 0).1,Z (X 0).2,Z (X 1).1,Z (X 1).2] 25) (O #[Z (Y 0).1,Z (Y 0).2,Z (Y 1).1,Z (Y 1).2] 25) (O #[Z ⟨#[]⟩,Z ⟨#[]⟩,Z ⟨#[]⟩,Z ⟨#[]⟩] 25)
 go_enter Tryz.func110, Tryz.ntmps110
 go_upto_region 1 with fail
 generalize hV0:(((w.alloc (O #[Z (X 0).1,Z (X 0).2,Z (X 1).1,Z (X 1).2] 25)).alloc (O #[Z (Y 0).1,Z (Y 0).2,Z (Y 1).1,Z (Y 1).2] 25)).alloc (O #[Z ⟨#[]⟩,Z ⟨#[]⟩,Z ⟨#[]⟩,Z ⟨#[]⟩] 25))=V0 at *
 have hsz:V0.heap.size=w.heap.size+1+1+1:=by rw [←hV0];simp only [World.size_alloc]
 clear hV0
 have g:=(Below.refl V0.heap.size V0).alloc (Nat.le_refl _) (O #[Z ⟨#[]⟩,Z ⟨#[]⟩,Z ⟨#[]⟩,Z ⟨#[]⟩] 25)
 have n_o:=World.alloc_heap_new V0 (O #[Z ⟨#[]⟩,Z ⟨#[]⟩,Z ⟨#[]⟩,Z ⟨#[]⟩] 25)
 replace u:=u.trans (g.mono u.size)
 replace n_x:=lkeep n_x g
 replace n_y:=lkeep n_y g
 replace n_r:=lkeep n_r g
 clear g
 go_wp2_with fail
 generalize V0.alloc (O #[Z ⟨#[]⟩,Z ⟨#[]⟩,Z ⟨#[]⟩,Z ⟨#[]⟩] 25)=V_o at *
 rw [hsz] at n_o
 try rw [hsz]
 clear hsz
 have hz0:LO 0=(⟨#[]⟩,⟨#[]⟩):=by rw [HLO.o];rfl
 have hz1:HI 0=(⟨#[]⟩,⟨#[]⟩):=by rw [HHI.o];rfl
 have S0:Shut (V_o.heap[w.heap.size]? = some (O #[Z (X 0).1,Z (X 0).2,Z (X 1).1,Z (X 1).2] 25 (0,0))∧V_o.heap[w.heap.size+1]? = some (O #[Z (Y 0).1,Z (Y 0).2,Z (Y 1).1,Z (Y 1).2] 25 (0,0))∧V_o.heap[w.heap.size+1+1]? = some (O #[Z ⟨#[]⟩,Z ⟨#[]⟩,Z ⟨#[]⟩,Z ⟨#[]⟩] 25 (0,0))∧V_o.heap[w.heap.size+1+1+1]? = some (O #[Z (LO 0).1,Z (LO 0).2,Z (HI 0).1,Z (HI 0).2] 25 (0,0))∧Below w.heap.size w V_o):=⟨n_x,n_y,n_r,by rw [hz0,hz1];exact n_o,u⟩
 clear n_x n_y n_r n_o u hz0 hz1
 go_loopw [9] (fun iv wr=>∃ k:Nat,k≤4∧iv = .int .i64 (k:Int)∧Shut ((∀ j,j<k→C j=0)∧wr.heap[w.heap.size]? = some (O #[Z (X 0).1,Z (X 0).2,Z (X 1).1,Z (X 1).2] 25 (0,0))∧wr.heap[w.heap.size+1]? = some (O #[Z (Y 0).1,Z (Y 0).2,Z (Y 1).1,Z (Y 1).2] 25 (0,0))∧wr.heap[w.heap.size+1+1]? = some (O #[Z ⟨#[]⟩,Z ⟨#[]⟩,Z ⟨#[]⟩,Z ⟨#[]⟩] 25 (0,0))∧wr.heap[w.heap.size+1+1+1]? = some (O #[Z (LO k).1,Z (LO k).2,Z (HI k).1,Z (HI k).2] 25 (0,0))∧Below w.heap.size w wr)) (fun iv _=>4-(intOf iv).toNat)
 case atStart=>exact ⟨0,Nat.zero_le _,rfl,⟨fun j hj=>absurd hj (by omega),S0.o⟩⟩
 case round =>
  obtain ⟨k,hk,rfl,H⟩:=hrel
  obtain ⟨hall,n_x,n_y,n_r,n_o,u⟩:=H.o
  clear H S0
  have HALL:Shut _:=⟨hall⟩
  clear hall
  by_cases hk4:k=4
  ·subst hk4
   have c_o0:=lcell n_o 0 (v:=Z (LO 4).1) rfl
   have c_o1:=lcell n_o 1 (v:=Z (LO 4).2) rfl
   have c_o2:=lcell n_o 2 (v:=Z (HI 4).1) rfl
   have c_o3:=lcell n_o 3 (v:=Z (HI 4).2) rfl
   have hb:∀ i,w.heap.size≤(⟨w.heap.size+1+1,i,none⟩:Addr).block:=fun _=>by show w.heap.size≤w.heap.size+1+1;omega
   have s_r:=box4_set (x:=Z (LO 4).1) (y:=Z (LO 4).2) (z:=Z (HI 4).1) (t:=Z (HI 4).2) n_r
   have k0':=lcell n_r 0 (v:=Z ⟨#[]⟩) rfl
   have f0:=lfree n_r 0
   have k1':=lcell n_r 1 (v:=Z ⟨#[]⟩) rfl
   have f1:=lfree n_r 1
   have k2':=lcell n_r 2 (v:=Z ⟨#[]⟩) rfl
   have f2:=lfree n_r 2
   have k3':=lcell n_r 3 (v:=Z ⟨#[]⟩) rfl
   have f3:=lfree n_r 3
   have z0:=lcell s_r 0 (v:=Z (LO 4).1) rfl
   have z1:=lcell s_r 1 (v:=Z (LO 4).2) rfl
   have z2:=lcell s_r 2 (v:=Z (HI 4).1) rfl
   have z3:=lcell s_r 3 (v:=Z (HI 4).2) rfl
   go_wp2_with fail
   exact bodyPost_ret (v:=.tuple #[.agg #[Z (LO 4).1,Z (LO 4).2,Z (HI 4).1,Z (HI 4).2],.int .i64 0]) (by simp [results,Tryz.results110, go_sem,z0,z1,z2,z3]) rfl ⟨by rcases HVv.o with ⟨_,e⟩ | ⟨⟨j,hj,h⟩,_⟩;exact congrArg Ending.returned e.symm;exact absurd (HALL.o j hj) h,(((u.setCell (hb 0) _).setCell (hb 1) _).setCell (hb 2) _).setCell (hb 3) _⟩
  ·have hk3:k<4:=by omega
   have hki:(k:Int)<4:=by omega
   have hki0:(0:Int)≤(k:Int):=by omega
   have hw1:IntKind.i64.wrap ((k:Int)+1)=(k:Int)+1:=by simp [IntKind.wrap,IntKind.signed,IntKind.bits];omega
   go_upto_region 5 with fail
   go_cut [10] from 19 to 27 (fun s wx=>∃ bq:Nat,w.heap.size+1+1+1<bq∧s = .pointer (some ⟨bq,0,none⟩)∧wx.heap[bq]? = some (O #[Z (X (k / 2)).1,Z (X (k / 2)).2] 23 (0,0))∧wx.heap[w.heap.size]? = some (O #[Z (X 0).1,Z (X 0).2,Z (X 1).1,Z (X 1).2] 25 (0,0))∧wx.heap[w.heap.size+1]? = some (O #[Z (Y 0).1,Z (Y 0).2,Z (Y 1).1,Z (Y 1).2] 25 (0,0))∧wx.heap[w.heap.size+1+1]? = some (O #[Z ⟨#[]⟩,Z ⟨#[]⟩,Z ⟨#[]⟩,Z ⟨#[]⟩] 25 (0,0))∧wx.heap[w.heap.size+1+1+1]? = some (O #[Z (LO k).1,Z (LO k).2,Z (HI k).1,Z (HI k).2] 25 (0,0))∧Below w.heap.size w wx)
   case first =>
    have hlt:=(Array.getElem?_eq_some_iff.1 n_o).1
    obtain rfl | rfl | rfl | rfl:k=0∨k=1∨k=2∨k=3:=by omega
    ·have c_x0:=lcell n_x 0 (v:=Z (X 0).1) rfl
     have c_x1:=lcell n_x 1 (v:=Z (X 0).2) rfl
     have c_x2:=lcell n_x 2 (v:=Z (X 1).1) rfl
     have c_x3:=lcell n_x 3 (v:=Z (X 1).2) rfl
     have g:=below2 wr (O #[Z (X 0).1,Z (X 0).2,Z (X 1).1,Z (X 1).2] 23) (O #[Z (X 0).1,Z (X 0).2] 23)
     have n_z:=(news2 wr (O #[Z (X 0).1,Z (X 0).2,Z (X 1).1,Z (X 1).2] 23) (O #[Z (X 0).1,Z (X 0).2] 23)).2
     go_wp2_with fail
     go_meet
     exact ⟨_,(by omega),rfl,n_z,lkeep n_x g,lkeep n_y g,lkeep n_r g,lkeep n_o g,u.trans (g.mono u.size)⟩
    ·have c_x0:=lcell n_x 0 (v:=Z (X 0).1) rfl
     have c_x1:=lcell n_x 1 (v:=Z (X 0).2) rfl
     have c_x2:=lcell n_x 2 (v:=Z (X 1).1) rfl
     have c_x3:=lcell n_x 3 (v:=Z (X 1).2) rfl
     have g:=below2 wr (O #[Z (X 0).1,Z (X 0).2,Z (X 1).1,Z (X 1).2] 23) (O #[Z (X 0).1,Z (X 0).2] 23)
     have n_z:=(news2 wr (O #[Z (X 0).1,Z (X 0).2,Z (X 1).1,Z (X 1).2] 23) (O #[Z (X 0).1,Z (X 0).2] 23)).2
     go_wp2_with fail
     go_meet
     exact ⟨_,(by omega),rfl,n_z,lkeep n_x g,lkeep n_y g,lkeep n_r g,lkeep n_o g,u.trans (g.mono u.size)⟩
    ·have c_x0:=lcell n_x 0 (v:=Z (X 0).1) rfl
     have c_x1:=lcell n_x 1 (v:=Z (X 0).2) rfl
     have c_x2:=lcell n_x 2 (v:=Z (X 1).1) rfl
     have c_x3:=lcell n_x 3 (v:=Z (X 1).2) rfl
     have g:=below2 wr (O #[Z (X 0).1,Z (X 0).2,Z (X 1).1,Z (X 1).2] 23) (O #[Z (X 1).1,Z (X 1).2] 23)
     have n_z:=(news2 wr (O #[Z (X 0).1,Z (X 0).2,Z (X 1).1,Z (X 1).2] 23) (O #[Z (X 1).1,Z (X 1).2] 23)).2
     go_wp2_with fail
     go_meet
     exact ⟨_,(by omega),rfl,n_z,lkeep n_x g,lkeep n_y g,lkeep n_r g,lkeep n_o g,u.trans (g.mono u.size)⟩
    ·have c_x0:=lcell n_x 0 (v:=Z (X 0).1) rfl
     have c_x1:=lcell n_x 1 (v:=Z (X 0).2) rfl
     have c_x2:=lcell n_x 2 (v:=Z (X 1).1) rfl
     have c_x3:=lcell n_x 3 (v:=Z (X 1).2) rfl
     have g:=below2 wr (O #[Z (X 0).1,Z (X 0).2,Z (X 1).1,Z (X 1).2] 23) (O #[Z (X 1).1,Z (X 1).2] 23)
     have n_z:=(news2 wr (O #[Z (X 0).1,Z (X 0).2,Z (X 1).1,Z (X 1).2] 23) (O #[Z (X 1).1,Z (X 1).2] 23)).2
     go_wp2_with fail
     go_meet
     exact ⟨_,(by omega),rfl,n_z,lkeep n_x g,lkeep n_y g,lkeep n_r g,lkeep n_o g,u.trans (g.mono u.size)⟩
   obtain ⟨b_p,lt_p,rfl,n_p',n_x,n_y,n_r,n_o,u⟩:=hcut
   have n_p:=n_p'
   clear n_p'
   obtain ⟨V_p,hv⟩:∃ v,v=wc:=⟨_,rfl⟩
   rw [←hv] at n_x n_y n_r n_o n_p u
   go_upto_region 6 with fail
   rw [←hv]
   clear hv
   go_cut [11] from 28 to 36 (fun s wx=>∃ bq:Nat,w.heap.size+1+1+1<bq∧s = .pointer (some ⟨bq,0,none⟩)∧wx.heap[bq]? = some (O #[Z (Y (k % 2)).1,Z (Y (k % 2)).2] 23 (0,0))∧wx.heap[w.heap.size]? = some (O #[Z (X 0).1,Z (X 0).2,Z (X 1).1,Z (X 1).2] 25 (0,0))∧wx.heap[w.heap.size+1]? = some (O #[Z (Y 0).1,Z (Y 0).2,Z (Y 1).1,Z (Y 1).2] 25 (0,0))∧wx.heap[w.heap.size+1+1]? = some (O #[Z ⟨#[]⟩,Z ⟨#[]⟩,Z ⟨#[]⟩,Z ⟨#[]⟩] 25 (0,0))∧wx.heap[w.heap.size+1+1+1]? = some (O #[Z (LO k).1,Z (LO k).2,Z (HI k).1,Z (HI k).2] 25 (0,0))∧wx.heap[b_p]? = some (O #[Z (X (k / 2)).1,Z (X (k / 2)).2] 23 (0,0))∧Below w.heap.size w wx)
   case first =>
    have hlt:=(Array.getElem?_eq_some_iff.1 n_o).1
    obtain rfl | rfl | rfl | rfl:k=0∨k=1∨k=2∨k=3:=by omega
    ·have c_y0:=lcell n_y 0 (v:=Z (Y 0).1) rfl
     have c_y1:=lcell n_y 1 (v:=Z (Y 0).2) rfl
     have c_y2:=lcell n_y 2 (v:=Z (Y 1).1) rfl
     have c_y3:=lcell n_y 3 (v:=Z (Y 1).2) rfl
     have g:=below2 V_p (O #[Z (Y 0).1,Z (Y 0).2,Z (Y 1).1,Z (Y 1).2] 23) (O #[Z (Y 0).1,Z (Y 0).2] 23)
     have n_z:=(news2 V_p (O #[Z (Y 0).1,Z (Y 0).2,Z (Y 1).1,Z (Y 1).2] 23) (O #[Z (Y 0).1,Z (Y 0).2] 23)).2
     go_wp2_with fail
     go_meet
     exact ⟨_,(by omega),rfl,n_z,lkeep n_x g,lkeep n_y g,lkeep n_r g,lkeep n_o g,lkeep n_p g,u.trans (g.mono u.size)⟩
    ·have c_y0:=lcell n_y 0 (v:=Z (Y 0).1) rfl
     have c_y1:=lcell n_y 1 (v:=Z (Y 0).2) rfl
     have c_y2:=lcell n_y 2 (v:=Z (Y 1).1) rfl
     have c_y3:=lcell n_y 3 (v:=Z (Y 1).2) rfl
     have g:=below2 V_p (O #[Z (Y 0).1,Z (Y 0).2,Z (Y 1).1,Z (Y 1).2] 23) (O #[Z (Y 1).1,Z (Y 1).2] 23)
     have n_z:=(news2 V_p (O #[Z (Y 0).1,Z (Y 0).2,Z (Y 1).1,Z (Y 1).2] 23) (O #[Z (Y 1).1,Z (Y 1).2] 23)).2
     go_wp2_with fail
     go_meet
     exact ⟨_,(by omega),rfl,n_z,lkeep n_x g,lkeep n_y g,lkeep n_r g,lkeep n_o g,lkeep n_p g,u.trans (g.mono u.size)⟩
    ·have c_y0:=lcell n_y 0 (v:=Z (Y 0).1) rfl
     have c_y1:=lcell n_y 1 (v:=Z (Y 0).2) rfl
     have c_y2:=lcell n_y 2 (v:=Z (Y 1).1) rfl
     have c_y3:=lcell n_y 3 (v:=Z (Y 1).2) rfl
     have g:=below2 V_p (O #[Z (Y 0).1,Z (Y 0).2,Z (Y 1).1,Z (Y 1).2] 23) (O #[Z (Y 0).1,Z (Y 0).2] 23)
     have n_z:=(news2 V_p (O #[Z (Y 0).1,Z (Y 0).2,Z (Y 1).1,Z (Y 1).2] 23) (O #[Z (Y 0).1,Z (Y 0).2] 23)).2
     go_wp2_with fail
     go_meet
     exact ⟨_,(by omega),rfl,n_z,lkeep n_x g,lkeep n_y g,lkeep n_r g,lkeep n_o g,lkeep n_p g,u.trans (g.mono u.size)⟩
    ·have c_y0:=lcell n_y 0 (v:=Z (Y 0).1) rfl
     have c_y1:=lcell n_y 1 (v:=Z (Y 0).2) rfl
     have c_y2:=lcell n_y 2 (v:=Z (Y 1).1) rfl
     have c_y3:=lcell n_y 3 (v:=Z (Y 1).2) rfl
     have g:=below2 V_p (O #[Z (Y 0).1,Z (Y 0).2,Z (Y 1).1,Z (Y 1).2] 23) (O #[Z (Y 1).1,Z (Y 1).2] 23)
     have n_z:=(news2 V_p (O #[Z (Y 0).1,Z (Y 0).2,Z (Y 1).1,Z (Y 1).2] 23) (O #[Z (Y 1).1,Z (Y 1).2] 23)).2
     go_wp2_with fail
     go_meet
     exact ⟨_,(by omega),rfl,n_z,lkeep n_x g,lkeep n_y g,lkeep n_r g,lkeep n_o g,lkeep n_p g,u.trans (g.mono u.size)⟩
   obtain ⟨b_q,lt_q,rfl,n_q',n_x,n_y,n_r,n_o,n_p,u⟩:=hcut
   have n_q:=n_q'
   clear n_q'
   obtain ⟨V_q,hv⟩:∃ v,v=wc:=⟨_,rfl⟩
   rw [←hv] at n_x n_y n_r n_o n_p n_q u
   go_upto_region 7 with fail
   rw [←hv]
   clear hv
   have c_p0:=lcell n_p 0 (v:=Z (X (k / 2)).1) rfl
   have c_p1:=lcell n_p 1 (v:=Z (X (k / 2)).2) rfl
   have c_q0:=lcell n_q 0 (v:=Z (Y (k % 2)).1) rfl
   have c_q1:=lcell n_q 1 (v:=Z (Y (k % 2)).2) rfl
   go_wp2_with fail
   refine (HM.o k hk3 _).mono ?_
   rintro e v1 ⟨rfl,g⟩
   replace u:=u.trans (g.mono u.size)
   replace n_x:=lkeep n_x g
   replace n_y:=lkeep n_y g
   replace n_r:=lkeep n_r g
   replace n_o:=lkeep n_o g
   replace n_p:=lkeep n_p g
   replace n_q:=lkeep n_q g
   clear c_p0 c_p1 c_q0 c_q1
   clear g
   have lt_v:w.heap.size+1+1+1<v1.heap.size:=(Array.getElem?_eq_some_iff.1 n_o).1
   have g:=(Below.refl v1.heap.size v1).alloc (Nat.le_refl _) (O #[Z (V k).1,Z (V k).2] 23)
   have n_v:=World.alloc_heap_new v1 (O #[Z (V k).1,Z (V k).2] 23)
   replace u:=u.trans (g.mono u.size)
   replace n_x:=lkeep n_x g
   replace n_y:=lkeep n_y g
   replace n_r:=lkeep n_r g
   replace n_o:=lkeep n_o g
   replace n_p:=lkeep n_p g
   replace n_q:=lkeep n_q g
   clear g
   clear n_p n_q
   go_upto_region 10 with fail
   generalize v1.alloc (O #[Z (V k).1,Z (V k).2] 23)=V_v at *
   generalize v1.heap.size=b_v at *
   by_cases hC:C k=0
   ·have RV:Shut _:=⟨HR.o k hk3 hC⟩
    generalize hck:C k=ck at *
    have HCK:Shut _:=⟨hck⟩
    subst hC
    clear hck
    go_upto_region 12 with fail
    go_cut [61] from 53 to 61 (fun s wx=>s = .bool (decide (k=0∨K (V k) (LO k)<0))∧wx.heap[w.heap.size]? = some (O #[Z (X 0).1,Z (X 0).2,Z (X 1).1,Z (X 1).2] 25 (0,0))∧wx.heap[w.heap.size+1]? = some (O #[Z (Y 0).1,Z (Y 0).2,Z (Y 1).1,Z (Y 1).2] 25 (0,0))∧wx.heap[w.heap.size+1+1]? = some (O #[Z ⟨#[]⟩,Z ⟨#[]⟩,Z ⟨#[]⟩,Z ⟨#[]⟩] 25 (0,0))∧wx.heap[w.heap.size+1+1+1]? = some (O #[Z (LO k).1,Z (LO k).2,Z (HI k).1,Z (HI k).2] 25 (0,0))∧wx.heap[b_v]? = some (O #[Z (V k).1,Z (V k).2] 23 (0,0))∧Below w.heap.size w wx)
    case first =>
     by_cases h0:k=0
     ·subst h0
      go_wp2_with fail
      go_meet
      exact ⟨by simp,n_x,n_y,n_r,n_o,n_v,u⟩
     ·have hk0':¬(k:Int)=0:=by omega
      have hkb:((k:Int) == 0)=false:=beq_eq_false_iff_ne.2 hk0'
      have hin:R (LO k):=by obtain ⟨j,rfl⟩:∃ j,k=j+1:=⟨k-1,by omega⟩;rw [HLO.o];exact loF_in K V R j (fun i hi=>HR.o i (by omega) (HALL.o i (by omega)))
      have cK:=HK.o (V k) (LO k) RV.o hin
      have c_v0:=lcell n_v 0 (v:=Z (V k).1) rfl
      have c_v1:=lcell n_v 1 (v:=Z (V k).2) rfl
      have c_o0:=lcell n_o 0 (v:=Z (LO k).1) rfl
      have c_o1:=lcell n_o 1 (v:=Z (LO k).2) rfl
      go_wp2_with fail
      refine (cK _).mono ?_
      rintro e v2 ⟨rfl,g⟩
      replace u:=u.trans (g.mono u.size)
      replace n_x:=lkeep n_x g
      replace n_y:=lkeep n_y g
      replace n_r:=lkeep n_r g
      replace n_o:=lkeep n_o g
      replace n_v:=lkeep n_v g
      clear c_v0 c_v1 c_o0 c_o1
      clear g
      have hdd:decide (k=0∨K (V k) (LO k)<0)=decide (K (V k) (LO k)<0):=by rw [decide_eq_decide];exact ⟨fun h=>h.resolve_left h0,Or.inr⟩
      go_wp2_with fail
      go_meet
      exact ⟨by rw [hdd],n_x,n_y,n_r,n_o,n_v,u⟩
    obtain ⟨rfl,n_x,n_y,n_r,n_o,n_v,u⟩:=hcut
    have hst:LO (k+1)=if k=0∨K (V k) (LO k)<0 then V k else LO k:=by rw [HLO.o];rfl
    have HST:Shut _:=⟨hst⟩
    clear hst
    go_upto_if 61 with fail
    obtain ⟨V_t0,hv⟩:∃ v,v=wc:=⟨_,rfl⟩
    rw [←hv] at n_x n_y n_r n_o n_v u
    rw [←hv]
    clear hv
    go_cut [] from 61 to 63 (fun wx=>wx.heap[w.heap.size]? = some (O #[Z (X 0).1,Z (X 0).2,Z (X 1).1,Z (X 1).2] 25 (0,0))∧wx.heap[w.heap.size+1]? = some (O #[Z (Y 0).1,Z (Y 0).2,Z (Y 1).1,Z (Y 1).2] 25 (0,0))∧wx.heap[w.heap.size+1+1]? = some (O #[Z ⟨#[]⟩,Z ⟨#[]⟩,Z ⟨#[]⟩,Z ⟨#[]⟩] 25 (0,0))∧wx.heap[w.heap.size+1+1+1]? = some (O #[Z (LO (k+1)).1,Z (LO (k+1)).2,Z (HI k).1,Z (HI k).2] 25 (0,0))∧wx.heap[b_v]? = some (O #[Z (V k).1,Z (V k).2] 23 (0,0))∧Below w.heap.size w wx)
    case first =>
     by_cases hc:k=0∨K (V k) (LO k)<0
     ·have hcd:=decide_eq_true hc
      have c_v0:=lcell n_v 0 (v:=Z (V k).1) rfl
      have c_v1:=lcell n_v 1 (v:=Z (V k).2) rfl
      have k0':=lcell n_o 0 (v:=Z (LO k).1) rfl
      have f0:=lfree n_o 0
      have k1':=lcell n_o 1 (v:=Z (LO k).2) rfl
      have f1:=lfree n_o 1
      have m_o:=box4_lob (x:=Z (V k).1) (y:=Z (V k).2) n_o
      have m_x:((V_t0.setCell ⟨w.heap.size+1+1+1,0,none⟩ (Z (V k).1)).setCell ⟨w.heap.size+1+1+1,1,none⟩ (Z (V k).2)).heap[_]? = _:=kept2b (show w.heap.size≠w.heap.size+1+1+1 by omega) n_x
      have m_y:((V_t0.setCell ⟨w.heap.size+1+1+1,0,none⟩ (Z (V k).1)).setCell ⟨w.heap.size+1+1+1,1,none⟩ (Z (V k).2)).heap[_]? = _:=kept2b (show w.heap.size+1≠w.heap.size+1+1+1 by omega) n_y
      have m_r:((V_t0.setCell ⟨w.heap.size+1+1+1,0,none⟩ (Z (V k).1)).setCell ⟨w.heap.size+1+1+1,1,none⟩ (Z (V k).2)).heap[_]? = _:=kept2b (show w.heap.size+1+1≠w.heap.size+1+1+1 by omega) n_r
      have m_v:((V_t0.setCell ⟨w.heap.size+1+1+1,0,none⟩ (Z (V k).1)).setCell ⟨w.heap.size+1+1+1,1,none⟩ (Z (V k).2)).heap[_]? = _:=kept2b (show b_v≠w.heap.size+1+1+1 by omega) n_v
      go_wp2_with fail
      go_meet
      exact ⟨m_x,m_y,m_r,by rw [HST.o,if_pos hc];exact m_o,m_v,(u.setCell (show w.heap.size≤(⟨w.heap.size+1+1+1,0,none⟩:Addr).block from by show w.heap.size≤w.heap.size+1+1+1;omega) _).setCell (show w.heap.size≤(⟨w.heap.size+1+1+1,1,none⟩:Addr).block from by show w.heap.size≤w.heap.size+1+1+1;omega) _⟩
     ·have hcd:=decide_eq_false hc
      go_wp2_with fail
      go_meet
      exact ⟨n_x,n_y,n_r,by rw [HST.o,if_neg hc];exact n_o,n_v,u⟩
    obtain ⟨n_x,n_y,n_r,n_o,n_v,u⟩:=hcut
    clear HST
    obtain ⟨V_s0,hv⟩:∃ v,v=wc:=⟨_,rfl⟩
    rw [←hv] at n_x n_y n_r n_o n_v u
    go_upto_region 14 with fail
    rw [←hv]
    clear hv
    go_cut [72] from 64 to 72 (fun s wx=>s = .bool (decide (k=0∨0<K (V k) (HI k)))∧wx.heap[w.heap.size]? = some (O #[Z (X 0).1,Z (X 0).2,Z (X 1).1,Z (X 1).2] 25 (0,0))∧wx.heap[w.heap.size+1]? = some (O #[Z (Y 0).1,Z (Y 0).2,Z (Y 1).1,Z (Y 1).2] 25 (0,0))∧wx.heap[w.heap.size+1+1]? = some (O #[Z ⟨#[]⟩,Z ⟨#[]⟩,Z ⟨#[]⟩,Z ⟨#[]⟩] 25 (0,0))∧wx.heap[w.heap.size+1+1+1]? = some (O #[Z (LO (k+1)).1,Z (LO (k+1)).2,Z (HI k).1,Z (HI k).2] 25 (0,0))∧wx.heap[b_v]? = some (O #[Z (V k).1,Z (V k).2] 23 (0,0))∧Below w.heap.size w wx)
    case first =>
     by_cases h0:k=0
     ·subst h0
      go_wp2_with fail
      go_meet
      exact ⟨by simp,n_x,n_y,n_r,n_o,n_v,u⟩
     ·have hk0':¬(k:Int)=0:=by omega
      have hkb:((k:Int) == 0)=false:=beq_eq_false_iff_ne.2 hk0'
      have hin:R (HI k):=by obtain ⟨j,rfl⟩:∃ j,k=j+1:=⟨k-1,by omega⟩;rw [HHI.o];exact hiF_in K V R j (fun i hi=>HR.o i (by omega) (HALL.o i (by omega)))
      have cK:=HK.o (V k) (HI k) RV.o hin
      have c_v0:=lcell n_v 0 (v:=Z (V k).1) rfl
      have c_v1:=lcell n_v 1 (v:=Z (V k).2) rfl
      have c_o2:=lcell n_o 2 (v:=Z (HI k).1) rfl
      have c_o3:=lcell n_o 3 (v:=Z (HI k).2) rfl
      go_wp2_with fail
      refine (cK _).mono ?_
      rintro e v2 ⟨rfl,g⟩
      replace u:=u.trans (g.mono u.size)
      replace n_x:=lkeep n_x g
      replace n_y:=lkeep n_y g
      replace n_r:=lkeep n_r g
      replace n_o:=lkeep n_o g
      replace n_v:=lkeep n_v g
      clear c_v0 c_v1 c_o2 c_o3
      clear g
      have hdd:decide (k=0∨0<K (V k) (HI k))=decide (0<K (V k) (HI k)):=by rw [decide_eq_decide];exact ⟨fun h=>h.resolve_left h0,Or.inr⟩
      go_wp2_with fail
      go_meet
      exact ⟨by rw [hdd],n_x,n_y,n_r,n_o,n_v,u⟩
    obtain ⟨rfl,n_x,n_y,n_r,n_o,n_v,u⟩:=hcut
    have hst:HI (k+1)=if k=0∨0<K (V k) (HI k) then V k else HI k:=by rw [HHI.o];rfl
    have HST:Shut _:=⟨hst⟩
    clear hst
    go_upto_if 72 with fail
    obtain ⟨V_t1,hv⟩:∃ v,v=wc:=⟨_,rfl⟩
    rw [←hv] at n_x n_y n_r n_o n_v u
    rw [←hv]
    clear hv
    by_cases hc:k=0∨0<K (V k) (HI k)
    ·have hcd:=decide_eq_true hc
     have c_v0:=lcell n_v 0 (v:=Z (V k).1) rfl
     have c_v1:=lcell n_v 1 (v:=Z (V k).2) rfl
     have k2':=lcell n_o 2 (v:=Z (HI k).1) rfl
     have f2:=lfree n_o 2
     have k3':=lcell n_o 3 (v:=Z (HI k).2) rfl
     have f3:=lfree n_o 3
     have m_o:=box4_hib (x:=Z (V k).1) (y:=Z (V k).2) n_o
     have m_x:((V_t1.setCell ⟨w.heap.size+1+1+1,2,none⟩ (Z (V k).1)).setCell ⟨w.heap.size+1+1+1,3,none⟩ (Z (V k).2)).heap[_]? = _:=kept2b (show w.heap.size≠w.heap.size+1+1+1 by omega) n_x
     have m_y:((V_t1.setCell ⟨w.heap.size+1+1+1,2,none⟩ (Z (V k).1)).setCell ⟨w.heap.size+1+1+1,3,none⟩ (Z (V k).2)).heap[_]? = _:=kept2b (show w.heap.size+1≠w.heap.size+1+1+1 by omega) n_y
     have m_r:((V_t1.setCell ⟨w.heap.size+1+1+1,2,none⟩ (Z (V k).1)).setCell ⟨w.heap.size+1+1+1,3,none⟩ (Z (V k).2)).heap[_]? = _:=kept2b (show w.heap.size+1+1≠w.heap.size+1+1+1 by omega) n_r
     have m_v:((V_t1.setCell ⟨w.heap.size+1+1+1,2,none⟩ (Z (V k).1)).setCell ⟨w.heap.size+1+1+1,3,none⟩ (Z (V k).2)).heap[_]? = _:=kept2b (show b_v≠w.heap.size+1+1+1 by omega) n_v
     go_wp2_with fail
     go_roundw
     case rel=>exact ⟨k+1,by omega,by first | rfl | go_num | simp,⟨fun j hj=>by rcases Nat.lt_or_ge j k with h | h;exact HALL.o j h;obtain rfl:j=k:=(by omega);exact HCK.o,m_x,m_y,m_r,by rw [HST.o,if_pos hc];exact m_o,(u.setCell (show w.heap.size≤(⟨w.heap.size+1+1+1,2,none⟩:Addr).block from by show w.heap.size≤w.heap.size+1+1+1;omega) _).setCell (show w.heap.size≤(⟨w.heap.size+1+1+1,3,none⟩:Addr).block from by show w.heap.size≤w.heap.size+1+1+1;omega) _⟩⟩
     case measure=>simp [intOf];omega
    ·have hcd:=decide_eq_false hc
     go_wp2_with fail
     go_roundw
     case rel=>exact ⟨k+1,by omega,by first | rfl | go_num | simp,⟨fun j hj=>by rcases Nat.lt_or_ge j k with h | h;exact HALL.o j h;obtain rfl:j=k:=(by omega);exact HCK.o,n_x,n_y,n_r,by rw [HST.o,if_neg hc];exact n_o,u⟩⟩
     case measure=>simp [intOf];omega
   ·have hne:(C k == 0)=false:=beq_eq_false_iff_ne.2 hC
    have hne2:(C k != 0)=true:=bne_iff_ne.2 hC
    have hb:∀ i,w.heap.size≤(⟨w.heap.size+1+1,i,none⟩:Addr).block:=fun _=>by show w.heap.size≤w.heap.size+1+1;omega
    have s_r:=box4_set (x:=Z ⟨#[]⟩) (y:=Z ⟨#[]⟩) (z:=Z ⟨#[]⟩) (t:=Z ⟨#[]⟩) n_r
    have k0':=lcell n_r 0 (v:=Z ⟨#[]⟩) rfl
    have f0:=lfree n_r 0
    have k1':=lcell n_r 1 (v:=Z ⟨#[]⟩) rfl
    have f1:=lfree n_r 1
    have k2':=lcell n_r 2 (v:=Z ⟨#[]⟩) rfl
    have f2:=lfree n_r 2
    have k3':=lcell n_r 3 (v:=Z ⟨#[]⟩) rfl
    have f3:=lfree n_r 3
    have z0:=lcell s_r 0 (v:=Z ⟨#[]⟩) rfl
    have z1:=lcell s_r 1 (v:=Z ⟨#[]⟩) rfl
    have z2:=lcell s_r 2 (v:=Z ⟨#[]⟩) rfl
    have z3:=lcell s_r 3 (v:=Z ⟨#[]⟩) rfl
    go_wp2_with fail
    exact bodyPost_ret (v:=.tuple #[.agg #[Z ⟨#[]⟩,Z ⟨#[]⟩,Z ⟨#[]⟩,Z ⟨#[]⟩],.int .i64 50]) (by simp [results,Tryz.results110, go_sem,z0,z1,z2,z3]) rfl ⟨by rcases HVv.o with ⟨h,_⟩ | ⟨_,e⟩;exact absurd (h k hk3) hC;exact congrArg Ending.returned e.symm,(((u.setCell (hb 0) _).setCell (hb 1) _).setCell (hb 2) _).setCell (hb 3) _⟩
end En
end
section
namespace En
open Go.RowKit Go.Extern.Stop Go.Stop Go.Extern
open Go.Proofs.YtbfonkabmehlmaaGreatDoor.Nm Go.Proofs.YtbfonkabmehlmaaGreatDoor.Rt
open N10 (Two)
theorem four_div (X Y V VM:Nat→P2) (C CM:Nat→Int) (K:P2→P2→Int) (R:P2→Prop) (hM:∀ k,k<4→Ret 79 #[.agg #[Z (X (k / 2)).1,Z (X (k / 2)).2],.agg #[Z (Y (k % 2)).1,Z (Y (k % 2)).2]] (.tuple #[.agg #[Z (VM k).1,Z (VM k).2],.int .i64 (CM k)])) (hD:∀ k,k<4→Ret 152 #[.agg #[Z (X (k / 2)).1,Z (X (k / 2)).2],.agg #[Z (Y (k % 2)).1,Z (Y (k % 2)).2]] (.tuple #[.agg #[Z (V k).1,Z (V k).2],.int .i64 (C k)])) (hK:∀ p q,R p→R q→Ret 67 #[.agg #[Z (p).1,Z (p).2],.agg #[Z (q).1,Z (q).2]] (.int .i64 (K p q))) (hR:∀ k,k<4→C k=0→R (V k)) (v:Value) (hv:((∀ j,j<4→C j=0)∧v = .tuple #[.agg #[Z (loF K V 4).1,Z (loF K V 4).2,Z (hiF K V 4).1,Z (hiF K V 4).2],.int .i64 0])∨((∃ j,j<4∧C j≠0)∧v = .tuple #[.agg #[Z ⟨#[]⟩,Z ⟨#[]⟩,Z ⟨#[]⟩,Z ⟨#[]⟩],.int .i64 50])):Ret 110 #[.agg #[Z (X 0).1,Z (X 0).2,Z (X 1).1,Z (X 1).2],.agg #[Z (Y 0).1,Z (Y 0).2,Z (Y 1).1,Z (Y 1).2],.bool true] (v):=by
 intro w
 have HM:Shut _:=⟨hM⟩
 have HK:Shut _:=⟨hK⟩
 have HR:Shut _:=⟨hR⟩
 have HD:Shut _:=⟨hD⟩
 clear hM hK hR hD
 obtain ⟨LO,hLO⟩:∃ f,f=loF K V:=⟨_,rfl⟩
 obtain ⟨HI,hHI⟩:∃ f,f=hiF K V:=⟨_,rfl⟩
 rw [←hLO,←hHI] at hv
 have HVv:Shut _:=⟨hv⟩
 clear hv
 have HLO:Shut _:=⟨hLO⟩
 have HHI:Shut _:=⟨hHI⟩
 clear hLO hHI
 obtain ⟨n_x,n_y,n_r⟩:=news3 w (O #[Z (X 0).1,Z (X 0).2,Z (X 1).1,Z (X 1).2] 25) (O #[Z (Y 0).1,Z (Y 0).2,Z (Y 1).1,Z (Y 1).2] 25) (O #[Z ⟨#[]⟩,Z ⟨#[]⟩,Z ⟨#[]⟩,Z ⟨#[]⟩] 25)
 have u:=below3 w (O #[Z (X 0).1,Z (X 0).2,Z (X 1).1,Z (X 1).2] 25) (O #[Z (Y 0).1,Z (Y 0).2,Z (Y 1).1,Z (Y 1).2] 25) (O #[Z ⟨#[]⟩,Z ⟨#[]⟩,Z ⟨#[]⟩,Z ⟨#[]⟩] 25)
 go_enter Tryz.func110, Tryz.ntmps110
 go_upto_region 1 with fail
 generalize hV0:(((w.alloc (O #[Z (X 0).1,Z (X 0).2,Z (X 1).1,Z (X 1).2] 25)).alloc (O #[Z (Y 0).1,Z (Y 0).2,Z (Y 1).1,Z (Y 1).2] 25)).alloc (O #[Z ⟨#[]⟩,Z ⟨#[]⟩,Z ⟨#[]⟩,Z ⟨#[]⟩] 25))=V0 at *
 have hsz:V0.heap.size=w.heap.size+1+1+1:=by rw [←hV0];simp only [World.size_alloc]
 clear hV0
 have g:=(Below.refl V0.heap.size V0).alloc (Nat.le_refl _) (O #[Z ⟨#[]⟩,Z ⟨#[]⟩,Z ⟨#[]⟩,Z ⟨#[]⟩] 25)
 have n_o:=World.alloc_heap_new V0 (O #[Z ⟨#[]⟩,Z ⟨#[]⟩,Z ⟨#[]⟩,Z ⟨#[]⟩] 25)
 replace u:=u.trans (g.mono u.size)
 replace n_x:=lkeep n_x g
 replace n_y:=lkeep n_y g
 replace n_r:=lkeep n_r g
 clear g
 go_wp2_with fail
 generalize V0.alloc (O #[Z ⟨#[]⟩,Z ⟨#[]⟩,Z ⟨#[]⟩,Z ⟨#[]⟩] 25)=V_o at *
 rw [hsz] at n_o
 try rw [hsz]
 clear hsz
 have hz0:LO 0=(⟨#[]⟩,⟨#[]⟩):=by rw [HLO.o];rfl
 have hz1:HI 0=(⟨#[]⟩,⟨#[]⟩):=by rw [HHI.o];rfl
 have S0:Shut (V_o.heap[w.heap.size]? = some (O #[Z (X 0).1,Z (X 0).2,Z (X 1).1,Z (X 1).2] 25 (0,0))∧V_o.heap[w.heap.size+1]? = some (O #[Z (Y 0).1,Z (Y 0).2,Z (Y 1).1,Z (Y 1).2] 25 (0,0))∧V_o.heap[w.heap.size+1+1]? = some (O #[Z ⟨#[]⟩,Z ⟨#[]⟩,Z ⟨#[]⟩,Z ⟨#[]⟩] 25 (0,0))∧V_o.heap[w.heap.size+1+1+1]? = some (O #[Z (LO 0).1,Z (LO 0).2,Z (HI 0).1,Z (HI 0).2] 25 (0,0))∧Below w.heap.size w V_o):=⟨n_x,n_y,n_r,by rw [hz0,hz1];exact n_o,u⟩
 clear n_x n_y n_r n_o u hz0 hz1
 go_loopw [9] (fun iv wr=>∃ k:Nat,k≤4∧iv = .int .i64 (k:Int)∧Shut ((∀ j,j<k→C j=0)∧wr.heap[w.heap.size]? = some (O #[Z (X 0).1,Z (X 0).2,Z (X 1).1,Z (X 1).2] 25 (0,0))∧wr.heap[w.heap.size+1]? = some (O #[Z (Y 0).1,Z (Y 0).2,Z (Y 1).1,Z (Y 1).2] 25 (0,0))∧wr.heap[w.heap.size+1+1]? = some (O #[Z ⟨#[]⟩,Z ⟨#[]⟩,Z ⟨#[]⟩,Z ⟨#[]⟩] 25 (0,0))∧wr.heap[w.heap.size+1+1+1]? = some (O #[Z (LO k).1,Z (LO k).2,Z (HI k).1,Z (HI k).2] 25 (0,0))∧Below w.heap.size w wr)) (fun iv _=>4-(intOf iv).toNat)
 case atStart=>exact ⟨0,Nat.zero_le _,rfl,⟨fun j hj=>absurd hj (by omega),S0.o⟩⟩
 case round =>
  obtain ⟨k,hk,rfl,H⟩:=hrel
  obtain ⟨hall,n_x,n_y,n_r,n_o,u⟩:=H.o
  clear H S0
  have HALL:Shut _:=⟨hall⟩
  clear hall
  by_cases hk4:k=4
  ·subst hk4
   have c_o0:=lcell n_o 0 (v:=Z (LO 4).1) rfl
   have c_o1:=lcell n_o 1 (v:=Z (LO 4).2) rfl
   have c_o2:=lcell n_o 2 (v:=Z (HI 4).1) rfl
   have c_o3:=lcell n_o 3 (v:=Z (HI 4).2) rfl
   have hb:∀ i,w.heap.size≤(⟨w.heap.size+1+1,i,none⟩:Addr).block:=fun _=>by show w.heap.size≤w.heap.size+1+1;omega
   have s_r:=box4_set (x:=Z (LO 4).1) (y:=Z (LO 4).2) (z:=Z (HI 4).1) (t:=Z (HI 4).2) n_r
   have k0':=lcell n_r 0 (v:=Z ⟨#[]⟩) rfl
   have f0:=lfree n_r 0
   have k1':=lcell n_r 1 (v:=Z ⟨#[]⟩) rfl
   have f1:=lfree n_r 1
   have k2':=lcell n_r 2 (v:=Z ⟨#[]⟩) rfl
   have f2:=lfree n_r 2
   have k3':=lcell n_r 3 (v:=Z ⟨#[]⟩) rfl
   have f3:=lfree n_r 3
   have z0:=lcell s_r 0 (v:=Z (LO 4).1) rfl
   have z1:=lcell s_r 1 (v:=Z (LO 4).2) rfl
   have z2:=lcell s_r 2 (v:=Z (HI 4).1) rfl
   have z3:=lcell s_r 3 (v:=Z (HI 4).2) rfl
   go_wp2_with fail
   exact bodyPost_ret (v:=.tuple #[.agg #[Z (LO 4).1,Z (LO 4).2,Z (HI 4).1,Z (HI 4).2],.int .i64 0]) (by simp [results,Tryz.results110, go_sem,z0,z1,z2,z3]) rfl ⟨by rcases HVv.o with ⟨_,e⟩ | ⟨⟨j,hj,h⟩,_⟩;exact congrArg Ending.returned e.symm;exact absurd (HALL.o j hj) h,(((u.setCell (hb 0) _).setCell (hb 1) _).setCell (hb 2) _).setCell (hb 3) _⟩
  ·have hk3:k<4:=by omega
   have hki:(k:Int)<4:=by omega
   have hki0:(0:Int)≤(k:Int):=by omega
   have hw1:IntKind.i64.wrap ((k:Int)+1)=(k:Int)+1:=by simp [IntKind.wrap,IntKind.signed,IntKind.bits];omega
   go_upto_region 5 with fail
   go_cut [10] from 19 to 27 (fun s wx=>∃ bq:Nat,w.heap.size+1+1+1<bq∧s = .pointer (some ⟨bq,0,none⟩)∧wx.heap[bq]? = some (O #[Z (X (k / 2)).1,Z (X (k / 2)).2] 23 (0,0))∧wx.heap[w.heap.size]? = some (O #[Z (X 0).1,Z (X 0).2,Z (X 1).1,Z (X 1).2] 25 (0,0))∧wx.heap[w.heap.size+1]? = some (O #[Z (Y 0).1,Z (Y 0).2,Z (Y 1).1,Z (Y 1).2] 25 (0,0))∧wx.heap[w.heap.size+1+1]? = some (O #[Z ⟨#[]⟩,Z ⟨#[]⟩,Z ⟨#[]⟩,Z ⟨#[]⟩] 25 (0,0))∧wx.heap[w.heap.size+1+1+1]? = some (O #[Z (LO k).1,Z (LO k).2,Z (HI k).1,Z (HI k).2] 25 (0,0))∧Below w.heap.size w wx)
   case first =>
    have hlt:=(Array.getElem?_eq_some_iff.1 n_o).1
    obtain rfl | rfl | rfl | rfl:k=0∨k=1∨k=2∨k=3:=by omega
    ·have c_x0:=lcell n_x 0 (v:=Z (X 0).1) rfl
     have c_x1:=lcell n_x 1 (v:=Z (X 0).2) rfl
     have c_x2:=lcell n_x 2 (v:=Z (X 1).1) rfl
     have c_x3:=lcell n_x 3 (v:=Z (X 1).2) rfl
     have g:=below2 wr (O #[Z (X 0).1,Z (X 0).2,Z (X 1).1,Z (X 1).2] 23) (O #[Z (X 0).1,Z (X 0).2] 23)
     have n_z:=(news2 wr (O #[Z (X 0).1,Z (X 0).2,Z (X 1).1,Z (X 1).2] 23) (O #[Z (X 0).1,Z (X 0).2] 23)).2
     go_wp2_with fail
     go_meet
     exact ⟨_,(by omega),rfl,n_z,lkeep n_x g,lkeep n_y g,lkeep n_r g,lkeep n_o g,u.trans (g.mono u.size)⟩
    ·have c_x0:=lcell n_x 0 (v:=Z (X 0).1) rfl
     have c_x1:=lcell n_x 1 (v:=Z (X 0).2) rfl
     have c_x2:=lcell n_x 2 (v:=Z (X 1).1) rfl
     have c_x3:=lcell n_x 3 (v:=Z (X 1).2) rfl
     have g:=below2 wr (O #[Z (X 0).1,Z (X 0).2,Z (X 1).1,Z (X 1).2] 23) (O #[Z (X 0).1,Z (X 0).2] 23)
     have n_z:=(news2 wr (O #[Z (X 0).1,Z (X 0).2,Z (X 1).1,Z (X 1).2] 23) (O #[Z (X 0).1,Z (X 0).2] 23)).2
     go_wp2_with fail
     go_meet
     exact ⟨_,(by omega),rfl,n_z,lkeep n_x g,lkeep n_y g,lkeep n_r g,lkeep n_o g,u.trans (g.mono u.size)⟩
    ·have c_x0:=lcell n_x 0 (v:=Z (X 0).1) rfl
     have c_x1:=lcell n_x 1 (v:=Z (X 0).2) rfl
     have c_x2:=lcell n_x 2 (v:=Z (X 1).1) rfl
     have c_x3:=lcell n_x 3 (v:=Z (X 1).2) rfl
     have g:=below2 wr (O #[Z (X 0).1,Z (X 0).2,Z (X 1).1,Z (X 1).2] 23) (O #[Z (X 1).1,Z (X 1).2] 23)
     have n_z:=(news2 wr (O #[Z (X 0).1,Z (X 0).2,Z (X 1).1,Z (X 1).2] 23) (O #[Z (X 1).1,Z (X 1).2] 23)).2
     go_wp2_with fail
     go_meet
     exact ⟨_,(by omega),rfl,n_z,lkeep n_x g,lkeep n_y g,lkeep n_r g,lkeep n_o g,u.trans (g.mono u.size)⟩
    ·have c_x0:=lcell n_x 0 (v:=Z (X 0).1) rfl
     have c_x1:=lcell n_x 1 (v:=Z (X 0).2) rfl
     have c_x2:=lcell n_x 2 (v:=Z (X 1).1) rfl
     have c_x3:=lcell n_x 3 (v:=Z (X 1).2) rfl
     have g:=below2 wr (O #[Z (X 0).1,Z (X 0).2,Z (X 1).1,Z (X 1).2] 23) (O #[Z (X 1).1,Z (X 1).2] 23)
     have n_z:=(news2 wr (O #[Z (X 0).1,Z (X 0).2,Z (X 1).1,Z (X 1).2] 23) (O #[Z (X 1).1,Z (X 1).2] 23)).2
     go_wp2_with fail
     go_meet
     exact ⟨_,(by omega),rfl,n_z,lkeep n_x g,lkeep n_y g,lkeep n_r g,lkeep n_o g,u.trans (g.mono u.size)⟩
   obtain ⟨b_p,lt_p,rfl,n_p',n_x,n_y,n_r,n_o,u⟩:=hcut
   have n_p:=n_p'
   clear n_p'
   obtain ⟨V_p,hv⟩:∃ v,v=wc:=⟨_,rfl⟩
   rw [←hv] at n_x n_y n_r n_o n_p u
   go_upto_region 6 with fail
   rw [←hv]
   clear hv
   go_cut [11] from 28 to 36 (fun s wx=>∃ bq:Nat,w.heap.size+1+1+1<bq∧s = .pointer (some ⟨bq,0,none⟩)∧wx.heap[bq]? = some (O #[Z (Y (k % 2)).1,Z (Y (k % 2)).2] 23 (0,0))∧wx.heap[w.heap.size]? = some (O #[Z (X 0).1,Z (X 0).2,Z (X 1).1,Z (X 1).2] 25 (0,0))∧wx.heap[w.heap.size+1]? = some (O #[Z (Y 0).1,Z (Y 0).2,Z (Y 1).1,Z (Y 1).2] 25 (0,0))∧wx.heap[w.heap.size+1+1]? = some (O #[Z ⟨#[]⟩,Z ⟨#[]⟩,Z ⟨#[]⟩,Z ⟨#[]⟩] 25 (0,0))∧wx.heap[w.heap.size+1+1+1]? = some (O #[Z (LO k).1,Z (LO k).2,Z (HI k).1,Z (HI k).2] 25 (0,0))∧wx.heap[b_p]? = some (O #[Z (X (k / 2)).1,Z (X (k / 2)).2] 23 (0,0))∧Below w.heap.size w wx)
   case first =>
    have hlt:=(Array.getElem?_eq_some_iff.1 n_o).1
    obtain rfl | rfl | rfl | rfl:k=0∨k=1∨k=2∨k=3:=by omega
    ·have c_y0:=lcell n_y 0 (v:=Z (Y 0).1) rfl
     have c_y1:=lcell n_y 1 (v:=Z (Y 0).2) rfl
     have c_y2:=lcell n_y 2 (v:=Z (Y 1).1) rfl
     have c_y3:=lcell n_y 3 (v:=Z (Y 1).2) rfl
     have g:=below2 V_p (O #[Z (Y 0).1,Z (Y 0).2,Z (Y 1).1,Z (Y 1).2] 23) (O #[Z (Y 0).1,Z (Y 0).2] 23)
     have n_z:=(news2 V_p (O #[Z (Y 0).1,Z (Y 0).2,Z (Y 1).1,Z (Y 1).2] 23) (O #[Z (Y 0).1,Z (Y 0).2] 23)).2
     go_wp2_with fail
     go_meet
     exact ⟨_,(by omega),rfl,n_z,lkeep n_x g,lkeep n_y g,lkeep n_r g,lkeep n_o g,lkeep n_p g,u.trans (g.mono u.size)⟩
    ·have c_y0:=lcell n_y 0 (v:=Z (Y 0).1) rfl
     have c_y1:=lcell n_y 1 (v:=Z (Y 0).2) rfl
     have c_y2:=lcell n_y 2 (v:=Z (Y 1).1) rfl
     have c_y3:=lcell n_y 3 (v:=Z (Y 1).2) rfl
     have g:=below2 V_p (O #[Z (Y 0).1,Z (Y 0).2,Z (Y 1).1,Z (Y 1).2] 23) (O #[Z (Y 1).1,Z (Y 1).2] 23)
     have n_z:=(news2 V_p (O #[Z (Y 0).1,Z (Y 0).2,Z (Y 1).1,Z (Y 1).2] 23) (O #[Z (Y 1).1,Z (Y 1).2] 23)).2
     go_wp2_with fail
     go_meet
     exact ⟨_,(by omega),rfl,n_z,lkeep n_x g,lkeep n_y g,lkeep n_r g,lkeep n_o g,lkeep n_p g,u.trans (g.mono u.size)⟩
    ·have c_y0:=lcell n_y 0 (v:=Z (Y 0).1) rfl
     have c_y1:=lcell n_y 1 (v:=Z (Y 0).2) rfl
     have c_y2:=lcell n_y 2 (v:=Z (Y 1).1) rfl
     have c_y3:=lcell n_y 3 (v:=Z (Y 1).2) rfl
     have g:=below2 V_p (O #[Z (Y 0).1,Z (Y 0).2,Z (Y 1).1,Z (Y 1).2] 23) (O #[Z (Y 0).1,Z (Y 0).2] 23)
     have n_z:=(news2 V_p (O #[Z (Y 0).1,Z (Y 0).2,Z (Y 1).1,Z (Y 1).2] 23) (O #[Z (Y 0).1,Z (Y 0).2] 23)).2
     go_wp2_with fail
     go_meet
     exact ⟨_,(by omega),rfl,n_z,lkeep n_x g,lkeep n_y g,lkeep n_r g,lkeep n_o g,lkeep n_p g,u.trans (g.mono u.size)⟩
    ·have c_y0:=lcell n_y 0 (v:=Z (Y 0).1) rfl
     have c_y1:=lcell n_y 1 (v:=Z (Y 0).2) rfl
     have c_y2:=lcell n_y 2 (v:=Z (Y 1).1) rfl
     have c_y3:=lcell n_y 3 (v:=Z (Y 1).2) rfl
     have g:=below2 V_p (O #[Z (Y 0).1,Z (Y 0).2,Z (Y 1).1,Z (Y 1).2] 23) (O #[Z (Y 1).1,Z (Y 1).2] 23)
     have n_z:=(news2 V_p (O #[Z (Y 0).1,Z (Y 0).2,Z (Y 1).1,Z (Y 1).2] 23) (O #[Z (Y 1).1,Z (Y 1).2] 23)).2
     go_wp2_with fail
     go_meet
     exact ⟨_,(by omega),rfl,n_z,lkeep n_x g,lkeep n_y g,lkeep n_r g,lkeep n_o g,lkeep n_p g,u.trans (g.mono u.size)⟩
   obtain ⟨b_q,lt_q,rfl,n_q',n_x,n_y,n_r,n_o,n_p,u⟩:=hcut
   have n_q:=n_q'
   clear n_q'
   obtain ⟨V_q,hv⟩:∃ v,v=wc:=⟨_,rfl⟩
   rw [←hv] at n_x n_y n_r n_o n_p n_q u
   go_upto_region 7 with fail
   rw [←hv]
   clear hv
   have c_p0:=lcell n_p 0 (v:=Z (X (k / 2)).1) rfl
   have c_p1:=lcell n_p 1 (v:=Z (X (k / 2)).2) rfl
   have c_q0:=lcell n_q 0 (v:=Z (Y (k % 2)).1) rfl
   have c_q1:=lcell n_q 1 (v:=Z (Y (k % 2)).2) rfl
   go_wp2_with fail
   refine (HM.o k hk3 _).mono ?_
   rintro e v1 ⟨rfl,g⟩
   replace u:=u.trans (g.mono u.size)
   replace n_x:=lkeep n_x g
   replace n_y:=lkeep n_y g
   replace n_r:=lkeep n_r g
   replace n_o:=lkeep n_o g
   replace n_p:=lkeep n_p g
   replace n_q:=lkeep n_q g
   clear c_p0 c_p1 c_q0 c_q1
   clear g
   have lt_v:w.heap.size+1+1+1<v1.heap.size:=(Array.getElem?_eq_some_iff.1 n_o).1
   have g:=(Below.refl v1.heap.size v1).alloc (Nat.le_refl _) (O #[Z (VM k).1,Z (VM k).2] 23)
   have n_v:=World.alloc_heap_new v1 (O #[Z (VM k).1,Z (VM k).2] 23)
   replace u:=u.trans (g.mono u.size)
   replace n_x:=lkeep n_x g
   replace n_y:=lkeep n_y g
   replace n_r:=lkeep n_r g
   replace n_o:=lkeep n_o g
   replace n_p:=lkeep n_p g
   replace n_q:=lkeep n_q g
   clear g
   have c_p0:=lcell n_p 0 (v:=Z (X (k / 2)).1) rfl
   have c_p1:=lcell n_p 1 (v:=Z (X (k / 2)).2) rfl
   have c_q0:=lcell n_q 0 (v:=Z (Y (k % 2)).1) rfl
   have c_q1:=lcell n_q 1 (v:=Z (Y (k % 2)).2) rfl
   go_wp2_with fail
   generalize v1.alloc (O #[Z (VM k).1,Z (VM k).2] 23)=V_v at *
   generalize v1.heap.size=b_v at *
   refine (HD.o k hk3 _).mono ?_
   rintro e v2 ⟨rfl,g⟩
   replace u:=u.trans (g.mono u.size)
   replace n_x:=lkeep n_x g
   replace n_y:=lkeep n_y g
   replace n_r:=lkeep n_r g
   replace n_o:=lkeep n_o g
   replace n_p:=lkeep n_p g
   replace n_q:=lkeep n_q g
   replace n_v:=lkeep n_v g
   clear c_p0 c_p1 c_q0 c_q1
   clear g
   clear n_p n_q
   have k0':=lcell n_v 0 (v:=Z (VM k).1) rfl
   have f0:=lfree n_v 0
   have k1':=lcell n_v 1 (v:=Z (VM k).2) rfl
   have f1:=lfree n_v 1
   go_upto_region 10 with fail
   have m_v:=box2_setx (x:=Z (V k).1) (y:=Z (V k).2) n_v
   have m_x:((v2.setCell ⟨b_v,0,none⟩ (Z (V k).1)).setCell ⟨b_v,1,none⟩ (Z (V k).2)).heap[_]? = _:=kept2b (show w.heap.size≠b_v by omega) n_x
   have m_y:((v2.setCell ⟨b_v,0,none⟩ (Z (V k).1)).setCell ⟨b_v,1,none⟩ (Z (V k).2)).heap[_]? = _:=kept2b (show w.heap.size+1≠b_v by omega) n_y
   have m_r:((v2.setCell ⟨b_v,0,none⟩ (Z (V k).1)).setCell ⟨b_v,1,none⟩ (Z (V k).2)).heap[_]? = _:=kept2b (show w.heap.size+1+1≠b_v by omega) n_r
   have m_o:((v2.setCell ⟨b_v,0,none⟩ (Z (V k).1)).setCell ⟨b_v,1,none⟩ (Z (V k).2)).heap[_]? = _:=kept2b (show w.heap.size+1+1+1≠b_v by omega) n_o
   replace u:=(u.setCell (show w.heap.size≤(⟨b_v,0,none⟩:Addr).block from by show w.heap.size≤b_v;omega) (Z (V k).1)).setCell (show w.heap.size≤(⟨b_v,1,none⟩:Addr).block from by show w.heap.size≤b_v;omega) (Z (V k).2)
   clear n_x n_y n_r n_o n_v k0' k1' f0 f1
   have n_x:=m_x
   have n_y:=m_y
   have n_r:=m_r
   have n_o:=m_o
   have n_v:=m_v
   clear m_x m_y m_r m_o m_v
   generalize ((v2.setCell ⟨b_v,0,none⟩ (Z (V k).1)).setCell ⟨b_v,1,none⟩ (Z (V k).2))=V_w at *
   by_cases hC:C k=0
   ·have RV:Shut _:=⟨HR.o k hk3 hC⟩
    generalize hck:C k=ck at *
    have HCK:Shut _:=⟨hck⟩
    subst hC
    clear hck
    go_upto_region 12 with fail
    go_cut [61] from 53 to 61 (fun s wx=>s = .bool (decide (k=0∨K (V k) (LO k)<0))∧wx.heap[w.heap.size]? = some (O #[Z (X 0).1,Z (X 0).2,Z (X 1).1,Z (X 1).2] 25 (0,0))∧wx.heap[w.heap.size+1]? = some (O #[Z (Y 0).1,Z (Y 0).2,Z (Y 1).1,Z (Y 1).2] 25 (0,0))∧wx.heap[w.heap.size+1+1]? = some (O #[Z ⟨#[]⟩,Z ⟨#[]⟩,Z ⟨#[]⟩,Z ⟨#[]⟩] 25 (0,0))∧wx.heap[w.heap.size+1+1+1]? = some (O #[Z (LO k).1,Z (LO k).2,Z (HI k).1,Z (HI k).2] 25 (0,0))∧wx.heap[b_v]? = some (O #[Z (V k).1,Z (V k).2] 23 (0,0))∧Below w.heap.size w wx)
    case first =>
     by_cases h0:k=0
     ·subst h0
      go_wp2_with fail
      go_meet
      exact ⟨by simp,n_x,n_y,n_r,n_o,n_v,u⟩
     ·have hk0':¬(k:Int)=0:=by omega
      have hkb:((k:Int) == 0)=false:=beq_eq_false_iff_ne.2 hk0'
      have hin:R (LO k):=by obtain ⟨j,rfl⟩:∃ j,k=j+1:=⟨k-1,by omega⟩;rw [HLO.o];exact loF_in K V R j (fun i hi=>HR.o i (by omega) (HALL.o i (by omega)))
      have cK:=HK.o (V k) (LO k) RV.o hin
      have c_v0:=lcell n_v 0 (v:=Z (V k).1) rfl
      have c_v1:=lcell n_v 1 (v:=Z (V k).2) rfl
      have c_o0:=lcell n_o 0 (v:=Z (LO k).1) rfl
      have c_o1:=lcell n_o 1 (v:=Z (LO k).2) rfl
      go_wp2_with fail
      refine (cK _).mono ?_
      rintro e v3 ⟨rfl,g⟩
      replace u:=u.trans (g.mono u.size)
      replace n_x:=lkeep n_x g
      replace n_y:=lkeep n_y g
      replace n_r:=lkeep n_r g
      replace n_o:=lkeep n_o g
      replace n_v:=lkeep n_v g
      clear c_v0 c_v1 c_o0 c_o1
      clear g
      have hdd:decide (k=0∨K (V k) (LO k)<0)=decide (K (V k) (LO k)<0):=by rw [decide_eq_decide];exact ⟨fun h=>h.resolve_left h0,Or.inr⟩
      go_wp2_with fail
      go_meet
      exact ⟨by rw [hdd],n_x,n_y,n_r,n_o,n_v,u⟩
    obtain ⟨rfl,n_x,n_y,n_r,n_o,n_v,u⟩:=hcut
    have hst:LO (k+1)=if k=0∨K (V k) (LO k)<0 then V k else LO k:=by rw [HLO.o];rfl
    have HST:Shut _:=⟨hst⟩
    clear hst
    go_upto_if 61 with fail
    obtain ⟨V_t0,hv⟩:∃ v,v=wc:=⟨_,rfl⟩
    rw [←hv] at n_x n_y n_r n_o n_v u
    rw [←hv]
    clear hv
    go_cut [] from 61 to 63 (fun wx=>wx.heap[w.heap.size]? = some (O #[Z (X 0).1,Z (X 0).2,Z (X 1).1,Z (X 1).2] 25 (0,0))∧wx.heap[w.heap.size+1]? = some (O #[Z (Y 0).1,Z (Y 0).2,Z (Y 1).1,Z (Y 1).2] 25 (0,0))∧wx.heap[w.heap.size+1+1]? = some (O #[Z ⟨#[]⟩,Z ⟨#[]⟩,Z ⟨#[]⟩,Z ⟨#[]⟩] 25 (0,0))∧wx.heap[w.heap.size+1+1+1]? = some (O #[Z (LO (k+1)).1,Z (LO (k+1)).2,Z (HI k).1,Z (HI k).2] 25 (0,0))∧wx.heap[b_v]? = some (O #[Z (V k).1,Z (V k).2] 23 (0,0))∧Below w.heap.size w wx)
    case first =>
     by_cases hc:k=0∨K (V k) (LO k)<0
     ·have hcd:=decide_eq_true hc
      have c_v0:=lcell n_v 0 (v:=Z (V k).1) rfl
      have c_v1:=lcell n_v 1 (v:=Z (V k).2) rfl
      have k0':=lcell n_o 0 (v:=Z (LO k).1) rfl
      have f0:=lfree n_o 0
      have k1':=lcell n_o 1 (v:=Z (LO k).2) rfl
      have f1:=lfree n_o 1
      have m_o:=box4_lob (x:=Z (V k).1) (y:=Z (V k).2) n_o
      have m_x:((V_t0.setCell ⟨w.heap.size+1+1+1,0,none⟩ (Z (V k).1)).setCell ⟨w.heap.size+1+1+1,1,none⟩ (Z (V k).2)).heap[_]? = _:=kept2b (show w.heap.size≠w.heap.size+1+1+1 by omega) n_x
      have m_y:((V_t0.setCell ⟨w.heap.size+1+1+1,0,none⟩ (Z (V k).1)).setCell ⟨w.heap.size+1+1+1,1,none⟩ (Z (V k).2)).heap[_]? = _:=kept2b (show w.heap.size+1≠w.heap.size+1+1+1 by omega) n_y
      have m_r:((V_t0.setCell ⟨w.heap.size+1+1+1,0,none⟩ (Z (V k).1)).setCell ⟨w.heap.size+1+1+1,1,none⟩ (Z (V k).2)).heap[_]? = _:=kept2b (show w.heap.size+1+1≠w.heap.size+1+1+1 by omega) n_r
      have m_v:((V_t0.setCell ⟨w.heap.size+1+1+1,0,none⟩ (Z (V k).1)).setCell ⟨w.heap.size+1+1+1,1,none⟩ (Z (V k).2)).heap[_]? = _:=kept2b (show b_v≠w.heap.size+1+1+1 by omega) n_v
      go_wp2_with fail
      go_meet
      exact ⟨m_x,m_y,m_r,by rw [HST.o,if_pos hc];exact m_o,m_v,(u.setCell (show w.heap.size≤(⟨w.heap.size+1+1+1,0,none⟩:Addr).block from by show w.heap.size≤w.heap.size+1+1+1;omega) _).setCell (show w.heap.size≤(⟨w.heap.size+1+1+1,1,none⟩:Addr).block from by show w.heap.size≤w.heap.size+1+1+1;omega) _⟩
     ·have hcd:=decide_eq_false hc
      go_wp2_with fail
      go_meet
      exact ⟨n_x,n_y,n_r,by rw [HST.o,if_neg hc];exact n_o,n_v,u⟩
    obtain ⟨n_x,n_y,n_r,n_o,n_v,u⟩:=hcut
    clear HST
    obtain ⟨V_s0,hv⟩:∃ v,v=wc:=⟨_,rfl⟩
    rw [←hv] at n_x n_y n_r n_o n_v u
    go_upto_region 14 with fail
    rw [←hv]
    clear hv
    go_cut [72] from 64 to 72 (fun s wx=>s = .bool (decide (k=0∨0<K (V k) (HI k)))∧wx.heap[w.heap.size]? = some (O #[Z (X 0).1,Z (X 0).2,Z (X 1).1,Z (X 1).2] 25 (0,0))∧wx.heap[w.heap.size+1]? = some (O #[Z (Y 0).1,Z (Y 0).2,Z (Y 1).1,Z (Y 1).2] 25 (0,0))∧wx.heap[w.heap.size+1+1]? = some (O #[Z ⟨#[]⟩,Z ⟨#[]⟩,Z ⟨#[]⟩,Z ⟨#[]⟩] 25 (0,0))∧wx.heap[w.heap.size+1+1+1]? = some (O #[Z (LO (k+1)).1,Z (LO (k+1)).2,Z (HI k).1,Z (HI k).2] 25 (0,0))∧wx.heap[b_v]? = some (O #[Z (V k).1,Z (V k).2] 23 (0,0))∧Below w.heap.size w wx)
    case first =>
     by_cases h0:k=0
     ·subst h0
      go_wp2_with fail
      go_meet
      exact ⟨by simp,n_x,n_y,n_r,n_o,n_v,u⟩
     ·have hk0':¬(k:Int)=0:=by omega
      have hkb:((k:Int) == 0)=false:=beq_eq_false_iff_ne.2 hk0'
      have hin:R (HI k):=by obtain ⟨j,rfl⟩:∃ j,k=j+1:=⟨k-1,by omega⟩;rw [HHI.o];exact hiF_in K V R j (fun i hi=>HR.o i (by omega) (HALL.o i (by omega)))
      have cK:=HK.o (V k) (HI k) RV.o hin
      have c_v0:=lcell n_v 0 (v:=Z (V k).1) rfl
      have c_v1:=lcell n_v 1 (v:=Z (V k).2) rfl
      have c_o2:=lcell n_o 2 (v:=Z (HI k).1) rfl
      have c_o3:=lcell n_o 3 (v:=Z (HI k).2) rfl
      go_wp2_with fail
      refine (cK _).mono ?_
      rintro e v3 ⟨rfl,g⟩
      replace u:=u.trans (g.mono u.size)
      replace n_x:=lkeep n_x g
      replace n_y:=lkeep n_y g
      replace n_r:=lkeep n_r g
      replace n_o:=lkeep n_o g
      replace n_v:=lkeep n_v g
      clear c_v0 c_v1 c_o2 c_o3
      clear g
      have hdd:decide (k=0∨0<K (V k) (HI k))=decide (0<K (V k) (HI k)):=by rw [decide_eq_decide];exact ⟨fun h=>h.resolve_left h0,Or.inr⟩
      go_wp2_with fail
      go_meet
      exact ⟨by rw [hdd],n_x,n_y,n_r,n_o,n_v,u⟩
    obtain ⟨rfl,n_x,n_y,n_r,n_o,n_v,u⟩:=hcut
    have hst:HI (k+1)=if k=0∨0<K (V k) (HI k) then V k else HI k:=by rw [HHI.o];rfl
    have HST:Shut _:=⟨hst⟩
    clear hst
    go_upto_if 72 with fail
    obtain ⟨V_t1,hv⟩:∃ v,v=wc:=⟨_,rfl⟩
    rw [←hv] at n_x n_y n_r n_o n_v u
    rw [←hv]
    clear hv
    by_cases hc:k=0∨0<K (V k) (HI k)
    ·have hcd:=decide_eq_true hc
     have c_v0:=lcell n_v 0 (v:=Z (V k).1) rfl
     have c_v1:=lcell n_v 1 (v:=Z (V k).2) rfl
     have k2':=lcell n_o 2 (v:=Z (HI k).1) rfl
     have f2:=lfree n_o 2
     have k3':=lcell n_o 3 (v:=Z (HI k).2) rfl
     have f3:=lfree n_o 3
     have m_o:=box4_hib (x:=Z (V k).1) (y:=Z (V k).2) n_o
     have m_x:((V_t1.setCell ⟨w.heap.size+1+1+1,2,none⟩ (Z (V k).1)).setCell ⟨w.heap.size+1+1+1,3,none⟩ (Z (V k).2)).heap[_]? = _:=kept2b (show w.heap.size≠w.heap.size+1+1+1 by omega) n_x
     have m_y:((V_t1.setCell ⟨w.heap.size+1+1+1,2,none⟩ (Z (V k).1)).setCell ⟨w.heap.size+1+1+1,3,none⟩ (Z (V k).2)).heap[_]? = _:=kept2b (show w.heap.size+1≠w.heap.size+1+1+1 by omega) n_y
     have m_r:((V_t1.setCell ⟨w.heap.size+1+1+1,2,none⟩ (Z (V k).1)).setCell ⟨w.heap.size+1+1+1,3,none⟩ (Z (V k).2)).heap[_]? = _:=kept2b (show w.heap.size+1+1≠w.heap.size+1+1+1 by omega) n_r
     have m_v:((V_t1.setCell ⟨w.heap.size+1+1+1,2,none⟩ (Z (V k).1)).setCell ⟨w.heap.size+1+1+1,3,none⟩ (Z (V k).2)).heap[_]? = _:=kept2b (show b_v≠w.heap.size+1+1+1 by omega) n_v
     go_wp2_with fail
     go_roundw
     case rel=>exact ⟨k+1,by omega,by first | rfl | go_num | simp,⟨fun j hj=>by rcases Nat.lt_or_ge j k with h | h;exact HALL.o j h;obtain rfl:j=k:=(by omega);exact HCK.o,m_x,m_y,m_r,by rw [HST.o,if_pos hc];exact m_o,(u.setCell (show w.heap.size≤(⟨w.heap.size+1+1+1,2,none⟩:Addr).block from by show w.heap.size≤w.heap.size+1+1+1;omega) _).setCell (show w.heap.size≤(⟨w.heap.size+1+1+1,3,none⟩:Addr).block from by show w.heap.size≤w.heap.size+1+1+1;omega) _⟩⟩
     case measure=>simp [intOf];omega
    ·have hcd:=decide_eq_false hc
     go_wp2_with fail
     go_roundw
     case rel=>exact ⟨k+1,by omega,by first | rfl | go_num | simp,⟨fun j hj=>by rcases Nat.lt_or_ge j k with h | h;exact HALL.o j h;obtain rfl:j=k:=(by omega);exact HCK.o,n_x,n_y,n_r,by rw [HST.o,if_neg hc];exact n_o,u⟩⟩
     case measure=>simp [intOf];omega
   ·have hne:(C k == 0)=false:=beq_eq_false_iff_ne.2 hC
    have hne2:(C k != 0)=true:=bne_iff_ne.2 hC
    have hb:∀ i,w.heap.size≤(⟨w.heap.size+1+1,i,none⟩:Addr).block:=fun _=>by show w.heap.size≤w.heap.size+1+1;omega
    have s_r:=box4_set (x:=Z ⟨#[]⟩) (y:=Z ⟨#[]⟩) (z:=Z ⟨#[]⟩) (t:=Z ⟨#[]⟩) n_r
    have k0':=lcell n_r 0 (v:=Z ⟨#[]⟩) rfl
    have f0:=lfree n_r 0
    have k1':=lcell n_r 1 (v:=Z ⟨#[]⟩) rfl
    have f1:=lfree n_r 1
    have k2':=lcell n_r 2 (v:=Z ⟨#[]⟩) rfl
    have f2:=lfree n_r 2
    have k3':=lcell n_r 3 (v:=Z ⟨#[]⟩) rfl
    have f3:=lfree n_r 3
    have z0:=lcell s_r 0 (v:=Z ⟨#[]⟩) rfl
    have z1:=lcell s_r 1 (v:=Z ⟨#[]⟩) rfl
    have z2:=lcell s_r 2 (v:=Z ⟨#[]⟩) rfl
    have z3:=lcell s_r 3 (v:=Z ⟨#[]⟩) rfl
    go_wp2_with fail
    exact bodyPost_ret (v:=.tuple #[.agg #[Z ⟨#[]⟩,Z ⟨#[]⟩,Z ⟨#[]⟩,Z ⟨#[]⟩],.int .i64 50]) (by simp [results,Tryz.results110, go_sem,z0,z1,z2,z3]) rfl ⟨by rcases HVv.o with ⟨h,_⟩ | ⟨_,e⟩;exact absurd (h k hk3) hC;exact congrArg Ending.returned e.symm,(((u.setCell (hb 0) _).setCell (hb 1) _).setCell (hb 2) _).setCell (hb 3) _⟩
end En
end
end Go.Proofs.YtbfonkabmehlmaaGreatDoor
