/-
  The walk of EnclosureMatchesReference.
-/
import Derived.Test.YtbfonkabmehlmaaGreatDoorY6E3
import Derived.Test.YtbfonkabmehlmaaGreatDoorY6D3
import Derived.Deep.DeepCutAuto
set_option maxRecDepth 1000000
set_option maxHeartbeats 40000000
open Go.Value renaming string→Z
open Go.Obj renaming cells→O
open List renaming getElem_toArray→J1,getElem_cons_zero→J2,getElem_cons_succ→J3,setIfInBounds_toArray→J4,set_cons_zero→J5,set_cons_succ→J6
namespace Go.Proofs.YtbfonkabmehlmaaGreatDoor
namespace En
open Go.RowKit Go.Extern.Stop Go.Stop Go.Extern
open Go.Proofs.YtbfonkabmehlmaaGreatDoor.Nm Go.Proofs.YtbfonkabmehlmaaGreatDoor.Rt
open N10 (Two)
theorem ne_abq {a z:Nat} (h:a<z):¬(a=z)∧¬(z=a):=by omega
theorem valid_some {o:Option Rat} (h:FitO o):∃ b,Ret 13 #[.agg #[Z (sn o),Z (sd o)]] (.bool b):=⟨_,two_VR _ _ h.sizes.1 h.sizes.2⟩
theorem subQ_FitO {p q:Rat}:FitO (subQ p q):=⟨fun _ hr=>FitQ.subQ hr⟩
theorem match_walk (a:Addr) (a0 a1 a2 a3 b0 b1 b2 b3:ByteArray) (x0 x1 x2 x3 y0 y1 y2 y3 z0 z1 z2 z3 pl:Int) (hx0:In64 x0) (hx1:In64 x1) (hx2:In64 x2) (hx3:In64 x3) (hy0:In64 y0) (hy1:In64 y1) (hy2:In64 y2) (hy3:In64 y3) (hz0:In64 z0) (hz1:In64 z1) (hz2:In64 z2) (hz3:In64 z3) (hpl:In64 pl) (w:World) (hv:Ref a w) :
  Calls Tryz.prog 3 #[.agg #[Z a0,Z a1,Z a2,Z a3],.agg #[Z b0,Z b1,Z b2,Z b3],.agg #[.int .i64 x0,.int .i64 x1,.int .i64 x2,.int .i64 x3],.agg #[.int .i64 y0,.int .i64 y1,.int .i64 y2,.int .i64 y3],.agg #[.int .i64 z0,.int .i64 z1,.int .i64 z2,.int .i64 z3],.int .i64 pl] w fun e w'=>e = .returned (.bool true)∧Below w.heap.size w w':=by
 have HV:Shut _:=⟨hv⟩
 have CX:Shut _:=⟨fun W=>Made_any x0 x1 x2 x3 hx0 hx1 hx2 hx3 W⟩
 have CY:Shut _:=⟨fun W=>Made_any y0 y1 y2 y3 hy0 hy1 hy2 hy3 W⟩
 have CL:Shut _:=⟨fun W=>Long_any z0 z1 z2 z3 hz0 hz1 hz2 hz3 W⟩
 have CP:Shut _:=⟨fun W=>pickE_any pl 31 hpl.1 hpl.2 (by decide) (by decide) W⟩
 have CA:=shortE_any a0 a1 a2 a3
 have CB:=shortE_any b0 b1 b2 b3
 have SA:Shut (Sz _ _ _ _):=⟨⟨cut_size a0,cut_size a1,cut_size a2,cut_size a3⟩⟩
 have SB:Shut (Sz _ _ _ _):=⟨⟨cut_size b0,cut_size b1,cut_size b2,cut_size b3⟩⟩
 generalize hc_a0:a0.extract 0 (min a0.size 210)=a0' at *
 generalize hc_a1:a1.extract 0 (min a1.size 210)=a1' at *
 generalize hc_a2:a2.extract 0 (min a2.size 210)=a2' at *
 generalize hc_a3:a3.extract 0 (min a3.size 210)=a3' at *
 generalize hc_b0:b0.extract 0 (min b0.size 210)=b0' at *
 generalize hc_b1:b1.extract 0 (min b1.size 210)=b1' at *
 generalize hc_b2:b2.extract 0 (min b2.size 210)=b2' at *
 generalize hc_b3:b3.extract 0 (min b3.size 210)=b3' at *
 have DA:Shut _:=⟨CA⟩
 have DB:Shut _:=⟨CB⟩
 clear hv CA CB hx0 hx1 hx2 hx3 hy0 hy1 hy2 hy3 hz0 hz1 hz2 hz3 hpl hc_a0 hc_a1 hc_a2 hc_a3 hc_b0 hc_b1 hc_b2 hc_b3
 obtain ⟨n_a,n_b,n_x,n_y,n_z⟩:=news5 w (O #[Z a0,Z a1,Z a2,Z a3] 25) (O #[Z b0,Z b1,Z b2,Z b3] 25) (O #[.int .i64 x0,.int .i64 x1,.int .i64 x2,.int .i64 x3] 26) (O #[.int .i64 y0,.int .i64 y1,.int .i64 y2,.int .i64 y3] 26) (O #[.int .i64 z0,.int .i64 z1,.int .i64 z2,.int .i64 z3] 26)
 have u:=below5 w (O #[Z a0,Z a1,Z a2,Z a3] 25) (O #[Z b0,Z b1,Z b2,Z b3] 25) (O #[.int .i64 x0,.int .i64 x1,.int .i64 x2,.int .i64 x3] 26) (O #[.int .i64 y0,.int .i64 y1,.int .i64 y2,.int .i64 y3] 26) (O #[.int .i64 z0,.int .i64 z1,.int .i64 z2,.int .i64 z3] 26)
 go_enter Tryz.func3, Tryz.ntmps3
 go_wp2_with fail
 generalize (((((w.alloc (O #[Z a0,Z a1,Z a2,Z a3] 25)).alloc (O #[Z b0,Z b1,Z b2,Z b3] 25)).alloc (O #[.int .i64 x0,.int .i64 x1,.int .i64 x2,.int .i64 x3] 26)).alloc (O #[.int .i64 y0,.int .i64 y1,.int .i64 y2,.int .i64 y3] 26)).alloc (O #[.int .i64 z0,.int .i64 z1,.int .i64 z2,.int .i64 z3] 26))=V0 at *
 refine (sane_any a V0 (HV.o.keep u)).mono ?_
 rintro e v1 ⟨rfl,g⟩
 replace u:=u.trans (g.mono u.size)
 replace n_a:=lkeep n_a g
 replace n_b:=lkeep n_b g
 replace n_x:=lkeep n_x g
 replace n_y:=lkeep n_y g
 replace n_z:=lkeep n_z g
 clear g
 have c_a0:=lcell n_a 0 (v:=Z a0) rfl
 have c_a1:=lcell n_a 1 (v:=Z a1) rfl
 have c_a2:=lcell n_a 2 (v:=Z a2) rfl
 have c_a3:=lcell n_a 3 (v:=Z a3) rfl
 go_wp2_with fail
 refine (DA.o _).mono ?_
 rintro e v2 ⟨rfl,g⟩
 replace u:=u.trans (g.mono u.size)
 replace n_a:=lkeep n_a g
 replace n_b:=lkeep n_b g
 replace n_x:=lkeep n_x g
 replace n_y:=lkeep n_y g
 replace n_z:=lkeep n_z g
 clear c_a0 c_a1 c_a2 c_a3
 clear g
 have k0:=lcell n_a 0 (v:=Z a0) rfl
 have f0:=lfree n_a 0
 have k1:=lcell n_a 1 (v:=Z a1) rfl
 have f1:=lfree n_a 1
 have k2:=lcell n_a 2 (v:=Z a2) rfl
 have f2:=lfree n_a 2
 have k3:=lcell n_a 3 (v:=Z a3) rfl
 have f3:=lfree n_a 3
 go_upto_region 3 with fail
 have m_a:((((v2.setCell ⟨w.heap.size,0,none⟩ (Z a0')).setCell ⟨w.heap.size,1,none⟩ (Z a1')).setCell ⟨w.heap.size,2,none⟩ (Z a2')).setCell ⟨w.heap.size,3,none⟩ (Z a3')).heap[_]? = _:=box4_set (x:=Z a0') (y:=Z a1') (z:=Z a2') (t:=Z a3') n_a
 have m_b:((((v2.setCell ⟨w.heap.size,0,none⟩ (Z a0')).setCell ⟨w.heap.size,1,none⟩ (Z a1')).setCell ⟨w.heap.size,2,none⟩ (Z a2')).setCell ⟨w.heap.size,3,none⟩ (Z a3')).heap[_]? = _:=lset4 n_b (show w.heap.size+1≠w.heap.size by omega) _ _ _ _
 have m_x:((((v2.setCell ⟨w.heap.size,0,none⟩ (Z a0')).setCell ⟨w.heap.size,1,none⟩ (Z a1')).setCell ⟨w.heap.size,2,none⟩ (Z a2')).setCell ⟨w.heap.size,3,none⟩ (Z a3')).heap[_]? = _:=lset4 n_x (show w.heap.size+1+1≠w.heap.size by omega) _ _ _ _
 have m_y:((((v2.setCell ⟨w.heap.size,0,none⟩ (Z a0')).setCell ⟨w.heap.size,1,none⟩ (Z a1')).setCell ⟨w.heap.size,2,none⟩ (Z a2')).setCell ⟨w.heap.size,3,none⟩ (Z a3')).heap[_]? = _:=lset4 n_y (show w.heap.size+1+1+1≠w.heap.size by omega) _ _ _ _
 have m_z:((((v2.setCell ⟨w.heap.size,0,none⟩ (Z a0')).setCell ⟨w.heap.size,1,none⟩ (Z a1')).setCell ⟨w.heap.size,2,none⟩ (Z a2')).setCell ⟨w.heap.size,3,none⟩ (Z a3')).heap[_]? = _:=lset4 n_z (show w.heap.size+1+1+1+1≠w.heap.size by omega) _ _ _ _
 replace u:=((((u.setCell (show w.heap.size≤(⟨w.heap.size,0,none⟩:Addr).block from by show w.heap.size≤w.heap.size;omega) (Z a0')).setCell (show w.heap.size≤(⟨w.heap.size,1,none⟩:Addr).block from by show w.heap.size≤w.heap.size;omega) (Z a1')).setCell (show w.heap.size≤(⟨w.heap.size,2,none⟩:Addr).block from by show w.heap.size≤w.heap.size;omega) (Z a2')).setCell (show w.heap.size≤(⟨w.heap.size,3,none⟩:Addr).block from by show w.heap.size≤w.heap.size;omega) (Z a3'))
 clear n_a n_b n_x n_y n_z k0 k1 k2 k3 f0 f1 f2 f3
 have n_a:=m_a
 have n_b:=m_b
 have n_x:=m_x
 have n_y:=m_y
 have n_z:=m_z
 clear m_a m_b m_x m_y m_z
 generalize ((((v2.setCell ⟨w.heap.size,0,none⟩ (Z a0')).setCell ⟨w.heap.size,1,none⟩ (Z a1')).setCell ⟨w.heap.size,2,none⟩ (Z a2')).setCell ⟨w.heap.size,3,none⟩ (Z a3'))=W_a at *
 have c_b0:=lcell n_b 0 (v:=Z b0) rfl
 have c_b1:=lcell n_b 1 (v:=Z b1) rfl
 have c_b2:=lcell n_b 2 (v:=Z b2) rfl
 have c_b3:=lcell n_b 3 (v:=Z b3) rfl
 go_wp2_with fail
 refine (DB.o _).mono ?_
 rintro e v3 ⟨rfl,g⟩
 replace u:=u.trans (g.mono u.size)
 replace n_a:=lkeep n_a g
 replace n_b:=lkeep n_b g
 replace n_x:=lkeep n_x g
 replace n_y:=lkeep n_y g
 replace n_z:=lkeep n_z g
 clear c_b0 c_b1 c_b2 c_b3
 clear g
 have k0:=lcell n_b 0 (v:=Z b0) rfl
 have f0:=lfree n_b 0
 have k1:=lcell n_b 1 (v:=Z b1) rfl
 have f1:=lfree n_b 1
 have k2:=lcell n_b 2 (v:=Z b2) rfl
 have f2:=lfree n_b 2
 have k3:=lcell n_b 3 (v:=Z b3) rfl
 have f3:=lfree n_b 3
 go_upto_region 4 with fail
 have m_b:((((v3.setCell ⟨w.heap.size+1,0,none⟩ (Z b0')).setCell ⟨w.heap.size+1,1,none⟩ (Z b1')).setCell ⟨w.heap.size+1,2,none⟩ (Z b2')).setCell ⟨w.heap.size+1,3,none⟩ (Z b3')).heap[_]? = _:=box4_set (x:=Z b0') (y:=Z b1') (z:=Z b2') (t:=Z b3') n_b
 have m_a:((((v3.setCell ⟨w.heap.size+1,0,none⟩ (Z b0')).setCell ⟨w.heap.size+1,1,none⟩ (Z b1')).setCell ⟨w.heap.size+1,2,none⟩ (Z b2')).setCell ⟨w.heap.size+1,3,none⟩ (Z b3')).heap[_]? = _:=lset4 n_a (show w.heap.size≠w.heap.size+1 by omega) _ _ _ _
 have m_x:((((v3.setCell ⟨w.heap.size+1,0,none⟩ (Z b0')).setCell ⟨w.heap.size+1,1,none⟩ (Z b1')).setCell ⟨w.heap.size+1,2,none⟩ (Z b2')).setCell ⟨w.heap.size+1,3,none⟩ (Z b3')).heap[_]? = _:=lset4 n_x (show w.heap.size+1+1≠w.heap.size+1 by omega) _ _ _ _
 have m_y:((((v3.setCell ⟨w.heap.size+1,0,none⟩ (Z b0')).setCell ⟨w.heap.size+1,1,none⟩ (Z b1')).setCell ⟨w.heap.size+1,2,none⟩ (Z b2')).setCell ⟨w.heap.size+1,3,none⟩ (Z b3')).heap[_]? = _:=lset4 n_y (show w.heap.size+1+1+1≠w.heap.size+1 by omega) _ _ _ _
 have m_z:((((v3.setCell ⟨w.heap.size+1,0,none⟩ (Z b0')).setCell ⟨w.heap.size+1,1,none⟩ (Z b1')).setCell ⟨w.heap.size+1,2,none⟩ (Z b2')).setCell ⟨w.heap.size+1,3,none⟩ (Z b3')).heap[_]? = _:=lset4 n_z (show w.heap.size+1+1+1+1≠w.heap.size+1 by omega) _ _ _ _
 replace u:=((((u.setCell (show w.heap.size≤(⟨w.heap.size+1,0,none⟩:Addr).block from by show w.heap.size≤w.heap.size+1;omega) (Z b0')).setCell (show w.heap.size≤(⟨w.heap.size+1,1,none⟩:Addr).block from by show w.heap.size≤w.heap.size+1;omega) (Z b1')).setCell (show w.heap.size≤(⟨w.heap.size+1,2,none⟩:Addr).block from by show w.heap.size≤w.heap.size+1;omega) (Z b2')).setCell (show w.heap.size≤(⟨w.heap.size+1,3,none⟩:Addr).block from by show w.heap.size≤w.heap.size+1;omega) (Z b3'))
 clear n_a n_b n_x n_y n_z k0 k1 k2 k3 f0 f1 f2 f3
 have n_a:=m_a
 have n_b:=m_b
 have n_x:=m_x
 have n_y:=m_y
 have n_z:=m_z
 clear m_a m_b m_x m_y m_z
 generalize ((((v3.setCell ⟨w.heap.size+1,0,none⟩ (Z b0')).setCell ⟨w.heap.size+1,1,none⟩ (Z b1')).setCell ⟨w.heap.size+1,2,none⟩ (Z b2')).setCell ⟨w.heap.size+1,3,none⟩ (Z b3'))=W_b at *
 have c_z0:=lcell n_z 0 (v:=.int .i64 z0) rfl
 have c_z1:=lcell n_z 1 (v:=.int .i64 z1) rfl
 have c_z2:=lcell n_z 2 (v:=.int .i64 z2) rfl
 have c_z3:=lcell n_z 3 (v:=.int .i64 z3) rfl
 go_wp2_with fail
 refine (CL.o _).mono ?_
 rintro e v4 ⟨q,lq,rfl,g⟩
 replace u:=u.trans (g.mono u.size)
 replace n_a:=lkeep n_a g
 replace n_b:=lkeep n_b g
 replace n_x:=lkeep n_x g
 replace n_y:=lkeep n_y g
 replace n_z:=lkeep n_z g
 clear c_z0 c_z1 c_z2 c_z3
 clear g
 unfold rq rv
 clear n_z CL DA DB
 have g:=(Below.refl v4.heap.size v4).alloc (Nat.le_refl _) (O #[Z (txt q.num),Z (txt (q.den:Int))] 23)
 have n_f:=World.alloc_heap_new v4 (O #[Z (txt q.num),Z (txt (q.den:Int))] 23)
 replace u:=u.trans (g.mono u.size)
 replace n_a:=lkeep n_a g
 replace n_b:=lkeep n_b g
 replace n_x:=lkeep n_x g
 replace n_y:=lkeep n_y g
 clear g
 go_upto_region 5 with fail
 generalize v4.alloc (O #[Z (txt q.num),Z (txt (q.den:Int))] 23)=V_f at *
 generalize v4.heap.size=b_f at *
 have hs:=(subQ_FitO:FitO (subQ q (Rat.divInt 1 3)))
 have f13:FitQ (Rat.divInt 1 3):=⟨fits_small (by decide +kernel),fits_small (by decide +kernel)⟩
 have cS:Ret 11 #[.agg #[Z (txt q.num),Z (txt (q.den:Int))],.agg #[Z (txt (Rat.divInt 1 3).num),Z (txt ((Rat.divInt 1 3).den:Int))]] (.tuple #[.agg #[Z (sn (subQ q (Rat.divInt 1 3))),Z (sd (subQ q (Rat.divInt 1 3)))],.int .i64 (cd (subQ q (Rat.divInt 1 3)))]):=by
  have A:=subR_O (.some lq.fit) (.some f13)
  rw [show lift2 subQ (some q) (some (Rat.divInt 1 3))=subQ q (Rat.divInt 1 3) from rfl] at A
  exact A
 have cR:=ratio_q 1 3 (by decide) (by decide) (by decide)
 obtain ⟨bz,hbz⟩:=valid_some hs
 have zs:=hs.sizes
 have zq:=lq.fit.size
 clear hs f13 lq
 generalize subQ q (Rat.divInt 1 3)=so at *
 generalize sn so=s0 at *
 generalize sd so=s1 at *
 generalize cd so=se at *
 generalize txt (Rat.divInt 1 3).num=t0 at *
 generalize txt ((Rat.divInt 1 3).den:Int)=t1 at *
 have CS:Shut _:=⟨cS⟩
 have CR:Shut _:=⟨cR⟩
 have CZ:Shut _:=⟨hbz⟩
 have ZS:Shut _:=⟨zs⟩
 have ZQ:Shut _:=⟨zq⟩
 clear cS cR hbz zs zq
 have new_a:w.heap.size≠V_f.heap.size:=by have:=(Array.getElem?_eq_some_iff.1 n_a).1;omega
 have new_b:w.heap.size+1≠V_f.heap.size:=by have:=(Array.getElem?_eq_some_iff.1 n_b).1;omega
 have new_x:w.heap.size+1+1≠V_f.heap.size:=by have:=(Array.getElem?_eq_some_iff.1 n_x).1;omega
 have new_y:w.heap.size+1+1+1≠V_f.heap.size:=by have:=(Array.getElem?_eq_some_iff.1 n_y).1;omega
 have bwd:=u.size
 have c_f0:=lcell n_f 0 (v:=Z (txt q.num)) rfl
 have c_f1:=lcell n_f 1 (v:=Z (txt (q.den:Int))) rfl
 have g:=(Below.refl V_f.heap.size V_f).alloc (Nat.le_refl _) (O #[Z (txt q.num),Z (txt (q.den:Int)),Z (txt q.num),Z (txt (q.den:Int))] 25)
 have n_wd:=World.alloc_heap_new V_f (O #[Z (txt q.num),Z (txt (q.den:Int)),Z (txt q.num),Z (txt (q.den:Int))] 25)
 replace u:=u.trans (g.mono u.size)
 replace n_a:=lkeep n_a g
 replace n_b:=lkeep n_b g
 replace n_x:=lkeep n_x g
 replace n_y:=lkeep n_y g
 replace n_f:=lkeep n_f g
 clear g
 go_upto_region 6 with fail
 generalize V_f.alloc (O #[Z (txt q.num),Z (txt (q.den:Int)),Z (txt q.num),Z (txt (q.den:Int))] 25)=V_wd at *
 generalize V_f.heap.size=b_wd at *
 clear c_f0 c_f1
 generalize hs1:s1=sS at *
 go_cut [16,17] from 45 to 49 (fun v1 v2 wx=>∃ bl:Nat,v1 = .pointer (some ⟨bl,0,none⟩)∧v2 = .int .i64 se∧wx.heap[bl]? = some (O #[Z s0,Z sS] 23 (0,0))∧wx.heap[w.heap.size]? = some (O #[Z a0',Z a1',Z a2',Z a3'] 25 (0,0))∧wx.heap[w.heap.size+1]? = some (O #[Z b0',Z b1',Z b2',Z b3'] 25 (0,0))∧wx.heap[w.heap.size+1+1]? = some (O #[.int .i64 x0,.int .i64 x1,.int .i64 x2,.int .i64 x3] 26 (0,0))∧wx.heap[w.heap.size+1+1+1]? = some (O #[.int .i64 y0,.int .i64 y1,.int .i64 y2,.int .i64 y3] 26 (0,0))∧wx.heap[b_f]? = some (O #[Z (txt q.num),Z (txt (q.den:Int))] 23 (0,0))∧wx.heap[b_wd]? = some (O #[Z (txt q.num),Z (txt (q.den:Int)),Z (txt q.num),Z (txt (q.den:Int))] 25 (0,0))∧Below w.heap.size w wx)
 case first =>
  have lt0:=(Array.getElem?_eq_some_iff.1 n_f).1
  have hf1:=(ne_abq lt0).1
  have hf2:=(ne_abq lt0).2
  have c_f0:=lcell n_f 0 (v:=Z (txt q.num)) rfl
  have c_f1:=lcell n_f 1 (v:=Z (txt (q.den:Int))) rfl
  go_region_held3 (fun X=>X.cell? ⟨b_f,0,none⟩=some (Z (txt q.num))∧X.cell? ⟨b_f,1,none⟩=some (Z (txt (q.den:Int)))) (go_keep) (first | (go_at_call 12; (with_reducible refine (Ret.run CR.o _).mono ?_);rintro e va ⟨rfl,g⟩;(first | (have g3:Below (V_wd.alloc (O #[Z ⟨#[]⟩,Z ⟨#[]⟩] 23)).drew.heap.size (V_wd.alloc (O #[Z ⟨#[]⟩,Z ⟨#[]⟩] 23)).drew va:=(by with_reducible exact g);have g2:Below (V_wd.alloc (O #[Z ⟨#[]⟩,Z ⟨#[]⟩] 23)).heap.size (V_wd.alloc (O #[Z ⟨#[]⟩,Z ⟨#[]⟩] 23)) va:=lundrew2 g3;have lr:=(Array.getElem?_eq_some_iff.1 n_f).1;have nz:va.heap[V_wd.heap.size]? = some (O #[Z ⟨#[]⟩,Z ⟨#[]⟩] 23):=lkeep (World.alloc_heap_new _ _) g2;have hza:=(ne_abq lr).1;have hzc:=(ne_abq lr).2;have buz:w.heap.size≤V_wd.heap.size:=u.size;have ua:Below w.heap.size w (V_wd.alloc (O #[Z ⟨#[]⟩,Z ⟨#[]⟩] 23)):=u.alloc u.size (O #[Z ⟨#[]⟩,Z ⟨#[]⟩] 23);replace u:=ua.trans (g2.mono ua.size);have ne_a:=Nat.ne_of_lt (Array.getElem?_eq_some_iff.1 n_a).1;replace n_a:=lkeep (lold n_a) g2;have ne_b:=Nat.ne_of_lt (Array.getElem?_eq_some_iff.1 n_b).1;replace n_b:=lkeep (lold n_b) g2;have ne_x:=Nat.ne_of_lt (Array.getElem?_eq_some_iff.1 n_x).1;replace n_x:=lkeep (lold n_x) g2;have ne_y:=Nat.ne_of_lt (Array.getElem?_eq_some_iff.1 n_y).1;replace n_y:=lkeep (lold n_y) g2;have ne_f:=Nat.ne_of_lt (Array.getElem?_eq_some_iff.1 n_f).1;replace n_f:=lkeep (lold n_f) g2;have ne_wd:=Nat.ne_of_lt (Array.getElem?_eq_some_iff.1 n_wd).1;replace n_wd:=lkeep (lold n_wd) g2;clear g2) | (have g1:Below V_wd.heap.size V_wd va:=lundrew2 g;replace u:=u.trans (g1.mono u.size);replace n_a:=lkeep n_a g1;replace n_b:=lkeep n_b g1;replace n_x:=lkeep n_x g1;replace n_y:=lkeep n_y g1;replace n_f:=lkeep n_f g1;replace n_wd:=lkeep n_wd g1;(try replace nz:=lkeep nz g1);clear g1));clear g;have c_f0:=lcell n_f 0 (v:=Z (txt q.num)) rfl;have c_f1:=lcell n_f 1 (v:=Z (txt (q.den:Int))) rfl;(try (have kz0:=lcell nz 0 (v:=Z ⟨#[]⟩) rfl;have fz0:=lfree nz 0;have kz1:=lcell nz 1 (v:=Z ⟨#[]⟩) rfl;have fz1:=lfree nz 1));have mk1:=0) | (go_at_call 11; have q_:=mk1;clear q_;(with_reducible refine (Ret.run CS.o _).mono ?_);rintro e vb ⟨rfl,g⟩;(first | (have g2:Below (va.alloc (O #[Z ⟨#[]⟩,Z ⟨#[]⟩] 23)).heap.size (va.alloc (O #[Z ⟨#[]⟩,Z ⟨#[]⟩] 23)) vb:=(by with_reducible exact g);have lr:=(Array.getElem?_eq_some_iff.1 n_f).1;have nz:vb.heap[va.heap.size]? = some (O #[Z ⟨#[]⟩,Z ⟨#[]⟩] 23):=lkeep (World.alloc_heap_new _ _) g2;have hza:=(ne_abq lr).1;have hzc:=(ne_abq lr).2;have buz:w.heap.size≤va.heap.size:=u.size;have ua:Below w.heap.size w (va.alloc (O #[Z ⟨#[]⟩,Z ⟨#[]⟩] 23)):=u.alloc u.size (O #[Z ⟨#[]⟩,Z ⟨#[]⟩] 23);replace u:=ua.trans (g2.mono ua.size);have ne_a:=Nat.ne_of_lt (Array.getElem?_eq_some_iff.1 n_a).1;replace n_a:=lkeep (lold n_a) g2;have ne_b:=Nat.ne_of_lt (Array.getElem?_eq_some_iff.1 n_b).1;replace n_b:=lkeep (lold n_b) g2;have ne_x:=Nat.ne_of_lt (Array.getElem?_eq_some_iff.1 n_x).1;replace n_x:=lkeep (lold n_x) g2;have ne_y:=Nat.ne_of_lt (Array.getElem?_eq_some_iff.1 n_y).1;replace n_y:=lkeep (lold n_y) g2;have ne_f:=Nat.ne_of_lt (Array.getElem?_eq_some_iff.1 n_f).1;replace n_f:=lkeep (lold n_f) g2;have ne_wd:=Nat.ne_of_lt (Array.getElem?_eq_some_iff.1 n_wd).1;replace n_wd:=lkeep (lold n_wd) g2;clear g2) | (have g1:Below va.heap.size va vb:=g;replace u:=u.trans (g1.mono u.size);replace n_a:=lkeep n_a g1;replace n_b:=lkeep n_b g1;replace n_x:=lkeep n_x g1;replace n_y:=lkeep n_y g1;replace n_f:=lkeep n_f g1;replace n_wd:=lkeep n_wd g1;(try replace nz:=lkeep nz g1);clear g1));clear g;have c_f0:=lcell n_f 0 (v:=Z (txt q.num)) rfl;have c_f1:=lcell n_f 1 (v:=Z (txt (q.den:Int))) rfl;(try (have kz0:=lcell nz 0 (v:=Z ⟨#[]⟩) rfl;have fz0:=lfree nz 0;have kz1:=lcell nz 1 (v:=Z ⟨#[]⟩) rfl;have fz1:=lfree nz 1));have mk2:=0))
  all_goals (go_wp2_with fail)
  all_goals go_meet
  all_goals first | exact ⟨_,rfl,rfl,box2_setx (x:=Z s0) (y:=Z sS) nz,(Below.heap_setCell _ _ _ _ ne_a).trans ((Below.heap_setCell _ _ _ _ ne_a).trans n_a),(Below.heap_setCell _ _ _ _ ne_b).trans ((Below.heap_setCell _ _ _ _ ne_b).trans n_b),(Below.heap_setCell _ _ _ _ ne_x).trans ((Below.heap_setCell _ _ _ _ ne_x).trans n_x),(Below.heap_setCell _ _ _ _ ne_y).trans ((Below.heap_setCell _ _ _ _ ne_y).trans n_y),(Below.heap_setCell _ _ _ _ ne_f).trans ((Below.heap_setCell _ _ _ _ ne_f).trans n_f),(Below.heap_setCell _ _ _ _ ne_wd).trans ((Below.heap_setCell _ _ _ _ ne_wd).trans n_wd),((u.setCell (show w.heap.size≤(⟨_,0,none⟩:Addr).block from buz) _).setCell (show w.heap.size≤(⟨_,1,none⟩:Addr).block from buz) _)⟩ | exact ⟨_,rfl,rfl,World.alloc_heap_new _ _,lold n_a,lold n_b,lold n_x,lold n_y,lold n_f,lold n_wd,u.alloc u.size _⟩
 obtain ⟨b_l,rfl,rfl,n_l,n_a,n_b,n_x,n_y,n_f,n_wd,u⟩:=hcut
 subst hs1
 have n_less:=n_l
 clear n_l
 obtain ⟨V2,hv⟩:∃ v,v=wc:=⟨_,rfl⟩
 rw [←hv] at n_a n_b n_x n_y n_f n_wd n_less u
 go_upto_region 7 with fail
 rw [←hv]
 clear hv
 have c_less0:=lcell n_less 0 (v:=Z s0) rfl
 have c_less1:=lcell n_less 1 (v:=Z s1) rfl
 go_wp2_with fail
 refine (CZ.o _).mono ?_
 rintro e v5 ⟨rfl,g⟩
 replace u:=u.trans (g.mono u.size)
 replace n_a:=lkeep n_a g
 replace n_b:=lkeep n_b g
 replace n_x:=lkeep n_x g
 replace n_y:=lkeep n_y g
 replace n_f:=lkeep n_f g
 replace n_wd:=lkeep n_wd g
 replace n_less:=lkeep n_less g
 clear c_less0 c_less1
 clear g
 go_upto_if 51 with fail
 go_cut [] from 51 to 53 (fun wx=>∃ w0 w1:ByteArray,w0.size≤1000000∧w1.size≤1000000∧wx.heap[b_wd]? = some (O #[Z w0,Z w1,Z (txt q.num),Z (txt (q.den:Int))] 25 (0,0))∧wx.heap[w.heap.size]? = some (O #[Z a0',Z a1',Z a2',Z a3'] 25 (0,0))∧wx.heap[w.heap.size+1]? = some (O #[Z b0',Z b1',Z b2',Z b3'] 25 (0,0))∧wx.heap[w.heap.size+1+1]? = some (O #[.int .i64 x0,.int .i64 x1,.int .i64 x2,.int .i64 x3] 26 (0,0))∧wx.heap[w.heap.size+1+1+1]? = some (O #[.int .i64 y0,.int .i64 y1,.int .i64 y2,.int .i64 y3] 26 (0,0))∧Below w.heap.size w wx)
 case first =>
  cases bz with
  | false =>
   go_wp2_with fail
   go_meet
   exact ⟨_,_,ZQ.o.1,ZQ.o.2,n_wd,n_a,n_b,n_x,n_y,u⟩
  | true =>
   have c_less0:=lcell n_less 0 (v:=Z s0) rfl
   have c_less1:=lcell n_less 1 (v:=Z s1) rfl
   have k0:=lcell n_wd 0 (v:=Z (txt q.num)) rfl
   have f0:=lfree n_wd 0
   have k1:=lcell n_wd 1 (v:=Z (txt (q.den:Int))) rfl
   have f1:=lfree n_wd 1
   have m_wd:=box4_lob (x:=Z s0) (y:=Z s1) n_wd
   go_wp2_with fail
   go_meet
   exact ⟨_,_,ZS.o.1,ZS.o.2,m_wd,kept2b new_a n_a,kept2b new_b n_b,kept2b new_x n_x,kept2b new_y n_y,(u.setCell (show w.heap.size≤(⟨b_wd,0,none⟩:Addr).block from bwd) _).setCell (show w.heap.size≤(⟨b_wd,1,none⟩:Addr).block from bwd) _⟩
 obtain ⟨w0,w1,zw0,zw1,n_wd,n_a,n_b,n_x,n_y,u⟩:=hcut
 have SW:Shut (Sz w0 w1 (txt q.num) (txt (q.den:Int))):=⟨⟨zw0,zw1,ZQ.o.1,ZQ.o.2⟩⟩
 clear zw0 zw1 ZQ ZS CZ CS CR n_f n_less
 generalize (txt q.num)=wq0 at *
 generalize (txt (q.den:Int))=wq1 at *
 obtain ⟨V3,hv⟩:∃ v,v=wc:=⟨_,rfl⟩
 rw [←hv] at n_a n_b n_x n_y n_wd u
 go_upto_region 9 with fail
 rw [←hv]
 clear hv
 have c_x0:=lcell n_x 0 (v:=.int .i64 x0) rfl
 have c_x1:=lcell n_x 1 (v:=.int .i64 x1) rfl
 have c_x2:=lcell n_x 2 (v:=.int .i64 x2) rfl
 have c_x3:=lcell n_x 3 (v:=.int .i64 x3) rfl
 go_wp2_with fail
 refine (CX.o _).mono ?_
 rintro e v6 ⟨p1,q1,sp1,sq1,o1,rfl,g⟩
 replace u:=u.trans (g.mono u.size)
 replace n_a:=lkeep n_a g
 replace n_b:=lkeep n_b g
 replace n_x:=lkeep n_x g
 replace n_y:=lkeep n_y g
 replace n_wd:=lkeep n_wd g
 clear c_x0 c_x1 c_x2 c_x3
 clear g
 unfold iq
 have g:=(Below.refl v6.heap.size v6).alloc (Nat.le_refl _) (O #[Z (txt p1.num),Z (txt (p1.den:Int)),Z (txt q1.num),Z (txt (q1.den:Int))] 25)
 have n_c:=World.alloc_heap_new v6 (O #[Z (txt p1.num),Z (txt (p1.den:Int)),Z (txt q1.num),Z (txt (q1.den:Int))] 25)
 replace u:=u.trans (g.mono u.size)
 replace n_a:=lkeep n_a g
 replace n_b:=lkeep n_b g
 replace n_x:=lkeep n_x g
 replace n_y:=lkeep n_y g
 replace n_wd:=lkeep n_wd g
 clear g
 have SC:Shut (Sz _ _ _ _):=⟨⟨sp1.fit.size.1,sp1.fit.size.2,sq1.fit.size.1,sq1.fit.size.2⟩⟩
 generalize (txt p1.num)=c0' at *
 generalize (txt (p1.den:Int))=c1' at *
 generalize (txt q1.num)=c2' at *
 generalize (txt (q1.den:Int))=c3' at *
 have c_y0:=lcell n_y 0 (v:=.int .i64 y0) rfl
 have c_y1:=lcell n_y 1 (v:=.int .i64 y1) rfl
 have c_y2:=lcell n_y 2 (v:=.int .i64 y2) rfl
 have c_y3:=lcell n_y 3 (v:=.int .i64 y3) rfl
 go_wp2_with fail
 generalize v6.alloc (O #[Z c0',Z c1',Z c2',Z c3'] 25)=V_c at *
 generalize v6.heap.size=b_c at *
 refine (CY.o _).mono ?_
 rintro e v7 ⟨p2,q2,sp2,sq2,o2,rfl,g⟩
 replace u:=u.trans (g.mono u.size)
 replace n_a:=lkeep n_a g
 replace n_b:=lkeep n_b g
 replace n_x:=lkeep n_x g
 replace n_y:=lkeep n_y g
 replace n_wd:=lkeep n_wd g
 replace n_c:=lkeep n_c g
 clear c_y0 c_y1 c_y2 c_y3
 clear g
 unfold iq
 have g:=(Below.refl v7.heap.size v7).alloc (Nat.le_refl _) (O #[Z (txt p2.num),Z (txt (p2.den:Int)),Z (txt q2.num),Z (txt (q2.den:Int))] 25)
 have n_d:=World.alloc_heap_new v7 (O #[Z (txt p2.num),Z (txt (p2.den:Int)),Z (txt q2.num),Z (txt (q2.den:Int))] 25)
 replace u:=u.trans (g.mono u.size)
 replace n_a:=lkeep n_a g
 replace n_b:=lkeep n_b g
 replace n_x:=lkeep n_x g
 replace n_y:=lkeep n_y g
 replace n_wd:=lkeep n_wd g
 replace n_c:=lkeep n_c g
 clear g
 have SD:Shut (Sz _ _ _ _):=⟨⟨sp2.fit.size.1,sp2.fit.size.2,sq2.fit.size.1,sq2.fit.size.2⟩⟩
 generalize (txt p2.num)=d0' at *
 generalize (txt (p2.den:Int))=d1' at *
 generalize (txt q2.num)=d2' at *
 generalize (txt (q2.den:Int))=d3' at *
 clear sp1 sq1 o1 sp2 sq2 o2 CX CY n_x n_y
 go_upto_region 11 with fail
 generalize v7.alloc (O #[Z d0',Z d1',Z d2',Z d3'] 25)=V_d at *
 generalize v7.heap.size=b_d at *
 have c_a0:=lcell n_a 0 (v:=Z a0') rfl
 have c_a1:=lcell n_a 1 (v:=Z a1') rfl
 have c_a2:=lcell n_a 2 (v:=Z a2') rfl
 have c_a3:=lcell n_a 3 (v:=Z a3') rfl
 have c_b0:=lcell n_b 0 (v:=Z b0') rfl
 have c_b1:=lcell n_b 1 (v:=Z b1') rfl
 have c_b2:=lcell n_b 2 (v:=Z b2') rfl
 have c_b3:=lcell n_b 3 (v:=Z b3') rfl
 have c_c0:=lcell n_c 0 (v:=Z c0') rfl
 have c_c1:=lcell n_c 1 (v:=Z c1') rfl
 have c_c2:=lcell n_c 2 (v:=Z c2') rfl
 have c_c3:=lcell n_c 3 (v:=Z c3') rfl
 have c_d0:=lcell n_d 0 (v:=Z d0') rfl
 have c_d1:=lcell n_d 1 (v:=Z d1') rfl
 have c_d2:=lcell n_d 2 (v:=Z d2') rfl
 have c_d3:=lcell n_d 3 (v:=Z d3') rfl
 have c_wd0:=lcell n_wd 0 (v:=Z w0) rfl
 have c_wd1:=lcell n_wd 1 (v:=Z w1) rfl
 have c_wd2:=lcell n_wd 2 (v:=Z wq0) rfl
 have c_wd3:=lcell n_wd 3 (v:=Z wq1) rfl
 have g:=(Below.refl V_d.heap.size V_d).alloc (Nat.le_refl _) (O #[Z a0',Z a1',Z a2',Z a3',Z b0',Z b1',Z b2',Z b3',Z c0',Z c1',Z c2',Z c3',Z d0',Z d1',Z d2',Z d3',Z a0',Z a1',Z a2',Z a3',Z c0',Z c1',Z c2',Z c3',Z w0,Z w1,Z wq0,Z wq1,Z c0',Z c1',Z c2',Z c3',Z c0',Z c1',Z c2',Z c3',Z w0,Z w1,Z wq0,Z wq1,Z w0,Z w1,Z wq0,Z wq1,Z w0,Z w1,Z wq0,Z wq1] 36)
 have n_s:=World.alloc_heap_new V_d (O #[Z a0',Z a1',Z a2',Z a3',Z b0',Z b1',Z b2',Z b3',Z c0',Z c1',Z c2',Z c3',Z d0',Z d1',Z d2',Z d3',Z a0',Z a1',Z a2',Z a3',Z c0',Z c1',Z c2',Z c3',Z w0,Z w1,Z wq0,Z wq1,Z c0',Z c1',Z c2',Z c3',Z c0',Z c1',Z c2',Z c3',Z w0,Z w1,Z wq0,Z wq1,Z w0,Z w1,Z wq0,Z wq1,Z w0,Z w1,Z wq0,Z wq1] 36)
 replace u:=u.trans (g.mono u.size)
 clear g
 obtain ⟨G,hG⟩:=list_G [a0',a1',a2',a3',b0',b1',b2',b3',c0',c1',c2',c3',d0',d1',d2',d3',a0',a1',a2',a3',c0',c1',c2',c3',w0,w1,wq0,wq1,c0',c1',c2',c3',c0',c1',c2',c3',w0,w1,wq0,wq1,w0,w1,wq0,wq1,w0,w1,wq0,wq1] (by
  intro s hs
  simp only [List.mem_cons,List.not_mem_nil,or_false] at hs
  have q_a:=SA.o;have q_b:=SB.o;have q_c:=SC.o;have q_d:=SD.o;have q_w:=SW.o
  repeat (first | (rcases hs with hs | hs; · (subst hs;first | exact q_a.a | exact q_a.b | exact q_a.c | exact q_a.d | exact q_b.a | exact q_b.b | exact q_b.c | exact q_b.d | exact q_c.a | exact q_c.b | exact q_c.c | exact q_c.d | exact q_d.a | exact q_d.b | exact q_d.c | exact q_d.d | exact q_w.a | exact q_w.b | exact q_w.c | exact q_w.d)) | (subst hs;first | exact q_w.d | exact q_w.c)))
 have HG:Shut (∀ j,j<48→(#[Z a0',Z a1',Z a2',Z a3',Z b0',Z b1',Z b2',Z b3',Z c0',Z c1',Z c2',Z c3',Z d0',Z d1',Z d2',Z d3',Z a0',Z a1',Z a2',Z a3',Z c0',Z c1',Z c2',Z c3',Z w0,Z w1,Z wq0,Z wq1,Z c0',Z c1',Z c2',Z c3',Z c0',Z c1',Z c2',Z c3',Z w0,Z w1,Z wq0,Z wq1,Z w0,Z w1,Z wq0,Z wq1,Z w0,Z w1,Z wq0,Z wq1]:Array Value)[j]? = some (Z (G j))∧(G j).size≤1000000):=⟨hG⟩
 clear hG
 go_wp2_with fail
 clear c_a0 c_a1 c_a2 c_a3 c_b0 c_b1 c_b2 c_b3 c_c0 c_c1 c_c2 c_c3 c_d0 c_d1 c_d2 c_d3 c_wd0 c_wd1 c_wd2 c_wd3
 generalize V_d.alloc (O #[Z a0',Z a1',Z a2',Z a3',Z b0',Z b1',Z b2',Z b3',Z c0',Z c1',Z c2',Z c3',Z d0',Z d1',Z d2',Z d3',Z a0',Z a1',Z a2',Z a3',Z c0',Z c1',Z c2',Z c3',Z w0,Z w1,Z wq0,Z wq1,Z c0',Z c1',Z c2',Z c3',Z c0',Z c1',Z c2',Z c3',Z w0,Z w1,Z wq0,Z wq1,Z w0,Z w1,Z wq0,Z wq1,Z w0,Z w1,Z wq0,Z wq1] 36)=V4 at *
 generalize V_d.heap.size=b_s at *
 generalize (#[Z a0',Z a1',Z a2',Z a3',Z b0',Z b1',Z b2',Z b3',Z c0',Z c1',Z c2',Z c3',Z d0',Z d1',Z d2',Z d3',Z a0',Z a1',Z a2',Z a3',Z c0',Z c1',Z c2',Z c3',Z w0,Z w1,Z wq0,Z wq1,Z c0',Z c1',Z c2',Z c3',Z c0',Z c1',Z c2',Z c3',Z w0,Z w1,Z wq0,Z wq1,Z w0,Z w1,Z wq0,Z wq1,Z w0,Z w1,Z wq0,Z wq1]:Array Value)=ARR at *
 clear n_a n_b n_c n_d n_wd SA SB SC SD SW
 have NS:Shut _:=⟨n_s⟩
 have U4:Shut _:=⟨u⟩
 clear n_s u
 go_loopw [78] (fun iv wr=>∃ i:Nat,i≤6∧iv = .int .i64 (i:Int)∧Shut (Below V4.heap.size V4 wr)) (fun iv _=>6-(intOf iv).toNat)
 case atStart=>exact ⟨0,Nat.zero_le _,rfl,⟨Below.refl _ _⟩⟩
 case round =>
  obtain ⟨i,hi,rfl,H⟩:=hrel
  have B1:=H.o
  clear H
  rename World=>w1
  have n_s:=lkeep NS.o B1
  have u:=U4.o.trans (B1.mono U4.o.size)
  by_cases hi6:i=6
  ·subst hi6
   go_wp2_with fail
   go_ret
   exact ⟨by simp,u⟩
  ·have hi5:i<6:=by omega
   have hi1:(i:Int)<6:=by omega
   have hi0:(0:Int)≤(i:Int):=by omega
   have hw1:IntKind.i64.wrap ((i:Int)+1)=(i:Int)+1:=by simp [IntKind.wrap,IntKind.signed,IntKind.bits];omega
   obtain ⟨g0,z0'⟩:=HG.o (i*8+0) (by omega)
   have y0':w1.cell? ⟨b_s,i*8,none⟩=some (Z (G (i*8+0))):=lcell n_s (i*8+0) g0
   obtain ⟨g1,z1'⟩:=HG.o (i*8+1) (by omega)
   have y1':w1.cell? ⟨b_s,i*8+1,none⟩=some (Z (G (i*8+1))):=lcell n_s (i*8+1) g1
   obtain ⟨g2,z2'⟩:=HG.o (i*8+2) (by omega)
   have y2':w1.cell? ⟨b_s,i*8+2,none⟩=some (Z (G (i*8+2))):=lcell n_s (i*8+2) g2
   obtain ⟨g3,z3'⟩:=HG.o (i*8+3) (by omega)
   have y3':w1.cell? ⟨b_s,i*8+3,none⟩=some (Z (G (i*8+3))):=lcell n_s (i*8+3) g3
   obtain ⟨g4,z4'⟩:=HG.o (i*8+4) (by omega)
   have y4':w1.cell? ⟨b_s,i*8+4,none⟩=some (Z (G (i*8+4))):=lcell n_s (i*8+4) g4
   obtain ⟨g5,z5'⟩:=HG.o (i*8+5) (by omega)
   have y5':w1.cell? ⟨b_s,i*8+5,none⟩=some (Z (G (i*8+5))):=lcell n_s (i*8+5) g5
   obtain ⟨g6,z6'⟩:=HG.o (i*8+6) (by omega)
   have y6':w1.cell? ⟨b_s,i*8+6,none⟩=some (Z (G (i*8+6))):=lcell n_s (i*8+6) g6
   obtain ⟨g7,z7'⟩:=HG.o (i*8+7) (by omega)
   have y7':w1.cell? ⟨b_s,i*8+7,none⟩=some (Z (G (i*8+7))):=lcell n_s (i*8+7) g7
   generalize G (i*8+0)=r0 at *
   generalize G (i*8+1)=r1 at *
   generalize G (i*8+2)=r2 at *
   generalize G (i*8+3)=r3 at *
   generalize G (i*8+4)=r4 at *
   generalize G (i*8+5)=r5 at *
   generalize G (i*8+6)=r6 at *
   generalize G (i*8+7)=r7 at *
   have SX:Shut (Sz r0 r1 r2 r3):=⟨⟨z0',z1',z2',z3'⟩⟩
   have SY:Shut (Sz r4 r5 r6 r7):=⟨⟨z4',z5',z6',z7'⟩⟩
   clear g0 z0' g1 z1' g2 z2' g3 z3' g4 z4' g5 z5' g6 z6' g7 z7'
   have g:=(Below.refl w1.heap.size w1).alloc (Nat.le_refl _) (O #[Z r0,Z r1,Z r2,Z r3,Z r4,Z r5,Z r6,Z r7] 36)
   have n_q:=World.alloc_heap_new w1 (O #[Z r0,Z r1,Z r2,Z r3,Z r4,Z r5,Z r6,Z r7] 36)
   replace u:=u.trans (g.mono u.size)
   replace B1:=B1.trans (g.mono B1.size)
   clear g
   go_upto_region 14 with fail
   clear y0' y1' y2' y3' y4' y5' y6' y7' n_s
   generalize w1.alloc (O #[Z r0,Z r1,Z r2,Z r3,Z r4,Z r5,Z r6,Z r7] 36)=w2 at *
   generalize w1.heap.size=b_q at *
   go_wp2_with fail
   refine (CP.o _).mono ?_
   rintro e w3 ⟨c,hc,rfl,g⟩
   replace u:=u.trans (g.mono u.size)
   replace B1:=B1.trans (g.mono B1.size)
   replace n_q:=lkeep n_q g
   clear g
   have g:=(Below.refl w3.heap.size w3).alloc (Nat.le_refl _) (O #[.int .i64 pl,.int .i64 (c:Int)] 3)
   have n_p:=World.alloc_heap_new w3 (O #[.int .i64 pl,.int .i64 (c:Int)] 3)
   replace u:=u.trans (g.mono u.size)
   replace B1:=B1.trans (g.mono B1.size)
   replace n_q:=lkeep n_q g
   clear g
   go_wp2_with fail
   generalize w3.alloc (O #[.int .i64 pl,.int .i64 (c:Int)] 3)=w4 at *
   generalize w3.heap.size=b_p at *
   obtain ⟨PP,hPP⟩:∃ PP:Nat→Int,PP=fun k=>if k=0 then pl else (c:Int):=⟨_,rfl⟩
   have HPP:Shut (∀ k,k<2→(#[.int .i64 pl,.int .i64 (c:Int)]:Array Value)[k]? = some (.int .i64 (PP k))):=⟨fun k hk=>by rcases (show k=0∨k=1 by omega) with rfl | rfl <;> rw [hPP] <;> rfl⟩
   clear hPP hc
   generalize (#[.int .i64 pl,.int .i64 (c:Int)]:Array Value)=ARP at *
   have NQ:Shut _:=⟨n_q⟩
   have NP:Shut _:=⟨n_p⟩
   have U5:Shut _:=⟨u⟩
   have B5:Shut _:=⟨B1⟩
   clear n_q n_p u B1
   go_loopw [87] (fun kv wr=>∃ k:Nat,k≤2∧kv = .int .i64 (k:Int)∧Shut (Below w4.heap.size w4 wr)) (fun kv _=>2-(intOf kv).toNat)
   case atStart=>exact ⟨0,Nat.zero_le _,rfl,⟨Below.refl _ _⟩⟩
   case round =>
    obtain ⟨k,hk,rfl,H⟩:=hrel
    have B2:=H.o
    clear H
    rename World=>w5
    have n_q:=lkeep NQ.o B2
    have n_p:=lkeep NP.o B2
    have u:=U5.o.trans (B2.mono U5.o.size)
    by_cases hk2:k=2
    ·subst hk2
     clear n_p
     replace B5:=B5.o.trans (B2.mono B5.o.size)
     clear B2
     obtain ⟨nn,dd,p0,p1,p2,p3,cc,e1,e2,e3,hW1,hW2,hV1,hV2,hP1,hP2,hC1,hC2,hN1,hN2⟩:=tail_facts a r0 r1 r2 r3 r4 r5 r6 r7 SX.o SY.o
     have ShW1:Shut _:=⟨hW1⟩
     have ShW2:Shut _:=⟨hW2⟩
     have ShV1:Shut _:=⟨hV1⟩
     have ShV2:Shut _:=⟨hV2⟩
     have ShP1:Shut _:=⟨hP1⟩
     have ShP2:Shut _:=⟨hP2⟩
     have ShC1:Shut _:=⟨hC1⟩
     have ShC2:Shut _:=⟨hC2⟩
     have ShN1:Shut _:=⟨hN1⟩
     have ShN2:Shut _:=⟨hN2⟩
     clear hW1 hW2 hV1 hV2 hP1 hP2 hC1 hC2 hN1 hN2
     have c_q0:=lcell n_q 0 (v:=Z r0) rfl
     have c_q1:=lcell n_q 1 (v:=Z r1) rfl
     have c_q2:=lcell n_q 2 (v:=Z r2) rfl
     have c_q3:=lcell n_q 3 (v:=Z r3) rfl
     have c_q4:=lcell n_q 4 (v:=Z r4) rfl
     have c_q5:=lcell n_q 5 (v:=Z r5) rfl
     have c_q6:=lcell n_q 6 (v:=Z r6) rfl
     have c_q7:=lcell n_q 7 (v:=Z r7) rfl
     go_wp2_with fail
     refine (ShW1.o _ (HV.o.keep u)).mono ?_
     rintro e v1 ⟨rfl,g⟩
     replace u:=u.trans (g.mono u.size)
     replace n_q:=lkeep n_q g
     replace B5:=B5.trans (g.mono B5.size)
     clear c_q0 c_q1 c_q2 c_q3 c_q4 c_q5 c_q6 c_q7
     clear g
     have g:=(Below.refl v1.heap.size v1).alloc (Nat.le_refl _) (O #[Z nn,Z dd] 23)
     have n_wa:=World.alloc_heap_new v1 (O #[Z nn,Z dd] 23)
     replace u:=u.trans (g.mono u.size)
     replace n_q:=lkeep n_q g
     replace B5:=B5.trans (g.mono B5.size)
     clear g
     have c_q0:=lcell n_q 0 (v:=Z r0) rfl
     have c_q1:=lcell n_q 1 (v:=Z r1) rfl
     have c_q2:=lcell n_q 2 (v:=Z r2) rfl
     have c_q3:=lcell n_q 3 (v:=Z r3) rfl
     have c_q4:=lcell n_q 4 (v:=Z r4) rfl
     have c_q5:=lcell n_q 5 (v:=Z r5) rfl
     have c_q6:=lcell n_q 6 (v:=Z r6) rfl
     have c_q7:=lcell n_q 7 (v:=Z r7) rfl
     go_wp2_with fail
     generalize v1.alloc (O #[Z nn,Z dd] 23)=V_wa at *
     generalize v1.heap.size=b_wa at *
     refine (ShW2.o _).mono ?_
     rintro e v2 ⟨rfl,g⟩
     replace u:=u.trans (g.mono u.size)
     replace n_q:=lkeep n_q g
     replace n_wa:=lkeep n_wa g
     replace B5:=B5.trans (g.mono B5.size)
     clear c_q0 c_q1 c_q2 c_q3 c_q4 c_q5 c_q6 c_q7
     clear g
     have g:=(Below.refl v2.heap.size v2).alloc (Nat.le_refl _) (O #[Z nn,Z dd] 23)
     have n_wb:=World.alloc_heap_new v2 (O #[Z nn,Z dd] 23)
     replace u:=u.trans (g.mono u.size)
     replace n_q:=lkeep n_q g
     replace n_wa:=lkeep n_wa g
     replace B5:=B5.trans (g.mono B5.size)
     clear g
     have c_q0:=lcell n_q 0 (v:=Z r0) rfl
     have c_q1:=lcell n_q 1 (v:=Z r1) rfl
     have c_q2:=lcell n_q 2 (v:=Z r2) rfl
     have c_q3:=lcell n_q 3 (v:=Z r3) rfl
     have c_q4:=lcell n_q 4 (v:=Z r4) rfl
     have c_q5:=lcell n_q 5 (v:=Z r5) rfl
     have c_q6:=lcell n_q 6 (v:=Z r6) rfl
     have c_q7:=lcell n_q 7 (v:=Z r7) rfl
     go_upto_region 27 with fail
     generalize v2.alloc (O #[Z nn,Z dd] 23)=V_wb at *
     generalize v2.heap.size=b_wb at *
     clear c_q0 c_q1 c_q2 c_q3 c_q4 c_q5 c_q6 c_q7
     have c_q0:=lcell n_q 0 (v:=Z r0) rfl
     have c_q1:=lcell n_q 1 (v:=Z r1) rfl
     have c_q2:=lcell n_q 2 (v:=Z r2) rfl
     have c_q3:=lcell n_q 3 (v:=Z r3) rfl
     have c_q4:=lcell n_q 4 (v:=Z r4) rfl
     have c_q5:=lcell n_q 5 (v:=Z r5) rfl
     have c_q6:=lcell n_q 6 (v:=Z r6) rfl
     have c_q7:=lcell n_q 7 (v:=Z r7) rfl
     have g:=(Below.refl V_wb.heap.size V_wb).alloc (Nat.le_refl _) (O #[Z r4,Z r5] 23)
     have n_rr:=World.alloc_heap_new V_wb (O #[Z r4,Z r5] 23)
     replace u:=u.trans (g.mono u.size)
     replace n_q:=lkeep n_q g
     replace n_wa:=lkeep n_wa g
     replace n_wb:=lkeep n_wb g
     replace B5:=B5.trans (g.mono B5.size)
     clear g
     go_upto_region 28 with fail
     generalize V_wb.alloc (O #[Z r4,Z r5] 23)=V_rr at *
     generalize V_wb.heap.size=b_rr at *
     clear c_q0 c_q1 c_q2 c_q3 c_q4 c_q5 c_q6 c_q7
     have eq_nn:(nn.toList == nn.toList)=true:=beq_self_eq_true _
     have eq_dd:(dd.toList == dd.toList)=true:=beq_self_eq_true _
     have eq_p0:(p0.toList == p0.toList)=true:=beq_self_eq_true _
     have eq_p1:(p1.toList == p1.toList)=true:=beq_self_eq_true _
     have eq_p2:(p2.toList == p2.toList)=true:=beq_self_eq_true _
     have eq_p3:(p3.toList == p3.toList)=true:=beq_self_eq_true _
     go_region_held3 (fun X=>X.cell? ⟨b_q,0,none⟩=some (Z r0)∧X.cell? ⟨b_q,1,none⟩=some (Z r1)∧X.cell? ⟨b_q,2,none⟩=some (Z r2)∧X.cell? ⟨b_q,3,none⟩=some (Z r3)∧X.cell? ⟨b_q,4,none⟩=some (Z r4)∧X.cell? ⟨b_q,5,none⟩=some (Z r5)∧X.cell? ⟨b_q,6,none⟩=some (Z r6)∧X.cell? ⟨b_q,7,none⟩=some (Z r7)∧X.cell? ⟨b_wa,0,none⟩=some (Z nn)∧X.cell? ⟨b_wa,1,none⟩=some (Z dd)∧X.cell? ⟨b_wb,0,none⟩=some (Z nn)∧X.cell? ⟨b_wb,1,none⟩=some (Z dd)∧X.cell? ⟨b_rr,0,none⟩=some (Z r4)∧X.cell? ⟨b_rr,1,none⟩=some (Z r5)) (exact ⟨lcell n_q 0 (v:=Z r0) rfl,lcell n_q 1 (v:=Z r1) rfl,lcell n_q 2 (v:=Z r2) rfl,lcell n_q 3 (v:=Z r3) rfl,lcell n_q 4 (v:=Z r4) rfl,lcell n_q 5 (v:=Z r5) rfl,lcell n_q 6 (v:=Z r6) rfl,lcell n_q 7 (v:=Z r7) rfl,lcell n_wa 0 (v:=Z nn) rfl,lcell n_wa 1 (v:=Z dd) rfl,lcell n_wb 0 (v:=Z nn) rfl,lcell n_wb 1 (v:=Z dd) rfl,lcell n_rr 0 (v:=Z r4) rfl,lcell n_rr 1 (v:=Z r5) rfl⟩) (first | (go_at_call 20; (with_reducible refine (Ret.run ShV1.o _).mono ?_);rintro e va0 ⟨rfl,g⟩;have g:Below V_rr.heap.size V_rr va0:=lundrew2 g;replace u:=u.trans (g.mono u.size);replace B5:=B5.trans (g.mono B5.size);replace n_q:=lkeep n_q g;replace n_wa:=lkeep n_wa g;replace n_wb:=lkeep n_wb g;replace n_rr:=lkeep n_rr g;clear g) | (go_at_call 21; (with_reducible refine (Ret.run ShV2.o _).mono ?_);rintro e va1 ⟨rfl,g⟩;have g:Below va0.heap.size va0 va1:=g;replace u:=u.trans (g.mono u.size);replace B5:=B5.trans (g.mono B5.size);replace n_q:=lkeep n_q g;replace n_wa:=lkeep n_wa g;replace n_wb:=lkeep n_wb g;replace n_rr:=lkeep n_rr g;clear g) | (go_at_call 22; (with_reducible refine (Ret.run ShP1.o _).mono ?_);rintro e va2 ⟨rfl,g⟩;have g:Below va1.heap.size va1 va2:=g;replace u:=u.trans (g.mono u.size);replace B5:=B5.trans (g.mono B5.size);replace n_q:=lkeep n_q g;replace n_wa:=lkeep n_wa g;replace n_wb:=lkeep n_wb g;replace n_rr:=lkeep n_rr g;clear g) | (go_at_call 23; (with_reducible refine (Ret.run ShP2.o _).mono ?_);rintro e va3 ⟨rfl,g⟩;have g:Below va2.heap.size va2 va3:=g;replace u:=u.trans (g.mono u.size);replace B5:=B5.trans (g.mono B5.size);replace n_q:=lkeep n_q g;replace n_wa:=lkeep n_wa g;replace n_wb:=lkeep n_wb g;replace n_rr:=lkeep n_rr g;clear g) | (go_at_call 24; (with_reducible refine (Ret.run ShC1.o _).mono ?_);rintro e va4 ⟨rfl,g⟩;have g:Below va3.heap.size va3 va4:=g;replace u:=u.trans (g.mono u.size);replace B5:=B5.trans (g.mono B5.size);replace n_q:=lkeep n_q g;replace n_wa:=lkeep n_wa g;replace n_wb:=lkeep n_wb g;replace n_rr:=lkeep n_rr g;clear g) | (go_at_call 25; (with_reducible refine (Ret.run ShC2.o _).mono ?_);rintro e va5 ⟨rfl,g⟩;have g:Below va4.heap.size va4 va5:=g;replace u:=u.trans (g.mono u.size);replace B5:=B5.trans (g.mono B5.size);replace n_q:=lkeep n_q g;replace n_wa:=lkeep n_wa g;replace n_wb:=lkeep n_wb g;replace n_rr:=lkeep n_rr g;clear g) | (go_at_call 26; (with_reducible refine (Ret.run ShN1.o _).mono ?_);rintro e va6 ⟨rfl,g⟩;have g:Below va5.heap.size va5 va6:=g;replace u:=u.trans (g.mono u.size);replace B5:=B5.trans (g.mono B5.size);replace n_q:=lkeep n_q g;replace n_wa:=lkeep n_wa g;replace n_wb:=lkeep n_wb g;replace n_rr:=lkeep n_rr g;clear g) | (go_at_call 27; (with_reducible refine (Ret.run ShN2.o _).mono ?_);rintro e va7 ⟨rfl,g⟩;have g:Below va6.heap.size va6 va7:=g;replace u:=u.trans (g.mono u.size);replace B5:=B5.trans (g.mono B5.size);replace n_q:=lkeep n_q g;replace n_wa:=lkeep n_wa g;replace n_wb:=lkeep n_wb g;replace n_rr:=lkeep n_rr g;clear g))
     clear n_q n_wa n_wb n_rr
     go_wp2_with fail
     go_roundw
     case rel=>exact ⟨i+1,by omega,by first | rfl | go_num | simp,⟨B5⟩⟩
     case measure=>simp [intOf];omega
    ·have hk1:k<2:=by omega
     have hki:(k:Int)<2:=by omega
     have hk0:(0:Int)≤(k:Int):=by omega
     have hwk:IntKind.i64.wrap ((k:Int)+1)=(k:Int)+1:=by simp [IntKind.wrap,IntKind.signed,IntKind.bits];omega
     have c_p:=lcell n_p k (HPP.o k hk1)
     generalize PP k=pk at *
     obtain ⟨M,E,hC,hD⟩:=both_facts a r0 r1 r2 r3 r4 r5 r6 r7 SX.o SY.o pk
     have HC:Shut _:=⟨hC⟩
     have HD:Shut _:=⟨hD⟩
     clear hC hD
     have c_q0:=lcell n_q 0 (v:=Z r0) rfl
     have c_q1:=lcell n_q 1 (v:=Z r1) rfl
     have c_q2:=lcell n_q 2 (v:=Z r2) rfl
     have c_q3:=lcell n_q 3 (v:=Z r3) rfl
     have c_q4:=lcell n_q 4 (v:=Z r4) rfl
     have c_q5:=lcell n_q 5 (v:=Z r5) rfl
     have c_q6:=lcell n_q 6 (v:=Z r6) rfl
     have c_q7:=lcell n_q 7 (v:=Z r7) rfl
     go_wp2_with fail
     refine (HC.o _ (HV.o.keep u)).mono ?_
     rintro e x1 ⟨vl,ve,rfl,hL,hE,g⟩
     replace B2:=B2.trans (g.mono B2.size)
     replace u:=u.trans (g.mono u.size)
     replace n_q:=lkeep n_q g
     clear c_q0 c_q1 c_q2 c_q3 c_q4 c_q5 c_q6 c_q7
     clear g
     obtain ⟨gl,capl,rfl,_,hcl,hml,curl,n_l,hl⟩:=OwnG.shape (t:=7) hL (fun _ _=>rfl)
     obtain ⟨ge,cape,rfl,_,hce,hme,cure,n_e,he⟩:=OwnG.shape (t:=7) hE (fun _ _=>rfl)
     have HLl:Shut _:=⟨hl⟩
     have HLe:Shut _:=⟨he⟩
     clear hL hE hl he
     have c_q0:=lcell n_q 0 (v:=Z r0) rfl
     have c_q1:=lcell n_q 1 (v:=Z r1) rfl
     have c_q2:=lcell n_q 2 (v:=Z r2) rfl
     have c_q3:=lcell n_q 3 (v:=Z r3) rfl
     have c_q4:=lcell n_q 4 (v:=Z r4) rfl
     have c_q5:=lcell n_q 5 (v:=Z r5) rfl
     have c_q6:=lcell n_q 6 (v:=Z r6) rfl
     have c_q7:=lcell n_q 7 (v:=Z r7) rfl
     go_wp2_with fail
     refine (HD.o _ (HV.o.keep u)).mono ?_
     rintro e x2 ⟨vl,ve,rfl,hL,hE,g⟩
     replace B2:=B2.trans (g.mono B2.size)
     replace u:=u.trans (g.mono u.size)
     replace n_q:=lkeep n_q g
     replace n_l:=lkeep n_l g
     replace n_e:=lkeep n_e g
     clear c_q0 c_q1 c_q2 c_q3 c_q4 c_q5 c_q6 c_q7
     clear g
     obtain ⟨gm,capm,rfl,_,hcm,hmm,curm,n_m,hl⟩:=OwnG.shape (t:=7) hL (fun _ _=>rfl)
     obtain ⟨gf,capf,rfl,_,hcf,hmf,curf,n_f,he⟩:=OwnG.shape (t:=7) hE (fun _ _=>rfl)
     have HLm:Shut _:=⟨hl⟩
     have HLf:Shut _:=⟨he⟩
     clear hL hE hl he
     go_wp2_with fail
     clear n_q
     have Nl:Shut _:=⟨n_l⟩
     have Ne:Shut _:=⟨n_e⟩
     have Nm:Shut _:=⟨n_m⟩
     have Nf:Shut _:=⟨n_f⟩
     have U6:Shut _:=⟨u⟩
     have B6:Shut _:=⟨B2⟩
     clear n_l n_e n_m n_f u B2
     go_loopw [28] (fun jv wr=>∃ j:Nat,j≤8∧jv = .int .i64 (j:Int)∧Shut (Below x2.heap.size x2 wr)) (fun jv _=>8-(intOf jv).toNat)
     case atStart=>exact ⟨0,Nat.zero_le _,rfl,⟨Below.refl _ _⟩⟩
     case round =>
      obtain ⟨j,hj,rfl,H⟩:=hrel
      have B3:=H.o
      clear H
      have u:=U6.o.trans (B3.mono U6.o.size)
      by_cases hj8:j=8
      ·subst hj8
       go_wp2_with fail
       go_roundw
       case rel=>exact ⟨k+1,by omega,by first | rfl | go_num | simp,⟨B6.o.trans (B3.mono B6.o.size)⟩⟩
       case measure=>simp [intOf];omega
      ·have hj7:j<8:=by omega
       have hji:(j:Int)<8:=by omega
       have hj0:(0:Int)≤(j:Int):=by omega
       have hwj:IntKind.i64.wrap ((j:Int)+1)=(j:Int)+1:=by simp [IntKind.wrap,IntKind.signed,IntKind.bits];omega
       have n_l:=lkeep Nl.o B3
       have n_e:=lkeep Ne.o B3
       have n_m:=lkeep Nm.o B3
       have n_f:=lkeep Nf.o B3
       have c_l0:wr.cell? ⟨gl,j*4,none⟩=some (Z (M j).1.1):=lcell n_l (j*4+0) (v:=Z (M j).1.1) (HLl.o j 0 hj7 (by decide))
       have c_l1:wr.cell? ⟨gl,j*4+1,none⟩=some (Z (M j).1.2):=lcell n_l (j*4+1) (v:=Z (M j).1.2) (HLl.o j 1 hj7 (by decide))
       have c_l2:wr.cell? ⟨gl,j*4+2,none⟩=some (Z (M j).2.1):=lcell n_l (j*4+2) (v:=Z (M j).2.1) (HLl.o j 2 hj7 (by decide))
       have c_l3:wr.cell? ⟨gl,j*4+3,none⟩=some (Z (M j).2.2):=lcell n_l (j*4+3) (v:=Z (M j).2.2) (HLl.o j 3 hj7 (by decide))
       have c_m0:wr.cell? ⟨gm,j*4,none⟩=some (Z (M j).1.1):=lcell n_m (j*4+0) (v:=Z (M j).1.1) (HLm.o j 0 hj7 (by decide))
       have c_m1:wr.cell? ⟨gm,j*4+1,none⟩=some (Z (M j).1.2):=lcell n_m (j*4+1) (v:=Z (M j).1.2) (HLm.o j 1 hj7 (by decide))
       have c_m2:wr.cell? ⟨gm,j*4+2,none⟩=some (Z (M j).2.1):=lcell n_m (j*4+2) (v:=Z (M j).2.1) (HLm.o j 2 hj7 (by decide))
       have c_m3:wr.cell? ⟨gm,j*4+3,none⟩=some (Z (M j).2.2):=lcell n_m (j*4+3) (v:=Z (M j).2.2) (HLm.o j 3 hj7 (by decide))
       have c_e:wr.cell? ⟨ge,j,none⟩=some (.int .i64 (E j)):=by have:=lcell n_e (j*1+0) (v:=.int .i64 (E j)) (HLe.o j 0 hj7 (by decide));rwa [Nat.mul_one,Nat.add_zero] at this
       have c_f:wr.cell? ⟨gf,j,none⟩=some (.int .i64 (E j)):=by have:=lcell n_f (j*1+0) (v:=.int .i64 (E j)) (HLf.o j 0 hj7 (by decide));rwa [Nat.mul_one,Nat.add_zero] at this
       generalize (M j).1.1=i0 at *
       generalize (M j).1.2=i1 at *
       generalize (M j).2.1=i2 at *
       generalize (M j).2.2=i3 at *
       generalize E j=ej at *
       have q0:(i0.toList == i0.toList)=true:=beq_self_eq_true _
       have q1:(i1.toList == i1.toList)=true:=beq_self_eq_true _
       have q2:(i2.toList == i2.toList)=true:=beq_self_eq_true _
       have q3:(i3.toList == i3.toList)=true:=beq_self_eq_true _
       have q4:(ej != ej)=false:=bne_self_eq_false _
       have q5:(ej == ej)=true:=beq_self_eq_true _
       go_upto_region 22 with fail
       refine wp_region_held_drew (S:=fun X=>X.cell? ⟨gl,j*4,none⟩=some (Z i0)∧X.cell? ⟨gl,j*4+1,none⟩=some (Z i1)∧X.cell? ⟨gl,j*4+2,none⟩=some (Z i2)∧X.cell? ⟨gl,j*4+3,none⟩=some (Z i3)∧X.cell? ⟨gm,j*4,none⟩=some (Z i0)∧X.cell? ⟨gm,j*4+1,none⟩=some (Z i1)∧X.cell? ⟨gm,j*4+2,none⟩=some (Z i2)∧X.cell? ⟨gm,j*4+3,none⟩=some (Z i3)∧X.cell? ⟨ge,j,none⟩=some (.int .i64 ej)∧X.cell? ⟨gf,j,none⟩=some (.int .i64 ej)) (by kernel_rfl) (by exact ⟨c_l0,c_l1,c_l2,c_l3,c_m0,c_m1,c_m2,c_m3,c_e,c_f⟩) (fun hHeld => ?_)
       refine wpAnyH_take (i:=0) (v := ?_) rfl (by kernel_rfl) (by kernel_rfl) (by kernel_rfl) (fun _ _ _ h=>h) (Or.inl ⟨by rfl, ?_⟩) (by assumption) ?_
       rotate_left
       focus (intro w hSw;(try dsimp only at hSw);go_simp;first | done | with_reducible rfl)
       refine wpAnyH_take (i:=1) (v := ?_) rfl (by kernel_rfl) (by kernel_rfl) (by kernel_rfl) (fun _ _ _ h=>h) (Or.inl ⟨by rfl, ?_⟩) (by assumption) ?_
       rotate_left
       focus (intro w hSw;(try dsimp only at hSw);go_simp;first | done | with_reducible rfl)
       try simp only [Act.put,J1,J2,J3,J4,J5,J6]
       refine wpAnyH_take (i:=2) (v := ?_) rfl (by kernel_rfl) (by kernel_rfl) (by kernel_rfl) (fun _ _ _ h=>h) (Or.inl ⟨by rfl, ?_⟩) (by assumption) ?_
       rotate_left
       focus (intro w hSw;(try dsimp only at hSw);go_simp;first | done | with_reducible rfl)
       try simp only [Act.put,J1,J2,J3,J4,J5,J6]
       refine wpAnyH_take (i:=3) (v := ?_) rfl (by kernel_rfl) (by kernel_rfl) (by kernel_rfl) (fun _ _ _ h=>h) (Or.inl ⟨by rfl, ?_⟩) (by assumption) ?_
       rotate_left
       focus (intro w hSw;(try dsimp only at hSw);go_simp;first | done | with_reducible rfl)
       try simp only [Act.put,J1,J2,J3,J4,J5,J6]
       refine wpAnyH_take (i:=4) (v := ?_) rfl (by kernel_rfl) (by kernel_rfl) (by kernel_rfl) (fun _ _ _ h=>h) (Or.inl ⟨by rfl, ?_⟩) (by assumption) ?_
       rotate_left
       focus (intro w hSw;(try dsimp only at hSw);go_simp;first | done | with_reducible rfl)
       try simp only [Act.put,J1,J2,J3,J4,J5,J6]
       refine wpAnyH_take (i:=5) (v := ?_) rfl (by kernel_rfl) (by kernel_rfl) (by kernel_rfl) (fun _ _ _ h=>h) (Or.inl ⟨by rfl, ?_⟩) (by assumption) ?_
       rotate_left
       focus (intro w hSw;(try dsimp only at hSw);go_simp;first | done | with_reducible rfl)
       try simp only [Act.put,J1,J2,J3,J4,J5,J6]
       refine wpAnyH_take (i:=6) (v := ?_) rfl (by kernel_rfl) (by kernel_rfl) (by kernel_rfl) (fun _ _ _ h=>h) (Or.inl ⟨by rfl, ?_⟩) (by assumption) ?_
       rotate_left
       focus (intro w hSw;(try dsimp only at hSw);go_simp;first | done | with_reducible rfl)
       try simp only [Act.put,J1,J2,J3,J4,J5,J6]
       refine wpAnyH_take (i:=7) (v := ?_) rfl (by kernel_rfl) (by kernel_rfl) (by kernel_rfl) (fun _ _ _ h=>h) (Or.inl ⟨by rfl, ?_⟩) (by assumption) ?_
       rotate_left
       focus (intro w hSw;(try dsimp only at hSw);go_simp;first | done | with_reducible rfl)
       try simp only [Act.put,J1,J2,J3,J4,J5,J6]
       refine wpAnyH_take (i:=8) (v := ?_) rfl (by kernel_rfl) (by kernel_rfl) (by kernel_rfl) (fun _ _ _ h=>h) (Or.inl ⟨by rfl, ?_⟩) (by assumption) ?_
       rotate_left
       focus (intro w hSw;(try dsimp only at hSw);go_simp;first | done | with_reducible rfl)
       try simp only [Act.put,J1,J2,J3,J4,J5,J6]
       refine wpAnyH_take (i:=9) (v := ?_) rfl (by kernel_rfl) (by kernel_rfl) (by kernel_rfl) (fun _ _ _ h=>h) (Or.inl ⟨by rfl, ?_⟩) (by assumption) ?_
       rotate_left
       focus (intro w hSw;(try dsimp only at hSw);go_simp;first | done | with_reducible rfl)
       try simp only [Act.put,J1,J2,J3,J4,J5,J6]
       refine wpAnyH_take (i:=10) (v := ?_) rfl (by kernel_rfl) (by kernel_rfl) (by kernel_rfl) (fun _ _ _ h=>h) (Or.inl ⟨by rfl, ?_⟩) (by assumption) ?_
       rotate_left
       focus (intro w hSw;(try dsimp only at hSw);go_simp;first | done | with_reducible rfl)
       try simp only [Act.put,J1,J2,J3,J4,J5,J6]
       refine wpAnyH_take (i:=11) (v := ?_) rfl (by kernel_rfl) (by kernel_rfl) (by kernel_rfl) (fun _ _ _ h=>h) (Or.inl ⟨by rfl, ?_⟩) (by assumption) ?_
       rotate_left
       focus (intro w hSw;(try dsimp only at hSw);go_simp;first | done | with_reducible rfl)
       try simp only [Act.put,J1,J2,J3,J4,J5,J6]
       refine wpAnyH_take (i:=12) (v := ?_) rfl (by kernel_rfl) (by kernel_rfl) (by kernel_rfl) (fun _ _ _ h=>h) (Or.inl ⟨by rfl, ?_⟩) (by assumption) ?_
       rotate_left
       focus (intro w hSw;(try dsimp only at hSw);go_simp;first | done | with_reducible rfl)
       try simp only [Act.put,J1,J2,J3,J4,J5,J6]
       refine wpAnyH_take (i:=13) (v := ?_) rfl (by kernel_rfl) (by kernel_rfl) (by kernel_rfl) (fun _ _ _ h=>h) (Or.inl ⟨by rfl, ?_⟩) (by assumption) ?_
       rotate_left
       focus (intro w hSw;(try dsimp only at hSw);go_simp;first | done | with_reducible rfl)
       try simp only [Act.put,J1,J2,J3,J4,J5,J6]
       refine wpAnyH_take (i:=14) (v := ?_) rfl (by kernel_rfl) (by kernel_rfl) (by kernel_rfl) (fun _ _ _ h=>h) (Or.inl ⟨by rfl, ?_⟩) (by assumption) ?_
       rotate_left
       focus (intro w hSw;(try dsimp only at hSw);go_simp;first | done | with_reducible rfl)
       try simp only [Act.put,J1,J2,J3,J4,J5,J6]
       refine wpAnyH_take (i:=15) (v := ?_) rfl (by kernel_rfl) (by kernel_rfl) (by kernel_rfl) (fun _ _ _ h=>h) (Or.inl ⟨by rfl, ?_⟩) (by assumption) ?_
       rotate_left
       focus (intro w hSw;(try dsimp only at hSw);go_simp;first | done | with_reducible rfl)
       try simp only [Act.put,J1,J2,J3,J4,J5,J6]
       refine wpAnyH_take (i:=16) (v := ?_) rfl (by kernel_rfl) (by kernel_rfl) (by kernel_rfl) (fun _ _ _ h=>h) (Or.inl ⟨by rfl, ?_⟩) (by assumption) ?_
       rotate_left
       focus (intro w hSw;(try dsimp only at hSw);go_simp;first | done | with_reducible rfl)
       try simp only [Act.put,J1,J2,J3,J4,J5,J6]
       refine wpAnyH_take (i:=17) (v := ?_) rfl (by kernel_rfl) (by kernel_rfl) (by kernel_rfl) (fun _ _ _ h=>h) (Or.inl ⟨by rfl, ?_⟩) (by assumption) ?_
       rotate_left
       focus (intro w hSw;(try dsimp only at hSw);go_simp;first | done | with_reducible rfl)
       try simp only [Act.put,J1,J2,J3,J4,J5,J6]
       refine wpAnyH_take (i:=18) (v := ?_) rfl (by kernel_rfl) (by kernel_rfl) (by kernel_rfl) (fun _ _ _ h=>h) (Or.inl ⟨by rfl, ?_⟩) (by assumption) ?_
       rotate_left
       focus (intro w hSw;(try dsimp only at hSw);go_simp;first | done | with_reducible rfl)
       try simp only [Act.put,J1,J2,J3,J4,J5,J6]
       refine wpAnyH_take (i:=19) (v := ?_) rfl (by kernel_rfl) (by kernel_rfl) (by kernel_rfl) (fun _ _ _ h=>h) (Or.inl ⟨by rfl, ?_⟩) (by assumption) ?_
       rotate_left
       focus (intro w hSw;(try dsimp only at hSw);go_simp;first | done | with_reducible rfl)
       try simp only [Act.put,J1,J2,J3,J4,J5,J6]
       refine wpAnyH_done (by kernel_rfl) ?_ _
       clear c_l0 c_l1 c_l2 c_l3 c_m0 c_m1 c_m2 c_m3 c_e c_f n_l n_m n_e n_f
       go_wp2_with fail
       go_roundw
       case rel=>exact ⟨j+1,by omega,by first | rfl | go_num | simp,⟨ldrew B3⟩⟩
       case measure=>simp [intOf];omega
end En
end Go.Proofs.YtbfonkabmehlmaaGreatDoor
