/-
  The law's wanted.
-/
import Derived.Test.YtbfonkabmehlmaaGreatDoorY6D2
set_option maxRecDepth 1000000
set_option maxHeartbeats 40000000
open Go.Value renaming string→Z
open Go.Obj renaming cells→O
namespace Go.Proofs.YtbfonkabmehlmaaGreatDoor
namespace En
open Go.RowKit Go.Extern.Stop Go.Stop Go.Extern
theorem wanted_any (a:Addr) (x0 x1 x2 x3 y0 y1 y2 y3:ByteArray) (pl:Int) (M:Nat→P4) (E:Nat→Int)
  (h0:LC a 55 #[.agg #[Z x0,Z x1,Z x2,Z x3],.agg #[Z y0,Z y1,Z y2,Z y3]] (.tuple #[.agg #[Z (M 0).1.1,Z (M 0).1.2,Z (M 0).2.1,Z (M 0).2.2],.int .i64 (E 0)]))
  (h1:LC a 56 #[.agg #[Z x0,Z x1,Z x2,Z x3],.agg #[Z y0,Z y1,Z y2,Z y3]] (.tuple #[.agg #[Z (M 1).1.1,Z (M 1).1.2,Z (M 1).2.1,Z (M 1).2.2],.int .i64 (E 1)]))
  (h2:LC a 57 #[.agg #[Z x0,Z x1,Z x2,Z x3],.agg #[Z y0,Z y1,Z y2,Z y3]] (.tuple #[.agg #[Z (M 2).1.1,Z (M 2).1.2,Z (M 2).2.1,Z (M 2).2.2],.int .i64 (E 2)]))
  (h3:LC a 58 #[.agg #[Z x0,Z x1,Z x2,Z x3],.agg #[Z y0,Z y1,Z y2,Z y3]] (.tuple #[.agg #[Z (M 3).1.1,Z (M 3).1.2,Z (M 3).2.1,Z (M 3).2.2],.int .i64 (E 3)]))
  (h4:LC a 59 #[.agg #[Z x0,Z x1,Z x2,Z x3],.agg #[Z y0,Z y1,Z y2,Z y3]] (.tuple #[.agg #[Z (M 4).1.1,Z (M 4).1.2,Z (M 4).2.1,Z (M 4).2.2],.int .i64 (E 4)]))
  (h5:LC a 60 #[.agg #[Z x0,Z x1,Z x2,Z x3],.agg #[Z y0,Z y1,Z y2,Z y3]] (.tuple #[.agg #[Z (M 5).1.1,Z (M 5).1.2,Z (M 5).2.1,Z (M 5).2.2],.int .i64 (E 5)]))
  (h6:LC a 61 #[.agg #[Z x0,Z x1,Z x2,Z x3],.int .i64 pl] (.tuple #[.agg #[Z (M 6).1.1,Z (M 6).1.2,Z (M 6).2.1,Z (M 6).2.2],.int .i64 (E 6)]))
  (h7:LC a 62 #[.agg #[Z x0,Z x1,Z x2,Z x3],.int .i64 pl] (.tuple #[.agg #[Z (M 7).1.1,Z (M 7).1.2,Z (M 7).2.1,Z (M 7).2.2],.int .i64 (E 7)]))
  (w:World) (hv:Ref a w) :
  Calls Tryz.prog 17 #[.agg #[Z x0,Z x1,Z x2,Z x3],.agg #[Z y0,Z y1,Z y2,Z y3],.int .i64 pl] w fun e w'=>∃ vl ve,e = .returned (.tuple #[vl,ve])∧OwnG 25 4 w' w.heap.size vl 8 (ivs M)∧OwnG 30 1 w' w.heap.size ve 8 (ers E)∧Below w.heap.size w w':=by
 have HV:Shut _:=⟨hv⟩
 have C0:Shut _:=⟨h0⟩
 have C1:Shut _:=⟨h1⟩
 have C2:Shut _:=⟨h2⟩
 have C3:Shut _:=⟨h3⟩
 have C4:Shut _:=⟨h4⟩
 have C5:Shut _:=⟨h5⟩
 have C6:Shut _:=⟨h6⟩
 have C7:Shut _:=⟨h7⟩
 clear hv h0 h1 h2 h3 h4 h5 h6 h7
 obtain ⟨n_x,n_y⟩:=news2 w (O #[Z x0,Z x1,Z x2,Z x3] 25) (O #[Z y0,Z y1,Z y2,Z y3] 25)
 have u:=below2 w (O #[Z x0,Z x1,Z x2,Z x3] 25) (O #[Z y0,Z y1,Z y2,Z y3] 25)
 go_enter Tryz.func17, Tryz.ntmps17
 go_wp2_with fail
 generalize (w.alloc (O #[Z x0,Z x1,Z x2,Z x3] 25)).alloc (O #[Z y0,Z y1,Z y2,Z y3] 25)=V0 at *
 have NX:Shut _:=⟨n_x⟩
 have NY:Shut _:=⟨n_y⟩
 have U0:Shut _:=⟨u⟩
 clear n_x n_y u
 go_loopw [8,9,10] (fun vl ve jv wr=>∃ j:Nat,j≤8∧jv = .int .i64 (j:Int)∧Shut (OwnG 25 4 wr V0.heap.size vl j (ivs M)∧OwnG 30 1 wr V0.heap.size ve j (ers E)∧(vl.ownBlock=none∨vl.ownBlock≠ve.ownBlock)∧(ve.ownBlock=none∨ve.ownBlock≠vl.ownBlock)∧Below w.heap.size w wr∧Below V0.heap.size V0 wr)) (fun _ _ jv _=>8-(intOf jv).toNat)
 case atStart=>exact ⟨0,Nat.zero_le _,rfl,⟨OwnG.nil _ _ _ _ _,OwnG.nil _ _ _ _ _,.inl rfl,.inl rfl,U0.o,Below.refl _ _⟩⟩
 case round =>
  obtain ⟨j,hj,rfl,H⟩:=hrel
  obtain ⟨hL,hE,ap1,ap2,u,u0⟩:=H.o
  clear H
  by_cases hj8:j=8
  ·subst hj8
   go_wp2_with fail
   exact bodyPost_ret (v:=.tuple #[u8,u9]) (by simp [results,Tryz.results17, go_sem]) rfl ⟨_,_,rfl,hL.low_base U0.o.size,hE.low_base U0.o.size,u⟩
  ·have n_x:=lkeep NX.o u0
   have n_y:=lkeep NY.o u0
   have hz:=World.alloc_heap_new wr (O #[Z ⟨#[]⟩,Z ⟨#[]⟩,Z ⟨#[]⟩,Z ⟨#[]⟩] 25)
   have ha:=(Below.refl wr.heap.size wr).alloc (Nat.le_refl _) (O #[Z ⟨#[]⟩,Z ⟨#[]⟩,Z ⟨#[]⟩,Z ⟨#[]⟩] 25)
   have nb1:=hL.new wr.heap.size (Nat.le_refl _)
   have nb2:=hE.new wr.heap.size (Nat.le_refl _)
   have hbb1:=u.size
   have hbb0:=u0.size
   replace n_x:=lkeep n_x ha
   replace n_y:=lkeep n_y ha
   replace hL:=hL.below ha
   replace hE:=hE.below ha
   replace u:=u.trans (ha.mono u.size)
   replace u0:=u0.trans (ha.mono u0.size)
   clear ha
   have cx0:=lcell n_x 0 (v:=Z x0) rfl
   have cx1:=lcell n_x 1 (v:=Z x1) rfl
   have cx2:=lcell n_x 2 (v:=Z x2) rfl
   have cx3:=lcell n_x 3 (v:=Z x3) rfl
   have cy0:=lcell n_y 0 (v:=Z y0) rfl
   have cy1:=lcell n_y 1 (v:=Z y1) rfl
   have cy2:=lcell n_y 2 (v:=Z y2) rfl
   have cy3:=lcell n_y 3 (v:=Z y3) rfl
   rcases (show j=0∨j=1∨j=2∨j=3∨j=4∨j=5∨j=6∨j=7 by omega) with rfl | rfl | rfl | rfl | rfl | rfl | rfl | rfl
   ·have cc:=C0.o _ (HV.o.keep u)
    have hw1:IntKind.i64.wrap (0+1)=1:=by decide
    have eR:ivs M 0 = [Z (M 0).1.1,Z (M 0).1.2,Z (M 0).2.1,Z (M 0).2.2]:=rfl
    have eS:ers E 0 = [.int .i64 (E 0)]:=rfl
    generalize (M 0).1.1=m0 at *
    generalize (M 0).1.2=m1 at *
    generalize (M 0).2.1=m2 at *
    generalize (M 0).2.2=m3 at *
    generalize E 0=ec at *
    go_wp2_with fail
    refine cc.mono ?_
    rintro e v1 ⟨rfl,g⟩
    replace hL:=hL.below g
    replace hE:=hE.below g
    replace u:=u.trans (g.mono u.size)
    replace u0:=u0.trans (g.mono u0.size)
    have n_b:=lkeep hz g
    generalize wr.heap.size=bb at *
    clear g cc hz n_x n_y cx0 cx1 cx2 cx3 cy0 cy1 cy2 cy3
    have k0:=lcell n_b 0 (v:=Z ⟨#[]⟩) rfl
    have k1:=lcell n_b 1 (v:=Z ⟨#[]⟩) rfl
    have k2:=lcell n_b 2 (v:=Z ⟨#[]⟩) rfl
    have k3:=lcell n_b 3 (v:=Z ⟨#[]⟩) rfl
    have f0:=lfree n_b 0
    have f1:=lfree n_b 1
    have f2:=lfree n_b 2
    have f3:=lfree n_b 3
    have s_b:=box4_set (x:=Z m0) (y:=Z m1) (z:=Z m2) (t:=Z m3) n_b
    have q0:=lcell s_b 0 (v:=Z m0) rfl
    have q1:=lcell s_b 1 (v:=Z m1) rfl
    have q2:=lcell s_b 2 (v:=Z m2) rfl
    have q3:=lcell s_b 3 (v:=Z m3) rfl
    have g4:=grown4 v1 bb (Z m0) (Z m1) (Z m2) (Z m3)
    replace hL:=hL.beside (u:=.slice (some ⟨bb,0,none⟩) 0 0) g4 (.inr nb1)
    replace hE:=hE.beside (u:=.slice (some ⟨bb,0,none⟩) 0 0) g4 (.inr nb2)
    have hbw:∀ i,w.heap.size≤(⟨bb,i,none⟩:Addr).block:=fun _=>hbb1
    have hb0:∀ i,V0.heap.size≤(⟨bb,i,none⟩:Addr).block:=fun _=>hbb0
    replace u:=(((u.setCell (hbw 0) (Z m0)).setCell (hbw 1) (Z m1)).setCell (hbw 2) (Z m2)).setCell (hbw 3) (Z m3)
    replace u0:=(((u0.setCell (hb0 0) (Z m0)).setCell (hb0 1) (Z m1)).setCell (hb0 2) (Z m2)).setCell (hb0 3) (Z m3)
    go_upto_region 24 with fail
    generalize ((((v1.setCell ⟨bb,0,none⟩ (Z m0)).setCell ⟨bb,1,none⟩ (Z m1)).setCell ⟨bb,2,none⟩ (Z m2)).setCell ⟨bb,3,none⟩ (Z m3))=V2 at *
    clear k0 k1 k2 k3 f0 f1 f2 f3 n_b s_b g4 hbw hb0
    have ha:=(Below.refl V2.heap.size V2).alloc (Nat.le_refl _) (O #[Z m0,Z m1,Z m2,Z m3] 25)
    have n_n:=World.alloc_heap_new V2 (O #[Z m0,Z m1,Z m2,Z m3] 25)
    replace hL:=hL.below ha
    replace hE:=hE.below ha
    replace u:=u.trans (ha.mono u.size)
    replace u0:=u0.trans (ha.mono u0.size)
    clear ha
    go_upto_region 25 with (at_builtin;refine append_ivl rfl _ _ rfl V0.heap.size _ 0 (ivs M) rfl hL V2.heap.size _ rfl m0 m1 m2 m3 eR n_n (by decide) u0.size ?_;intro vl' w3 hL' hg hat)
    have hEo:=hE
    replace hE:=hE.beside hg ap2
    replace ap2:=apart_grown hEo ap2 hat
    replace u:=below_grown u (Nat.le_refl _) U0.o.size hL hg
    replace u0:=below_grown u0 (Nat.le_refl _) (Nat.le_refl _) hL hg
    clear hL hEo hg hat n_n ap1 nb1 nb2
    have ap1:=apart_symm ap2
    have ha:=(Below.refl w3.heap.size w3).alloc (Nat.le_refl _) (O #[.int .i64 ec] 30)
    have n_e:=World.alloc_heap_new w3 (O #[.int .i64 ec] 30)
    replace hL':=hL'.below ha
    replace hE:=hE.below ha
    replace u:=u.trans (ha.mono u.size)
    replace u0:=u0.trans (ha.mono u0.size)
    clear ha
    go_wp2_with (at_builtin;refine append_err rfl _ _ rfl V0.heap.size _ 0 (ers E) rfl hE w3.heap.size _ rfl ec eS n_e (by decide) u0.size ?_;intro ve' w4 hE' hg2 hat2)
    replace u:=below_grown u (Nat.le_refl _) U0.o.size hE hg2
    replace u0:=below_grown u0 (Nat.le_refl _) (Nat.le_refl _) hE hg2
    have hLo:=hL'
    replace hL':=hL'.beside hg2 ap1
    replace ap1:=apart_grown hLo ap1 hat2
    clear hLo hE hg2 hat2 n_e ap2
    go_roundw
    case rel=>exact ⟨1,by omega,by first | rfl | go_num | simp,⟨hL',hE',ap1,apart_symm ap1,u,u0⟩⟩
    case measure=>simp [intOf]
   ·have cc:=C1.o _ (HV.o.keep u)
    have hw1:IntKind.i64.wrap (1+1)=2:=by decide
    have eR:ivs M 1 = [Z (M 1).1.1,Z (M 1).1.2,Z (M 1).2.1,Z (M 1).2.2]:=rfl
    have eS:ers E 1 = [.int .i64 (E 1)]:=rfl
    generalize (M 1).1.1=m0 at *
    generalize (M 1).1.2=m1 at *
    generalize (M 1).2.1=m2 at *
    generalize (M 1).2.2=m3 at *
    generalize E 1=ec at *
    go_wp2_with fail
    refine cc.mono ?_
    rintro e v1 ⟨rfl,g⟩
    replace hL:=hL.below g
    replace hE:=hE.below g
    replace u:=u.trans (g.mono u.size)
    replace u0:=u0.trans (g.mono u0.size)
    have n_b:=lkeep hz g
    generalize wr.heap.size=bb at *
    clear g cc hz n_x n_y cx0 cx1 cx2 cx3 cy0 cy1 cy2 cy3
    have k0:=lcell n_b 0 (v:=Z ⟨#[]⟩) rfl
    have k1:=lcell n_b 1 (v:=Z ⟨#[]⟩) rfl
    have k2:=lcell n_b 2 (v:=Z ⟨#[]⟩) rfl
    have k3:=lcell n_b 3 (v:=Z ⟨#[]⟩) rfl
    have f0:=lfree n_b 0
    have f1:=lfree n_b 1
    have f2:=lfree n_b 2
    have f3:=lfree n_b 3
    have s_b:=box4_set (x:=Z m0) (y:=Z m1) (z:=Z m2) (t:=Z m3) n_b
    have q0:=lcell s_b 0 (v:=Z m0) rfl
    have q1:=lcell s_b 1 (v:=Z m1) rfl
    have q2:=lcell s_b 2 (v:=Z m2) rfl
    have q3:=lcell s_b 3 (v:=Z m3) rfl
    have g4:=grown4 v1 bb (Z m0) (Z m1) (Z m2) (Z m3)
    replace hL:=hL.beside (u:=.slice (some ⟨bb,0,none⟩) 0 0) g4 (.inr nb1)
    replace hE:=hE.beside (u:=.slice (some ⟨bb,0,none⟩) 0 0) g4 (.inr nb2)
    have hbw:∀ i,w.heap.size≤(⟨bb,i,none⟩:Addr).block:=fun _=>hbb1
    have hb0:∀ i,V0.heap.size≤(⟨bb,i,none⟩:Addr).block:=fun _=>hbb0
    replace u:=(((u.setCell (hbw 0) (Z m0)).setCell (hbw 1) (Z m1)).setCell (hbw 2) (Z m2)).setCell (hbw 3) (Z m3)
    replace u0:=(((u0.setCell (hb0 0) (Z m0)).setCell (hb0 1) (Z m1)).setCell (hb0 2) (Z m2)).setCell (hb0 3) (Z m3)
    go_upto_region 24 with fail
    generalize ((((v1.setCell ⟨bb,0,none⟩ (Z m0)).setCell ⟨bb,1,none⟩ (Z m1)).setCell ⟨bb,2,none⟩ (Z m2)).setCell ⟨bb,3,none⟩ (Z m3))=V2 at *
    clear k0 k1 k2 k3 f0 f1 f2 f3 n_b s_b g4 hbw hb0
    have ha:=(Below.refl V2.heap.size V2).alloc (Nat.le_refl _) (O #[Z m0,Z m1,Z m2,Z m3] 25)
    have n_n:=World.alloc_heap_new V2 (O #[Z m0,Z m1,Z m2,Z m3] 25)
    replace hL:=hL.below ha
    replace hE:=hE.below ha
    replace u:=u.trans (ha.mono u.size)
    replace u0:=u0.trans (ha.mono u0.size)
    clear ha
    go_upto_region 25 with (at_builtin;refine append_ivl rfl _ _ rfl V0.heap.size _ 1 (ivs M) rfl hL V2.heap.size _ rfl m0 m1 m2 m3 eR n_n (by decide) u0.size ?_;intro vl' w3 hL' hg hat)
    have hEo:=hE
    replace hE:=hE.beside hg ap2
    replace ap2:=apart_grown hEo ap2 hat
    replace u:=below_grown u (Nat.le_refl _) U0.o.size hL hg
    replace u0:=below_grown u0 (Nat.le_refl _) (Nat.le_refl _) hL hg
    clear hL hEo hg hat n_n ap1 nb1 nb2
    have ap1:=apart_symm ap2
    have ha:=(Below.refl w3.heap.size w3).alloc (Nat.le_refl _) (O #[.int .i64 ec] 30)
    have n_e:=World.alloc_heap_new w3 (O #[.int .i64 ec] 30)
    replace hL':=hL'.below ha
    replace hE:=hE.below ha
    replace u:=u.trans (ha.mono u.size)
    replace u0:=u0.trans (ha.mono u0.size)
    clear ha
    go_wp2_with (at_builtin;refine append_err rfl _ _ rfl V0.heap.size _ 1 (ers E) rfl hE w3.heap.size _ rfl ec eS n_e (by decide) u0.size ?_;intro ve' w4 hE' hg2 hat2)
    replace u:=below_grown u (Nat.le_refl _) U0.o.size hE hg2
    replace u0:=below_grown u0 (Nat.le_refl _) (Nat.le_refl _) hE hg2
    have hLo:=hL'
    replace hL':=hL'.beside hg2 ap1
    replace ap1:=apart_grown hLo ap1 hat2
    clear hLo hE hg2 hat2 n_e ap2
    go_roundw
    case rel=>exact ⟨2,by omega,by first | rfl | go_num | simp,⟨hL',hE',ap1,apart_symm ap1,u,u0⟩⟩
    case measure=>simp [intOf]
   ·have cc:=C2.o _ (HV.o.keep u)
    have hw1:IntKind.i64.wrap (2+1)=3:=by decide
    have eR:ivs M 2 = [Z (M 2).1.1,Z (M 2).1.2,Z (M 2).2.1,Z (M 2).2.2]:=rfl
    have eS:ers E 2 = [.int .i64 (E 2)]:=rfl
    generalize (M 2).1.1=m0 at *
    generalize (M 2).1.2=m1 at *
    generalize (M 2).2.1=m2 at *
    generalize (M 2).2.2=m3 at *
    generalize E 2=ec at *
    go_wp2_with fail
    refine cc.mono ?_
    rintro e v1 ⟨rfl,g⟩
    replace hL:=hL.below g
    replace hE:=hE.below g
    replace u:=u.trans (g.mono u.size)
    replace u0:=u0.trans (g.mono u0.size)
    have n_b:=lkeep hz g
    generalize wr.heap.size=bb at *
    clear g cc hz n_x n_y cx0 cx1 cx2 cx3 cy0 cy1 cy2 cy3
    have k0:=lcell n_b 0 (v:=Z ⟨#[]⟩) rfl
    have k1:=lcell n_b 1 (v:=Z ⟨#[]⟩) rfl
    have k2:=lcell n_b 2 (v:=Z ⟨#[]⟩) rfl
    have k3:=lcell n_b 3 (v:=Z ⟨#[]⟩) rfl
    have f0:=lfree n_b 0
    have f1:=lfree n_b 1
    have f2:=lfree n_b 2
    have f3:=lfree n_b 3
    have s_b:=box4_set (x:=Z m0) (y:=Z m1) (z:=Z m2) (t:=Z m3) n_b
    have q0:=lcell s_b 0 (v:=Z m0) rfl
    have q1:=lcell s_b 1 (v:=Z m1) rfl
    have q2:=lcell s_b 2 (v:=Z m2) rfl
    have q3:=lcell s_b 3 (v:=Z m3) rfl
    have g4:=grown4 v1 bb (Z m0) (Z m1) (Z m2) (Z m3)
    replace hL:=hL.beside (u:=.slice (some ⟨bb,0,none⟩) 0 0) g4 (.inr nb1)
    replace hE:=hE.beside (u:=.slice (some ⟨bb,0,none⟩) 0 0) g4 (.inr nb2)
    have hbw:∀ i,w.heap.size≤(⟨bb,i,none⟩:Addr).block:=fun _=>hbb1
    have hb0:∀ i,V0.heap.size≤(⟨bb,i,none⟩:Addr).block:=fun _=>hbb0
    replace u:=(((u.setCell (hbw 0) (Z m0)).setCell (hbw 1) (Z m1)).setCell (hbw 2) (Z m2)).setCell (hbw 3) (Z m3)
    replace u0:=(((u0.setCell (hb0 0) (Z m0)).setCell (hb0 1) (Z m1)).setCell (hb0 2) (Z m2)).setCell (hb0 3) (Z m3)
    go_upto_region 24 with fail
    generalize ((((v1.setCell ⟨bb,0,none⟩ (Z m0)).setCell ⟨bb,1,none⟩ (Z m1)).setCell ⟨bb,2,none⟩ (Z m2)).setCell ⟨bb,3,none⟩ (Z m3))=V2 at *
    clear k0 k1 k2 k3 f0 f1 f2 f3 n_b s_b g4 hbw hb0
    have ha:=(Below.refl V2.heap.size V2).alloc (Nat.le_refl _) (O #[Z m0,Z m1,Z m2,Z m3] 25)
    have n_n:=World.alloc_heap_new V2 (O #[Z m0,Z m1,Z m2,Z m3] 25)
    replace hL:=hL.below ha
    replace hE:=hE.below ha
    replace u:=u.trans (ha.mono u.size)
    replace u0:=u0.trans (ha.mono u0.size)
    clear ha
    go_upto_region 25 with (at_builtin;refine append_ivl rfl _ _ rfl V0.heap.size _ 2 (ivs M) rfl hL V2.heap.size _ rfl m0 m1 m2 m3 eR n_n (by decide) u0.size ?_;intro vl' w3 hL' hg hat)
    have hEo:=hE
    replace hE:=hE.beside hg ap2
    replace ap2:=apart_grown hEo ap2 hat
    replace u:=below_grown u (Nat.le_refl _) U0.o.size hL hg
    replace u0:=below_grown u0 (Nat.le_refl _) (Nat.le_refl _) hL hg
    clear hL hEo hg hat n_n ap1 nb1 nb2
    have ap1:=apart_symm ap2
    have ha:=(Below.refl w3.heap.size w3).alloc (Nat.le_refl _) (O #[.int .i64 ec] 30)
    have n_e:=World.alloc_heap_new w3 (O #[.int .i64 ec] 30)
    replace hL':=hL'.below ha
    replace hE:=hE.below ha
    replace u:=u.trans (ha.mono u.size)
    replace u0:=u0.trans (ha.mono u0.size)
    clear ha
    go_wp2_with (at_builtin;refine append_err rfl _ _ rfl V0.heap.size _ 2 (ers E) rfl hE w3.heap.size _ rfl ec eS n_e (by decide) u0.size ?_;intro ve' w4 hE' hg2 hat2)
    replace u:=below_grown u (Nat.le_refl _) U0.o.size hE hg2
    replace u0:=below_grown u0 (Nat.le_refl _) (Nat.le_refl _) hE hg2
    have hLo:=hL'
    replace hL':=hL'.beside hg2 ap1
    replace ap1:=apart_grown hLo ap1 hat2
    clear hLo hE hg2 hat2 n_e ap2
    go_roundw
    case rel=>exact ⟨3,by omega,by first | rfl | go_num | simp,⟨hL',hE',ap1,apart_symm ap1,u,u0⟩⟩
    case measure=>simp [intOf]
   ·have cc:=C3.o _ (HV.o.keep u)
    have hw1:IntKind.i64.wrap (3+1)=4:=by decide
    have eR:ivs M 3 = [Z (M 3).1.1,Z (M 3).1.2,Z (M 3).2.1,Z (M 3).2.2]:=rfl
    have eS:ers E 3 = [.int .i64 (E 3)]:=rfl
    generalize (M 3).1.1=m0 at *
    generalize (M 3).1.2=m1 at *
    generalize (M 3).2.1=m2 at *
    generalize (M 3).2.2=m3 at *
    generalize E 3=ec at *
    go_wp2_with fail
    refine cc.mono ?_
    rintro e v1 ⟨rfl,g⟩
    replace hL:=hL.below g
    replace hE:=hE.below g
    replace u:=u.trans (g.mono u.size)
    replace u0:=u0.trans (g.mono u0.size)
    have n_b:=lkeep hz g
    generalize wr.heap.size=bb at *
    clear g cc hz n_x n_y cx0 cx1 cx2 cx3 cy0 cy1 cy2 cy3
    have k0:=lcell n_b 0 (v:=Z ⟨#[]⟩) rfl
    have k1:=lcell n_b 1 (v:=Z ⟨#[]⟩) rfl
    have k2:=lcell n_b 2 (v:=Z ⟨#[]⟩) rfl
    have k3:=lcell n_b 3 (v:=Z ⟨#[]⟩) rfl
    have f0:=lfree n_b 0
    have f1:=lfree n_b 1
    have f2:=lfree n_b 2
    have f3:=lfree n_b 3
    have s_b:=box4_set (x:=Z m0) (y:=Z m1) (z:=Z m2) (t:=Z m3) n_b
    have q0:=lcell s_b 0 (v:=Z m0) rfl
    have q1:=lcell s_b 1 (v:=Z m1) rfl
    have q2:=lcell s_b 2 (v:=Z m2) rfl
    have q3:=lcell s_b 3 (v:=Z m3) rfl
    have g4:=grown4 v1 bb (Z m0) (Z m1) (Z m2) (Z m3)
    replace hL:=hL.beside (u:=.slice (some ⟨bb,0,none⟩) 0 0) g4 (.inr nb1)
    replace hE:=hE.beside (u:=.slice (some ⟨bb,0,none⟩) 0 0) g4 (.inr nb2)
    have hbw:∀ i,w.heap.size≤(⟨bb,i,none⟩:Addr).block:=fun _=>hbb1
    have hb0:∀ i,V0.heap.size≤(⟨bb,i,none⟩:Addr).block:=fun _=>hbb0
    replace u:=(((u.setCell (hbw 0) (Z m0)).setCell (hbw 1) (Z m1)).setCell (hbw 2) (Z m2)).setCell (hbw 3) (Z m3)
    replace u0:=(((u0.setCell (hb0 0) (Z m0)).setCell (hb0 1) (Z m1)).setCell (hb0 2) (Z m2)).setCell (hb0 3) (Z m3)
    go_upto_region 24 with fail
    generalize ((((v1.setCell ⟨bb,0,none⟩ (Z m0)).setCell ⟨bb,1,none⟩ (Z m1)).setCell ⟨bb,2,none⟩ (Z m2)).setCell ⟨bb,3,none⟩ (Z m3))=V2 at *
    clear k0 k1 k2 k3 f0 f1 f2 f3 n_b s_b g4 hbw hb0
    have ha:=(Below.refl V2.heap.size V2).alloc (Nat.le_refl _) (O #[Z m0,Z m1,Z m2,Z m3] 25)
    have n_n:=World.alloc_heap_new V2 (O #[Z m0,Z m1,Z m2,Z m3] 25)
    replace hL:=hL.below ha
    replace hE:=hE.below ha
    replace u:=u.trans (ha.mono u.size)
    replace u0:=u0.trans (ha.mono u0.size)
    clear ha
    go_upto_region 25 with (at_builtin;refine append_ivl rfl _ _ rfl V0.heap.size _ 3 (ivs M) rfl hL V2.heap.size _ rfl m0 m1 m2 m3 eR n_n (by decide) u0.size ?_;intro vl' w3 hL' hg hat)
    have hEo:=hE
    replace hE:=hE.beside hg ap2
    replace ap2:=apart_grown hEo ap2 hat
    replace u:=below_grown u (Nat.le_refl _) U0.o.size hL hg
    replace u0:=below_grown u0 (Nat.le_refl _) (Nat.le_refl _) hL hg
    clear hL hEo hg hat n_n ap1 nb1 nb2
    have ap1:=apart_symm ap2
    have ha:=(Below.refl w3.heap.size w3).alloc (Nat.le_refl _) (O #[.int .i64 ec] 30)
    have n_e:=World.alloc_heap_new w3 (O #[.int .i64 ec] 30)
    replace hL':=hL'.below ha
    replace hE:=hE.below ha
    replace u:=u.trans (ha.mono u.size)
    replace u0:=u0.trans (ha.mono u0.size)
    clear ha
    go_wp2_with (at_builtin;refine append_err rfl _ _ rfl V0.heap.size _ 3 (ers E) rfl hE w3.heap.size _ rfl ec eS n_e (by decide) u0.size ?_;intro ve' w4 hE' hg2 hat2)
    replace u:=below_grown u (Nat.le_refl _) U0.o.size hE hg2
    replace u0:=below_grown u0 (Nat.le_refl _) (Nat.le_refl _) hE hg2
    have hLo:=hL'
    replace hL':=hL'.beside hg2 ap1
    replace ap1:=apart_grown hLo ap1 hat2
    clear hLo hE hg2 hat2 n_e ap2
    go_roundw
    case rel=>exact ⟨4,by omega,by first | rfl | go_num | simp,⟨hL',hE',ap1,apart_symm ap1,u,u0⟩⟩
    case measure=>simp [intOf]
   ·have cc:=C4.o _ (HV.o.keep u)
    have hw1:IntKind.i64.wrap (4+1)=5:=by decide
    have eR:ivs M 4 = [Z (M 4).1.1,Z (M 4).1.2,Z (M 4).2.1,Z (M 4).2.2]:=rfl
    have eS:ers E 4 = [.int .i64 (E 4)]:=rfl
    generalize (M 4).1.1=m0 at *
    generalize (M 4).1.2=m1 at *
    generalize (M 4).2.1=m2 at *
    generalize (M 4).2.2=m3 at *
    generalize E 4=ec at *
    go_wp2_with fail
    refine cc.mono ?_
    rintro e v1 ⟨rfl,g⟩
    replace hL:=hL.below g
    replace hE:=hE.below g
    replace u:=u.trans (g.mono u.size)
    replace u0:=u0.trans (g.mono u0.size)
    have n_b:=lkeep hz g
    generalize wr.heap.size=bb at *
    clear g cc hz n_x n_y cx0 cx1 cx2 cx3 cy0 cy1 cy2 cy3
    have k0:=lcell n_b 0 (v:=Z ⟨#[]⟩) rfl
    have k1:=lcell n_b 1 (v:=Z ⟨#[]⟩) rfl
    have k2:=lcell n_b 2 (v:=Z ⟨#[]⟩) rfl
    have k3:=lcell n_b 3 (v:=Z ⟨#[]⟩) rfl
    have f0:=lfree n_b 0
    have f1:=lfree n_b 1
    have f2:=lfree n_b 2
    have f3:=lfree n_b 3
    have s_b:=box4_set (x:=Z m0) (y:=Z m1) (z:=Z m2) (t:=Z m3) n_b
    have q0:=lcell s_b 0 (v:=Z m0) rfl
    have q1:=lcell s_b 1 (v:=Z m1) rfl
    have q2:=lcell s_b 2 (v:=Z m2) rfl
    have q3:=lcell s_b 3 (v:=Z m3) rfl
    have g4:=grown4 v1 bb (Z m0) (Z m1) (Z m2) (Z m3)
    replace hL:=hL.beside (u:=.slice (some ⟨bb,0,none⟩) 0 0) g4 (.inr nb1)
    replace hE:=hE.beside (u:=.slice (some ⟨bb,0,none⟩) 0 0) g4 (.inr nb2)
    have hbw:∀ i,w.heap.size≤(⟨bb,i,none⟩:Addr).block:=fun _=>hbb1
    have hb0:∀ i,V0.heap.size≤(⟨bb,i,none⟩:Addr).block:=fun _=>hbb0
    replace u:=(((u.setCell (hbw 0) (Z m0)).setCell (hbw 1) (Z m1)).setCell (hbw 2) (Z m2)).setCell (hbw 3) (Z m3)
    replace u0:=(((u0.setCell (hb0 0) (Z m0)).setCell (hb0 1) (Z m1)).setCell (hb0 2) (Z m2)).setCell (hb0 3) (Z m3)
    go_upto_region 24 with fail
    generalize ((((v1.setCell ⟨bb,0,none⟩ (Z m0)).setCell ⟨bb,1,none⟩ (Z m1)).setCell ⟨bb,2,none⟩ (Z m2)).setCell ⟨bb,3,none⟩ (Z m3))=V2 at *
    clear k0 k1 k2 k3 f0 f1 f2 f3 n_b s_b g4 hbw hb0
    have ha:=(Below.refl V2.heap.size V2).alloc (Nat.le_refl _) (O #[Z m0,Z m1,Z m2,Z m3] 25)
    have n_n:=World.alloc_heap_new V2 (O #[Z m0,Z m1,Z m2,Z m3] 25)
    replace hL:=hL.below ha
    replace hE:=hE.below ha
    replace u:=u.trans (ha.mono u.size)
    replace u0:=u0.trans (ha.mono u0.size)
    clear ha
    go_upto_region 25 with (at_builtin;refine append_ivl rfl _ _ rfl V0.heap.size _ 4 (ivs M) rfl hL V2.heap.size _ rfl m0 m1 m2 m3 eR n_n (by decide) u0.size ?_;intro vl' w3 hL' hg hat)
    have hEo:=hE
    replace hE:=hE.beside hg ap2
    replace ap2:=apart_grown hEo ap2 hat
    replace u:=below_grown u (Nat.le_refl _) U0.o.size hL hg
    replace u0:=below_grown u0 (Nat.le_refl _) (Nat.le_refl _) hL hg
    clear hL hEo hg hat n_n ap1 nb1 nb2
    have ap1:=apart_symm ap2
    have ha:=(Below.refl w3.heap.size w3).alloc (Nat.le_refl _) (O #[.int .i64 ec] 30)
    have n_e:=World.alloc_heap_new w3 (O #[.int .i64 ec] 30)
    replace hL':=hL'.below ha
    replace hE:=hE.below ha
    replace u:=u.trans (ha.mono u.size)
    replace u0:=u0.trans (ha.mono u0.size)
    clear ha
    go_wp2_with (at_builtin;refine append_err rfl _ _ rfl V0.heap.size _ 4 (ers E) rfl hE w3.heap.size _ rfl ec eS n_e (by decide) u0.size ?_;intro ve' w4 hE' hg2 hat2)
    replace u:=below_grown u (Nat.le_refl _) U0.o.size hE hg2
    replace u0:=below_grown u0 (Nat.le_refl _) (Nat.le_refl _) hE hg2
    have hLo:=hL'
    replace hL':=hL'.beside hg2 ap1
    replace ap1:=apart_grown hLo ap1 hat2
    clear hLo hE hg2 hat2 n_e ap2
    go_roundw
    case rel=>exact ⟨5,by omega,by first | rfl | go_num | simp,⟨hL',hE',ap1,apart_symm ap1,u,u0⟩⟩
    case measure=>simp [intOf]
   ·have cc:=C5.o _ (HV.o.keep u)
    have hw1:IntKind.i64.wrap (5+1)=6:=by decide
    have eR:ivs M 5 = [Z (M 5).1.1,Z (M 5).1.2,Z (M 5).2.1,Z (M 5).2.2]:=rfl
    have eS:ers E 5 = [.int .i64 (E 5)]:=rfl
    generalize (M 5).1.1=m0 at *
    generalize (M 5).1.2=m1 at *
    generalize (M 5).2.1=m2 at *
    generalize (M 5).2.2=m3 at *
    generalize E 5=ec at *
    go_wp2_with fail
    refine cc.mono ?_
    rintro e v1 ⟨rfl,g⟩
    replace hL:=hL.below g
    replace hE:=hE.below g
    replace u:=u.trans (g.mono u.size)
    replace u0:=u0.trans (g.mono u0.size)
    have n_b:=lkeep hz g
    generalize wr.heap.size=bb at *
    clear g cc hz n_x n_y cx0 cx1 cx2 cx3 cy0 cy1 cy2 cy3
    have k0:=lcell n_b 0 (v:=Z ⟨#[]⟩) rfl
    have k1:=lcell n_b 1 (v:=Z ⟨#[]⟩) rfl
    have k2:=lcell n_b 2 (v:=Z ⟨#[]⟩) rfl
    have k3:=lcell n_b 3 (v:=Z ⟨#[]⟩) rfl
    have f0:=lfree n_b 0
    have f1:=lfree n_b 1
    have f2:=lfree n_b 2
    have f3:=lfree n_b 3
    have s_b:=box4_set (x:=Z m0) (y:=Z m1) (z:=Z m2) (t:=Z m3) n_b
    have q0:=lcell s_b 0 (v:=Z m0) rfl
    have q1:=lcell s_b 1 (v:=Z m1) rfl
    have q2:=lcell s_b 2 (v:=Z m2) rfl
    have q3:=lcell s_b 3 (v:=Z m3) rfl
    have g4:=grown4 v1 bb (Z m0) (Z m1) (Z m2) (Z m3)
    replace hL:=hL.beside (u:=.slice (some ⟨bb,0,none⟩) 0 0) g4 (.inr nb1)
    replace hE:=hE.beside (u:=.slice (some ⟨bb,0,none⟩) 0 0) g4 (.inr nb2)
    have hbw:∀ i,w.heap.size≤(⟨bb,i,none⟩:Addr).block:=fun _=>hbb1
    have hb0:∀ i,V0.heap.size≤(⟨bb,i,none⟩:Addr).block:=fun _=>hbb0
    replace u:=(((u.setCell (hbw 0) (Z m0)).setCell (hbw 1) (Z m1)).setCell (hbw 2) (Z m2)).setCell (hbw 3) (Z m3)
    replace u0:=(((u0.setCell (hb0 0) (Z m0)).setCell (hb0 1) (Z m1)).setCell (hb0 2) (Z m2)).setCell (hb0 3) (Z m3)
    go_upto_region 24 with fail
    generalize ((((v1.setCell ⟨bb,0,none⟩ (Z m0)).setCell ⟨bb,1,none⟩ (Z m1)).setCell ⟨bb,2,none⟩ (Z m2)).setCell ⟨bb,3,none⟩ (Z m3))=V2 at *
    clear k0 k1 k2 k3 f0 f1 f2 f3 n_b s_b g4 hbw hb0
    have ha:=(Below.refl V2.heap.size V2).alloc (Nat.le_refl _) (O #[Z m0,Z m1,Z m2,Z m3] 25)
    have n_n:=World.alloc_heap_new V2 (O #[Z m0,Z m1,Z m2,Z m3] 25)
    replace hL:=hL.below ha
    replace hE:=hE.below ha
    replace u:=u.trans (ha.mono u.size)
    replace u0:=u0.trans (ha.mono u0.size)
    clear ha
    go_upto_region 25 with (at_builtin;refine append_ivl rfl _ _ rfl V0.heap.size _ 5 (ivs M) rfl hL V2.heap.size _ rfl m0 m1 m2 m3 eR n_n (by decide) u0.size ?_;intro vl' w3 hL' hg hat)
    have hEo:=hE
    replace hE:=hE.beside hg ap2
    replace ap2:=apart_grown hEo ap2 hat
    replace u:=below_grown u (Nat.le_refl _) U0.o.size hL hg
    replace u0:=below_grown u0 (Nat.le_refl _) (Nat.le_refl _) hL hg
    clear hL hEo hg hat n_n ap1 nb1 nb2
    have ap1:=apart_symm ap2
    have ha:=(Below.refl w3.heap.size w3).alloc (Nat.le_refl _) (O #[.int .i64 ec] 30)
    have n_e:=World.alloc_heap_new w3 (O #[.int .i64 ec] 30)
    replace hL':=hL'.below ha
    replace hE:=hE.below ha
    replace u:=u.trans (ha.mono u.size)
    replace u0:=u0.trans (ha.mono u0.size)
    clear ha
    go_wp2_with (at_builtin;refine append_err rfl _ _ rfl V0.heap.size _ 5 (ers E) rfl hE w3.heap.size _ rfl ec eS n_e (by decide) u0.size ?_;intro ve' w4 hE' hg2 hat2)
    replace u:=below_grown u (Nat.le_refl _) U0.o.size hE hg2
    replace u0:=below_grown u0 (Nat.le_refl _) (Nat.le_refl _) hE hg2
    have hLo:=hL'
    replace hL':=hL'.beside hg2 ap1
    replace ap1:=apart_grown hLo ap1 hat2
    clear hLo hE hg2 hat2 n_e ap2
    go_roundw
    case rel=>exact ⟨6,by omega,by first | rfl | go_num | simp,⟨hL',hE',ap1,apart_symm ap1,u,u0⟩⟩
    case measure=>simp [intOf]
   ·have cc:=C6.o _ (HV.o.keep u)
    have hw1:IntKind.i64.wrap (6+1)=7:=by decide
    have eR:ivs M 6 = [Z (M 6).1.1,Z (M 6).1.2,Z (M 6).2.1,Z (M 6).2.2]:=rfl
    have eS:ers E 6 = [.int .i64 (E 6)]:=rfl
    generalize (M 6).1.1=m0 at *
    generalize (M 6).1.2=m1 at *
    generalize (M 6).2.1=m2 at *
    generalize (M 6).2.2=m3 at *
    generalize E 6=ec at *
    go_wp2_with fail
    refine cc.mono ?_
    rintro e v1 ⟨rfl,g⟩
    replace hL:=hL.below g
    replace hE:=hE.below g
    replace u:=u.trans (g.mono u.size)
    replace u0:=u0.trans (g.mono u0.size)
    have n_b:=lkeep hz g
    generalize wr.heap.size=bb at *
    clear g cc hz n_x n_y cx0 cx1 cx2 cx3 cy0 cy1 cy2 cy3
    have k0:=lcell n_b 0 (v:=Z ⟨#[]⟩) rfl
    have k1:=lcell n_b 1 (v:=Z ⟨#[]⟩) rfl
    have k2:=lcell n_b 2 (v:=Z ⟨#[]⟩) rfl
    have k3:=lcell n_b 3 (v:=Z ⟨#[]⟩) rfl
    have f0:=lfree n_b 0
    have f1:=lfree n_b 1
    have f2:=lfree n_b 2
    have f3:=lfree n_b 3
    have s_b:=box4_set (x:=Z m0) (y:=Z m1) (z:=Z m2) (t:=Z m3) n_b
    have q0:=lcell s_b 0 (v:=Z m0) rfl
    have q1:=lcell s_b 1 (v:=Z m1) rfl
    have q2:=lcell s_b 2 (v:=Z m2) rfl
    have q3:=lcell s_b 3 (v:=Z m3) rfl
    have g4:=grown4 v1 bb (Z m0) (Z m1) (Z m2) (Z m3)
    replace hL:=hL.beside (u:=.slice (some ⟨bb,0,none⟩) 0 0) g4 (.inr nb1)
    replace hE:=hE.beside (u:=.slice (some ⟨bb,0,none⟩) 0 0) g4 (.inr nb2)
    have hbw:∀ i,w.heap.size≤(⟨bb,i,none⟩:Addr).block:=fun _=>hbb1
    have hb0:∀ i,V0.heap.size≤(⟨bb,i,none⟩:Addr).block:=fun _=>hbb0
    replace u:=(((u.setCell (hbw 0) (Z m0)).setCell (hbw 1) (Z m1)).setCell (hbw 2) (Z m2)).setCell (hbw 3) (Z m3)
    replace u0:=(((u0.setCell (hb0 0) (Z m0)).setCell (hb0 1) (Z m1)).setCell (hb0 2) (Z m2)).setCell (hb0 3) (Z m3)
    go_upto_region 24 with fail
    generalize ((((v1.setCell ⟨bb,0,none⟩ (Z m0)).setCell ⟨bb,1,none⟩ (Z m1)).setCell ⟨bb,2,none⟩ (Z m2)).setCell ⟨bb,3,none⟩ (Z m3))=V2 at *
    clear k0 k1 k2 k3 f0 f1 f2 f3 n_b s_b g4 hbw hb0
    have ha:=(Below.refl V2.heap.size V2).alloc (Nat.le_refl _) (O #[Z m0,Z m1,Z m2,Z m3] 25)
    have n_n:=World.alloc_heap_new V2 (O #[Z m0,Z m1,Z m2,Z m3] 25)
    replace hL:=hL.below ha
    replace hE:=hE.below ha
    replace u:=u.trans (ha.mono u.size)
    replace u0:=u0.trans (ha.mono u0.size)
    clear ha
    go_upto_region 25 with (at_builtin;refine append_ivl rfl _ _ rfl V0.heap.size _ 6 (ivs M) rfl hL V2.heap.size _ rfl m0 m1 m2 m3 eR n_n (by decide) u0.size ?_;intro vl' w3 hL' hg hat)
    have hEo:=hE
    replace hE:=hE.beside hg ap2
    replace ap2:=apart_grown hEo ap2 hat
    replace u:=below_grown u (Nat.le_refl _) U0.o.size hL hg
    replace u0:=below_grown u0 (Nat.le_refl _) (Nat.le_refl _) hL hg
    clear hL hEo hg hat n_n ap1 nb1 nb2
    have ap1:=apart_symm ap2
    have ha:=(Below.refl w3.heap.size w3).alloc (Nat.le_refl _) (O #[.int .i64 ec] 30)
    have n_e:=World.alloc_heap_new w3 (O #[.int .i64 ec] 30)
    replace hL':=hL'.below ha
    replace hE:=hE.below ha
    replace u:=u.trans (ha.mono u.size)
    replace u0:=u0.trans (ha.mono u0.size)
    clear ha
    go_wp2_with (at_builtin;refine append_err rfl _ _ rfl V0.heap.size _ 6 (ers E) rfl hE w3.heap.size _ rfl ec eS n_e (by decide) u0.size ?_;intro ve' w4 hE' hg2 hat2)
    replace u:=below_grown u (Nat.le_refl _) U0.o.size hE hg2
    replace u0:=below_grown u0 (Nat.le_refl _) (Nat.le_refl _) hE hg2
    have hLo:=hL'
    replace hL':=hL'.beside hg2 ap1
    replace ap1:=apart_grown hLo ap1 hat2
    clear hLo hE hg2 hat2 n_e ap2
    go_roundw
    case rel=>exact ⟨7,by omega,by first | rfl | go_num | simp,⟨hL',hE',ap1,apart_symm ap1,u,u0⟩⟩
    case measure=>simp [intOf]
   ·have cc:=C7.o _ (HV.o.keep u)
    have hw1:IntKind.i64.wrap (7+1)=8:=by decide
    have eR:ivs M 7 = [Z (M 7).1.1,Z (M 7).1.2,Z (M 7).2.1,Z (M 7).2.2]:=rfl
    have eS:ers E 7 = [.int .i64 (E 7)]:=rfl
    generalize (M 7).1.1=m0 at *
    generalize (M 7).1.2=m1 at *
    generalize (M 7).2.1=m2 at *
    generalize (M 7).2.2=m3 at *
    generalize E 7=ec at *
    go_wp2_with fail
    refine cc.mono ?_
    rintro e v1 ⟨rfl,g⟩
    replace hL:=hL.below g
    replace hE:=hE.below g
    replace u:=u.trans (g.mono u.size)
    replace u0:=u0.trans (g.mono u0.size)
    have n_b:=lkeep hz g
    generalize wr.heap.size=bb at *
    clear g cc hz n_x n_y cx0 cx1 cx2 cx3 cy0 cy1 cy2 cy3
    have k0:=lcell n_b 0 (v:=Z ⟨#[]⟩) rfl
    have k1:=lcell n_b 1 (v:=Z ⟨#[]⟩) rfl
    have k2:=lcell n_b 2 (v:=Z ⟨#[]⟩) rfl
    have k3:=lcell n_b 3 (v:=Z ⟨#[]⟩) rfl
    have f0:=lfree n_b 0
    have f1:=lfree n_b 1
    have f2:=lfree n_b 2
    have f3:=lfree n_b 3
    have s_b:=box4_set (x:=Z m0) (y:=Z m1) (z:=Z m2) (t:=Z m3) n_b
    have q0:=lcell s_b 0 (v:=Z m0) rfl
    have q1:=lcell s_b 1 (v:=Z m1) rfl
    have q2:=lcell s_b 2 (v:=Z m2) rfl
    have q3:=lcell s_b 3 (v:=Z m3) rfl
    have g4:=grown4 v1 bb (Z m0) (Z m1) (Z m2) (Z m3)
    replace hL:=hL.beside (u:=.slice (some ⟨bb,0,none⟩) 0 0) g4 (.inr nb1)
    replace hE:=hE.beside (u:=.slice (some ⟨bb,0,none⟩) 0 0) g4 (.inr nb2)
    have hbw:∀ i,w.heap.size≤(⟨bb,i,none⟩:Addr).block:=fun _=>hbb1
    have hb0:∀ i,V0.heap.size≤(⟨bb,i,none⟩:Addr).block:=fun _=>hbb0
    replace u:=(((u.setCell (hbw 0) (Z m0)).setCell (hbw 1) (Z m1)).setCell (hbw 2) (Z m2)).setCell (hbw 3) (Z m3)
    replace u0:=(((u0.setCell (hb0 0) (Z m0)).setCell (hb0 1) (Z m1)).setCell (hb0 2) (Z m2)).setCell (hb0 3) (Z m3)
    go_upto_region 24 with fail
    generalize ((((v1.setCell ⟨bb,0,none⟩ (Z m0)).setCell ⟨bb,1,none⟩ (Z m1)).setCell ⟨bb,2,none⟩ (Z m2)).setCell ⟨bb,3,none⟩ (Z m3))=V2 at *
    clear k0 k1 k2 k3 f0 f1 f2 f3 n_b s_b g4 hbw hb0
    have ha:=(Below.refl V2.heap.size V2).alloc (Nat.le_refl _) (O #[Z m0,Z m1,Z m2,Z m3] 25)
    have n_n:=World.alloc_heap_new V2 (O #[Z m0,Z m1,Z m2,Z m3] 25)
    replace hL:=hL.below ha
    replace hE:=hE.below ha
    replace u:=u.trans (ha.mono u.size)
    replace u0:=u0.trans (ha.mono u0.size)
    clear ha
    go_upto_region 25 with (at_builtin;refine append_ivl rfl _ _ rfl V0.heap.size _ 7 (ivs M) rfl hL V2.heap.size _ rfl m0 m1 m2 m3 eR n_n (by decide) u0.size ?_;intro vl' w3 hL' hg hat)
    have hEo:=hE
    replace hE:=hE.beside hg ap2
    replace ap2:=apart_grown hEo ap2 hat
    replace u:=below_grown u (Nat.le_refl _) U0.o.size hL hg
    replace u0:=below_grown u0 (Nat.le_refl _) (Nat.le_refl _) hL hg
    clear hL hEo hg hat n_n ap1 nb1 nb2
    have ap1:=apart_symm ap2
    have ha:=(Below.refl w3.heap.size w3).alloc (Nat.le_refl _) (O #[.int .i64 ec] 30)
    have n_e:=World.alloc_heap_new w3 (O #[.int .i64 ec] 30)
    replace hL':=hL'.below ha
    replace hE:=hE.below ha
    replace u:=u.trans (ha.mono u.size)
    replace u0:=u0.trans (ha.mono u0.size)
    clear ha
    go_wp2_with (at_builtin;refine append_err rfl _ _ rfl V0.heap.size _ 7 (ers E) rfl hE w3.heap.size _ rfl ec eS n_e (by decide) u0.size ?_;intro ve' w4 hE' hg2 hat2)
    replace u:=below_grown u (Nat.le_refl _) U0.o.size hE hg2
    replace u0:=below_grown u0 (Nat.le_refl _) (Nat.le_refl _) hE hg2
    have hLo:=hL'
    replace hL':=hL'.beside hg2 ap1
    replace ap1:=apart_grown hLo ap1 hat2
    clear hLo hE hg2 hat2 n_e ap2
    go_roundw
    case rel=>exact ⟨8,by omega,by first | rfl | go_num | simp,⟨hL',hE',ap1,apart_symm ap1,u,u0⟩⟩
    case measure=>simp [intOf]
end En
end Go.Proofs.YtbfonkabmehlmaaGreatDoor
