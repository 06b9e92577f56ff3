/-
  Facts of EnclosureMatchesReference.
-/
import Derived.Test.YtbfonkabmehlmaaGreatDoorY6E1
import Derived.Test.YtbfonkabmehlmaaGreatDoorY6E2
set_option maxRecDepth 1000000
set_option maxHeartbeats 40000000
open Go.Value renaming string→Z
open Go.Obj renaming cells→O
namespace Go.Proofs.YtbfonkabmehlmaaGreatDoor
namespace En
open Go.RowKit Go.Extern.Stop Go.Stop Go.Extern
open Go.Proofs.YtbfonkabmehlmaaGreatDoor.Nm Go.Proofs.YtbfonkabmehlmaaGreatDoor.Rt
open N10 (Two)
theorem both_facts (a:Addr) (x0 x1 x2 x3 y0 y1 y2 y3:ByteArray) (hx:Sz x0 x1 x2 x3) (hy:Sz y0 y1 y2 y3) (pl:Int):∃ (M:Nat→P4) (E:Nat→Int),
  (∀ W:World,Ref a W→Calls Tryz.prog 16 #[.agg #[Z x0,Z x1,Z x2,Z x3],.agg #[Z y0,Z y1,Z y2,Z y3],.int .i64 pl] W fun e w'=>∃ vl ve,e = .returned (.tuple #[vl,ve])∧OwnG 25 4 w' W.heap.size vl 8 (ivs M)∧OwnG 30 1 w' W.heap.size ve 8 (ers E)∧Below W.heap.size W w') ∧
  (∀ W:World,Ref a W→Calls Tryz.prog 17 #[.agg #[Z x0,Z x1,Z x2,Z x3],.agg #[Z y0,Z y1,Z y2,Z y3],.int .i64 pl] W fun e w'=>∃ vl ve,e = .returned (.tuple #[vl,ve])∧OwnG 25 4 w' W.heap.size vl 8 (ivs M)∧OwnG 30 1 w' W.heap.size ve 8 (ers E)∧Below W.heap.size W w'):=by
 obtain ⟨n0,c0,h0,g0⟩:=pair_Add a x0 x1 x2 x3 y0 y1 y2 y3 hx hy
 obtain ⟨n1,c1,h1,g1⟩:=pair_Sub a x0 x1 x2 x3 y0 y1 y2 y3 hx hy
 obtain ⟨n2,c2,h2,g2⟩:=pair_Mul a x0 x1 x2 x3 y0 y1 y2 y3 hx hy
 obtain ⟨n3,c3,h3,g3⟩:=pair_Div a x0 x1 x2 x3 y0 y1 y2 y3 hx hy
 obtain ⟨n4,c4,h4,g4⟩:=pair_Hull a x0 x1 x2 x3 y0 y1 y2 y3 hx hy
 obtain ⟨n5,c5,h5,g5⟩:=pair_Meet a x0 x1 x2 x3 y0 y1 y2 y3 hx hy
 obtain ⟨n6,c6,h6,g6⟩:=pair_Sqrt a x0 x1 x2 x3 hx pl
 obtain ⟨n7,c7,h7,g7⟩:=pair_Round a x0 x1 x2 x3 hx pl
 exact ⟨sel8 n0 n1 n2 n3 n4 n5 n6 n7,sel8 c0 c1 c2 c3 c4 c5 c6 c7,fun W hW=>calls_any a _ _ _ _ _ _ _ _ pl (sel8 n0 n1 n2 n3 n4 n5 n6 n7) (sel8 c0 c1 c2 c3 c4 c5 c6 c7) h0 h1 h2 h3 h4 h5 h6 h7 W hW,
  fun W hW=>wanted_any a _ _ _ _ _ _ _ _ pl (sel8 n0 n1 n2 n3 n4 n5 n6 n7) (sel8 c0 c1 c2 c3 c4 c5 c6 c7) (fun W _=>g0 W) (fun W _=>g1 W) (fun W _=>g2 W) (fun W _=>g3 W) (fun W _=>g4 W) (fun W _=>g5 W) (fun W _=>g6 W) (fun W _=>g7 W) W hW⟩
theorem tail_facts (a:Addr) (x0 x1 x2 x3 y0 y1 y2 y3:ByteArray) (hx:Sz x0 x1 x2 x3) (hy:Sz y0 y1 y2 y3):∃ (n d p0 p1 p2 p3:ByteArray) (c:Int) (b1 b2 b3:Bool),
  LC a 18 #[.agg #[Z x0,Z x1,Z x2,Z x3]] (.tuple #[.agg #[Z n,Z d],.int .i64 c])∧Ret 19 #[.agg #[Z x0,Z x1,Z x2,Z x3]] (.tuple #[.agg #[Z n,Z d],.int .i64 c]) ∧
  Ret 20 #[.agg #[Z x0,Z x1,Z x2,Z x3]] (.bool b1)∧Ret 21 #[.agg #[Z x0,Z x1,Z x2,Z x3]] (.bool b1) ∧
  Ret 22 #[.agg #[Z y0,Z y1]] (.agg #[Z p0,Z p1,Z p2,Z p3])∧Ret 23 #[.agg #[Z y0,Z y1]] (.agg #[Z p0,Z p1,Z p2,Z p3]) ∧
  Ret 24 #[.agg #[Z x0,Z x1,Z x2,Z x3],.agg #[Z y0,Z y1]] (.bool b2)∧Ret 25 #[.agg #[Z x0,Z x1,Z x2,Z x3],.agg #[Z y0,Z y1]] (.bool b2) ∧
  Ret 26 #[.agg #[Z x0,Z x1,Z x2,Z x3],.agg #[Z y0,Z y1,Z y2,Z y3]] (.bool b3)∧Ret 27 #[.agg #[Z x0,Z x1,Z x2,Z x3],.agg #[Z y0,Z y1,Z y2,Z y3]] (.bool b3):=by
 obtain ⟨n,d,c,h1,h2⟩:=pair_Width a x0 x1 x2 x3 hx
 have hP:=Point_all y0 y1 hy.a hy.b
 have hQ:=PointR_all y0 y1 hy.a hy.b
 obtain ⟨p0,p1,p2,p3,hp⟩:∃ p0 p1 p2 p3:ByteArray,(if (qOf y0 y1).isSome then (#[Z y0,Z y1,Z y0,Z y1]:Array Value) else #[Z ⟨#[]⟩,Z ⟨#[]⟩,Z ⟨#[]⟩,Z ⟨#[]⟩])=#[Z p0,Z p1,Z p2,Z p3]:=by
  split
  ·exact ⟨_,_,_,_,rfl⟩
  ·exact ⟨_,_,_,_,rfl⟩
 rw [hp] at hP hQ
 exact ⟨n,d,p0,p1,p2,p3,c,_,_,_,h1,h2,iValid_all _ _ _ _ hx,iValidR_all _ _ _ _ hx,hP,hQ,Contains_all _ _ _ _ _ _ hx hy.a hy.b,ContainsR_all _ _ _ _ _ _ hx hy.a hy.b,Within_all _ _ _ _ _ _ _ _ hx hy,WithinR_all _ _ _ _ _ _ _ _ hx hy⟩
theorem news5 (w:World) (a b c d e:Obj):(((((w.alloc a).alloc b).alloc c).alloc d).alloc e).heap[w.heap.size]? = some a∧(((((w.alloc a).alloc b).alloc c).alloc d).alloc e).heap[w.heap.size+1]? = some b∧(((((w.alloc a).alloc b).alloc c).alloc d).alloc e).heap[w.heap.size+1+1]? = some c∧(((((w.alloc a).alloc b).alloc c).alloc d).alloc e).heap[w.heap.size+1+1+1]? = some d∧(((((w.alloc a).alloc b).alloc c).alloc d).alloc e).heap[w.heap.size+1+1+1+1]? = some e:=by
 obtain ⟨h1,h2,h3,h4⟩:=news4 w a b c d
 have h5:=World.alloc_heap_new ((((w.alloc a).alloc b).alloc c).alloc d) e
 simp only [World.size_alloc] at h5
 exact ⟨lold h1,lold h2,lold h3,lold h4,h5⟩
theorem below5 (w:World) (a b c d e:Obj):Below w.heap.size w (((((w.alloc a).alloc b).alloc c).alloc d).alloc e):=(below4 w a b c d).alloc (by simp;omega) e
theorem list_G (l:List ByteArray) (h:∀ s∈l,s.size≤1000000):∃ G:Nat→ByteArray,∀ j,j<l.length→((l.map Value.string).toArray)[j]? = some (Z (G j))∧(G j).size≤1000000 :=
 ⟨fun j=>l.getD j ⟨#[]⟩,fun j hj=>⟨by simp [hj],by
  show (l.getD j ⟨#[]⟩).size≤1000000
  rw [List.getD_eq_getElem?_getD,List.getElem?_eq_getElem hj];exact h _ (List.getElem_mem hj)⟩⟩
theorem cutE_any (s:ByteArray):Ret 42 #[Z s] (Z (s.extract 0 (min s.size 210))):=fun w=>by
 go_enter Tryz.func42, Tryz.ntmps42
 go_wp2_with fail
 have e1:(min (s.size:Int) 210).toNat=min s.size 210:=by omega
 rw [e1]
 go_ret
 exact ⟨rfl,Below.refl _ _⟩
theorem shortE_any (x0 x1 x2 x3:ByteArray):Ret 9 #[.agg #[Z x0,Z x1,Z x2,Z x3]] (.agg #[Z (x0.extract 0 (min x0.size 210)),Z (x1.extract 0 (min x1.size 210)),Z (x2.extract 0 (min x2.size 210)),Z (x3.extract 0 (min x3.size 210))]):=by
 intro w
 have C0:=cutE_any x0
 have C1:=cutE_any x1
 have C2:=cutE_any x2
 have C3:=cutE_any x3
 generalize x0.extract 0 (min x0.size 210)=y0 at *
 generalize x1.extract 0 (min x1.size 210)=y1 at *
 generalize x2.extract 0 (min x2.size 210)=y2 at *
 generalize x3.extract 0 (min x3.size 210)=y3 at *
 have D0:Shut _:=⟨C0⟩
 have D1:Shut _:=⟨C1⟩
 have D2:Shut _:=⟨C2⟩
 have D3:Shut _:=⟨C3⟩
 clear C0 C1 C2 C3
 obtain ⟨n_x,n_r⟩:=news2 w (O #[Z x0,Z x1,Z x2,Z x3] 25) (O #[Z ⟨#[]⟩,Z ⟨#[]⟩,Z ⟨#[]⟩,Z ⟨#[]⟩] 25)
 have u:=below2 w (O #[Z x0,Z x1,Z x2,Z x3] 25) (O #[Z ⟨#[]⟩,Z ⟨#[]⟩,Z ⟨#[]⟩,Z ⟨#[]⟩] 25)
 go_enter Tryz.func9, Tryz.ntmps9
 go_upto_region 1 with fail
 generalize ((w.alloc (O #[Z x0,Z x1,Z x2,Z x3] 25)).alloc (O #[Z ⟨#[]⟩,Z ⟨#[]⟩,Z ⟨#[]⟩,Z ⟨#[]⟩] 25))=V0 at *
 have nxr:w.heap.size≠w.heap.size+1:=by omega
 go_region_held3 (fun X=>X.cell? ⟨w.heap.size,0,none⟩=some (Z x0)∧X.cell? ⟨w.heap.size,1,none⟩=some (Z x1)∧X.cell? ⟨w.heap.size,2,none⟩=some (Z x2)∧X.cell? ⟨w.heap.size,3,none⟩=some (Z x3)) (first | exact ⟨lcell n_x 0 (v:=Z x0) rfl,lcell n_x 1 (v:=Z x1) rfl,lcell n_x 2 (v:=Z x2) rfl,lcell n_x 3 (v:=Z x3) rfl⟩ | exact ⟨lcell (lset4 n_x nxr _ _ _ _) 0 (v:=Z x0) rfl,lcell (lset4 n_x nxr _ _ _ _) 1 (v:=Z x1) rfl,lcell (lset4 n_x nxr _ _ _ _) 2 (v:=Z x2) rfl,lcell (lset4 n_x nxr _ _ _ _) 3 (v:=Z x3) rfl⟩) (first | (go_at_call 42; have q_:=mk2;clear q_;(with_reducible refine (Ret.run D3.o _).mono ?_);rintro e v3 ⟨rfl,g⟩;have g:Below v2.heap.size v2 v3:=g;replace u:=u.trans (g.mono u.size);replace n_x:=lkeep n_x g;replace n_r:=lkeep n_r g;clear g;have k0:=lcell n_r 0 (v:=Z ⟨#[]⟩) rfl;have f0:=lfree n_r 0;have k1:=lcell n_r 1 (v:=Z ⟨#[]⟩) rfl;have f1:=lfree n_r 1;have k2:=lcell n_r 2 (v:=Z ⟨#[]⟩) rfl;have f2:=lfree n_r 2;have k3:=lcell n_r 3 (v:=Z ⟨#[]⟩) rfl;have f3:=lfree n_r 3;have mk3:=0) | (go_at_call 42; have q_:=mk1;clear q_;(with_reducible refine (Ret.run D2.o _).mono ?_);rintro e v2 ⟨rfl,g⟩;have g:Below v1.heap.size v1 v2:=g;replace u:=u.trans (g.mono u.size);replace n_x:=lkeep n_x g;replace n_r:=lkeep n_r g;clear g;have k0:=lcell n_r 0 (v:=Z ⟨#[]⟩) rfl;have f0:=lfree n_r 0;have k1:=lcell n_r 1 (v:=Z ⟨#[]⟩) rfl;have f1:=lfree n_r 1;have k2:=lcell n_r 2 (v:=Z ⟨#[]⟩) rfl;have f2:=lfree n_r 2;have k3:=lcell n_r 3 (v:=Z ⟨#[]⟩) rfl;have f3:=lfree n_r 3;have mk2:=0) | (go_at_call 42; have q_:=mk0;clear q_;(with_reducible refine (Ret.run D1.o _).mono ?_);rintro e v1 ⟨rfl,g⟩;have g:Below v0.heap.size v0 v1:=g;replace u:=u.trans (g.mono u.size);replace n_x:=lkeep n_x g;replace n_r:=lkeep n_r g;clear g;have k0:=lcell n_r 0 (v:=Z ⟨#[]⟩) rfl;have f0:=lfree n_r 0;have k1:=lcell n_r 1 (v:=Z ⟨#[]⟩) rfl;have f1:=lfree n_r 1;have k2:=lcell n_r 2 (v:=Z ⟨#[]⟩) rfl;have f2:=lfree n_r 2;have k3:=lcell n_r 3 (v:=Z ⟨#[]⟩) rfl;have f3:=lfree n_r 3;have mk1:=0) | (go_at_call 42; (with_reducible refine (Ret.run D0.o _).mono ?_);rintro e v0 ⟨rfl,g⟩;have g:Below V0.heap.size V0 v0:=lundrew2 g;replace u:=u.trans (g.mono u.size);replace n_x:=lkeep n_x g;replace n_r:=lkeep n_r g;clear g;have k0:=lcell n_r 0 (v:=Z ⟨#[]⟩) rfl;have f0:=lfree n_r 0;have k1:=lcell n_r 1 (v:=Z ⟨#[]⟩) rfl;have f1:=lfree n_r 1;have k2:=lcell n_r 2 (v:=Z ⟨#[]⟩) rfl;have f2:=lfree n_r 2;have k3:=lcell n_r 3 (v:=Z ⟨#[]⟩) rfl;have f3:=lfree n_r 3;have mk0:=0))
 have hb:∀ i,w.heap.size≤(⟨w.heap.size+1,i,none⟩:Addr).block:=fun _=>by show w.heap.size≤w.heap.size+1;omega
 have s_r:=box4_set (x:=Z y0) (y:=Z y1) (z:=Z y2) (t:=Z y3) n_r
 have z0:=lcell s_r 0 (v:=Z y0) rfl
 have z1:=lcell s_r 1 (v:=Z y1) rfl
 have z2:=lcell s_r 2 (v:=Z y2) rfl
 have z3:=lcell s_r 3 (v:=Z y3) rfl
 go_wp2_with fail
 exact bodyPost_ret (v:=.agg #[Z y0,Z y1,Z y2,Z y3]) (by simp [results,Tryz.results9, go_sem,z0,z1,z2,z3]) rfl ⟨rfl,(((u.setCell (hb 0) _).setCell (hb 1) _).setCell (hb 2) _).setCell (hb 3) _⟩
theorem cut_size (s:ByteArray):(s.extract 0 (min s.size 210)).size≤1000000:=by rw [ByteArray.size_extract];omega
end En
end Go.Proofs.YtbfonkabmehlmaaGreatDoor
