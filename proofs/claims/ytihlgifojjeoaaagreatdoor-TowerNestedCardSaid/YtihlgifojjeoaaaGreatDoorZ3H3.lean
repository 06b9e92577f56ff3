/-
  The law of nested square roots.
-/
import Derived.Test.YtihlgifojjeoaaaGreatDoorZ3G8
import Derived.Test.YtihlgifojjeoaaaGreatDoorZ3H2
set_option maxRecDepth 1000000
set_option maxHeartbeats 40000000
open Go.Value renaming string→J
open Go.Obj renaming cells→Jc
namespace Go.Proofs.YtihlgifojjeoaaaGreatDoor
namespace Tw
open Go.RowKit Go.Extern.Stop Go.Stop Go.Extern
open En Go.Proofs.YtihlgifojjeoaaaGreatDoor.Nm Go.Proofs.YtihlgifojjeoaaaGreatDoor.Rt
theorem nested_walk (a:Addr) (n m p:Int) (hn : -9223372036854775808≤n∧n≤9223372036854775807) (hm : -9223372036854775808≤m∧m≤9223372036854775807) (hp : -9223372036854775808≤p∧p≤9223372036854775807) (w:World) (hg:Gl w) (hv:Ref a w) (hs:∀ W,Gl W→Ref a W→Calls Tryz.prog 10 #[] W fun e W'=>e = .returned (.bool true)∧Below W.heap.size W W'):Calls Tryz.prog 9 #[.int .i64 n,.int .i64 m,.int .i64 p] w fun e w'=>e = .returned (.bool true)∧Below w.heap.size w w':=by
 have hK:Sh (Ks [kGl,kRef a] w):=⟨((Ks.nil w).add (kRef a) hv).add kGl hg⟩
 have hB:Sh (Below w.heap.size w w):=⟨Below.refl _ _⟩
 have hq:=hs w hg hv
 clear hv hg hs
 obtain ⟨k1,hk1,cp1⟩:=pick_any n 30 hn.1 hn.2 (by decide) (by decide)
 obtain ⟨k2,hk2,cp2⟩:=pick_any m 30 hm.1 hm.2 (by decide) (by decide)
 obtain ⟨k3,hk3,cp3⟩:=pick_any p 201 hp.1 hp.2 (by decide) (by decide)
 obtain ⟨x1,hx1⟩:∃ x1:Int,x1=1+(k1:Int):=⟨_,rfl⟩
 obtain ⟨x2,hx2⟩:∃ x2:Int,x2=1+(k2:Int):=⟨_,rfl⟩
 obtain ⟨x3,hx3⟩:∃ x3:Int,x3=(k3:Int)-100:=⟨_,rfl⟩
 have w1:IntKind.i64.wrap (1+(k1:Int))=x1:=by rw [hx1];simp [IntKind.wrap,IntKind.signed,IntKind.bits];omega
 have w2:IntKind.i64.wrap (1+(k2:Int))=x2:=by rw [hx2];simp [IntKind.wrap,IntKind.signed,IntKind.bits];omega
 have w3:IntKind.i64.wrap ((k3:Int)-100)=x3:=by rw [hx3];simp [IntKind.wrap,IntKind.signed,IntKind.bits];omega
 obtain ⟨sq,root,d,extra,moved,NF⟩:=nested_facts x1 x2 x3 (by omega) (by omega) (by omega)
 obtain ⟨s1,t1,e1,co1⟩:=of_l x1 1 (by omega) (by decide) (by decide)
 obtain ⟨s2,t2,e2,co2⟩:=of_l x2 1 (by omega) (by decide) (by decide)
 obtain ⟨s3,t3,e3,co3⟩:=of_l x3 100000 (by omega) (by decide) (by decide)
 have fq:FitQ (Rat.divInt x3 100000):=Lat.fit (L:=100000) (B:=100) ⟨by decide,x3,rfl,by omega⟩ (by decide +kernel) (by decide +kernel)
 clear hx1 hx2 hx3 hk1 hk2 hk3 hn hm hp
 generalize Rat.divInt x1 1=N at *
 generalize Rat.divInt x2 1=M at *
 generalize Rat.divInt x3 100000=q at *
 have NF:Sh _:=⟨NF⟩
 have E1:Sh _:=⟨e1⟩
 have E2:Sh _:=⟨e2⟩
 have E3:Sh _:=⟨e3⟩
 have FQ:Sh _:=⟨fq⟩
 have C1:Sh _:=⟨cp1⟩
 have C2:Sh _:=⟨cp2⟩
 have C3:Sh _:=⟨cp3⟩
 have O1:Sh _:=⟨co1⟩
 have O2:Sh _:=⟨co2⟩
 have O3:Sh _:=⟨co3⟩
 clear e1 e2 e3 fq cp1 cp2 cp3 co1 co2 co3
 go_enter Tryz.func9, Tryz.ntmps9
 go_wp2_with fail
 refine hq.mono ?_
 rintro e W ⟨rfl,g⟩
 have hK:Sh (Ks [kGl,kRef a] W):=⟨hK.o.keep g⟩
 have hB:Sh (Below w.heap.size w W):=⟨g⟩
 clear hq g
 go_wp2_with fail
 have hq:=C1.o W
 refine hq.run.mono ?_
 rintro e V ⟨rfl,g⟩
 have hK:Sh (Ks [kGl,kRef a] V):=⟨hK.o.keep g⟩
 have hB:Sh (Below w.heap.size w V):=⟨hB.o.trans (g.mono hB.o.size)⟩
 clear hq g
 rename World=>W
 go_wp2_with fail
 have hq:=O1.o W
 refine hq.run.mono ?_
 rintro e V ⟨rfl,g⟩
 have hK:Sh (Ks [kGl,kRef a] V):=⟨hK.o.keep g⟩
 have hB:Sh (Below w.heap.size w V):=⟨hB.o.trans (g.mono hB.o.size)⟩
 clear hq g
 rename World=>W
 go_wp2_with fail
 have n_bA:(W.alloc (Jc #[J s1,J t1] 42)).heap[W.heap.size]? = some (Jc #[J s1,J t1] 42 (0,0)):=by first | exact World.alloc_heap_new W (Jc #[J s1,J t1] 42) | (have:=World.alloc_heap_new W (Jc #[J s1,J t1] 42);simpa using this)
 have u_:Below W.heap.size W (W.alloc (Jc #[J s1,J t1] 42)):=((Below.refl W.heap.size W).alloc (by first | exact Nat.le_refl _ | (simp;done) | (simp;omega)) (Jc #[J s1,J t1] 42))
 have hK:Sh (Ks [kGl,kRef a] (W.alloc (Jc #[J s1,J t1] 42))):=⟨hK.o.keep u_⟩
 have hB:Sh (Below w.heap.size w (W.alloc (Jc #[J s1,J t1] 42))):=⟨hB.o.trans (u_.mono hB.o.size)⟩
 clear u_
 generalize (W.alloc (Jc #[J s1,J t1] 42))=Wn at *
 generalize W.heap.size=bA at *
 rename World=>W
 have hK:Sh (Ks [kBx bA (Jc #[J s1,J t1] 42 (0,0)),kGl,kRef a] W):=⟨hK.o.add (kBx bA (Jc #[J s1,J t1] 42 (0,0))) (n_bA)⟩
 have hq:=C2.o W
 refine hq.run.mono ?_
 rintro e V ⟨rfl,g⟩
 have hK:Sh (Ks [kBx bA (Jc #[J s1,J t1] 42 (0,0)),kGl,kRef a] V):=⟨hK.o.keep g⟩
 have hB:Sh (Below w.heap.size w V):=⟨hB.o.trans (g.mono hB.o.size)⟩
 clear hq g
 rename World=>W
 go_wp2_with fail
 have hq:=O2.o W
 refine hq.run.mono ?_
 rintro e V ⟨rfl,g⟩
 have hK:Sh (Ks [kBx bA (Jc #[J s1,J t1] 42 (0,0)),kGl,kRef a] V):=⟨hK.o.keep g⟩
 have hB:Sh (Below w.heap.size w V):=⟨hB.o.trans (g.mono hB.o.size)⟩
 clear hq g
 rename World=>W
 go_wp2_with fail
 have hq:=of_lit 0 1 ⟨#[48]⟩ ⟨#[49]⟩ (by decide +kernel) (by decide) (by decide) (by decide) W
 refine hq.run.mono ?_
 rintro e V ⟨rfl,g⟩
 have hK:Sh (Ks [kBx bA (Jc #[J s1,J t1] 42 (0,0)),kGl,kRef a] V):=⟨hK.o.keep g⟩
 have hB:Sh (Below w.heap.size w V):=⟨hB.o.trans (g.mono hB.o.size)⟩
 clear hq g
 rename World=>W
 go_wp2_with fail
 have n_bB:((((W.alloc (Jc #[J s2,J t2,J ⟨#[48]⟩,J ⟨#[49]⟩] 42)).alloc (Jc #[.slice (some ⟨bA,0,none⟩) 1 1,.slice (some ⟨W.heap.size,0,none⟩) 2 2] 29)).alloc (Jc #[.slice (some ⟨W.heap.size+1,0,none⟩) 2 2] 28)).alloc (Jc #[.int .i64 0,.int .i64 1,.int .i64 1,.int .i64 0] 3)).heap[W.heap.size]? = some (Jc #[J s2,J t2,J ⟨#[48]⟩,J ⟨#[49]⟩] 42 (0,0)):=by first | exact lold (W:=(((W.alloc (Jc #[J s2,J t2,J ⟨#[48]⟩,J ⟨#[49]⟩] 42)).alloc (Jc #[.slice (some ⟨bA,0,none⟩) 1 1,.slice (some ⟨W.heap.size,0,none⟩) 2 2] 29)).alloc (Jc #[.slice (some ⟨W.heap.size+1,0,none⟩) 2 2] 28))) (o':=(Jc #[.int .i64 0,.int .i64 1,.int .i64 1,.int .i64 0] 3)) (lold (W:=((W.alloc (Jc #[J s2,J t2,J ⟨#[48]⟩,J ⟨#[49]⟩] 42)).alloc (Jc #[.slice (some ⟨bA,0,none⟩) 1 1,.slice (some ⟨W.heap.size,0,none⟩) 2 2] 29))) (o':=(Jc #[.slice (some ⟨W.heap.size+1,0,none⟩) 2 2] 28)) (lold (W:=(W.alloc (Jc #[J s2,J t2,J ⟨#[48]⟩,J ⟨#[49]⟩] 42))) (o':=(Jc #[.slice (some ⟨bA,0,none⟩) 1 1,.slice (some ⟨W.heap.size,0,none⟩) 2 2] 29)) (World.alloc_heap_new W (Jc #[J s2,J t2,J ⟨#[48]⟩,J ⟨#[49]⟩] 42)))) | (have:=lold (W:=(((W.alloc (Jc #[J s2,J t2,J ⟨#[48]⟩,J ⟨#[49]⟩] 42)).alloc (Jc #[.slice (some ⟨bA,0,none⟩) 1 1,.slice (some ⟨W.heap.size,0,none⟩) 2 2] 29)).alloc (Jc #[.slice (some ⟨W.heap.size+1,0,none⟩) 2 2] 28))) (o':=(Jc #[.int .i64 0,.int .i64 1,.int .i64 1,.int .i64 0] 3)) (lold (W:=((W.alloc (Jc #[J s2,J t2,J ⟨#[48]⟩,J ⟨#[49]⟩] 42)).alloc (Jc #[.slice (some ⟨bA,0,none⟩) 1 1,.slice (some ⟨W.heap.size,0,none⟩) 2 2] 29))) (o':=(Jc #[.slice (some ⟨W.heap.size+1,0,none⟩) 2 2] 28)) (lold (W:=(W.alloc (Jc #[J s2,J t2,J ⟨#[48]⟩,J ⟨#[49]⟩] 42))) (o':=(Jc #[.slice (some ⟨bA,0,none⟩) 1 1,.slice (some ⟨W.heap.size,0,none⟩) 2 2] 29)) (World.alloc_heap_new W (Jc #[J s2,J t2,J ⟨#[48]⟩,J ⟨#[49]⟩] 42))));simpa using this)
 have n_bC:((((W.alloc (Jc #[J s2,J t2,J ⟨#[48]⟩,J ⟨#[49]⟩] 42)).alloc (Jc #[.slice (some ⟨bA,0,none⟩) 1 1,.slice (some ⟨W.heap.size,0,none⟩) 2 2] 29)).alloc (Jc #[.slice (some ⟨W.heap.size+1,0,none⟩) 2 2] 28)).alloc (Jc #[.int .i64 0,.int .i64 1,.int .i64 1,.int .i64 0] 3)).heap[W.heap.size+1]? = some (Jc #[.slice (some ⟨bA,0,none⟩) 1 1,.slice (some ⟨W.heap.size,0,none⟩) 2 2] 29 (0,0)):=by first | exact lold (W:=(((W.alloc (Jc #[J s2,J t2,J ⟨#[48]⟩,J ⟨#[49]⟩] 42)).alloc (Jc #[.slice (some ⟨bA,0,none⟩) 1 1,.slice (some ⟨W.heap.size,0,none⟩) 2 2] 29)).alloc (Jc #[.slice (some ⟨W.heap.size+1,0,none⟩) 2 2] 28))) (o':=(Jc #[.int .i64 0,.int .i64 1,.int .i64 1,.int .i64 0] 3)) (lold (W:=((W.alloc (Jc #[J s2,J t2,J ⟨#[48]⟩,J ⟨#[49]⟩] 42)).alloc (Jc #[.slice (some ⟨bA,0,none⟩) 1 1,.slice (some ⟨W.heap.size,0,none⟩) 2 2] 29))) (o':=(Jc #[.slice (some ⟨W.heap.size+1,0,none⟩) 2 2] 28)) (World.alloc_heap_new (W.alloc (Jc #[J s2,J t2,J ⟨#[48]⟩,J ⟨#[49]⟩] 42)) (Jc #[.slice (some ⟨bA,0,none⟩) 1 1,.slice (some ⟨W.heap.size,0,none⟩) 2 2] 29))) | (have:=lold (W:=(((W.alloc (Jc #[J s2,J t2,J ⟨#[48]⟩,J ⟨#[49]⟩] 42)).alloc (Jc #[.slice (some ⟨bA,0,none⟩) 1 1,.slice (some ⟨W.heap.size,0,none⟩) 2 2] 29)).alloc (Jc #[.slice (some ⟨W.heap.size+1,0,none⟩) 2 2] 28))) (o':=(Jc #[.int .i64 0,.int .i64 1,.int .i64 1,.int .i64 0] 3)) (lold (W:=((W.alloc (Jc #[J s2,J t2,J ⟨#[48]⟩,J ⟨#[49]⟩] 42)).alloc (Jc #[.slice (some ⟨bA,0,none⟩) 1 1,.slice (some ⟨W.heap.size,0,none⟩) 2 2] 29))) (o':=(Jc #[.slice (some ⟨W.heap.size+1,0,none⟩) 2 2] 28)) (World.alloc_heap_new (W.alloc (Jc #[J s2,J t2,J ⟨#[48]⟩,J ⟨#[49]⟩] 42)) (Jc #[.slice (some ⟨bA,0,none⟩) 1 1,.slice (some ⟨W.heap.size,0,none⟩) 2 2] 29)));simpa using this)
 have n_bT:((((W.alloc (Jc #[J s2,J t2,J ⟨#[48]⟩,J ⟨#[49]⟩] 42)).alloc (Jc #[.slice (some ⟨bA,0,none⟩) 1 1,.slice (some ⟨W.heap.size,0,none⟩) 2 2] 29)).alloc (Jc #[.slice (some ⟨W.heap.size+1,0,none⟩) 2 2] 28)).alloc (Jc #[.int .i64 0,.int .i64 1,.int .i64 1,.int .i64 0] 3)).heap[W.heap.size+1+1]? = some (Jc #[.slice (some ⟨W.heap.size+1,0,none⟩) 2 2] 28 (0,0)):=by first | exact lold (W:=(((W.alloc (Jc #[J s2,J t2,J ⟨#[48]⟩,J ⟨#[49]⟩] 42)).alloc (Jc #[.slice (some ⟨bA,0,none⟩) 1 1,.slice (some ⟨W.heap.size,0,none⟩) 2 2] 29)).alloc (Jc #[.slice (some ⟨W.heap.size+1,0,none⟩) 2 2] 28))) (o':=(Jc #[.int .i64 0,.int .i64 1,.int .i64 1,.int .i64 0] 3)) (World.alloc_heap_new ((W.alloc (Jc #[J s2,J t2,J ⟨#[48]⟩,J ⟨#[49]⟩] 42)).alloc (Jc #[.slice (some ⟨bA,0,none⟩) 1 1,.slice (some ⟨W.heap.size,0,none⟩) 2 2] 29)) (Jc #[.slice (some ⟨W.heap.size+1,0,none⟩) 2 2] 28)) | (have:=lold (W:=(((W.alloc (Jc #[J s2,J t2,J ⟨#[48]⟩,J ⟨#[49]⟩] 42)).alloc (Jc #[.slice (some ⟨bA,0,none⟩) 1 1,.slice (some ⟨W.heap.size,0,none⟩) 2 2] 29)).alloc (Jc #[.slice (some ⟨W.heap.size+1,0,none⟩) 2 2] 28))) (o':=(Jc #[.int .i64 0,.int .i64 1,.int .i64 1,.int .i64 0] 3)) (World.alloc_heap_new ((W.alloc (Jc #[J s2,J t2,J ⟨#[48]⟩,J ⟨#[49]⟩] 42)).alloc (Jc #[.slice (some ⟨bA,0,none⟩) 1 1,.slice (some ⟨W.heap.size,0,none⟩) 2 2] 29)) (Jc #[.slice (some ⟨W.heap.size+1,0,none⟩) 2 2] 28));simpa using this)
 have n_bI:((((W.alloc (Jc #[J s2,J t2,J ⟨#[48]⟩,J ⟨#[49]⟩] 42)).alloc (Jc #[.slice (some ⟨bA,0,none⟩) 1 1,.slice (some ⟨W.heap.size,0,none⟩) 2 2] 29)).alloc (Jc #[.slice (some ⟨W.heap.size+1,0,none⟩) 2 2] 28)).alloc (Jc #[.int .i64 0,.int .i64 1,.int .i64 1,.int .i64 0] 3)).heap[W.heap.size+1+1+1]? = some (Jc #[.int .i64 0,.int .i64 1,.int .i64 1,.int .i64 0] 3 (0,0)):=by first | exact World.alloc_heap_new (((W.alloc (Jc #[J s2,J t2,J ⟨#[48]⟩,J ⟨#[49]⟩] 42)).alloc (Jc #[.slice (some ⟨bA,0,none⟩) 1 1,.slice (some ⟨W.heap.size,0,none⟩) 2 2] 29)).alloc (Jc #[.slice (some ⟨W.heap.size+1,0,none⟩) 2 2] 28)) (Jc #[.int .i64 0,.int .i64 1,.int .i64 1,.int .i64 0] 3) | (have:=World.alloc_heap_new (((W.alloc (Jc #[J s2,J t2,J ⟨#[48]⟩,J ⟨#[49]⟩] 42)).alloc (Jc #[.slice (some ⟨bA,0,none⟩) 1 1,.slice (some ⟨W.heap.size,0,none⟩) 2 2] 29)).alloc (Jc #[.slice (some ⟨W.heap.size+1,0,none⟩) 2 2] 28)) (Jc #[.int .i64 0,.int .i64 1,.int .i64 1,.int .i64 0] 3);simpa using this)
 have u_:Below W.heap.size W ((((W.alloc (Jc #[J s2,J t2,J ⟨#[48]⟩,J ⟨#[49]⟩] 42)).alloc (Jc #[.slice (some ⟨bA,0,none⟩) 1 1,.slice (some ⟨W.heap.size,0,none⟩) 2 2] 29)).alloc (Jc #[.slice (some ⟨W.heap.size+1,0,none⟩) 2 2] 28)).alloc (Jc #[.int .i64 0,.int .i64 1,.int .i64 1,.int .i64 0] 3)):=(((((Below.refl W.heap.size W).alloc (by first | exact Nat.le_refl _ | (simp;done) | (simp;omega)) (Jc #[J s2,J t2,J ⟨#[48]⟩,J ⟨#[49]⟩] 42)).alloc (by first | exact Nat.le_refl _ | (simp;done) | (simp;omega)) (Jc #[.slice (some ⟨bA,0,none⟩) 1 1,.slice (some ⟨W.heap.size,0,none⟩) 2 2] 29)).alloc (by first | exact Nat.le_refl _ | (simp;done) | (simp;omega)) (Jc #[.slice (some ⟨W.heap.size+1,0,none⟩) 2 2] 28)).alloc (by first | exact Nat.le_refl _ | (simp;done) | (simp;omega)) (Jc #[.int .i64 0,.int .i64 1,.int .i64 1,.int .i64 0] 3))
 have hK:Sh (Ks [kBx bA (Jc #[J s1,J t1] 42 (0,0)),kGl,kRef a] ((((W.alloc (Jc #[J s2,J t2,J ⟨#[48]⟩,J ⟨#[49]⟩] 42)).alloc (Jc #[.slice (some ⟨bA,0,none⟩) 1 1,.slice (some ⟨W.heap.size,0,none⟩) 2 2] 29)).alloc (Jc #[.slice (some ⟨W.heap.size+1,0,none⟩) 2 2] 28)).alloc (Jc #[.int .i64 0,.int .i64 1,.int .i64 1,.int .i64 0] 3))):=⟨hK.o.keep u_⟩
 have hB:Sh (Below w.heap.size w ((((W.alloc (Jc #[J s2,J t2,J ⟨#[48]⟩,J ⟨#[49]⟩] 42)).alloc (Jc #[.slice (some ⟨bA,0,none⟩) 1 1,.slice (some ⟨W.heap.size,0,none⟩) 2 2] 29)).alloc (Jc #[.slice (some ⟨W.heap.size+1,0,none⟩) 2 2] 28)).alloc (Jc #[.int .i64 0,.int .i64 1,.int .i64 1,.int .i64 0] 3))):=⟨hB.o.trans (u_.mono hB.o.size)⟩
 clear u_
 generalize ((((W.alloc (Jc #[J s2,J t2,J ⟨#[48]⟩,J ⟨#[49]⟩] 42)).alloc (Jc #[.slice (some ⟨bA,0,none⟩) 1 1,.slice (some ⟨W.heap.size,0,none⟩) 2 2] 29)).alloc (Jc #[.slice (some ⟨W.heap.size+1,0,none⟩) 2 2] 28)).alloc (Jc #[.int .i64 0,.int .i64 1,.int .i64 1,.int .i64 0] 3))=Wn at *
 generalize W.heap.size+1+1+1=bI at *
 generalize W.heap.size+1+1=bT at *
 generalize W.heap.size+1=bC at *
 generalize W.heap.size=bB at *
 rename World=>W
 have ht:TwAt W (.agg #[.slice (some ⟨bC,0,none⟩) 2 2]) [[N], [M,0]]:=⟨_,2,rfl,.inr ⟨bC,0,rfl,fun i x hx=>by
  match i,hx with
  | 0,hx =>
   cases hx
   refine ⟨_,En.lcell n_bC 0 rfl,bA,0,1,rfl,Nat.le_refl _,⟨fun j hj => ?_⟩⟩
   match j,hj with
   | 0,_=>rw [show pqs [N] 0=(s1,t1) from E1.o];exact ⟨En.lcell (hK.o _ (.head _)) 0 rfl,En.lcell (hK.o _ (.head _)) 1 rfl⟩
  | 1,hx =>
   cases hx
   refine ⟨_,En.lcell n_bC 1 rfl,bB,0,2,rfl,Nat.le_refl _,⟨fun j hj => ?_⟩⟩
   match j,hj with
   | 0,_=>rw [show pqs [M,0] 0=(s2,t2) from E2.o];exact ⟨En.lcell n_bB 0 rfl,En.lcell n_bB 1 rfl⟩
   | 1,_=>rw [show pqs [M,0] 1=(⟨#[48]⟩,⟨#[49]⟩) from pq0];exact ⟨En.lcell n_bB 2 rfl,En.lcell n_bB 3 rfl⟩⟩⟩
 have hK:Sh (Ks [kTw (.agg #[.slice (some ⟨bC,0,none⟩) 2 2]) [[N], [M,0]],kBx bA (Jc #[J s1,J t1] 42 (0,0)),kGl,kRef a] W):=⟨hK.o.add (kTw (.agg #[.slice (some ⟨bC,0,none⟩) 2 2]) [[N], [M,0]]) (ht)⟩
 have hK:Sh (Ks [kBx bT (Jc #[.slice (some ⟨bC,0,none⟩) 2 2] 28 (0,0)),kTw (.agg #[.slice (some ⟨bC,0,none⟩) 2 2]) [[N], [M,0]],kBx bA (Jc #[J s1,J t1] 42 (0,0)),kGl,kRef a] W):=⟨hK.o.add (kBx bT (Jc #[.slice (some ⟨bC,0,none⟩) 2 2] 28 (0,0))) (n_bT)⟩
 have hi:=n_bI
 clear ht n_bA n_bB n_bC n_bT n_bI
 have hq:=el_lit [0,1,1,0] [0,1,1,0] 4 (by decide +kernel) rfl (by decide +kernel) 4 hi
 refine hq.mono ?_
 rintro e V ⟨⟨va,rfl,ev⟩,g⟩
 have hK:Sh (Ks [kEl va [0,1,1,0],kBx bT (Jc #[.slice (some ⟨bC,0,none⟩) 2 2] 28 (0,0)),kTw (.agg #[.slice (some ⟨bC,0,none⟩) 2 2]) [[N], [M,0]],kBx bA (Jc #[J s1,J t1] 42 (0,0)),kGl,kRef a] V):=⟨(hK.o.keep g).add (kEl va [0,1,1,0]) (ev)⟩
 have hB:Sh (Below w.heap.size w V):=⟨hB.o.trans (g.mono hB.o.size)⟩
 clear hq g
 rename World=>W
 clear hi ev
 have cx0:=En.lcell (hK.o _ (.tail _ (.head _))) 0 rfl
 go_wp2_with fail
 have hq:=AnsA.sayE (Mul_O NF.o.f0 (by simp) (by simp) (by simp) (fit_of (by decide +kernel)) (fit_of (by decide +kernel)) W (hK.o _ (.tail _ (.tail _ (.tail _ (.tail _ (.head _)))))) (hK.o _ (.tail _ (.tail _ (.head _)))) (hK.o _ (.head _)) (hK.o _ (.head _))) NF.o.mul
 refine hq.run.mono ?_
 rintro e V ⟨⟨vq,rfl,ev⟩,g⟩
 have hK:Sh (Ks [kEl vq sq,kEl va [0,1,1,0],kBx bT (Jc #[.slice (some ⟨bC,0,none⟩) 2 2] 28 (0,0)),kTw (.agg #[.slice (some ⟨bC,0,none⟩) 2 2]) [[N], [M,0]],kBx bA (Jc #[J s1,J t1] 42 (0,0)),kGl,kRef a] V):=⟨(hK.o.keep g).add (kEl vq sq) (ev)⟩
 have hB:Sh (Below w.heap.size w V):=⟨hB.o.trans (g.mono hB.o.size)⟩
 clear hq g
 rename World=>W
 clear ev cx0
 have cx0:=En.lcell (hK.o _ (.tail _ (.tail _ (.head _)))) 0 rfl
 go_wp2_with fail
 have hq:=AnsA.sayT (Extend_O NF.o.f0 (by simp) NF.o.fs.2 NF.o.fs.1 W (hK.o _ (.tail _ (.tail _ (.tail _ (.tail _ (.tail _ (.head _))))))) (hK.o _ (.tail _ (.tail _ (.tail _ (.head _))))) (hK.o _ (.head _))) NF.o.ext
 refine hq.run.mono ?_
 rintro e V ⟨⟨vt,rfl,ev⟩,g⟩
 have hK:Sh (Ks [kTw (.agg #[vt]) [[N], [M,0],sq],kEl vq sq,kEl va [0,1,1,0],kBx bT (Jc #[.slice (some ⟨bC,0,none⟩) 2 2] 28 (0,0)),kTw (.agg #[.slice (some ⟨bC,0,none⟩) 2 2]) [[N], [M,0]],kBx bA (Jc #[J s1,J t1] 42 (0,0)),kGl,kRef a] V):=⟨(hK.o.keep g).add (kTw (.agg #[vt]) [[N], [M,0],sq]) (ev)⟩
 have hB:Sh (Below w.heap.size w V):=⟨hB.o.trans (g.mono hB.o.size)⟩
 clear hq g
 rename World=>W
 clear ev cx0
 obtain ⟨p3,c3,et,_⟩:=((hK.o _ (.head _)):TwAt W (.agg #[vt]) [[N], [M,0],sq]).ex
 obtain rfl:vt = .slice p3 3 c3:=(by injection et with et;simpa using et)
 clear et
 go_wp2_with fail
 have n_bU:(W.alloc (Jc #[.slice p3 3 c3] 28)).heap[W.heap.size]? = some (Jc #[.slice p3 3 c3] 28 (0,0)):=by first | exact World.alloc_heap_new W (Jc #[.slice p3 3 c3] 28) | (have:=World.alloc_heap_new W (Jc #[.slice p3 3 c3] 28);simpa using this)
 have u_:Below W.heap.size W (W.alloc (Jc #[.slice p3 3 c3] 28)):=((Below.refl W.heap.size W).alloc (by first | exact Nat.le_refl _ | (simp;done) | (simp;omega)) (Jc #[.slice p3 3 c3] 28))
 have hK:Sh (Ks [kTw (.agg #[.slice p3 3 c3]) [[N], [M,0],sq],kEl vq sq,kEl va [0,1,1,0],kBx bT (Jc #[.slice (some ⟨bC,0,none⟩) 2 2] 28 (0,0)),kTw (.agg #[.slice (some ⟨bC,0,none⟩) 2 2]) [[N], [M,0]],kBx bA (Jc #[J s1,J t1] 42 (0,0)),kGl,kRef a] (W.alloc (Jc #[.slice p3 3 c3] 28))):=⟨hK.o.keep u_⟩
 have hB:Sh (Below w.heap.size w (W.alloc (Jc #[.slice p3 3 c3] 28))):=⟨hB.o.trans (u_.mono hB.o.size)⟩
 clear u_
 generalize (W.alloc (Jc #[.slice p3 3 c3] 28))=Wn at *
 generalize W.heap.size=bU at *
 rename World=>W
 have hK:Sh (Ks [kBx bU (Jc #[.slice p3 3 c3] 28 (0,0)),kTw (.agg #[.slice p3 3 c3]) [[N], [M,0],sq],kEl vq sq,kEl va [0,1,1,0],kBx bT (Jc #[.slice (some ⟨bC,0,none⟩) 2 2] 28 (0,0)),kTw (.agg #[.slice (some ⟨bC,0,none⟩) 2 2]) [[N], [M,0]],kBx bA (Jc #[J s1,J t1] 42 (0,0)),kGl,kRef a] W):=⟨hK.o.add (kBx bU (Jc #[.slice p3 3 c3] 28 (0,0))) (n_bU)⟩
 clear n_bU
 have hq:=AnsA.sayE (Root_O NF.o.f1 (by simp) W (hK.o _ (.tail _ (.tail _ (.tail _ (.tail _ (.tail _ (.tail _ (.tail _ (.head _))))))))) (hK.o _ (.tail _ (.head _)))) NF.o.hroot
 refine hq.run.mono ?_
 rintro e V ⟨⟨vr,rfl,ev⟩,g⟩
 have hK:Sh (Ks [kEl vr root,kBx bU (Jc #[.slice p3 3 c3] 28 (0,0)),kTw (.agg #[.slice p3 3 c3]) [[N], [M,0],sq],kEl vq sq,kEl va [0,1,1,0],kBx bT (Jc #[.slice (some ⟨bC,0,none⟩) 2 2] 28 (0,0)),kTw (.agg #[.slice (some ⟨bC,0,none⟩) 2 2]) [[N], [M,0]],kBx bA (Jc #[J s1,J t1] 42 (0,0)),kGl,kRef a] V):=⟨(hK.o.keep g).add (kEl vr root) (ev)⟩
 have hB:Sh (Below w.heap.size w V):=⟨hB.o.trans (g.mono hB.o.size)⟩
 clear hq g
 rename World=>W
 clear ev
 have cx0:=En.lcell (hK.o _ (.tail _ (.head _))) 0 rfl
 go_wp2_with fail
 have hq:=AnsA.sayE (Embed_O NF.o.f1 (by simp) (by simp) (fit_of (by decide +kernel)) W (hK.o _ (.tail _ (.tail _ (.tail _ (.tail _ (.tail _ (.tail _ (.tail _ (.tail _ (.head _)))))))))) (hK.o _ (.tail _ (.tail _ (.head _)))) (hK.o _ (.tail _ (.tail _ (.tail _ (.tail _ (.head _))))))) NF.o.emb
 refine hq.run.mono ?_
 rintro e V ⟨⟨vx,rfl,ev⟩,g⟩
 have hK:Sh (Ks [kEl vx [0,1,1,0,0,0,0,0],kEl vr root,kBx bU (Jc #[.slice p3 3 c3] 28 (0,0)),kTw (.agg #[.slice p3 3 c3]) [[N], [M,0],sq],kEl vq sq,kEl va [0,1,1,0],kBx bT (Jc #[.slice (some ⟨bC,0,none⟩) 2 2] 28 (0,0)),kTw (.agg #[.slice (some ⟨bC,0,none⟩) 2 2]) [[N], [M,0]],kBx bA (Jc #[J s1,J t1] 42 (0,0)),kGl,kRef a] V):=⟨(hK.o.keep g).add (kEl vx [0,1,1,0,0,0,0,0]) (ev)⟩
 have hB:Sh (Below w.heap.size w V):=⟨hB.o.trans (g.mono hB.o.size)⟩
 clear hq g
 rename World=>W
 clear ev cx0
 have cx0:=En.lcell (hK.o _ (.tail _ (.tail _ (.head _)))) 0 rfl
 go_wp2_with fail
 have hq:=AnsA.sayE (Sub_O NF.o.f1 (by simp) NF.o.fr_.2 (by simp) NF.o.fr_.1 (fit_of (by decide +kernel)) W (hK.o _ (.tail _ (.tail _ (.tail _ (.tail _ (.tail _ (.tail _ (.tail _ (.tail _ (.tail _ (.head _))))))))))) (hK.o _ (.tail _ (.tail _ (.tail _ (.head _))))) (hK.o _ (.tail _ (.head _))) (hK.o _ (.head _))) NF.o.sub
 refine hq.run.mono ?_
 rintro e V ⟨⟨vd,rfl,ev⟩,g⟩
 have hK:Sh (Ks [kEl vd d,kEl vx [0,1,1,0,0,0,0,0],kEl vr root,kBx bU (Jc #[.slice p3 3 c3] 28 (0,0)),kTw (.agg #[.slice p3 3 c3]) [[N], [M,0],sq],kEl vq sq,kEl va [0,1,1,0],kBx bT (Jc #[.slice (some ⟨bC,0,none⟩) 2 2] 28 (0,0)),kTw (.agg #[.slice (some ⟨bC,0,none⟩) 2 2]) [[N], [M,0]],kBx bA (Jc #[J s1,J t1] 42 (0,0)),kGl,kRef a] V):=⟨(hK.o.keep g).add (kEl vd d) (ev)⟩
 have hB:Sh (Below w.heap.size w V):=⟨hB.o.trans (g.mono hB.o.size)⟩
 clear hq g
 rename World=>W
 clear ev cx0
 have cx0:=En.lcell (hK.o _ (.tail _ (.tail _ (.tail _ (.head _))))) 0 rfl
 go_wp2_with fail
 have hq:=AnsA.sayI (Sign_O NF.o.f1 (by simp) NF.o.fd.2 NF.o.fd.1 W (hK.o _ (.tail _ (.tail _ (.tail _ (.tail _ (.tail _ (.tail _ (.tail _ (.tail _ (.tail _ (.tail _ (.head _)))))))))))) (hK.o _ (.tail _ (.tail _ (.tail _ (.tail _ (.head _)))))) (hK.o _ (.head _))) NF.o.sgn
 refine hq.run.mono ?_
 rintro e V ⟨rfl,g⟩
 have hK:Sh (Ks [kEl vd d,kEl vx [0,1,1,0,0,0,0,0],kEl vr root,kBx bU (Jc #[.slice p3 3 c3] 28 (0,0)),kTw (.agg #[.slice p3 3 c3]) [[N], [M,0],sq],kEl vq sq,kEl va [0,1,1,0],kBx bT (Jc #[.slice (some ⟨bC,0,none⟩) 2 2] 28 (0,0)),kTw (.agg #[.slice (some ⟨bC,0,none⟩) 2 2]) [[N], [M,0]],kBx bA (Jc #[J s1,J t1] 42 (0,0)),kGl,kRef a] V):=⟨hK.o.keep g⟩
 have hB:Sh (Below w.heap.size w V):=⟨hB.o.trans (g.mono hB.o.size)⟩
 clear hq g
 rename World=>W
 clear cx0
 go_wp2_with fail
 have hq:=C3.o W
 refine hq.run.mono ?_
 rintro e V ⟨rfl,g⟩
 have hK:Sh (Ks [kEl vd d,kEl vx [0,1,1,0,0,0,0,0],kEl vr root,kBx bU (Jc #[.slice p3 3 c3] 28 (0,0)),kTw (.agg #[.slice p3 3 c3]) [[N], [M,0],sq],kEl vq sq,kEl va [0,1,1,0],kBx bT (Jc #[.slice (some ⟨bC,0,none⟩) 2 2] 28 (0,0)),kTw (.agg #[.slice (some ⟨bC,0,none⟩) 2 2]) [[N], [M,0]],kBx bA (Jc #[J s1,J t1] 42 (0,0)),kGl,kRef a] V):=⟨hK.o.keep g⟩
 have hB:Sh (Below w.heap.size w V):=⟨hB.o.trans (g.mono hB.o.size)⟩
 clear hq g
 rename World=>W
 go_wp2_with fail
 have hq:=O3.o W
 refine hq.run.mono ?_
 rintro e V ⟨rfl,g⟩
 have hK:Sh (Ks [kEl vd d,kEl vx [0,1,1,0,0,0,0,0],kEl vr root,kBx bU (Jc #[.slice p3 3 c3] 28 (0,0)),kTw (.agg #[.slice p3 3 c3]) [[N], [M,0],sq],kEl vq sq,kEl va [0,1,1,0],kBx bT (Jc #[.slice (some ⟨bC,0,none⟩) 2 2] 28 (0,0)),kTw (.agg #[.slice (some ⟨bC,0,none⟩) 2 2]) [[N], [M,0]],kBx bA (Jc #[J s1,J t1] 42 (0,0)),kGl,kRef a] V):=⟨hK.o.keep g⟩
 have hB:Sh (Below w.heap.size w V):=⟨hB.o.trans (g.mono hB.o.size)⟩
 clear hq g
 rename World=>W
 have cx0:=En.lcell ((hK.o.alloc (Jc #[J s3,J t3] 42)) _ (.tail _ (.tail _ (.tail _ (.head _))))) 0 rfl
 have r0:=En.lcell (World.alloc_heap_new W (Jc #[J s3,J t3] 42)) 0 rfl
 have r1:=En.lcell (World.alloc_heap_new W (Jc #[J s3,J t3] 42)) 1 rfl
 go_wp2_with fail
 have n_bR:(W.alloc (Jc #[J s3,J t3] 42)).heap[W.heap.size]? = some (Jc #[J s3,J t3] 42 (0,0)):=by first | exact World.alloc_heap_new W (Jc #[J s3,J t3] 42) | (have:=World.alloc_heap_new W (Jc #[J s3,J t3] 42);simpa using this)
 have u_:Below W.heap.size W (W.alloc (Jc #[J s3,J t3] 42)):=((Below.refl W.heap.size W).alloc (by first | exact Nat.le_refl _ | (simp;done) | (simp;omega)) (Jc #[J s3,J t3] 42))
 have hK:Sh (Ks [kEl vd d,kEl vx [0,1,1,0,0,0,0,0],kEl vr root,kBx bU (Jc #[.slice p3 3 c3] 28 (0,0)),kTw (.agg #[.slice p3 3 c3]) [[N], [M,0],sq],kEl vq sq,kEl va [0,1,1,0],kBx bT (Jc #[.slice (some ⟨bC,0,none⟩) 2 2] 28 (0,0)),kTw (.agg #[.slice (some ⟨bC,0,none⟩) 2 2]) [[N], [M,0]],kBx bA (Jc #[J s1,J t1] 42 (0,0)),kGl,kRef a] (W.alloc (Jc #[J s3,J t3] 42))):=⟨hK.o.keep u_⟩
 have hB:Sh (Below w.heap.size w (W.alloc (Jc #[J s3,J t3] 42))):=⟨hB.o.trans (u_.mono hB.o.size)⟩
 clear u_
 generalize (W.alloc (Jc #[J s3,J t3] 42))=Wn at *
 generalize W.heap.size=bR at *
 rename World=>W
 have hK:Sh (Ks [kBx bR (Jc #[J s3,J t3] 42 (0,0)),kEl vd d,kEl vx [0,1,1,0,0,0,0,0],kEl vr root,kBx bU (Jc #[.slice p3 3 c3] 28 (0,0)),kTw (.agg #[.slice p3 3 c3]) [[N], [M,0],sq],kEl vq sq,kEl va [0,1,1,0],kBx bT (Jc #[.slice (some ⟨bC,0,none⟩) 2 2] 28 (0,0)),kTw (.agg #[.slice (some ⟨bC,0,none⟩) 2 2]) [[N], [M,0]],kBx bA (Jc #[J s1,J t1] 42 (0,0)),kGl,kRef a] W):=⟨hK.o.add (kBx bR (Jc #[J s3,J t3] 42 (0,0))) (n_bR)⟩
 clear n_bR
 have hq:=AnsA.sayE (FromRatio_O NF.o.f1 (by simp) FQ.o E3.o W (hK.o _ (.tail _ (.tail _ (.tail _ (.tail _ (.tail _ (.tail _ (.tail _ (.tail _ (.tail _ (.tail _ (.tail _ (.head _))))))))))))) (hK.o _ (.tail _ (.tail _ (.tail _ (.tail _ (.tail _ (.head _)))))))) NF.o.fr
 refine hq.run.mono ?_
 rintro e V ⟨⟨ve,rfl,ev⟩,g⟩
 have hK:Sh (Ks [kEl ve extra,kBx bR (Jc #[J s3,J t3] 42 (0,0)),kEl vd d,kEl vx [0,1,1,0,0,0,0,0],kEl vr root,kBx bU (Jc #[.slice p3 3 c3] 28 (0,0)),kTw (.agg #[.slice p3 3 c3]) [[N], [M,0],sq],kEl vq sq,kEl va [0,1,1,0],kBx bT (Jc #[.slice (some ⟨bC,0,none⟩) 2 2] 28 (0,0)),kTw (.agg #[.slice (some ⟨bC,0,none⟩) 2 2]) [[N], [M,0]],kBx bA (Jc #[J s1,J t1] 42 (0,0)),kGl,kRef a] V):=⟨(hK.o.keep g).add (kEl ve extra) (ev)⟩
 have hB:Sh (Below w.heap.size w V):=⟨hB.o.trans (g.mono hB.o.size)⟩
 clear hq g
 rename World=>W
 clear ev cx0 r0 r1
 have cx0:=En.lcell (hK.o _ (.tail _ (.tail _ (.tail _ (.tail _ (.tail _ (.head _))))))) 0 rfl
 go_wp2_with fail
 have hq:=AnsA.sayE (Add_O NF.o.f1 (by simp) NF.o.fd.2 NF.o.fe.2 NF.o.fd.1 NF.o.fe.1 W (hK.o _ (.tail _ (.tail _ (.tail _ (.tail _ (.tail _ (.tail _ (.tail _ (.tail _ (.tail _ (.tail _ (.tail _ (.tail _ (.head _)))))))))))))) (hK.o _ (.tail _ (.tail _ (.tail _ (.tail _ (.tail _ (.tail _ (.head _)))))))) (hK.o _ (.tail _ (.tail _ (.head _)))) (hK.o _ (.head _))) NF.o.add
 refine hq.run.mono ?_
 rintro e V ⟨⟨vm,rfl,ev⟩,g⟩
 have hK:Sh (Ks [kEl vm moved,kEl ve extra,kBx bR (Jc #[J s3,J t3] 42 (0,0)),kEl vd d,kEl vx [0,1,1,0,0,0,0,0],kEl vr root,kBx bU (Jc #[.slice p3 3 c3] 28 (0,0)),kTw (.agg #[.slice p3 3 c3]) [[N], [M,0],sq],kEl vq sq,kEl va [0,1,1,0],kBx bT (Jc #[.slice (some ⟨bC,0,none⟩) 2 2] 28 (0,0)),kTw (.agg #[.slice (some ⟨bC,0,none⟩) 2 2]) [[N], [M,0]],kBx bA (Jc #[J s1,J t1] 42 (0,0)),kGl,kRef a] V):=⟨(hK.o.keep g).add (kEl vm moved) (ev)⟩
 have hB:Sh (Below w.heap.size w V):=⟨hB.o.trans (g.mono hB.o.size)⟩
 clear hq g
 rename World=>W
 clear ev cx0
 have cx0:=En.lcell (hK.o _ (.tail _ (.tail _ (.tail _ (.tail _ (.tail _ (.tail _ (.head _)))))))) 0 rfl
 go_wp2_with fail
 have hq:=AnsA.sayI (Sign_O NF.o.f1 (by simp) NF.o.fm.2 NF.o.fm.1 W (hK.o _ (.tail _ (.tail _ (.tail _ (.tail _ (.tail _ (.tail _ (.tail _ (.tail _ (.tail _ (.tail _ (.tail _ (.tail _ (.tail _ (.head _))))))))))))))) (hK.o _ (.tail _ (.tail _ (.tail _ (.tail _ (.tail _ (.tail _ (.tail _ (.head _))))))))) (hK.o _ (.head _))) NF.o.sgn2
 refine hq.run.mono ?_
 rintro e V ⟨rfl,g⟩
 have hK:Sh (Ks [kEl vm moved,kEl ve extra,kBx bR (Jc #[J s3,J t3] 42 (0,0)),kEl vd d,kEl vx [0,1,1,0,0,0,0,0],kEl vr root,kBx bU (Jc #[.slice p3 3 c3] 28 (0,0)),kTw (.agg #[.slice p3 3 c3]) [[N], [M,0],sq],kEl vq sq,kEl va [0,1,1,0],kBx bT (Jc #[.slice (some ⟨bC,0,none⟩) 2 2] 28 (0,0)),kTw (.agg #[.slice (some ⟨bC,0,none⟩) 2 2]) [[N], [M,0]],kBx bA (Jc #[J s1,J t1] 42 (0,0)),kGl,kRef a] V):=⟨hK.o.keep g⟩
 have hB:Sh (Below w.heap.size w V):=⟨hB.o.trans (g.mono hB.o.size)⟩
 clear hq g
 rename World=>W
 clear cx0
 have r0:=En.lcell (hK.o _ (.tail _ (.tail _ (.head _)))) 0 rfl
 have r1:=En.lcell (hK.o _ (.tail _ (.tail _ (.head _)))) 1 rfl
 have SS:Sh (∀ X,Below W.heap.size W X→X.cell? ⟨bR,0,none⟩=some (J s3)∧X.cell? ⟨bR,1,none⟩=some (J t3)):=⟨fun X hX=>⟨kcell r0 hX,kcell r1 hX⟩⟩
 obtain ⟨z,hz⟩:∃ z,z=cmpQ q 0:=⟨_,rfl⟩
 rw [←hz]
 have HZ:Sh _:=⟨hz⟩
 have hzz:(z == z)=true:=beq_self_eq_true z
 clear hz
 go_wp2_with fail
 go_region_held (fun X=>X.cell? ⟨bR,0,none⟩=some (J s3)∧X.cell? ⟨bR,1,none⟩=some (J t3)) (first | exact SS.o _ (ldrew (Below.refl _ _)) | exact SS.o _ k2 | exact SS.o _ k1 | fail) (first | (go_at_call 19; have hq:=of_lit 0 1 ⟨#[48]⟩ ⟨#[49]⟩ (by decide +kernel) (by decide) (by decide) (by decide) W.drew;(with_reducible refine hq.run.mono ?_);rintro e y1 ⟨rfl,g⟩;have k1:Below W.heap.size W y1:=lundrew2 g;clear hq g) | (go_at_call 27; have hq:=cmp_say FQ.o fit0 E3.o pq0 y1;rw [←HZ.o] at hq;(with_reducible refine hq.run.mono ?_);rintro e y2 ⟨rfl,g⟩;have k2:=k1.trans (g.mono k1.size);clear hq g) | fail)
 all_goals (go_wp2_with fail;go_ret;exact ⟨rfl,hB.o.trans (k2.mono hB.o.size)⟩)
end Tw
end Go.Proofs.YtihlgifojjeoaaaGreatDoor
