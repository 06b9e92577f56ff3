/-
  The reference of package enclosure: tens, root.
-/
import Derived.Test.YtbfonkabmehlmaaGreatDoorY6D5
set_option maxRecDepth 1000000
set_option maxHeartbeats 40000000
open Go.Value renaming string→Z
open Go.Obj renaming cells→O
open List renaming getElem_toArray→J1,getElem_cons_zero→J2,getElem_cons_succ→J3,setIfInBounds_toArray→J4,set_cons_zero→J5,set_cons_succ→J6
namespace Go.Proofs.YtbfonkabmehlmaaGreatDoor
section
namespace En
open Go.RowKit Go.Extern.Stop Go.Stop Go.Extern
open Go.Proofs.YtbfonkabmehlmaaGreatDoor.Nm Go.Proofs.YtbfonkabmehlmaaGreatDoor.Rt
open N10 (Two)
theorem tens_any (c:Nat) (hc:c≤60):Ret 113 #[.int .i64 (c:Int)] (Z (T10 c)):=fun w=>by
 go_enter Tryz.func113, Tryz.ntmps113
 go_wp2_with fail
 go_loopw [3,4] (fun s iv wr=>∃ k:Nat,k≤c∧s=Z (T10 k)∧iv = .int .i64 (k:Int)∧wr=w) (fun _ iv _=>c-(intOf iv).toNat)
 case atStart=>exact ⟨0,Nat.zero_le _,by rw [T10_zero],rfl,rfl⟩
 case round =>
  obtain ⟨k,hk,rfl,rfl,rfl⟩:=hrel
  by_cases hgo:k<c
  ·have hs:=T10_size k
   have HS:Shut _:=⟨T10_succ k⟩
   have h1s:(⟨#[48]⟩:ByteArray).size=1:=rfl
   generalize T10 k=s at *
   go_wp2
   exact ⟨⟨k+1,by omega,by rw [HS.o],by go_num,trivial⟩,by simp [intOf];omega⟩
  ·obtain rfl:k=c:=by omega
   go_wp2
   go_ret
   exact ⟨rfl,Below.refl _ _⟩
theorem rootS_no (r0 r1 n:ByteArray) (c:Nat) (hc:c≤30) (up:Bool) (e:Int) (he:e≠0) (hM:Ret 99 #[Z r0,Z (T10 (2*c))] (.tuple #[Z n,.int .i64 e])):Ret 112 #[.agg #[Z r0,Z r1],.int .i64 (c:Int),.bool up] (.tuple #[Z ⟨#[]⟩,.bool false]):=by
 intro w
 have C1:Shut _:=⟨hM⟩
 clear hM
 have hw:IntKind.i64.wrap (2*(c:Int))=2*(c:Int):=by simp [IntKind.wrap,IntKind.signed,IntKind.bits];omega
 have CT:=tens_any (2*c) (by omega)
 rw [show ((2*c:Nat):Int)=2*(c:Int) by omega] at CT
 have n_x:=World.alloc_heap_new w (O #[Z r0,Z r1] 23)
 have u:=(Below.refl w.heap.size w).alloc (Nat.le_refl _) (O #[Z r0,Z r1] 23)
 go_enter Tryz.func112, Tryz.ntmps112
 go_upto_region 1 with fail
 generalize (w.alloc (O #[Z r0,Z r1] 23))=V0 at *
 go_region_held3 (fun X=>X.cell? ⟨w.heap.size,0,none⟩=some (Z r0)) (exact lcell n_x 0 (v:=Z r0) rfl) (first | (go_at_call 113; (with_reducible refine (Ret.run CT _).mono ?_);rintro e va ⟨rfl,g⟩;have g:Below V0.heap.size V0 va:=lundrew2 g;replace u:=u.trans (g.mono u.size);replace n_x:=lkeep n_x g;clear g;have mk1:=0) | (go_at_call 99; have q_:=mk1;clear q_;(with_reducible refine (Ret.run C1.o _).mono ?_);rintro e vb ⟨rfl,g⟩;have g:Below va.heap.size va vb:=g;replace u:=u.trans (g.mono u.size);replace n_x:=lkeep n_x g;clear g))
 clear mk1 CT
 have he2:(e == 0)=false:=beq_eq_false_iff_ne.2 he
 have he3:(e != 0)=true:=bne_iff_ne.2 he
 go_wp2_with fail
 exact bodyPost_ret (v:=.tuple #[Z ⟨#[]⟩,.bool false]) (by simp [results,Tryz.results112, go_sem]) rfl ⟨rfl,u⟩
theorem rootS_dn (r0 r1 n q rest m sq:ByteArray) (c:Nat) (hc:c≤30) (hM:Ret 99 #[Z r0,Z (T10 (2*c))] (.tuple #[Z n,.int .i64 0])) (hD:Ret 98 #[Z n,Z r1] (.tuple #[Z q,Z rest,.int .i64 0])) (hR:Ret 153 #[Z q] (.tuple #[Z m,.int .i64 0])) (hS:Ret 99 #[Z m,Z m] (.tuple #[Z sq,.int .i64 0])):Ret 112 #[.agg #[Z r0,Z r1],.int .i64 (c:Int),.bool false] (.tuple #[Z m,.bool true]):=by
 intro w
 have C1:Shut _:=⟨hM⟩
 have C2:Shut _:=⟨hD⟩
 have C3:Shut _:=⟨hR⟩
 have C4:Shut _:=⟨hS⟩
 clear hM hD hR hS
 have hw:IntKind.i64.wrap (2*(c:Int))=2*(c:Int):=by simp [IntKind.wrap,IntKind.signed,IntKind.bits];omega
 have CT:=tens_any (2*c) (by omega)
 rw [show ((2*c:Nat):Int)=2*(c:Int) by omega] at CT
 have n_x:=World.alloc_heap_new w (O #[Z r0,Z r1] 23)
 have u:=(Below.refl w.heap.size w).alloc (Nat.le_refl _) (O #[Z r0,Z r1] 23)
 go_enter Tryz.func112, Tryz.ntmps112
 go_upto_region 1 with fail
 generalize (w.alloc (O #[Z r0,Z r1] 23))=V0 at *
 go_region_held3 (fun X=>X.cell? ⟨w.heap.size,0,none⟩=some (Z r0)) (exact lcell n_x 0 (v:=Z r0) rfl) (first | (go_at_call 113; (with_reducible refine (Ret.run CT _).mono ?_);rintro e va ⟨rfl,g⟩;have g:Below V0.heap.size V0 va:=lundrew2 g;replace u:=u.trans (g.mono u.size);replace n_x:=lkeep n_x g;clear g;have mk1:=0) | (go_at_call 99; have q_:=mk1;clear q_;(with_reducible refine (Ret.run C1.o _).mono ?_);rintro e vb ⟨rfl,g⟩;have g:Below va.heap.size va vb:=g;replace u:=u.trans (g.mono u.size);replace n_x:=lkeep n_x g;clear g))
 clear mk1 CT
 have c_x0:=lcell n_x 0 (v:=Z r0) rfl
 have c_x1:=lcell n_x 1 (v:=Z r1) rfl
 go_wp2_with fail
 refine (C2.o _).mono ?_
 rintro e v1 ⟨rfl,g⟩
 replace u:=u.trans (g.mono u.size)
 replace n_x:=lkeep n_x g
 clear c_x0 c_x1
 clear g
 go_wp2_with fail
 refine (C3.o _).mono ?_
 rintro e v2 ⟨rfl,g⟩
 replace u:=u.trans (g.mono u.size)
 replace n_x:=lkeep n_x g
 clear g
 go_wp2_with fail
 refine (C4.o _).mono ?_
 rintro e v3 ⟨rfl,g⟩
 replace u:=u.trans (g.mono u.size)
 replace n_x:=lkeep n_x g
 clear g
 go_wp2_with fail
 exact bodyPost_ret (v:=.tuple #[Z m,.bool true]) (by simp [results,Tryz.results112, go_sem]) rfl ⟨rfl,u⟩
theorem rootS_up (r0 r1 n q q2 q' rest m m2 sq:ByteArray) (c:Nat) (hc:c≤30) (z s:Bool) (hz:(rest.toList == [48])=z) (hs:(sq.toList == q'.toList)=s) (hq:q'=if z then q else q2) (hM:Ret 99 #[Z r0,Z (T10 (2*c))] (.tuple #[Z n,.int .i64 0])) (hD:Ret 98 #[Z n,Z r1] (.tuple #[Z q,Z rest,.int .i64 0])) (hA:z=false→Ret 133 #[Z q,Z ⟨#[49]⟩] (.tuple #[Z q2,.int .i64 0])) (hR:Ret 153 #[Z q'] (.tuple #[Z m,.int .i64 0])) (hS:Ret 99 #[Z m,Z m] (.tuple #[Z sq,.int .i64 0])) (hB:s=false→Ret 133 #[Z m,Z ⟨#[49]⟩] (.tuple #[Z m2,.int .i64 0])):Ret 112 #[.agg #[Z r0,Z r1],.int .i64 (c:Int),.bool true] (.tuple #[Z (if s then m else m2),.bool true]):=by
 intro w
 cases z with
 | true =>
  cases s with
  | true =>
   obtain rfl:q'=q:=by simpa using hq
   clear hq
   have C1:Shut _:=⟨hM⟩
   have C2:Shut _:=⟨hD⟩
   have C3:Shut _:=⟨hR⟩
   have C4:Shut _:=⟨hS⟩
   clear hM hD hR hS
   clear hA
   clear hB
   have HZ:Shut _:=⟨hz⟩
   have HSS:Shut _:=⟨hs⟩
   clear hz hs
   have hw:IntKind.i64.wrap (2*(c:Int))=2*(c:Int):=by simp [IntKind.wrap,IntKind.signed,IntKind.bits];omega
   have CT:=tens_any (2*c) (by omega)
   rw [show ((2*c:Nat):Int)=2*(c:Int) by omega] at CT
   have n_x:=World.alloc_heap_new w (O #[Z r0,Z r1] 23)
   have u:=(Below.refl w.heap.size w).alloc (Nat.le_refl _) (O #[Z r0,Z r1] 23)
   go_enter Tryz.func112, Tryz.ntmps112
   go_upto_region 1 with fail
   generalize (w.alloc (O #[Z r0,Z r1] 23))=V0 at *
   go_region_held3 (fun X=>X.cell? ⟨w.heap.size,0,none⟩=some (Z r0)) (exact lcell n_x 0 (v:=Z r0) rfl) (first | (go_at_call 113; (with_reducible refine (Ret.run CT _).mono ?_);rintro e va ⟨rfl,g⟩;have g:Below V0.heap.size V0 va:=lundrew2 g;replace u:=u.trans (g.mono u.size);replace n_x:=lkeep n_x g;clear g;have mk1:=0) | (go_at_call 99; have q_:=mk1;clear q_;(with_reducible refine (Ret.run C1.o _).mono ?_);rintro e vb ⟨rfl,g⟩;have g:Below va.heap.size va vb:=g;replace u:=u.trans (g.mono u.size);replace n_x:=lkeep n_x g;clear g))
   clear mk1 CT
   have c_x0:=lcell n_x 0 (v:=Z r0) rfl
   have c_x1:=lcell n_x 1 (v:=Z r1) rfl
   go_wp2_with fail
   refine (C2.o _).mono ?_
   rintro e v1 ⟨rfl,g⟩
   replace u:=u.trans (g.mono u.size)
   replace n_x:=lkeep n_x g
   clear c_x0 c_x1
   clear g
   have hz:=HZ.o
   go_wp2_with fail
   refine (C3.o _).mono ?_
   rintro e v2 ⟨rfl,g⟩
   replace u:=u.trans (g.mono u.size)
   replace n_x:=lkeep n_x g
   clear g
   clear hz
   go_wp2_with fail
   refine (C4.o _).mono ?_
   rintro e v3 ⟨rfl,g⟩
   replace u:=u.trans (g.mono u.size)
   replace n_x:=lkeep n_x g
   clear g
   have hs:=HSS.o
   go_wp2_with fail
   exact bodyPost_ret (v:=.tuple #[Z m,.bool true]) (by simp [results,Tryz.results112, go_sem]) rfl ⟨rfl,u⟩
  | false =>
   obtain rfl:q'=q:=by simpa using hq
   clear hq
   have hB:=hB rfl
   have C1:Shut _:=⟨hM⟩
   have C2:Shut _:=⟨hD⟩
   have C3:Shut _:=⟨hR⟩
   have C4:Shut _:=⟨hS⟩
   have CB:Shut _:=⟨hB⟩
   clear hM hD hR hS hB
   clear hA
   have HZ:Shut _:=⟨hz⟩
   have HSS:Shut _:=⟨hs⟩
   clear hz hs
   have hw:IntKind.i64.wrap (2*(c:Int))=2*(c:Int):=by simp [IntKind.wrap,IntKind.signed,IntKind.bits];omega
   have CT:=tens_any (2*c) (by omega)
   rw [show ((2*c:Nat):Int)=2*(c:Int) by omega] at CT
   have n_x:=World.alloc_heap_new w (O #[Z r0,Z r1] 23)
   have u:=(Below.refl w.heap.size w).alloc (Nat.le_refl _) (O #[Z r0,Z r1] 23)
   go_enter Tryz.func112, Tryz.ntmps112
   go_upto_region 1 with fail
   generalize (w.alloc (O #[Z r0,Z r1] 23))=V0 at *
   go_region_held3 (fun X=>X.cell? ⟨w.heap.size,0,none⟩=some (Z r0)) (exact lcell n_x 0 (v:=Z r0) rfl) (first | (go_at_call 113; (with_reducible refine (Ret.run CT _).mono ?_);rintro e va ⟨rfl,g⟩;have g:Below V0.heap.size V0 va:=lundrew2 g;replace u:=u.trans (g.mono u.size);replace n_x:=lkeep n_x g;clear g;have mk1:=0) | (go_at_call 99; have q_:=mk1;clear q_;(with_reducible refine (Ret.run C1.o _).mono ?_);rintro e vb ⟨rfl,g⟩;have g:Below va.heap.size va vb:=g;replace u:=u.trans (g.mono u.size);replace n_x:=lkeep n_x g;clear g))
   clear mk1 CT
   have c_x0:=lcell n_x 0 (v:=Z r0) rfl
   have c_x1:=lcell n_x 1 (v:=Z r1) rfl
   go_wp2_with fail
   refine (C2.o _).mono ?_
   rintro e v1 ⟨rfl,g⟩
   replace u:=u.trans (g.mono u.size)
   replace n_x:=lkeep n_x g
   clear c_x0 c_x1
   clear g
   have hz:=HZ.o
   go_wp2_with fail
   refine (C3.o _).mono ?_
   rintro e v2 ⟨rfl,g⟩
   replace u:=u.trans (g.mono u.size)
   replace n_x:=lkeep n_x g
   clear g
   clear hz
   go_wp2_with fail
   refine (C4.o _).mono ?_
   rintro e v3 ⟨rfl,g⟩
   replace u:=u.trans (g.mono u.size)
   replace n_x:=lkeep n_x g
   clear g
   have hs:=HSS.o
   go_wp2_with fail
   refine (CB.o _).mono ?_
   rintro e v4 ⟨rfl,g⟩
   replace u:=u.trans (g.mono u.size)
   replace n_x:=lkeep n_x g
   clear g
   go_wp2_with fail
   exact bodyPost_ret (v:=.tuple #[Z m2,.bool true]) (by simp [results,Tryz.results112, go_sem]) rfl ⟨rfl,u⟩
 | false =>
  cases s with
  | true =>
   obtain rfl:q'=q2:=by simpa using hq
   clear hq
   have hA:=hA rfl
   have C1:Shut _:=⟨hM⟩
   have C2:Shut _:=⟨hD⟩
   have C3:Shut _:=⟨hR⟩
   have C4:Shut _:=⟨hS⟩
   have CA:Shut _:=⟨hA⟩
   clear hM hD hR hS hA
   clear hB
   have HZ:Shut _:=⟨hz⟩
   have HSS:Shut _:=⟨hs⟩
   clear hz hs
   have hw:IntKind.i64.wrap (2*(c:Int))=2*(c:Int):=by simp [IntKind.wrap,IntKind.signed,IntKind.bits];omega
   have CT:=tens_any (2*c) (by omega)
   rw [show ((2*c:Nat):Int)=2*(c:Int) by omega] at CT
   have n_x:=World.alloc_heap_new w (O #[Z r0,Z r1] 23)
   have u:=(Below.refl w.heap.size w).alloc (Nat.le_refl _) (O #[Z r0,Z r1] 23)
   go_enter Tryz.func112, Tryz.ntmps112
   go_upto_region 1 with fail
   generalize (w.alloc (O #[Z r0,Z r1] 23))=V0 at *
   go_region_held3 (fun X=>X.cell? ⟨w.heap.size,0,none⟩=some (Z r0)) (exact lcell n_x 0 (v:=Z r0) rfl) (first | (go_at_call 113; (with_reducible refine (Ret.run CT _).mono ?_);rintro e va ⟨rfl,g⟩;have g:Below V0.heap.size V0 va:=lundrew2 g;replace u:=u.trans (g.mono u.size);replace n_x:=lkeep n_x g;clear g;have mk1:=0) | (go_at_call 99; have q_:=mk1;clear q_;(with_reducible refine (Ret.run C1.o _).mono ?_);rintro e vb ⟨rfl,g⟩;have g:Below va.heap.size va vb:=g;replace u:=u.trans (g.mono u.size);replace n_x:=lkeep n_x g;clear g))
   clear mk1 CT
   have c_x0:=lcell n_x 0 (v:=Z r0) rfl
   have c_x1:=lcell n_x 1 (v:=Z r1) rfl
   go_wp2_with fail
   refine (C2.o _).mono ?_
   rintro e v1 ⟨rfl,g⟩
   replace u:=u.trans (g.mono u.size)
   replace n_x:=lkeep n_x g
   clear c_x0 c_x1
   clear g
   have hz:=HZ.o
   go_wp2_with fail
   refine (CA.o _).mono ?_
   rintro e v2 ⟨rfl,g⟩
   replace u:=u.trans (g.mono u.size)
   replace n_x:=lkeep n_x g
   clear g
   go_wp2_with fail
   refine (C3.o _).mono ?_
   rintro e v3 ⟨rfl,g⟩
   replace u:=u.trans (g.mono u.size)
   replace n_x:=lkeep n_x g
   clear g
   clear hz
   go_wp2_with fail
   refine (C4.o _).mono ?_
   rintro e v4 ⟨rfl,g⟩
   replace u:=u.trans (g.mono u.size)
   replace n_x:=lkeep n_x g
   clear g
   have hs:=HSS.o
   go_wp2_with fail
   exact bodyPost_ret (v:=.tuple #[Z m,.bool true]) (by simp [results,Tryz.results112, go_sem]) rfl ⟨rfl,u⟩
  | false =>
   obtain rfl:q'=q2:=by simpa using hq
   clear hq
   have hA:=hA rfl
   have hB:=hB rfl
   have C1:Shut _:=⟨hM⟩
   have C2:Shut _:=⟨hD⟩
   have C3:Shut _:=⟨hR⟩
   have C4:Shut _:=⟨hS⟩
   have CA:Shut _:=⟨hA⟩
   have CB:Shut _:=⟨hB⟩
   clear hM hD hR hS hA hB
   have HZ:Shut _:=⟨hz⟩
   have HSS:Shut _:=⟨hs⟩
   clear hz hs
   have hw:IntKind.i64.wrap (2*(c:Int))=2*(c:Int):=by simp [IntKind.wrap,IntKind.signed,IntKind.bits];omega
   have CT:=tens_any (2*c) (by omega)
   rw [show ((2*c:Nat):Int)=2*(c:Int) by omega] at CT
   have n_x:=World.alloc_heap_new w (O #[Z r0,Z r1] 23)
   have u:=(Below.refl w.heap.size w).alloc (Nat.le_refl _) (O #[Z r0,Z r1] 23)
   go_enter Tryz.func112, Tryz.ntmps112
   go_upto_region 1 with fail
   generalize (w.alloc (O #[Z r0,Z r1] 23))=V0 at *
   go_region_held3 (fun X=>X.cell? ⟨w.heap.size,0,none⟩=some (Z r0)) (exact lcell n_x 0 (v:=Z r0) rfl) (first | (go_at_call 113; (with_reducible refine (Ret.run CT _).mono ?_);rintro e va ⟨rfl,g⟩;have g:Below V0.heap.size V0 va:=lundrew2 g;replace u:=u.trans (g.mono u.size);replace n_x:=lkeep n_x g;clear g;have mk1:=0) | (go_at_call 99; have q_:=mk1;clear q_;(with_reducible refine (Ret.run C1.o _).mono ?_);rintro e vb ⟨rfl,g⟩;have g:Below va.heap.size va vb:=g;replace u:=u.trans (g.mono u.size);replace n_x:=lkeep n_x g;clear g))
   clear mk1 CT
   have c_x0:=lcell n_x 0 (v:=Z r0) rfl
   have c_x1:=lcell n_x 1 (v:=Z r1) rfl
   go_wp2_with fail
   refine (C2.o _).mono ?_
   rintro e v1 ⟨rfl,g⟩
   replace u:=u.trans (g.mono u.size)
   replace n_x:=lkeep n_x g
   clear c_x0 c_x1
   clear g
   have hz:=HZ.o
   go_wp2_with fail
   refine (CA.o _).mono ?_
   rintro e v2 ⟨rfl,g⟩
   replace u:=u.trans (g.mono u.size)
   replace n_x:=lkeep n_x g
   clear g
   go_wp2_with fail
   refine (C3.o _).mono ?_
   rintro e v3 ⟨rfl,g⟩
   replace u:=u.trans (g.mono u.size)
   replace n_x:=lkeep n_x g
   clear g
   clear hz
   go_wp2_with fail
   refine (C4.o _).mono ?_
   rintro e v4 ⟨rfl,g⟩
   replace u:=u.trans (g.mono u.size)
   replace n_x:=lkeep n_x g
   clear g
   have hs:=HSS.o
   go_wp2_with fail
   refine (CB.o _).mono ?_
   rintro e v5 ⟨rfl,g⟩
   replace u:=u.trans (g.mono u.size)
   replace n_x:=lkeep n_x g
   clear g
   go_wp2_with fail
   exact bodyPost_ret (v:=.tuple #[Z m2,.bool true]) (by simp [results,Tryz.results112, go_sem]) rfl ⟨rfl,u⟩
end En
end
section
namespace En
open Go.RowKit Go.Extern.Stop Go.Stop Go.Extern
open Go.Proofs.YtbfonkabmehlmaaGreatDoor.Nm Go.Proofs.YtbfonkabmehlmaaGreatDoor.Rt
open N10 (Two)
theorem SqrtS_inv (x0 x1 x2 x3:ByteArray) (p:Int) (hV:Ret 21 #[.agg #[Z x0,Z x1,Z x2,Z x3]] (.bool false)):Ret 61 #[.agg #[Z x0,Z x1,Z x2,Z x3],.int .i64 p] (.tuple #[.agg #[Z ⟨#[]⟩,Z ⟨#[]⟩,Z ⟨#[]⟩,Z ⟨#[]⟩],.int .i64 50]):=by
 intro w
 have C1:Shut _:=⟨hV⟩
 clear hV
 obtain ⟨n_x,n_r⟩:=news2 w (O #[Z x0,Z x1,Z x2,Z x3] 25) (O #[Z ⟨#[]⟩,Z ⟨#[]⟩,Z ⟨#[]⟩,Z ⟨#[]⟩] 25)
 have u:=below2 w (O #[Z x0,Z x1,Z x2,Z x3] 25) (O #[Z ⟨#[]⟩,Z ⟨#[]⟩,Z ⟨#[]⟩,Z ⟨#[]⟩] 25)
 go_enter Tryz.func61, Tryz.ntmps61
 have c_x0:=lcell n_x 0 (v:=Z x0) rfl
 have c_x1:=lcell n_x 1 (v:=Z x1) rfl
 have c_x2:=lcell n_x 2 (v:=Z x2) rfl
 have c_x3:=lcell n_x 3 (v:=Z x3) rfl
 go_wp2_with fail
 generalize ((w.alloc (O #[Z x0,Z x1,Z x2,Z x3] 25)).alloc (O #[Z ⟨#[]⟩,Z ⟨#[]⟩,Z ⟨#[]⟩,Z ⟨#[]⟩] 25))=V0 at *
 refine (C1.o _).mono ?_
 rintro e v1 ⟨rfl,g⟩
 replace u:=u.trans (g.mono u.size)
 replace n_x:=lkeep n_x g
 replace n_r:=lkeep n_r g
 clear c_x0 c_x1 c_x2 c_x3
 clear g
 go_upto_region 2 with fail
 have c_x0:=lcell n_x 0 (v:=Z x0) rfl
 have c_x1:=lcell n_x 1 (v:=Z x1) rfl
 refine wp_region_held_drew (S:=fun X=>X.cell? ⟨w.heap.size,0,none⟩=some (Z x0)∧X.cell? ⟨w.heap.size,1,none⟩=some (Z x1)) (by kernel_rfl) (by exact ⟨c_x0,c_x1⟩) (fun hHeld => ?_)
 refine wpAnyH_take (i:=0) (v := ?_) rfl (by kernel_rfl) (by kernel_rfl) (by kernel_rfl) (fun _ _ _ h=>h) (Or.inl ⟨by rfl, ?_⟩) (by assumption) ?_
 rotate_left
 focus (intro w hSw;(try dsimp only at hSw);go_simp;first | done | with_reducible rfl)
 refine wpAnyH_take (i:=1) (v := ?_) rfl (by kernel_rfl) (by kernel_rfl) (by kernel_rfl) (fun _ _ _ h=>h) (Or.inl ⟨by rfl, ?_⟩) (by assumption) ?_
 rotate_left
 focus (intro w hSw;(try dsimp only at hSw);go_simp;first | done | with_reducible rfl)
 try simp only [Act.put,J1,J2,J3,J4,J5,J6]
 refine wpAnyH_take (i:=2) (v := ?_) rfl (by kernel_rfl) (by kernel_rfl) (by kernel_rfl) (fun _ _ _ h=>h) (Or.inl ⟨by rfl, ?_⟩) (by assumption) ?_
 rotate_left
 focus (intro w hSw;(try dsimp only at hSw);go_simp;first | done | with_reducible rfl)
 try simp only [Act.put,J1,J2,J3,J4,J5,J6]
 refine wpAnyH_take (i:=3) (v:=undef) rfl (by kernel_rfl) (by kernel_rfl) (by kernel_rfl) (fun _ _ _ h=>h) (Or.inr ⟨by rfl,rfl⟩) (by assumption) ?_
 try simp only [Act.put,J1,J2,J3,J4,J5,J6]
 refine wpAnyH_take (i:=4) (v:=undef) rfl (by kernel_rfl) (by kernel_rfl) (by kernel_rfl) (fun _ _ _ h=>h) (Or.inr ⟨by rfl,rfl⟩) (by assumption) ?_
 try simp only [Act.put,J1,J2,J3,J4,J5,J6]
 refine wpAnyH_take (i:=5) (v:=undef) rfl (by kernel_rfl) (by kernel_rfl) (by kernel_rfl) (fun _ _ _ h=>h) (Or.inr ⟨by rfl,rfl⟩) (by assumption) ?_
 try simp only [Act.put,J1,J2,J3,J4,J5,J6]
 refine wpAnyH_take (i:=6) (v:=undef) rfl (by kernel_rfl) (by kernel_rfl) (by kernel_rfl) (fun _ _ _ h=>h) (Or.inr ⟨by rfl,rfl⟩) (by assumption) ?_
 try simp only [Act.put,J1,J2,J3,J4,J5,J6]
 refine wpAnyH_take (i:=7) (v:=undef) rfl (by kernel_rfl) (by kernel_rfl) (by kernel_rfl) (fun _ _ _ h=>h) (Or.inr ⟨by rfl,rfl⟩) (by assumption) ?_
 try simp only [Act.put,J1,J2,J3,J4,J5,J6]
 refine wpAnyH_take (i:=8) (v := ?_) rfl (by kernel_rfl) (by kernel_rfl) (by kernel_rfl) (fun _ _ _ h=>h) (Or.inl ⟨by rfl, ?_⟩) (by assumption) ?_
 rotate_left
 focus (intro w hSw;(try dsimp only at hSw);go_simp;first | done | with_reducible rfl)
 try simp only [Act.put,J1,J2,J3,J4,J5,J6]
 refine wpAnyH_take (i:=9) (v := ?_) rfl (by kernel_rfl) (by kernel_rfl) (by kernel_rfl) (fun _ _ _ h=>h) (Or.inl ⟨by rfl, ?_⟩) (by assumption) ?_
 rotate_left
 focus (intro w hSw;(try dsimp only at hSw);go_simp;first | done | with_reducible rfl)
 try simp only [Act.put,J1,J2,J3,J4,J5,J6]
 refine wpAnyH_take (i:=10) (v:=undef) rfl (by kernel_rfl) (by kernel_rfl) (by kernel_rfl) (fun _ _ _ h=>h) (Or.inr ⟨by rfl,rfl⟩) (by assumption) ?_
 try simp only [Act.put,J1,J2,J3,J4,J5,J6]
 refine wpAnyH_take (i:=11) (v:=undef) rfl (by kernel_rfl) (by kernel_rfl) (by kernel_rfl) (fun _ _ _ h=>h) (Or.inr ⟨by rfl,rfl⟩) (by assumption) ?_
 try simp only [Act.put,J1,J2,J3,J4,J5,J6]
 refine wpAnyH_take (i:=12) (v := ?_) rfl (by kernel_rfl) (by kernel_rfl) (by kernel_rfl) (fun _ _ _ h=>h) (Or.inl ⟨by rfl, ?_⟩) (by assumption) ?_
 rotate_left
 focus (intro w hSw;(try dsimp only at hSw);go_simp;first | done | with_reducible rfl)
 try simp only [Act.put,J1,J2,J3,J4,J5,J6]
 refine wpAnyH_take (i:=13) (v := ?_) rfl (by kernel_rfl) (by kernel_rfl) (by kernel_rfl) (fun _ _ _ h=>h) (Or.inl ⟨by rfl, ?_⟩) (by assumption) ?_
 rotate_left
 focus (intro w hSw;(try dsimp only at hSw);go_simp;first | done | with_reducible rfl)
 try simp only [Act.put,J1,J2,J3,J4,J5,J6]
 refine wpAnyH_take (i:=14) (v:=undef) rfl (by kernel_rfl) (by kernel_rfl) (by kernel_rfl) (fun _ _ _ h=>h) (Or.inr ⟨by rfl,rfl⟩) (by assumption) ?_
 try simp only [Act.put,J1,J2,J3,J4,J5,J6]
 refine wpAnyH_take (i:=15) (v:=undef) rfl (by kernel_rfl) (by kernel_rfl) (by kernel_rfl) (fun _ _ _ h=>h) (Or.inr ⟨by rfl,rfl⟩) (by assumption) ?_
 try simp only [Act.put,J1,J2,J3,J4,J5,J6]
 refine wpAnyH_take (i:=16) (v := ?_) rfl (by kernel_rfl) (by kernel_rfl) (by kernel_rfl) (fun _ _ _ h=>h) (Or.inl ⟨by rfl, ?_⟩) (by assumption) ?_
 rotate_left
 focus (intro w hSw;(try dsimp only at hSw);go_simp;first | done | with_reducible rfl)
 try simp only [Act.put,J1,J2,J3,J4,J5,J6]
 refine wpAnyH_done (by kernel_rfl) ?_ _
 clear c_x0 c_x1
 replace u:=ldrew u
 replace n_r:v1.drew.heap[w.heap.size+1]? = _:=n_r
 clear n_x
 generalize v1.drew=V9 at *
 have hb:∀ i,w.heap.size≤(⟨w.heap.size+1,i,none⟩:Addr).block:=fun _=>by show w.heap.size≤w.heap.size+1;omega
 have s_r:=box4_set (x:=Z ⟨#[]⟩) (y:=Z ⟨#[]⟩) (z:=Z ⟨#[]⟩) (t:=Z ⟨#[]⟩) n_r
 have k0:=lcell n_r 0 (v:=Z ⟨#[]⟩) rfl
 have f0:=lfree n_r 0
 have k1:=lcell n_r 1 (v:=Z ⟨#[]⟩) rfl
 have f1:=lfree n_r 1
 have k2:=lcell n_r 2 (v:=Z ⟨#[]⟩) rfl
 have f2:=lfree n_r 2
 have k3:=lcell n_r 3 (v:=Z ⟨#[]⟩) rfl
 have f3:=lfree n_r 3
 have z0:=lcell s_r 0 (v:=Z ⟨#[]⟩) rfl
 have z1:=lcell s_r 1 (v:=Z ⟨#[]⟩) rfl
 have z2:=lcell s_r 2 (v:=Z ⟨#[]⟩) rfl
 have z3:=lcell s_r 3 (v:=Z ⟨#[]⟩) rfl
 go_wp2_with fail
 exact bodyPost_ret (v:=.tuple #[.agg #[Z ⟨#[]⟩,Z ⟨#[]⟩,Z ⟨#[]⟩,Z ⟨#[]⟩],.int .i64 50]) (by simp [results,Tryz.results61, go_sem,z0,z1,z2,z3]) rfl ⟨rfl,((((u.setCell (hb 0) _).setCell (hb 1) _).setCell (hb 2) _).setCell (hb 3) _)⟩
theorem SqrtS_no (x0 x1 x2 x3:ByteArray) (p k:Int) (hV:Ret 21 #[.agg #[Z x0,Z x1,Z x2,Z x3]] (.bool true)) (hK:Ret 67 #[.agg #[Z x0,Z x1],.agg #[Z ⟨#[48]⟩,Z ⟨#[49]⟩]] (.int .i64 k)) (hp:k<0∨p<0∨30<p):Ret 61 #[.agg #[Z x0,Z x1,Z x2,Z x3],.int .i64 p] (.tuple #[.agg #[Z ⟨#[]⟩,Z ⟨#[]⟩,Z ⟨#[]⟩,Z ⟨#[]⟩],.int .i64 50]):=by
 intro w
 have C1:Shut _:=⟨hV⟩
 have C2:Shut _:=⟨hK⟩
 clear hV hK
 obtain ⟨n_x,n_r⟩:=news2 w (O #[Z x0,Z x1,Z x2,Z x3] 25) (O #[Z ⟨#[]⟩,Z ⟨#[]⟩,Z ⟨#[]⟩,Z ⟨#[]⟩] 25)
 have u:=below2 w (O #[Z x0,Z x1,Z x2,Z x3] 25) (O #[Z ⟨#[]⟩,Z ⟨#[]⟩,Z ⟨#[]⟩,Z ⟨#[]⟩] 25)
 go_enter Tryz.func61, Tryz.ntmps61
 have c_x0:=lcell n_x 0 (v:=Z x0) rfl
 have c_x1:=lcell n_x 1 (v:=Z x1) rfl
 have c_x2:=lcell n_x 2 (v:=Z x2) rfl
 have c_x3:=lcell n_x 3 (v:=Z x3) rfl
 go_wp2_with fail
 generalize ((w.alloc (O #[Z x0,Z x1,Z x2,Z x3] 25)).alloc (O #[Z ⟨#[]⟩,Z ⟨#[]⟩,Z ⟨#[]⟩,Z ⟨#[]⟩] 25))=V0 at *
 refine (C1.o _).mono ?_
 rintro e v1 ⟨rfl,g⟩
 replace u:=u.trans (g.mono u.size)
 replace n_x:=lkeep n_x g
 replace n_r:=lkeep n_r g
 clear c_x0 c_x1 c_x2 c_x3
 clear g
 go_upto_region 2 with fail
 have c_x0:=lcell n_x 0 (v:=Z x0) rfl
 have c_x1:=lcell n_x 1 (v:=Z x1) rfl
 refine wp_region_held_drew (S:=fun X=>X.cell? ⟨w.heap.size,0,none⟩=some (Z x0)∧X.cell? ⟨w.heap.size,1,none⟩=some (Z x1)) (by kernel_rfl) (by exact ⟨c_x0,c_x1⟩) (fun hHeld => ?_)
 refine wpAnyH_take (i:=0) (v := ?_) rfl (by kernel_rfl) (by kernel_rfl) (by kernel_rfl) (fun _ _ _ h=>h) (Or.inl ⟨by rfl, ?_⟩) (by assumption) ?_
 rotate_left
 focus (intro w hSw;(try dsimp only at hSw);go_simp;first | done | with_reducible rfl)
 refine wpAnyH_take (i:=1) (v := ?_) rfl (by kernel_rfl) (by kernel_rfl) (by kernel_rfl) (fun _ _ _ h=>h) (Or.inl ⟨by rfl, ?_⟩) (by assumption) ?_
 rotate_left
 focus (intro w hSw;(try dsimp only at hSw);go_simp;first | done | with_reducible rfl)
 try simp only [Act.put,J1,J2,J3,J4,J5,J6]
 refine wpAnyH_take (i:=2) (v := ?_) rfl (by kernel_rfl) (by kernel_rfl) (by kernel_rfl) (fun _ _ _ h=>h) (Or.inl ⟨by rfl, ?_⟩) (by assumption) ?_
 rotate_left
 focus (intro w hSw;(try dsimp only at hSw);go_simp;first | done | with_reducible rfl)
 try simp only [Act.put,J1,J2,J3,J4,J5,J6]
 refine wpAnyH_take (i:=3) (v := ?_) rfl (by kernel_rfl) (by kernel_rfl) (by kernel_rfl) (fun _ _ _ h=>h) (Or.inl ⟨by rfl, ?_⟩) (by assumption) ?_
 rotate_left
 focus (intro w hSw;(try dsimp only at hSw);go_simp;first | done | with_reducible rfl)
 try simp only [Act.put,J1,J2,J3,J4,J5,J6]
 refine wpAnyH_take (i:=4) (v := ?_) rfl (by kernel_rfl) (by kernel_rfl) (by kernel_rfl) (fun _ _ _ h=>h) (Or.inl ⟨by rfl, ?_⟩) (by assumption) ?_
 rotate_left
 focus (intro w hSw;(try dsimp only at hSw);go_simp;first | done | with_reducible rfl)
 try simp only [Act.put,J1,J2,J3,J4,J5,J6]
 refine wpAnyH_ready (rs := [5]) (by kernel_rfl) (by simp) ?_
 refine AllReadyH.cons rfl (fun K hK => ?_) AllReadyH.nil
 go_simp
 (with_reducible refine (Ret.run zeroS _).mono ?_)
 rintro e h1 ⟨rfl,g⟩
 have g:Below v1.heap.size v1 h1:=lundrew2 g
 replace u:=u.trans (g.mono u.size)
 replace n_x:=lkeep n_x g
 replace n_r:=lkeep n_r g
 have c_x0:h1.cell? ⟨w.heap.size,0,none⟩=some (Z x0):=(g.cell (p:=⟨w.heap.size,0,none⟩) (World.block_lt_of_cell? _ _ c_x0)).trans c_x0
 have c_x1:h1.cell? ⟨w.heap.size,1,none⟩=some (Z x1):=(g.cell (p:=⟨w.heap.size,1,none⟩) (World.block_lt_of_cell? _ _ c_x1)).trans c_x1
 clear g
 refine hK.out _ _ ⟨c_x0,c_x1⟩ (fun hHeld => ?_)
 clear hK K
 refine wpAnyH_ready (rs := [6]) (by kernel_rfl) (by simp) ?_
 refine AllReadyH.cons rfl (fun K hK => ?_) AllReadyH.nil
 go_simp
 (with_reducible refine (Ret.run C2.o _).mono ?_)
 rintro e h2 ⟨rfl,g⟩
 have g:Below h1.heap.size h1 h2:=g
 replace u:=u.trans (g.mono u.size)
 replace n_x:=lkeep n_x g
 replace n_r:=lkeep n_r g
 have c_x0:h2.cell? ⟨w.heap.size,0,none⟩=some (Z x0):=(g.cell (p:=⟨w.heap.size,0,none⟩) (World.block_lt_of_cell? _ _ c_x0)).trans c_x0
 have c_x1:h2.cell? ⟨w.heap.size,1,none⟩=some (Z x1):=(g.cell (p:=⟨w.heap.size,1,none⟩) (World.block_lt_of_cell? _ _ c_x1)).trans c_x1
 clear g
 refine hK.out _ _ ⟨c_x0,c_x1⟩ (fun hHeld => ?_)
 clear hK K
 rcases (show k<0∨(¬ k<0∧p<0)∨(¬ k<0∧¬ p<0∧30<p) by omega) with h1 | ⟨h1,h2⟩ | ⟨h1,h2,h3⟩
 ·have d1:decide (k<0)=true:=decide_eq_true h1
  refine wpAnyH_take (i:=7) (v := ?_) rfl (by kernel_rfl) (by kernel_rfl) (by kernel_rfl) (fun _ _ _ h=>h) (Or.inl ⟨by rfl, ?_⟩) (by assumption) ?_
  rotate_left
  focus (intro w hSw;(try dsimp only at hSw);go_simp;first | done | with_reducible rfl)
  try simp only [Act.put,J1,J2,J3,J4,J5,J6]
  refine wpAnyH_take (i:=8) (v := ?_) rfl (by kernel_rfl) (by kernel_rfl) (by kernel_rfl) (fun _ _ _ h=>h) (Or.inl ⟨by rfl, ?_⟩) (by assumption) ?_
  rotate_left
  focus (intro w hSw;(try dsimp only at hSw);go_simp;first | done | with_reducible rfl)
  try simp only [Act.put,J1,J2,J3,J4,J5,J6]
  refine wpAnyH_take (i:=9) (v := ?_) rfl (by kernel_rfl) (by kernel_rfl) (by kernel_rfl) (fun _ _ _ h=>h) (Or.inl ⟨by rfl, ?_⟩) (by assumption) ?_
  rotate_left
  focus (intro w hSw;(try dsimp only at hSw);go_simp;first | done | with_reducible rfl)
  try simp only [Act.put,J1,J2,J3,J4,J5,J6]
  refine wpAnyH_take (i:=10) (v:=undef) rfl (by kernel_rfl) (by kernel_rfl) (by kernel_rfl) (fun _ _ _ h=>h) (Or.inr ⟨by rfl,rfl⟩) (by assumption) ?_
  try simp only [Act.put,J1,J2,J3,J4,J5,J6]
  refine wpAnyH_take (i:=11) (v:=undef) rfl (by kernel_rfl) (by kernel_rfl) (by kernel_rfl) (fun _ _ _ h=>h) (Or.inr ⟨by rfl,rfl⟩) (by assumption) ?_
  try simp only [Act.put,J1,J2,J3,J4,J5,J6]
  refine wpAnyH_take (i:=12) (v := ?_) rfl (by kernel_rfl) (by kernel_rfl) (by kernel_rfl) (fun _ _ _ h=>h) (Or.inl ⟨by rfl, ?_⟩) (by assumption) ?_
  rotate_left
  focus (intro w hSw;(try dsimp only at hSw);go_simp;first | done | with_reducible rfl)
  try simp only [Act.put,J1,J2,J3,J4,J5,J6]
  refine wpAnyH_take (i:=13) (v := ?_) rfl (by kernel_rfl) (by kernel_rfl) (by kernel_rfl) (fun _ _ _ h=>h) (Or.inl ⟨by rfl, ?_⟩) (by assumption) ?_
  rotate_left
  focus (intro w hSw;(try dsimp only at hSw);go_simp;first | done | with_reducible rfl)
  try simp only [Act.put,J1,J2,J3,J4,J5,J6]
  refine wpAnyH_take (i:=14) (v:=undef) rfl (by kernel_rfl) (by kernel_rfl) (by kernel_rfl) (fun _ _ _ h=>h) (Or.inr ⟨by rfl,rfl⟩) (by assumption) ?_
  try simp only [Act.put,J1,J2,J3,J4,J5,J6]
  refine wpAnyH_take (i:=15) (v:=undef) rfl (by kernel_rfl) (by kernel_rfl) (by kernel_rfl) (fun _ _ _ h=>h) (Or.inr ⟨by rfl,rfl⟩) (by assumption) ?_
  try simp only [Act.put,J1,J2,J3,J4,J5,J6]
  refine wpAnyH_take (i:=16) (v := ?_) rfl (by kernel_rfl) (by kernel_rfl) (by kernel_rfl) (fun _ _ _ h=>h) (Or.inl ⟨by rfl, ?_⟩) (by assumption) ?_
  rotate_left
  focus (intro w hSw;(try dsimp only at hSw);go_simp;first | done | with_reducible rfl)
  try simp only [Act.put,J1,J2,J3,J4,J5,J6]
  refine wpAnyH_done (by kernel_rfl) ?_ _
  clear c_x0 c_x1
  have hb:∀ i,w.heap.size≤(⟨w.heap.size+1,i,none⟩:Addr).block:=fun _=>by show w.heap.size≤w.heap.size+1;omega
  have s_r:=box4_set (x:=Z ⟨#[]⟩) (y:=Z ⟨#[]⟩) (z:=Z ⟨#[]⟩) (t:=Z ⟨#[]⟩) n_r
  have k0:=lcell n_r 0 (v:=Z ⟨#[]⟩) rfl
  have f0:=lfree n_r 0
  have k1:=lcell n_r 1 (v:=Z ⟨#[]⟩) rfl
  have f1:=lfree n_r 1
  have k2:=lcell n_r 2 (v:=Z ⟨#[]⟩) rfl
  have f2:=lfree n_r 2
  have k3:=lcell n_r 3 (v:=Z ⟨#[]⟩) rfl
  have f3:=lfree n_r 3
  have z0:=lcell s_r 0 (v:=Z ⟨#[]⟩) rfl
  have z1:=lcell s_r 1 (v:=Z ⟨#[]⟩) rfl
  have z2:=lcell s_r 2 (v:=Z ⟨#[]⟩) rfl
  have z3:=lcell s_r 3 (v:=Z ⟨#[]⟩) rfl
  go_wp2_with fail
  exact bodyPost_ret (v:=.tuple #[.agg #[Z ⟨#[]⟩,Z ⟨#[]⟩,Z ⟨#[]⟩,Z ⟨#[]⟩],.int .i64 50]) (by simp [results,Tryz.results61, go_sem,z0,z1,z2,z3]) rfl ⟨rfl,((((u.setCell (hb 0) _).setCell (hb 1) _).setCell (hb 2) _).setCell (hb 3) _)⟩
 ·have d1:decide (k<0)=false:=decide_eq_false h1
  have d2:decide (p<0)=true:=decide_eq_true h2
  refine wpAnyH_take (i:=7) (v := ?_) rfl (by kernel_rfl) (by kernel_rfl) (by kernel_rfl) (fun _ _ _ h=>h) (Or.inl ⟨by rfl, ?_⟩) (by assumption) ?_
  rotate_left
  focus (intro w hSw;(try dsimp only at hSw);go_simp;first | done | with_reducible rfl)
  try simp only [Act.put,J1,J2,J3,J4,J5,J6]
  refine wpAnyH_take (i:=8) (v := ?_) rfl (by kernel_rfl) (by kernel_rfl) (by kernel_rfl) (fun _ _ _ h=>h) (Or.inl ⟨by rfl, ?_⟩) (by assumption) ?_
  rotate_left
  focus (intro w hSw;(try dsimp only at hSw);go_simp;first | done | with_reducible rfl)
  try simp only [Act.put,J1,J2,J3,J4,J5,J6]
  refine wpAnyH_take (i:=9) (v := ?_) rfl (by kernel_rfl) (by kernel_rfl) (by kernel_rfl) (fun _ _ _ h=>h) (Or.inl ⟨by rfl, ?_⟩) (by assumption) ?_
  rotate_left
  focus (intro w hSw;(try dsimp only at hSw);go_simp;first | done | with_reducible rfl)
  try simp only [Act.put,J1,J2,J3,J4,J5,J6]
  refine wpAnyH_take (i:=10) (v := ?_) rfl (by kernel_rfl) (by kernel_rfl) (by kernel_rfl) (fun _ _ _ h=>h) (Or.inl ⟨by rfl, ?_⟩) (by assumption) ?_
  rotate_left
  focus (intro w hSw;(try dsimp only at hSw);go_simp;first | done | with_reducible rfl)
  try simp only [Act.put,J1,J2,J3,J4,J5,J6]
  refine wpAnyH_take (i:=11) (v := ?_) rfl (by kernel_rfl) (by kernel_rfl) (by kernel_rfl) (fun _ _ _ h=>h) (Or.inl ⟨by rfl, ?_⟩) (by assumption) ?_
  rotate_left
  focus (intro w hSw;(try dsimp only at hSw);go_simp;first | done | with_reducible rfl)
  try simp only [Act.put,J1,J2,J3,J4,J5,J6]
  refine wpAnyH_take (i:=12) (v := ?_) rfl (by kernel_rfl) (by kernel_rfl) (by kernel_rfl) (fun _ _ _ h=>h) (Or.inl ⟨by rfl, ?_⟩) (by assumption) ?_
  rotate_left
  focus (intro w hSw;(try dsimp only at hSw);go_simp;first | done | with_reducible rfl)
  try simp only [Act.put,J1,J2,J3,J4,J5,J6]
  refine wpAnyH_take (i:=13) (v := ?_) rfl (by kernel_rfl) (by kernel_rfl) (by kernel_rfl) (fun _ _ _ h=>h) (Or.inl ⟨by rfl, ?_⟩) (by assumption) ?_
  rotate_left
  focus (intro w hSw;(try dsimp only at hSw);go_simp;first | done | with_reducible rfl)
  try simp only [Act.put,J1,J2,J3,J4,J5,J6]
  refine wpAnyH_take (i:=14) (v:=undef) rfl (by kernel_rfl) (by kernel_rfl) (by kernel_rfl) (fun _ _ _ h=>h) (Or.inr ⟨by rfl,rfl⟩) (by assumption) ?_
  try simp only [Act.put,J1,J2,J3,J4,J5,J6]
  refine wpAnyH_take (i:=15) (v:=undef) rfl (by kernel_rfl) (by kernel_rfl) (by kernel_rfl) (fun _ _ _ h=>h) (Or.inr ⟨by rfl,rfl⟩) (by assumption) ?_
  try simp only [Act.put,J1,J2,J3,J4,J5,J6]
  refine wpAnyH_take (i:=16) (v := ?_) rfl (by kernel_rfl) (by kernel_rfl) (by kernel_rfl) (fun _ _ _ h=>h) (Or.inl ⟨by rfl, ?_⟩) (by assumption) ?_
  rotate_left
  focus (intro w hSw;(try dsimp only at hSw);go_simp;first | done | with_reducible rfl)
  try simp only [Act.put,J1,J2,J3,J4,J5,J6]
  refine wpAnyH_done (by kernel_rfl) ?_ _
  clear c_x0 c_x1
  have hb:∀ i,w.heap.size≤(⟨w.heap.size+1,i,none⟩:Addr).block:=fun _=>by show w.heap.size≤w.heap.size+1;omega
  have s_r:=box4_set (x:=Z ⟨#[]⟩) (y:=Z ⟨#[]⟩) (z:=Z ⟨#[]⟩) (t:=Z ⟨#[]⟩) n_r
  have k0:=lcell n_r 0 (v:=Z ⟨#[]⟩) rfl
  have f0:=lfree n_r 0
  have k1:=lcell n_r 1 (v:=Z ⟨#[]⟩) rfl
  have f1:=lfree n_r 1
  have k2:=lcell n_r 2 (v:=Z ⟨#[]⟩) rfl
  have f2:=lfree n_r 2
  have k3:=lcell n_r 3 (v:=Z ⟨#[]⟩) rfl
  have f3:=lfree n_r 3
  have z0:=lcell s_r 0 (v:=Z ⟨#[]⟩) rfl
  have z1:=lcell s_r 1 (v:=Z ⟨#[]⟩) rfl
  have z2:=lcell s_r 2 (v:=Z ⟨#[]⟩) rfl
  have z3:=lcell s_r 3 (v:=Z ⟨#[]⟩) rfl
  go_wp2_with fail
  exact bodyPost_ret (v:=.tuple #[.agg #[Z ⟨#[]⟩,Z ⟨#[]⟩,Z ⟨#[]⟩,Z ⟨#[]⟩],.int .i64 50]) (by simp [results,Tryz.results61, go_sem,z0,z1,z2,z3]) rfl ⟨rfl,((((u.setCell (hb 0) _).setCell (hb 1) _).setCell (hb 2) _).setCell (hb 3) _)⟩
 ·have d1:decide (k<0)=false:=decide_eq_false h1
  have d2:decide (p<0)=false:=decide_eq_false h2
  have d3:decide (30<p)=true:=decide_eq_true h3
  refine wpAnyH_take (i:=7) (v := ?_) rfl (by kernel_rfl) (by kernel_rfl) (by kernel_rfl) (fun _ _ _ h=>h) (Or.inl ⟨by rfl, ?_⟩) (by assumption) ?_
  rotate_left
  focus (intro w hSw;(try dsimp only at hSw);go_simp;first | done | with_reducible rfl)
  try simp only [Act.put,J1,J2,J3,J4,J5,J6]
  refine wpAnyH_take (i:=8) (v := ?_) rfl (by kernel_rfl) (by kernel_rfl) (by kernel_rfl) (fun _ _ _ h=>h) (Or.inl ⟨by rfl, ?_⟩) (by assumption) ?_
  rotate_left
  focus (intro w hSw;(try dsimp only at hSw);go_simp;first | done | with_reducible rfl)
  try simp only [Act.put,J1,J2,J3,J4,J5,J6]
  refine wpAnyH_take (i:=9) (v := ?_) rfl (by kernel_rfl) (by kernel_rfl) (by kernel_rfl) (fun _ _ _ h=>h) (Or.inl ⟨by rfl, ?_⟩) (by assumption) ?_
  rotate_left
  focus (intro w hSw;(try dsimp only at hSw);go_simp;first | done | with_reducible rfl)
  try simp only [Act.put,J1,J2,J3,J4,J5,J6]
  refine wpAnyH_take (i:=10) (v := ?_) rfl (by kernel_rfl) (by kernel_rfl) (by kernel_rfl) (fun _ _ _ h=>h) (Or.inl ⟨by rfl, ?_⟩) (by assumption) ?_
  rotate_left
  focus (intro w hSw;(try dsimp only at hSw);go_simp;first | done | with_reducible rfl)
  try simp only [Act.put,J1,J2,J3,J4,J5,J6]
  refine wpAnyH_take (i:=11) (v := ?_) rfl (by kernel_rfl) (by kernel_rfl) (by kernel_rfl) (fun _ _ _ h=>h) (Or.inl ⟨by rfl, ?_⟩) (by assumption) ?_
  rotate_left
  focus (intro w hSw;(try dsimp only at hSw);go_simp;first | done | with_reducible rfl)
  try simp only [Act.put,J1,J2,J3,J4,J5,J6]
  refine wpAnyH_take (i:=12) (v := ?_) rfl (by kernel_rfl) (by kernel_rfl) (by kernel_rfl) (fun _ _ _ h=>h) (Or.inl ⟨by rfl, ?_⟩) (by assumption) ?_
  rotate_left
  focus (intro w hSw;(try dsimp only at hSw);go_simp;first | done | with_reducible rfl)
  try simp only [Act.put,J1,J2,J3,J4,J5,J6]
  refine wpAnyH_take (i:=13) (v := ?_) rfl (by kernel_rfl) (by kernel_rfl) (by kernel_rfl) (fun _ _ _ h=>h) (Or.inl ⟨by rfl, ?_⟩) (by assumption) ?_
  rotate_left
  focus (intro w hSw;(try dsimp only at hSw);go_simp;first | done | with_reducible rfl)
  try simp only [Act.put,J1,J2,J3,J4,J5,J6]
  refine wpAnyH_take (i:=14) (v := ?_) rfl (by kernel_rfl) (by kernel_rfl) (by kernel_rfl) (fun _ _ _ h=>h) (Or.inl ⟨by rfl, ?_⟩) (by assumption) ?_
  rotate_left
  focus (intro w hSw;(try dsimp only at hSw);go_simp;first | done | with_reducible rfl)
  try simp only [Act.put,J1,J2,J3,J4,J5,J6]
  refine wpAnyH_take (i:=15) (v := ?_) rfl (by kernel_rfl) (by kernel_rfl) (by kernel_rfl) (fun _ _ _ h=>h) (Or.inl ⟨by rfl, ?_⟩) (by assumption) ?_
  rotate_left
  focus (intro w hSw;(try dsimp only at hSw);go_simp;first | done | with_reducible rfl)
  try simp only [Act.put,J1,J2,J3,J4,J5,J6]
  refine wpAnyH_take (i:=16) (v := ?_) rfl (by kernel_rfl) (by kernel_rfl) (by kernel_rfl) (fun _ _ _ h=>h) (Or.inl ⟨by rfl, ?_⟩) (by assumption) ?_
  rotate_left
  focus (intro w hSw;(try dsimp only at hSw);go_simp;first | done | with_reducible rfl)
  try simp only [Act.put,J1,J2,J3,J4,J5,J6]
  refine wpAnyH_done (by kernel_rfl) ?_ _
  clear c_x0 c_x1
  have hb:∀ i,w.heap.size≤(⟨w.heap.size+1,i,none⟩:Addr).block:=fun _=>by show w.heap.size≤w.heap.size+1;omega
  have s_r:=box4_set (x:=Z ⟨#[]⟩) (y:=Z ⟨#[]⟩) (z:=Z ⟨#[]⟩) (t:=Z ⟨#[]⟩) n_r
  have k0:=lcell n_r 0 (v:=Z ⟨#[]⟩) rfl
  have f0:=lfree n_r 0
  have k1:=lcell n_r 1 (v:=Z ⟨#[]⟩) rfl
  have f1:=lfree n_r 1
  have k2:=lcell n_r 2 (v:=Z ⟨#[]⟩) rfl
  have f2:=lfree n_r 2
  have k3:=lcell n_r 3 (v:=Z ⟨#[]⟩) rfl
  have f3:=lfree n_r 3
  have z0:=lcell s_r 0 (v:=Z ⟨#[]⟩) rfl
  have z1:=lcell s_r 1 (v:=Z ⟨#[]⟩) rfl
  have z2:=lcell s_r 2 (v:=Z ⟨#[]⟩) rfl
  have z3:=lcell s_r 3 (v:=Z ⟨#[]⟩) rfl
  go_wp2_with fail
  exact bodyPost_ret (v:=.tuple #[.agg #[Z ⟨#[]⟩,Z ⟨#[]⟩,Z ⟨#[]⟩,Z ⟨#[]⟩],.int .i64 50]) (by simp [results,Tryz.results61, go_sem,z0,z1,z2,z3]) rfl ⟨rfl,((((u.setCell (hb 0) _).setCell (hb 1) _).setCell (hb 2) _).setCell (hb 3) _)⟩
theorem SqrtS_bad (x0 x1 x2 x3:ByteArray) (m n:ByteArray) (b1 b2:Bool) (c:Nat) (k:Int) (hc:c≤30) (hk:0≤k) (hV:Ret 21 #[.agg #[Z x0,Z x1,Z x2,Z x3]] (.bool true)) (hK:Ret 67 #[.agg #[Z x0,Z x1],.agg #[Z ⟨#[48]⟩,Z ⟨#[49]⟩]] (.int .i64 k)) (hL:Ret 112 #[.agg #[Z x0,Z x1],.int .i64 (c:Int),.bool false] (.tuple #[Z m,.bool b1])) (hH:Ret 112 #[.agg #[Z x2,Z x3],.int .i64 (c:Int),.bool true] (.tuple #[Z n,.bool b2])) (hb:b1=false∨(b1=true∧b2=false)):Ret 61 #[.agg #[Z x0,Z x1,Z x2,Z x3],.int .i64 (c:Int)] (.tuple #[.agg #[Z ⟨#[]⟩,Z ⟨#[]⟩,Z ⟨#[]⟩,Z ⟨#[]⟩],.int .i64 50]):=by
 intro w
 have C1:Shut _:=⟨hV⟩
 have C2:Shut _:=⟨hK⟩
 have C3:Shut _:=⟨hL⟩
 have C4:Shut _:=⟨hH⟩
 clear hV hK hL hH
 obtain ⟨n_x,n_r⟩:=news2 w (O #[Z x0,Z x1,Z x2,Z x3] 25) (O #[Z ⟨#[]⟩,Z ⟨#[]⟩,Z ⟨#[]⟩,Z ⟨#[]⟩] 25)
 have u:=below2 w (O #[Z x0,Z x1,Z x2,Z x3] 25) (O #[Z ⟨#[]⟩,Z ⟨#[]⟩,Z ⟨#[]⟩,Z ⟨#[]⟩] 25)
 go_enter Tryz.func61, Tryz.ntmps61
 have c_x0:=lcell n_x 0 (v:=Z x0) rfl
 have c_x1:=lcell n_x 1 (v:=Z x1) rfl
 have c_x2:=lcell n_x 2 (v:=Z x2) rfl
 have c_x3:=lcell n_x 3 (v:=Z x3) rfl
 go_wp2_with fail
 generalize ((w.alloc (O #[Z x0,Z x1,Z x2,Z x3] 25)).alloc (O #[Z ⟨#[]⟩,Z ⟨#[]⟩,Z ⟨#[]⟩,Z ⟨#[]⟩] 25))=V0 at *
 refine (C1.o _).mono ?_
 rintro e v1 ⟨rfl,g⟩
 replace u:=u.trans (g.mono u.size)
 replace n_x:=lkeep n_x g
 replace n_r:=lkeep n_r g
 clear c_x0 c_x1 c_x2 c_x3
 clear g
 go_upto_region 2 with fail
 have c_x0:=lcell n_x 0 (v:=Z x0) rfl
 have c_x1:=lcell n_x 1 (v:=Z x1) rfl
 refine wp_region_held_drew (S:=fun X=>X.cell? ⟨w.heap.size,0,none⟩=some (Z x0)∧X.cell? ⟨w.heap.size,1,none⟩=some (Z x1)) (by kernel_rfl) (by exact ⟨c_x0,c_x1⟩) (fun hHeld => ?_)
 refine wpAnyH_take (i:=0) (v := ?_) rfl (by kernel_rfl) (by kernel_rfl) (by kernel_rfl) (fun _ _ _ h=>h) (Or.inl ⟨by rfl, ?_⟩) (by assumption) ?_
 rotate_left
 focus (intro w hSw;(try dsimp only at hSw);go_simp;first | done | with_reducible rfl)
 refine wpAnyH_take (i:=1) (v := ?_) rfl (by kernel_rfl) (by kernel_rfl) (by kernel_rfl) (fun _ _ _ h=>h) (Or.inl ⟨by rfl, ?_⟩) (by assumption) ?_
 rotate_left
 focus (intro w hSw;(try dsimp only at hSw);go_simp;first | done | with_reducible rfl)
 try simp only [Act.put,J1,J2,J3,J4,J5,J6]
 refine wpAnyH_take (i:=2) (v := ?_) rfl (by kernel_rfl) (by kernel_rfl) (by kernel_rfl) (fun _ _ _ h=>h) (Or.inl ⟨by rfl, ?_⟩) (by assumption) ?_
 rotate_left
 focus (intro w hSw;(try dsimp only at hSw);go_simp;first | done | with_reducible rfl)
 try simp only [Act.put,J1,J2,J3,J4,J5,J6]
 refine wpAnyH_take (i:=3) (v := ?_) rfl (by kernel_rfl) (by kernel_rfl) (by kernel_rfl) (fun _ _ _ h=>h) (Or.inl ⟨by rfl, ?_⟩) (by assumption) ?_
 rotate_left
 focus (intro w hSw;(try dsimp only at hSw);go_simp;first | done | with_reducible rfl)
 try simp only [Act.put,J1,J2,J3,J4,J5,J6]
 refine wpAnyH_take (i:=4) (v := ?_) rfl (by kernel_rfl) (by kernel_rfl) (by kernel_rfl) (fun _ _ _ h=>h) (Or.inl ⟨by rfl, ?_⟩) (by assumption) ?_
 rotate_left
 focus (intro w hSw;(try dsimp only at hSw);go_simp;first | done | with_reducible rfl)
 try simp only [Act.put,J1,J2,J3,J4,J5,J6]
 refine wpAnyH_ready (rs := [5]) (by kernel_rfl) (by simp) ?_
 refine AllReadyH.cons rfl (fun K hK => ?_) AllReadyH.nil
 go_simp
 (with_reducible refine (Ret.run zeroS _).mono ?_)
 rintro e h1 ⟨rfl,g⟩
 have g:Below v1.heap.size v1 h1:=lundrew2 g
 replace u:=u.trans (g.mono u.size)
 replace n_x:=lkeep n_x g
 replace n_r:=lkeep n_r g
 have c_x0:h1.cell? ⟨w.heap.size,0,none⟩=some (Z x0):=(g.cell (p:=⟨w.heap.size,0,none⟩) (World.block_lt_of_cell? _ _ c_x0)).trans c_x0
 have c_x1:h1.cell? ⟨w.heap.size,1,none⟩=some (Z x1):=(g.cell (p:=⟨w.heap.size,1,none⟩) (World.block_lt_of_cell? _ _ c_x1)).trans c_x1
 clear g
 refine hK.out _ _ ⟨c_x0,c_x1⟩ (fun hHeld => ?_)
 clear hK K
 refine wpAnyH_ready (rs := [6]) (by kernel_rfl) (by simp) ?_
 refine AllReadyH.cons rfl (fun K hK => ?_) AllReadyH.nil
 go_simp
 (with_reducible refine (Ret.run C2.o _).mono ?_)
 rintro e h2 ⟨rfl,g⟩
 have g:Below h1.heap.size h1 h2:=g
 replace u:=u.trans (g.mono u.size)
 replace n_x:=lkeep n_x g
 replace n_r:=lkeep n_r g
 have c_x0:h2.cell? ⟨w.heap.size,0,none⟩=some (Z x0):=(g.cell (p:=⟨w.heap.size,0,none⟩) (World.block_lt_of_cell? _ _ c_x0)).trans c_x0
 have c_x1:h2.cell? ⟨w.heap.size,1,none⟩=some (Z x1):=(g.cell (p:=⟨w.heap.size,1,none⟩) (World.block_lt_of_cell? _ _ c_x1)).trans c_x1
 clear g
 refine hK.out _ _ ⟨c_x0,c_x1⟩ (fun hHeld => ?_)
 clear hK K
 have d1:decide (k<0)=false:=decide_eq_false (by omega)
 have d2:decide ((c:Int)<0)=false:=decide_eq_false (by omega)
 have d3:decide (30<(c:Int))=false:=decide_eq_false (by omega)
 refine wpAnyH_take (i:=7) (v := ?_) rfl (by kernel_rfl) (by kernel_rfl) (by kernel_rfl) (fun _ _ _ h=>h) (Or.inl ⟨by rfl, ?_⟩) (by assumption) ?_
 rotate_left
 focus (intro w hSw;(try dsimp only at hSw);go_simp;first | done | with_reducible rfl)
 try simp only [Act.put,J1,J2,J3,J4,J5,J6]
 refine wpAnyH_take (i:=8) (v := ?_) rfl (by kernel_rfl) (by kernel_rfl) (by kernel_rfl) (fun _ _ _ h=>h) (Or.inl ⟨by rfl, ?_⟩) (by assumption) ?_
 rotate_left
 focus (intro w hSw;(try dsimp only at hSw);go_simp;first | done | with_reducible rfl)
 try simp only [Act.put,J1,J2,J3,J4,J5,J6]
 refine wpAnyH_take (i:=9) (v := ?_) rfl (by kernel_rfl) (by kernel_rfl) (by kernel_rfl) (fun _ _ _ h=>h) (Or.inl ⟨by rfl, ?_⟩) (by assumption) ?_
 rotate_left
 focus (intro w hSw;(try dsimp only at hSw);go_simp;first | done | with_reducible rfl)
 try simp only [Act.put,J1,J2,J3,J4,J5,J6]
 refine wpAnyH_take (i:=10) (v := ?_) rfl (by kernel_rfl) (by kernel_rfl) (by kernel_rfl) (fun _ _ _ h=>h) (Or.inl ⟨by rfl, ?_⟩) (by assumption) ?_
 rotate_left
 focus (intro w hSw;(try dsimp only at hSw);go_simp;first | done | with_reducible rfl)
 try simp only [Act.put,J1,J2,J3,J4,J5,J6]
 refine wpAnyH_take (i:=11) (v := ?_) rfl (by kernel_rfl) (by kernel_rfl) (by kernel_rfl) (fun _ _ _ h=>h) (Or.inl ⟨by rfl, ?_⟩) (by assumption) ?_
 rotate_left
 focus (intro w hSw;(try dsimp only at hSw);go_simp;first | done | with_reducible rfl)
 try simp only [Act.put,J1,J2,J3,J4,J5,J6]
 refine wpAnyH_take (i:=12) (v := ?_) rfl (by kernel_rfl) (by kernel_rfl) (by kernel_rfl) (fun _ _ _ h=>h) (Or.inl ⟨by rfl, ?_⟩) (by assumption) ?_
 rotate_left
 focus (intro w hSw;(try dsimp only at hSw);go_simp;first | done | with_reducible rfl)
 try simp only [Act.put,J1,J2,J3,J4,J5,J6]
 refine wpAnyH_take (i:=13) (v := ?_) rfl (by kernel_rfl) (by kernel_rfl) (by kernel_rfl) (fun _ _ _ h=>h) (Or.inl ⟨by rfl, ?_⟩) (by assumption) ?_
 rotate_left
 focus (intro w hSw;(try dsimp only at hSw);go_simp;first | done | with_reducible rfl)
 try simp only [Act.put,J1,J2,J3,J4,J5,J6]
 refine wpAnyH_take (i:=14) (v := ?_) rfl (by kernel_rfl) (by kernel_rfl) (by kernel_rfl) (fun _ _ _ h=>h) (Or.inl ⟨by rfl, ?_⟩) (by assumption) ?_
 rotate_left
 focus (intro w hSw;(try dsimp only at hSw);go_simp;first | done | with_reducible rfl)
 try simp only [Act.put,J1,J2,J3,J4,J5,J6]
 refine wpAnyH_take (i:=15) (v := ?_) rfl (by kernel_rfl) (by kernel_rfl) (by kernel_rfl) (fun _ _ _ h=>h) (Or.inl ⟨by rfl, ?_⟩) (by assumption) ?_
 rotate_left
 focus (intro w hSw;(try dsimp only at hSw);go_simp;first | done | with_reducible rfl)
 try simp only [Act.put,J1,J2,J3,J4,J5,J6]
 refine wpAnyH_take (i:=16) (v := ?_) rfl (by kernel_rfl) (by kernel_rfl) (by kernel_rfl) (fun _ _ _ h=>h) (Or.inl ⟨by rfl, ?_⟩) (by assumption) ?_
 rotate_left
 focus (intro w hSw;(try dsimp only at hSw);go_simp;first | done | with_reducible rfl)
 try simp only [Act.put,J1,J2,J3,J4,J5,J6]
 refine wpAnyH_done (by kernel_rfl) ?_ _
 clear c_x0 c_x1
 clear d1 d2 d3
 have c_x0:=lcell n_x 0 (v:=Z x0) rfl
 have c_x1:=lcell n_x 1 (v:=Z x1) rfl
 have c_x2:=lcell n_x 2 (v:=Z x2) rfl
 have c_x3:=lcell n_x 3 (v:=Z x3) rfl
 go_wp2_with fail
 refine (C3.o _).mono ?_
 rintro e v2 ⟨rfl,g⟩
 replace u:=u.trans (g.mono u.size)
 replace n_x:=lkeep n_x g
 replace n_r:=lkeep n_r g
 clear c_x0 c_x1 c_x2 c_x3
 clear g
 have c_x0:=lcell n_x 0 (v:=Z x0) rfl
 have c_x1:=lcell n_x 1 (v:=Z x1) rfl
 have c_x2:=lcell n_x 2 (v:=Z x2) rfl
 have c_x3:=lcell n_x 3 (v:=Z x3) rfl
 go_wp2_with fail
 refine (C4.o _).mono ?_
 rintro e v3 ⟨rfl,g⟩
 replace u:=u.trans (g.mono u.size)
 replace n_x:=lkeep n_x g
 replace n_r:=lkeep n_r g
 clear c_x0 c_x1 c_x2 c_x3
 clear g
 rcases hb with rfl | ⟨rfl,rfl⟩
 ·have hb:∀ i,w.heap.size≤(⟨w.heap.size+1,i,none⟩:Addr).block:=fun _=>by show w.heap.size≤w.heap.size+1;omega
  have s_r:=box4_set (x:=Z ⟨#[]⟩) (y:=Z ⟨#[]⟩) (z:=Z ⟨#[]⟩) (t:=Z ⟨#[]⟩) n_r
  have k0:=lcell n_r 0 (v:=Z ⟨#[]⟩) rfl
  have f0:=lfree n_r 0
  have k1:=lcell n_r 1 (v:=Z ⟨#[]⟩) rfl
  have f1:=lfree n_r 1
  have k2:=lcell n_r 2 (v:=Z ⟨#[]⟩) rfl
  have f2:=lfree n_r 2
  have k3:=lcell n_r 3 (v:=Z ⟨#[]⟩) rfl
  have f3:=lfree n_r 3
  have z0:=lcell s_r 0 (v:=Z ⟨#[]⟩) rfl
  have z1:=lcell s_r 1 (v:=Z ⟨#[]⟩) rfl
  have z2:=lcell s_r 2 (v:=Z ⟨#[]⟩) rfl
  have z3:=lcell s_r 3 (v:=Z ⟨#[]⟩) rfl
  go_wp2_with fail
  exact bodyPost_ret (v:=.tuple #[.agg #[Z ⟨#[]⟩,Z ⟨#[]⟩,Z ⟨#[]⟩,Z ⟨#[]⟩],.int .i64 50]) (by simp [results,Tryz.results61, go_sem,z0,z1,z2,z3]) rfl ⟨rfl,((((u.setCell (hb 0) _).setCell (hb 1) _).setCell (hb 2) _).setCell (hb 3) _)⟩
 ·have hb:∀ i,w.heap.size≤(⟨w.heap.size+1,i,none⟩:Addr).block:=fun _=>by show w.heap.size≤w.heap.size+1;omega
  have s_r:=box4_set (x:=Z ⟨#[]⟩) (y:=Z ⟨#[]⟩) (z:=Z ⟨#[]⟩) (t:=Z ⟨#[]⟩) n_r
  have k0:=lcell n_r 0 (v:=Z ⟨#[]⟩) rfl
  have f0:=lfree n_r 0
  have k1:=lcell n_r 1 (v:=Z ⟨#[]⟩) rfl
  have f1:=lfree n_r 1
  have k2:=lcell n_r 2 (v:=Z ⟨#[]⟩) rfl
  have f2:=lfree n_r 2
  have k3:=lcell n_r 3 (v:=Z ⟨#[]⟩) rfl
  have f3:=lfree n_r 3
  have z0:=lcell s_r 0 (v:=Z ⟨#[]⟩) rfl
  have z1:=lcell s_r 1 (v:=Z ⟨#[]⟩) rfl
  have z2:=lcell s_r 2 (v:=Z ⟨#[]⟩) rfl
  have z3:=lcell s_r 3 (v:=Z ⟨#[]⟩) rfl
  go_wp2_with fail
  exact bodyPost_ret (v:=.tuple #[.agg #[Z ⟨#[]⟩,Z ⟨#[]⟩,Z ⟨#[]⟩,Z ⟨#[]⟩],.int .i64 50]) (by simp [results,Tryz.results61, go_sem,z0,z1,z2,z3]) rfl ⟨rfl,((((u.setCell (hb 0) _).setCell (hb 1) _).setCell (hb 2) _).setCell (hb 3) _)⟩
theorem SqrtS (x0 x1 x2 x3:ByteArray) (m n l0 l1 g0 g1 m0 m1 m2 m3:ByteArray) (c:Nat) (k e f d:Int) (hc:c≤30) (hk:0≤k) (hV:Ret 21 #[.agg #[Z x0,Z x1,Z x2,Z x3]] (.bool true)) (hK:Ret 67 #[.agg #[Z x0,Z x1],.agg #[Z ⟨#[48]⟩,Z ⟨#[49]⟩]] (.int .i64 k)) (hL:Ret 112 #[.agg #[Z x0,Z x1],.int .i64 (c:Int),.bool false] (.tuple #[Z m,.bool true])) (hH:Ret 112 #[.agg #[Z x2,Z x3],.int .i64 (c:Int),.bool true] (.tuple #[Z n,.bool true])) (hM:Ret 44 #[Z m,Z (T10 c)] (.tuple #[.agg #[Z l0,Z l1],.int .i64 e])) (hN:Ret 44 #[Z n,Z (T10 c)] (.tuple #[.agg #[Z g0,Z g1],.int .i64 f])) (hR:Ret 109 #[.agg #[Z l0,Z l1],.int .i64 e,.agg #[Z g0,Z g1],.int .i64 f] (.tuple #[.agg #[Z m0,Z m1,Z m2,Z m3],.int .i64 d])):Ret 61 #[.agg #[Z x0,Z x1,Z x2,Z x3],.int .i64 (c:Int)] (.tuple #[.agg #[Z m0,Z m1,Z m2,Z m3],.int .i64 d]):=by
 intro w
 have C1:Shut _:=⟨hV⟩
 have C2:Shut _:=⟨hK⟩
 have C3:Shut _:=⟨hL⟩
 have C4:Shut _:=⟨hH⟩
 have C5:Shut _:=⟨hM⟩
 have C6:Shut _:=⟨hN⟩
 have C7:Shut _:=⟨hR⟩
 clear hV hK hL hH hM hN hR
 have CT:Shut _:=⟨tens_any c (by omega)⟩
 obtain ⟨n_x,n_r⟩:=news2 w (O #[Z x0,Z x1,Z x2,Z x3] 25) (O #[Z ⟨#[]⟩,Z ⟨#[]⟩,Z ⟨#[]⟩,Z ⟨#[]⟩] 25)
 have u:=below2 w (O #[Z x0,Z x1,Z x2,Z x3] 25) (O #[Z ⟨#[]⟩,Z ⟨#[]⟩,Z ⟨#[]⟩,Z ⟨#[]⟩] 25)
 go_enter Tryz.func61, Tryz.ntmps61
 have c_x0:=lcell n_x 0 (v:=Z x0) rfl
 have c_x1:=lcell n_x 1 (v:=Z x1) rfl
 have c_x2:=lcell n_x 2 (v:=Z x2) rfl
 have c_x3:=lcell n_x 3 (v:=Z x3) rfl
 go_wp2_with fail
 generalize ((w.alloc (O #[Z x0,Z x1,Z x2,Z x3] 25)).alloc (O #[Z ⟨#[]⟩,Z ⟨#[]⟩,Z ⟨#[]⟩,Z ⟨#[]⟩] 25))=V0 at *
 refine (C1.o _).mono ?_
 rintro e v1 ⟨rfl,g⟩
 replace u:=u.trans (g.mono u.size)
 replace n_x:=lkeep n_x g
 replace n_r:=lkeep n_r g
 clear c_x0 c_x1 c_x2 c_x3
 clear g
 go_upto_region 2 with fail
 have c_x0:=lcell n_x 0 (v:=Z x0) rfl
 have c_x1:=lcell n_x 1 (v:=Z x1) rfl
 refine wp_region_held_drew (S:=fun X=>X.cell? ⟨w.heap.size,0,none⟩=some (Z x0)∧X.cell? ⟨w.heap.size,1,none⟩=some (Z x1)) (by kernel_rfl) (by exact ⟨c_x0,c_x1⟩) (fun hHeld => ?_)
 refine wpAnyH_take (i:=0) (v := ?_) rfl (by kernel_rfl) (by kernel_rfl) (by kernel_rfl) (fun _ _ _ h=>h) (Or.inl ⟨by rfl, ?_⟩) (by assumption) ?_
 rotate_left
 focus (intro w hSw;(try dsimp only at hSw);go_simp;first | done | with_reducible rfl)
 refine wpAnyH_take (i:=1) (v := ?_) rfl (by kernel_rfl) (by kernel_rfl) (by kernel_rfl) (fun _ _ _ h=>h) (Or.inl ⟨by rfl, ?_⟩) (by assumption) ?_
 rotate_left
 focus (intro w hSw;(try dsimp only at hSw);go_simp;first | done | with_reducible rfl)
 try simp only [Act.put,J1,J2,J3,J4,J5,J6]
 refine wpAnyH_take (i:=2) (v := ?_) rfl (by kernel_rfl) (by kernel_rfl) (by kernel_rfl) (fun _ _ _ h=>h) (Or.inl ⟨by rfl, ?_⟩) (by assumption) ?_
 rotate_left
 focus (intro w hSw;(try dsimp only at hSw);go_simp;first | done | with_reducible rfl)
 try simp only [Act.put,J1,J2,J3,J4,J5,J6]
 refine wpAnyH_take (i:=3) (v := ?_) rfl (by kernel_rfl) (by kernel_rfl) (by kernel_rfl) (fun _ _ _ h=>h) (Or.inl ⟨by rfl, ?_⟩) (by assumption) ?_
 rotate_left
 focus (intro w hSw;(try dsimp only at hSw);go_simp;first | done | with_reducible rfl)
 try simp only [Act.put,J1,J2,J3,J4,J5,J6]
 refine wpAnyH_take (i:=4) (v := ?_) rfl (by kernel_rfl) (by kernel_rfl) (by kernel_rfl) (fun _ _ _ h=>h) (Or.inl ⟨by rfl, ?_⟩) (by assumption) ?_
 rotate_left
 focus (intro w hSw;(try dsimp only at hSw);go_simp;first | done | with_reducible rfl)
 try simp only [Act.put,J1,J2,J3,J4,J5,J6]
 refine wpAnyH_ready (rs := [5]) (by kernel_rfl) (by simp) ?_
 refine AllReadyH.cons rfl (fun K hK => ?_) AllReadyH.nil
 go_simp
 (with_reducible refine (Ret.run zeroS _).mono ?_)
 rintro e h1 ⟨rfl,g⟩
 have g:Below v1.heap.size v1 h1:=lundrew2 g
 replace u:=u.trans (g.mono u.size)
 replace n_x:=lkeep n_x g
 replace n_r:=lkeep n_r g
 have c_x0:h1.cell? ⟨w.heap.size,0,none⟩=some (Z x0):=(g.cell (p:=⟨w.heap.size,0,none⟩) (World.block_lt_of_cell? _ _ c_x0)).trans c_x0
 have c_x1:h1.cell? ⟨w.heap.size,1,none⟩=some (Z x1):=(g.cell (p:=⟨w.heap.size,1,none⟩) (World.block_lt_of_cell? _ _ c_x1)).trans c_x1
 clear g
 refine hK.out _ _ ⟨c_x0,c_x1⟩ (fun hHeld => ?_)
 clear hK K
 refine wpAnyH_ready (rs := [6]) (by kernel_rfl) (by simp) ?_
 refine AllReadyH.cons rfl (fun K hK => ?_) AllReadyH.nil
 go_simp
 (with_reducible refine (Ret.run C2.o _).mono ?_)
 rintro e h2 ⟨rfl,g⟩
 have g:Below h1.heap.size h1 h2:=g
 replace u:=u.trans (g.mono u.size)
 replace n_x:=lkeep n_x g
 replace n_r:=lkeep n_r g
 have c_x0:h2.cell? ⟨w.heap.size,0,none⟩=some (Z x0):=(g.cell (p:=⟨w.heap.size,0,none⟩) (World.block_lt_of_cell? _ _ c_x0)).trans c_x0
 have c_x1:h2.cell? ⟨w.heap.size,1,none⟩=some (Z x1):=(g.cell (p:=⟨w.heap.size,1,none⟩) (World.block_lt_of_cell? _ _ c_x1)).trans c_x1
 clear g
 refine hK.out _ _ ⟨c_x0,c_x1⟩ (fun hHeld => ?_)
 clear hK K
 have d1:decide (k<0)=false:=decide_eq_false (by omega)
 have d2:decide ((c:Int)<0)=false:=decide_eq_false (by omega)
 have d3:decide (30<(c:Int))=false:=decide_eq_false (by omega)
 refine wpAnyH_take (i:=7) (v := ?_) rfl (by kernel_rfl) (by kernel_rfl) (by kernel_rfl) (fun _ _ _ h=>h) (Or.inl ⟨by rfl, ?_⟩) (by assumption) ?_
 rotate_left
 focus (intro w hSw;(try dsimp only at hSw);go_simp;first | done | with_reducible rfl)
 try simp only [Act.put,J1,J2,J3,J4,J5,J6]
 refine wpAnyH_take (i:=8) (v := ?_) rfl (by kernel_rfl) (by kernel_rfl) (by kernel_rfl) (fun _ _ _ h=>h) (Or.inl ⟨by rfl, ?_⟩) (by assumption) ?_
 rotate_left
 focus (intro w hSw;(try dsimp only at hSw);go_simp;first | done | with_reducible rfl)
 try simp only [Act.put,J1,J2,J3,J4,J5,J6]
 refine wpAnyH_take (i:=9) (v := ?_) rfl (by kernel_rfl) (by kernel_rfl) (by kernel_rfl) (fun _ _ _ h=>h) (Or.inl ⟨by rfl, ?_⟩) (by assumption) ?_
 rotate_left
 focus (intro w hSw;(try dsimp only at hSw);go_simp;first | done | with_reducible rfl)
 try simp only [Act.put,J1,J2,J3,J4,J5,J6]
 refine wpAnyH_take (i:=10) (v := ?_) rfl (by kernel_rfl) (by kernel_rfl) (by kernel_rfl) (fun _ _ _ h=>h) (Or.inl ⟨by rfl, ?_⟩) (by assumption) ?_
 rotate_left
 focus (intro w hSw;(try dsimp only at hSw);go_simp;first | done | with_reducible rfl)
 try simp only [Act.put,J1,J2,J3,J4,J5,J6]
 refine wpAnyH_take (i:=11) (v := ?_) rfl (by kernel_rfl) (by kernel_rfl) (by kernel_rfl) (fun _ _ _ h=>h) (Or.inl ⟨by rfl, ?_⟩) (by assumption) ?_
 rotate_left
 focus (intro w hSw;(try dsimp only at hSw);go_simp;first | done | with_reducible rfl)
 try simp only [Act.put,J1,J2,J3,J4,J5,J6]
 refine wpAnyH_take (i:=12) (v := ?_) rfl (by kernel_rfl) (by kernel_rfl) (by kernel_rfl) (fun _ _ _ h=>h) (Or.inl ⟨by rfl, ?_⟩) (by assumption) ?_
 rotate_left
 focus (intro w hSw;(try dsimp only at hSw);go_simp;first | done | with_reducible rfl)
 try simp only [Act.put,J1,J2,J3,J4,J5,J6]
 refine wpAnyH_take (i:=13) (v := ?_) rfl (by kernel_rfl) (by kernel_rfl) (by kernel_rfl) (fun _ _ _ h=>h) (Or.inl ⟨by rfl, ?_⟩) (by assumption) ?_
 rotate_left
 focus (intro w hSw;(try dsimp only at hSw);go_simp;first | done | with_reducible rfl)
 try simp only [Act.put,J1,J2,J3,J4,J5,J6]
 refine wpAnyH_take (i:=14) (v := ?_) rfl (by kernel_rfl) (by kernel_rfl) (by kernel_rfl) (fun _ _ _ h=>h) (Or.inl ⟨by rfl, ?_⟩) (by assumption) ?_
 rotate_left
 focus (intro w hSw;(try dsimp only at hSw);go_simp;first | done | with_reducible rfl)
 try simp only [Act.put,J1,J2,J3,J4,J5,J6]
 refine wpAnyH_take (i:=15) (v := ?_) rfl (by kernel_rfl) (by kernel_rfl) (by kernel_rfl) (fun _ _ _ h=>h) (Or.inl ⟨by rfl, ?_⟩) (by assumption) ?_
 rotate_left
 focus (intro w hSw;(try dsimp only at hSw);go_simp;first | done | with_reducible rfl)
 try simp only [Act.put,J1,J2,J3,J4,J5,J6]
 refine wpAnyH_take (i:=16) (v := ?_) rfl (by kernel_rfl) (by kernel_rfl) (by kernel_rfl) (fun _ _ _ h=>h) (Or.inl ⟨by rfl, ?_⟩) (by assumption) ?_
 rotate_left
 focus (intro w hSw;(try dsimp only at hSw);go_simp;first | done | with_reducible rfl)
 try simp only [Act.put,J1,J2,J3,J4,J5,J6]
 refine wpAnyH_done (by kernel_rfl) ?_ _
 clear c_x0 c_x1
 clear d1 d2 d3
 have c_x0:=lcell n_x 0 (v:=Z x0) rfl
 have c_x1:=lcell n_x 1 (v:=Z x1) rfl
 have c_x2:=lcell n_x 2 (v:=Z x2) rfl
 have c_x3:=lcell n_x 3 (v:=Z x3) rfl
 go_wp2_with fail
 refine (C3.o _).mono ?_
 rintro e v2 ⟨rfl,g⟩
 replace u:=u.trans (g.mono u.size)
 replace n_x:=lkeep n_x g
 replace n_r:=lkeep n_r g
 clear c_x0 c_x1 c_x2 c_x3
 clear g
 have c_x0:=lcell n_x 0 (v:=Z x0) rfl
 have c_x1:=lcell n_x 1 (v:=Z x1) rfl
 have c_x2:=lcell n_x 2 (v:=Z x2) rfl
 have c_x3:=lcell n_x 3 (v:=Z x3) rfl
 go_wp2_with fail
 refine (C4.o _).mono ?_
 rintro e v3 ⟨rfl,g⟩
 replace u:=u.trans (g.mono u.size)
 replace n_x:=lkeep n_x g
 replace n_r:=lkeep n_r g
 clear c_x0 c_x1 c_x2 c_x3
 clear g
 go_wp2_with fail
 refine (CT.o _).mono ?_
 rintro e v4 ⟨rfl,g⟩
 replace u:=u.trans (g.mono u.size)
 replace n_x:=lkeep n_x g
 replace n_r:=lkeep n_r g
 clear g
 go_wp2_with fail
 refine (C5.o _).mono ?_
 rintro e v5 ⟨rfl,g⟩
 replace u:=u.trans (g.mono u.size)
 replace n_x:=lkeep n_x g
 replace n_r:=lkeep n_r g
 clear g
 have g:=(Below.refl v5.heap.size v5).alloc (Nat.le_refl _) (O #[Z l0,Z l1] 23)
 have n_l:=World.alloc_heap_new v5 (O #[Z l0,Z l1] 23)
 replace u:=u.trans (g.mono u.size)
 replace n_x:=lkeep n_x g
 replace n_r:=lkeep n_r g
 clear g
 go_wp2_with fail
 generalize v5.alloc (O #[Z l0,Z l1] 23)=V_l at *
 generalize v5.heap.size=b_l at *
 refine (CT.o _).mono ?_
 rintro e v6 ⟨rfl,g⟩
 replace u:=u.trans (g.mono u.size)
 replace n_x:=lkeep n_x g
 replace n_r:=lkeep n_r g
 replace n_l:=lkeep n_l g
 clear g
 go_wp2_with fail
 refine (C6.o _).mono ?_
 rintro e v7 ⟨rfl,g⟩
 replace u:=u.trans (g.mono u.size)
 replace n_x:=lkeep n_x g
 replace n_r:=lkeep n_r g
 replace n_l:=lkeep n_l g
 clear g
 have g:=(Below.refl v7.heap.size v7).alloc (Nat.le_refl _) (O #[Z g0,Z g1] 23)
 have n_g:=World.alloc_heap_new v7 (O #[Z g0,Z g1] 23)
 replace u:=u.trans (g.mono u.size)
 replace n_x:=lkeep n_x g
 replace n_r:=lkeep n_r g
 replace n_l:=lkeep n_l g
 clear g
 have c_l0:=lcell n_l 0 (v:=Z l0) rfl
 have c_l1:=lcell n_l 1 (v:=Z l1) rfl
 have c_g0:=lcell n_g 0 (v:=Z g0) rfl
 have c_g1:=lcell n_g 1 (v:=Z g1) rfl
 go_wp2_with fail
 generalize v7.alloc (O #[Z g0,Z g1] 23)=V_g at *
 generalize v7.heap.size=b_g at *
 refine (C7.o _).mono ?_
 rintro e v8 ⟨rfl,g⟩
 replace u:=u.trans (g.mono u.size)
 replace n_x:=lkeep n_x g
 replace n_r:=lkeep n_r g
 replace n_l:=lkeep n_l g
 replace n_g:=lkeep n_g g
 clear c_l0 c_l1 c_g0 c_g1
 clear g
 have hb:∀ i,w.heap.size≤(⟨w.heap.size+1,i,none⟩:Addr).block:=fun _=>by show w.heap.size≤w.heap.size+1;omega
 have s_r:=box4_set (x:=Z m0) (y:=Z m1) (z:=Z m2) (t:=Z m3) n_r
 have k0:=lcell n_r 0 (v:=Z ⟨#[]⟩) rfl
 have f0:=lfree n_r 0
 have k1:=lcell n_r 1 (v:=Z ⟨#[]⟩) rfl
 have f1:=lfree n_r 1
 have k2:=lcell n_r 2 (v:=Z ⟨#[]⟩) rfl
 have f2:=lfree n_r 2
 have k3:=lcell n_r 3 (v:=Z ⟨#[]⟩) rfl
 have f3:=lfree n_r 3
 have z0:=lcell s_r 0 (v:=Z m0) rfl
 have z1:=lcell s_r 1 (v:=Z m1) rfl
 have z2:=lcell s_r 2 (v:=Z m2) rfl
 have z3:=lcell s_r 3 (v:=Z m3) rfl
 go_wp2_with fail
 exact bodyPost_ret (v:=.tuple #[.agg #[Z m0,Z m1,Z m2,Z m3],.int .i64 d]) (by simp [results,Tryz.results61, go_sem,z0,z1,z2,z3]) rfl ⟨rfl,((((u.setCell (hb 0) _).setCell (hb 1) _).setCell (hb 2) _).setCell (hb 3) _)⟩
end En
end
end Go.Proofs.YtbfonkabmehlmaaGreatDoor
