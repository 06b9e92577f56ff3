/-
  What the operations answer to fractions that may be missing.
-/
import Derived.Test.YtbfonkabmehlmaaGreatDoorY6B5
import Derived.Deep.DeepCutAuto
import Derived.Lib.SmallJoins
import Derived.ProofKit
set_option maxRecDepth 1000000
set_option maxHeartbeats 40000000
open Go.Value renaming string→Z
open Go.Obj renaming cells→O
namespace Go.Proofs.YtbfonkabmehlmaaGreatDoor
section
namespace Rt
open Go.RowKit Go.Proofs.YtbfonkabmehlmaaGreatDoor.Nm
open N10 (Two)

def sn:Option Rat→ByteArray
 | some q=>txt q.num
 | none=>⟨#[]⟩
def sd:Option Rat→ByteArray
 | some q=>txt (q.den:Int)
 | none=>⟨#[]⟩
def cd:Option Rat→Int
 | some _=>0
 | none=>40
def vO (o:Option Rat):Value:=.agg #[Z (sn o),Z (sd o)]
def resO (o:Option Rat):Value:=.tuple #[.agg #[Z (sn o),Z (sd o)],.int .i64 (cd o)]
def lift2 (f:Rat→Rat→Option Rat) (o1 o2:Option Rat):Option Rat:=o1.bind fun p=>o2.bind fun q=>f p q
structure FitO (o:Option Rat):Prop where
 fit:∀ q,o=some q→FitQ q
theorem bR_O (o:Option Rat):bR (o.map txtQ)=resO o:=by cases o <;> rfl
theorem FitO.some {q:Rat} (h:FitQ q):FitO (some q):=⟨fun p hp=>by injection hp with hp;exact hp▸h⟩
theorem FitO.sizes {o:Option Rat} (h:FitO o):(sn o).size≤1000000∧(sd o).size≤1000000:=by
 cases o with
 | none=>exact ⟨Nat.zero_le _,Nat.zero_le _⟩
 | some q=>exact (h.fit q rfl).size
theorem validB_nil:validB ⟨#[]⟩=false:=by decide +kernel
theorem qOf_nil:qOf ⟨#[]⟩ ⟨#[]⟩=none:=by rw [qOf,zOf_bad validB_nil];rfl
theorem qOf_O {o:Option Rat} (h:FitO o):qOf (sn o) (sd o)=o:=by
 cases o with
 | none=>exact qOf_nil
 | some q=>exact qOf_txt (h.fit q rfl)
theorem qs_bad {o1 o2:Option Rat} (h1:FitO o1) (h2:FitO o2) (h:o1=none∨o2=none):qsOk [(sn o1,sd o1),(sn o2,sd o2)]=false:=by
 refine qsOk_bad2 ?_
 rw [qOf_O h1,qOf_O h2];exact h
theorem lift_none (f:Rat→Rat→Option Rat) {o1 o2:Option Rat} (h:o1=none∨o2=none):lift2 f o1 o2=none:=by
 rcases h with rfl | rfl
 ·rfl
 ·cases o1 <;> rfl
theorem o_ways (o1 o2:Option Rat):(∃ p q,o1=some p∧o2=some q)∨(o1=none∨o2=none):=by
 cases o1 with
 | none=>exact .inr (.inl rfl)
 | some p =>
  cases o2 with
  | none=>exact .inr (.inr rfl)
  | some q=>exact .inl ⟨p,q,rfl,rfl⟩
theorem addB {o1 o2:Option Rat} (h1:FitO o1) (h2:FitO o2):bR (sumR opAdd (sn o1) (sd o1) (sn o2) (sd o2))=resO (lift2 addQ o1 o2):=by
 rcases o_ways o1 o2 with ⟨p,q,rfl,rfl⟩ | h
 ·rw [←bR_O,show lift2 addQ (some p) (some q)=addQ p q from rfl,←addR_q (h1.fit p rfl) (h2.fit q rfl)];rfl
 ·rw [sumR,qs_bad h1 h2 h,lift_none _ h];rfl
theorem subB {o1 o2:Option Rat} (h1:FitO o1) (h2:FitO o2):bR (sumR opSub (sn o1) (sd o1) (sn o2) (sd o2))=resO (lift2 subQ o1 o2):=by
 rcases o_ways o1 o2 with ⟨p,q,rfl,rfl⟩ | h
 ·rw [←bR_O,show lift2 subQ (some p) (some q)=subQ p q from rfl,←subR_q (h1.fit p rfl) (h2.fit q rfl)];rfl
 ·rw [sumR,qs_bad h1 h2 h,lift_none _ h];rfl
theorem mulB {o1 o2:Option Rat} (h1:FitO o1) (h2:FitO o2):bR (mulR (sn o1) (sd o1) (sn o2) (sd o2))=resO (lift2 mulQ o1 o2):=by
 rcases o_ways o1 o2 with ⟨p,q,rfl,rfl⟩ | h
 ·rw [←bR_O,show lift2 mulQ (some p) (some q)=mulQ p q from rfl,←mulR_q (h1.fit p rfl) (h2.fit q rfl)];rfl
 ·rw [mulR,qs_bad h1 h2 h,lift_none _ h];rfl
theorem divB {o1 o2:Option Rat} (h1:FitO o1) (h2:FitO o2):bR (divR (sn o1) (sd o1) (sn o2) (sd o2))=resO (lift2 divQ o1 o2):=by
 rcases o_ways o1 o2 with ⟨p,q,rfl,rfl⟩ | h
 ·rw [←bR_O,show lift2 divQ (some p) (some q)=divQ p q from rfl,←divR_q (h1.fit p rfl) (h2.fit q rfl)];rfl
 ·rw [divR,qs_bad h1 h2 h,lift_none _ h];rfl
theorem addO {o1 o2:Option Rat} (h1:FitO o1) (h2:FitO o2):Two 28 #[vO o1,vO o2] (resO (lift2 addQ o1 o2)):=fun W=>by
 have:=Add_all (sn o1) (sd o1) (sn o2) (sd o2) h1.sizes.1 h1.sizes.2 h2.sizes.1 h2.sizes.2 W
 rw [addB h1 h2] at this
 exact this
theorem subO {o1 o2:Option Rat} (h1:FitO o1) (h2:FitO o2):Two 29 #[vO o1,vO o2] (resO (lift2 subQ o1 o2)):=fun W=>by
 have:=Sub_all (sn o1) (sd o1) (sn o2) (sd o2) h1.sizes.1 h1.sizes.2 h2.sizes.1 h2.sizes.2 W
 rw [subB h1 h2] at this
 exact this
theorem mulO {o1 o2:Option Rat} (h1:FitO o1) (h2:FitO o2):Two 30 #[vO o1,vO o2] (resO (lift2 mulQ o1 o2)):=fun W=>by
 have:=Mul_all (sn o1) (sd o1) (sn o2) (sd o2) h1.sizes.1 h1.sizes.2 h2.sizes.1 h2.sizes.2 W
 rw [mulB h1 h2] at this
 exact this
theorem divO {o1 o2:Option Rat} (h1:FitO o1) (h2:FitO o2):Two 31 #[vO o1,vO o2] (resO (lift2 divQ o1 o2)):=fun W=>by
 have:=Div_all (sn o1) (sd o1) (sn o2) (sd o2) h1.sizes.1 h1.sizes.2 h2.sizes.1 h2.sizes.2 W
 rw [divB h1 h2] at this
 exact this
theorem mulQ_eq {p q r:Rat} (h:mulQ p q=some r):r=p*q:=by
 rw [mulQ] at h;split at h
 ·injection h with h;exact h.symm
 ·cases h
theorem divQ_eq {p q r:Rat} (h:divQ p q=some r):r=p / q∧q≠0:=by
 rw [divQ] at h;split at h
 ·rename_i hc;injection h with h;exact ⟨h.symm,hc.2.2⟩
 ·cases h
structure SmallQ (q:Rat):Prop where
 num:q.num.natAbs≤999
 den:q.den≤60
theorem SmallQ.fit {q:Rat} (h:SmallQ q):FitQ q:=⟨fits_small (Nat.lt_of_le_of_lt h.num (by decide)),fits_small (by rw [Int.natAbs_natCast];exact Nat.lt_of_le_of_lt h.den (by decide))⟩
theorem fits_60 {z:Int} (h:z.natAbs≤1000000):Fits z:=fits_small (Nat.lt_of_le_of_lt h (by decide))
end Rt
end
section
namespace Rt
open Go.RowKit Go.Proofs.YtbfonkabmehlmaaGreatDoor.Nm
open N10 (Two)

theorem OfR_all (n d:Int) (n1 : -9223372036854775808≤n) (n2:n≤9223372036854775807) (d1 : -9223372036854775808≤d) (d2:d≤9223372036854775807) (w:World) :
  Calls Tryz.prog 47 #[.int .i64 n,.int .i64 d] w fun e w'=>e = .returned (bR (redR (txt n) (txt d)))∧Below w.heap.size w w':=by
 have f1:Fits n:=fits_small (Nat.lt_trans (show n.natAbs<10^20 by omega) (by decide))
 have f2:Fits d:=fits_small (Nat.lt_trans (show d.natAbs<10^20 by omega) (by decide))
 have cn:=fun W=>N10.FromInt_ref n n1 n2 W
 have cd:=fun W=>N10.FromInt_ref d d1 d2 W
 have hC:=fun W=>MakeR_all (txt n) (txt d) (txt_size6 f1) (txt_size6 f2) W
 obtain ⟨n',d',e0,ho⟩:=bR_form (redR (txt n) (txt d))
 rw [ho] at hC ⊢
 clear ho
 generalize txt n=a at *
 generalize txt d=b at *
 go_enter Tryz.func47, Tryz.ntmps47
 go_wp2_with (first | (go_at_call 102; with_reducible refine (cn _).mono ?_;rintro e w1 ⟨rfl,hB1⟩) | (go_at_call 102; with_reducible refine (cd _).mono ?_;rintro e w2 ⟨rfl,hB2⟩) | (go_at_call 44; refine (hC _).mono ?_;rintro e w3 ⟨rfl,hB3⟩;obtain ⟨c0,c1,z0,z1⟩:=cell_box ((hB3.block w.heap.size (by have h1:=hB1.size;rw [World.size_alloc] at h1;have h2:=hB2.size;omega)).trans ((hB2.block w.heap.size (by have h1:=hB1.size;rw [World.size_alloc] at h1;omega)).trans ((hB1.block w.heap.size (by simp)).trans (World.alloc_heap_new w _))))))
 have k0:=cell_two w3 w.heap.size (Z n') (Z d') _ _ c0 c1
 have h1:=hB1.size
 rw [World.size_alloc] at h1
 have h2:=hB2.size
 have hB5:Below w.heap.size w w3:=((((Below.refl w.heap.size w).alloc (Nat.le_refl _) _).trans (hB1.mono (by simp))).trans (hB2.mono (by omega))).trans (hB3.mono (by omega))
 refine bodyPost_ret (v:=.tuple #[.agg #[Z n',Z d'],.int .i64 e0]) (by simp [results,Tryz.results47, go_sem,k0.1,k0.2]) rfl ⟨rfl,(hB5.setCell (by simp) _).setCell (by simp) _⟩
theorem ofR_small {n d:Int} (hn:n.natAbs≤999) (hd:1≤d∧d≤60):∃ q:Rat,SmallQ q∧∀ W:World,Calls Tryz.prog 47 #[.int .i64 n,.int .i64 d] W fun e w'=>e = .returned (.tuple #[.agg #[Z (txt q.num),Z (txt (q.den:Int))],.int .i64 0])∧Below W.heap.size W w':=by
 have fn:Fits n:=fits_60 (by omega)
 have fd:Fits d:=fits_60 (by omega)
 have d0:d≠0:=by omega
 refine ⟨Rat.divInt n d, ?_,fun W => ?_⟩
 ·refine ⟨?_, ?_⟩
  ·rw [Rat.num_divInt]
   refine Nat.le_trans (Nat.le_trans (Int.natAbs_ediv_le_natAbs _ _) ?_) hn
   rw [Int.natAbs_mul,Int.sign_eq_one_of_pos (by omega)];simp
  ·rw [Rat.den_divInt,if_neg d0]
   exact Nat.le_trans (Nat.div_le_self _ _) (by omega)
 ·have:=OfR_all n d (by omega) (by omega) (by omega) (by omega) W
  rw [red_q fn fd d0] at this
  exact this
theorem Small_any (x0 x1:Int) (h0 : -9223372036854775808≤x0∧x0≤9223372036854775807) (h1 : -9223372036854775808≤x1∧x1≤9223372036854775807) (w:World) :
  Calls Tryz.prog 35 #[.agg #[.int .i64 x0,.int .i64 x1]] w fun e w'=>∃ q:Rat,SmallQ q∧e = .returned (rq q)∧Below w.heap.size w w':=by
 have p0:=fun W=>pickR_any x0 1999 h0.1 h0.2 (by decide) (by decide) W
 have p1:=fun W=>pickR_any x1 60 h1.1 h1.2 (by decide) (by decide) W
 clear h0 h1
 go_enter Tryz.func35, Tryz.ntmps35
 have hx0:=res_old w (O #[.int .i64 x0,.int .i64 x1] 58) (O #[Z ⟨#[]⟩,Z ⟨#[]⟩] 23)
 have hr0:=res_two w (O #[.int .i64 x0,.int .i64 x1] 58) (O #[Z ⟨#[]⟩,Z ⟨#[]⟩] 23)
 have hu0:=((Below.refl w.heap.size w).alloc (Nat.le_refl _) (O #[.int .i64 x0,.int .i64 x1] 58)).alloc (by simp) (O #[Z ⟨#[]⟩,Z ⟨#[]⟩] 23)
 go_wp2_with fail
 have hbw:w.heap.size≤w.heap.size+1:=by omega
 generalize ((w.alloc (O #[.int .i64 x0,.int .i64 x1] 58)).alloc (O #[Z ⟨#[]⟩,Z ⟨#[]⟩] 23))=W0 at *
 have HU:Shut _:=⟨hu0⟩
 have hbl:=lt_of_block hr0
 obtain ⟨b,hb⟩:∃ b,b=w.heap.size:=⟨_,rfl⟩
 have HBW:Shut (w.heap.size≤b+1):=⟨by omega⟩
 rw [←hb] at hx0 hr0 hbl
 rw [←hb]
 clear hb hbw hu0
 have f1:b≠W0.heap.size:=by omega
 have f2:W0.heap.size≠b:=by omega
 have f3:b+1≠W0.heap.size:=by omega
 have f4:W0.heap.size≠b+1:=by omega
 have x0':=lcell hx0 0 (v:=.int .i64 x0) rfl
 have x1':=lcell hx0 1 (v:=.int .i64 x1) rfl
 go_region_held3 (fun X=>X.cell? ⟨b,0,none⟩=some (.int .i64 x0)∧X.cell? ⟨b,1,none⟩=some (.int .i64 x1)) (go_keep) (first | (go_at_call 43; with_reducible refine (p0 _).mono ?_;rintro e w1 ⟨i,hi,rfl,rfl⟩;have e1:=i64_ok (z:=(i:Int)-999) (by omega) (by omega)) | (go_at_call 43; with_reducible refine (p1 _).mono ?_;rintro e w2 ⟨j,hj,rfl,rfl⟩;have e2:=i64_ok (z:=1+(j:Int)) (by omega) (by omega)) | (go_at_call 47; obtain ⟨q,hq,hC⟩:=ofR_small (n:=(i:Int)-999) (d:=1+(j:Int)) (by omega) (by omega);go_loud (refine (hC _).mono ?_);rintro e w3 ⟨rfl,hB3⟩;first | (have t3:Below W0.heap.size W0 w3:=lundrew hB3;have y0:=lcell (lkeep hx0 t3) 0 (v:=.int .i64 x0) rfl;have y1:=lcell (lkeep hx0 t3) 1 (v:=.int .i64 x1) rfl) | (have t3:Below W0.heap.size W0 w3:=(lstep (lundrew hB3)).1;have ns:=(lstep (lundrew hB3)).2;obtain ⟨s0,s1,s2,s3⟩:=cell_box ns;have y0:=lcell (lkeep hx0 t3) 0 (v:=.int .i64 x0) rfl;have y1:=lcell (lkeep hx0 t3) 1 (v:=.int .i64 x1) rfl)) | fail)
 ·have nr3:=lkeep hr0 t3
  have HU3:Shut (Below w.heap.size w w3):=⟨HU.o.trans (t3.mono HU.o.size)⟩
  have HQ:Shut (SmallQ q):=⟨hq⟩
  have hY:=t3.size
  generalize hnn:txt q.num=nn at *
  generalize hdd:txt (q.den:Int)=dd at *
  have HN:Shut _:=⟨hnn⟩
  have HD:Shut _:=⟨hdd⟩
  clear hnn hdd hq hC p0 p1 e1 e2 hi hj hB3 x0' x1' hx0 hr0 t3 HU
  have hlt:=lt_of_block nr3
  have r0:=lcell nr3 0 (v:=Z ⟨#[]⟩) rfl
  have r1:=lcell nr3 1 (v:=Z ⟨#[]⟩) rfl
  have g0:=lfree nr3 0
  have g1:=lfree nr3 1
  have k0:=cell_past w3 (b+1) (Z nn) (Z dd) _ _ r0 r1 (O #[Z nn,Z dd] 23)
  have HU4:Shut _:=⟨((HU3.o.setCell (p:=⟨b+1,0,none⟩) HBW.o (Z nn)).setCell (p:=⟨b+1,1,none⟩) HBW.o (Z dd)).alloc (Nat.le_trans HU3.o.size (by simp)) (O #[Z nn,Z dd] 23)⟩
  go_wp2_with fail
  refine bodyPost_ret (v:=.agg #[Z nn,Z dd]) (by simp [results,Tryz.results35, go_sem,k0.1,k0.2]) rfl ⟨q,HQ.o,by rw [rq,rv,HN.o,HD.o],HU4.o⟩
 all_goals
  have hk:=cell_two w3 W0.heap.size (Z (txt q.num)) (Z (txt (q.den:Int))) _ _ s0 s1
  have nr3:=lkeep hr0 t3
  have HU3:Shut (Below w.heap.size w w3):=⟨HU.o.trans (t3.mono HU.o.size)⟩
  have HQ:Shut (SmallQ q):=⟨hq⟩
  have hY:=t3.size
  generalize hnn:txt q.num=nn at *
  generalize hdd:txt (q.den:Int)=dd at *
  have HN:Shut _:=⟨hnn⟩
  have HD:Shut _:=⟨hdd⟩
  clear hnn hdd hq hC p0 p1 e1 e2 hi hj hB3 x0' x1' hx0 hr0 t3 HU
  have nr4:((w3.setCell ⟨W0.heap.size,0,none⟩ (Z nn)).setCell ⟨W0.heap.size,1,none⟩ (Z dd)).heap[b+1]? = _:=(Below.heap_setCell _ _ _ _ (by exact f3)).trans ((Below.heap_setCell _ _ _ _ (by exact f3)).trans nr3)
  have HU4:Shut (Below w.heap.size w ((w3.setCell ⟨W0.heap.size,0,none⟩ (Z nn)).setCell ⟨W0.heap.size,1,none⟩ (Z dd))):=⟨(HU3.o.setCell (p:=⟨W0.heap.size,0,none⟩) (by show _≤W0.heap.size;have:=HBW.o;omega) (Z nn)).setCell (p:=⟨W0.heap.size,1,none⟩) (by show _≤W0.heap.size;have:=HBW.o;omega) (Z dd)⟩
  obtain ⟨hk0,hk1⟩:=hk
  clear s0 s1 s2 s3 ns nr3 y0 y1 HU3 hY
  generalize ((w3.setCell ⟨W0.heap.size,0,none⟩ (Z nn)).setCell ⟨W0.heap.size,1,none⟩ (Z dd))=V at *
  have hlt:=lt_of_block nr4
  have r0:=lcell nr4 0 (v:=Z ⟨#[]⟩) rfl
  have r1:=lcell nr4 1 (v:=Z ⟨#[]⟩) rfl
  have g0:=lfree nr4 0
  have g1:=lfree nr4 1
  have k0:=cell_two V (b+1) (Z nn) (Z dd) _ _ r0 r1
  go_wp2_with fail
  refine bodyPost_ret (v:=.agg #[Z nn,Z dd]) (by simp [results,Tryz.results35, go_sem,k0.1,k0.2]) rfl ⟨q,HQ.o,by rw [rq,rv,HN.o,HD.o],(HU4.o.setCell (by exact HBW.o) _).setCell (by exact HBW.o) _⟩
end Rt
end
section
namespace Rt
open Go.RowKit Go.Proofs.YtbfonkabmehlmaaGreatDoor.Nm
open N10 (Two)

structure SmallO (o:Option Rat):Prop where
 ex:∃ q,o=some q∧SmallQ q
structure LongO (o:Option Rat):Prop where
 ex:∃ q,o=some q∧LongQ q
structure InO (o:Option Rat):Prop where
 ex:∃ q,o=some q∧FitQ q
theorem InO.fit {o:Option Rat} (h:InO o):FitO o:=by obtain ⟨q,rfl,hf⟩:=h.ex;exact .some hf
def OpCl (f:Nat) (o1 o2 r:Option Rat):Prop:=∀ W:World,Calls Tryz.prog f #[.agg #[Z (sn o1),Z (sd o1)],.agg #[Z (sn o2),Z (sd o2)]] W fun e W'=>e = .returned (.tuple #[.agg #[Z (sn r),Z (sd r)],.int .i64 (cd r)])∧Below W.heap.size W W'
theorem OpCl.run {f:Nat} {o1 o2 r:Option Rat} (h:OpCl f o1 o2 r) (W:World):Calls Tryz.prog f #[.agg #[Z (sn o1),Z (sd o1)],.agg #[Z (sn o2),Z (sd o2)]] W fun e W'=>e = .returned (.tuple #[.agg #[Z (sn r),Z (sd r)],.int .i64 (cd r)])∧Below W.heap.size W W':=h W
end Rt
end
section
namespace Rt
open Go.RowKit Go.Proofs.YtbfonkabmehlmaaGreatDoor.Nm
open N10 (Two)

theorem lstep2 {w w':World} {o p:Obj} (h:Below ((w.alloc o).alloc p).heap.size ((w.alloc o).alloc p) w'):Below w.heap.size w w'∧w'.heap[w.heap.size]? = some o∧w'.heap[w.heap.size+1]? = some p :=
 ⟨(((Below.refl w.heap.size w).alloc (Nat.le_refl _) o).alloc (by simp) p).trans (h.mono (by simp;omega)),(h.block w.heap.size (by simp;omega)).trans (res_old w o p),(h.block (w.heap.size+1) (by simp)).trans (res_two w o p)⟩
theorem lstep3 {w w':World} {o p q:Obj} (h:Below (((w.alloc o).alloc p).alloc q).heap.size (((w.alloc o).alloc p).alloc q) w'):Below w.heap.size w w'∧w'.heap[w.heap.size]? = some o∧w'.heap[w.heap.size+1]? = some p∧w'.heap[w.heap.size+1+1]? = some q:=by
 have h2:=lstep h
 have h1:=lstep2 h2.1
 rw [World.size_alloc,World.size_alloc] at h2
 exact ⟨h1.1,h1.2.1,h1.2.2,h2.2⟩
theorem box_set {W:World} {b:Nat} {x y u v:Value} {T:TypeId} (h:W.heap[b]? = some (O #[x,y] T (0,0))):((W.setCell ⟨b,0,none⟩ u).setCell ⟨b,1,none⟩ v).heap[b]? = some (O #[u,v] T (0,0)):=by
 obtain ⟨hl,hg⟩:=Array.getElem?_eq_some_iff.1 h
 simp [World.setCell,hl,Array.getElem_modify,hg]
theorem box_other {W:World} {b k:Nat} {u v:Value} {o:Obj} (h:W.heap[k]? = some o) (hne:k≠b):((W.setCell ⟨b,0,none⟩ u).setCell ⟨b,1,none⟩ v).heap[k]? = some o :=
 (Below.heap_setCell _ _ _ _ (by exact hne)).trans ((Below.heap_setCell _ _ _ _ (by exact hne)).trans h)
end Rt
end
section
namespace Rt
open Go.RowKit Go.ChangeShapes Go.WideShapes
section
variable {H:Type} {enc:TypeId×Value→H} {P:Program} {w:World} {base:Nat} {spare:Nat→Bool} {held:Bool}
theorem okWide_arr {r:Reach} {b0 n:Nat} {t e:TypeId} {v:Value} (ht:P.underlying t=some (.array n e)) (h:Value.okWide P w r b0 t v):∃ cs:Array Value,v = .agg cs∧cs.size=P.cellsOf t:=by
 simp only [Value.okWide,ht] at h
 obtain ⟨cs,h1,h2,_⟩:=h
 exact ⟨cs,h1,h2⟩
theorem open_arr4 {r:Reach} {b0:Nat} {t e:TypeId} {k:IntKind} {v:Value} {d:DataW H} {p:List MemPlace} (ht:P.underlying t=some (.array 4 e)) (he:P.underlying e=some (.int k)) (hc:P.cellsOf e=1) (hn:P.cellsOf t=4)
  (hv:Value.okWide P w r b0 t v) (h:DataW.Trod enc P w base spare held t v d p) :
  ∃ a0 a1 a2 a3:Int,v = .agg #[.int k a0,.int k a1,.int k a2,.int k a3]∧d = .agg [.lit (.int k a0),.lit (.int k a1),.lit (.int k a2),.lit (.int k a3)]∧p = []∧((Lit.int k a0).wf=true∧(Lit.int k a1).wf=true∧(Lit.int k a2).wf=true∧(Lit.int k a3).wf=true):=by
 obtain ⟨cs,rfl,hsz⟩:=okWide_arr ht hv
 obtain ⟨l⟩:=cs
 match l,hsz.trans hn with
 | [c0,c1,c2,c3],_ =>
  obtain ⟨fuel,hf⟩:=h
  obtain ⟨xs,m,_,hx,_,hlen,hg⟩:=DataW.trod_array ht hf
  rw [hc] at hg
  match xs,hlen with
  | [y0,y1,y2,y3],_ =>
   obtain ⟨a0,e0,rfl,w0⟩:=DataW.trod_int he (by simpa [Value.cells] using hg 0 (by decide))
   obtain ⟨a1,e1,rfl,w1⟩:=DataW.trod_int he (by simpa [Value.cells] using hg 1 (by decide))
   obtain ⟨a2,e2,rfl,w2⟩:=DataW.trod_int he (by simpa [Value.cells] using hg 2 (by decide))
   obtain ⟨a3,e3,rfl,w3⟩:=DataW.trod_int he (by simpa [Value.cells] using hg 3 (by decide))
   simp only [Prod.mk.injEq] at hx
   simp at e0 e1 e2 e3
   subst e0 e1 e2 e3
   exact ⟨a0,a1,a2,a3,rfl,by simpa using hx.1,by simpa using hx.2,w0,w1,w2,w3⟩
theorem shut_arr4 {t e:TypeId} {k:IntKind} (ht:P.underlying t=some (.array 4 e)) (he:P.underlying e=some (.int k)) (hc:P.cellsOf e=1) (hn:P.cellsOf t=4) {a0 a1 a2 a3:Int}
  (hw:(Lit.int k a0).wf=true∧(Lit.int k a1).wf=true∧(Lit.int k a2).wf=true∧(Lit.int k a3).wf=true) :
  DataW.Trod enc P w base spare held t (.agg #[.int k a0,.int k a1,.int k a2,.int k a3]) (.agg [.lit (.int k a0),.lit (.int k a1),.lit (.int k a2),.lit (.int k a3)]) [] :=
 ⟨2,by simp [DataW.trod,Value.cells,ht,he,hc,hn,hw.1,hw.2.1,hw.2.2.1,hw.2.2.2,show List.range 4 = [0,1,2,3] from rfl]⟩
end
end Rt
end
end Go.Proofs.YtbfonkabmehlmaaGreatDoor
