import Derived.Test.YtihlgifojjeoaaaGreatDoorZ6C4
import Derived.ScopeJumps
import Derived.WalkMore
import Derived.Test.YtihlgifojjeoaaaGreatDoorZ6C5
import Derived.Deep.RegionHeld3
set_option maxRecDepth 1000000
set_option maxHeartbeats 40000000
open Go.Value renaming string→Z
open Go.Obj renaming cells→O
namespace Go.Proofs.YtihlgifojjeoaaaGreatDoor
section
namespace Rt
open Go.RowKit Go.Proofs.YtihlgifojjeoaaaGreatDoor.Nm
open N10 (Two)

theorem Qoq (s t:ByteArray) (x y:Bool) (w:World) (h:(x && y)=false) (cV1:Two 169 #[Z s] (.bool x)) (cV2:Two 169 #[Z t] (.bool y)) :
  Calls Tryz.prog 214 #[.agg #[Z s,Z t]] w fun e w'=>e = .returned (.bool false)∧Below w.heap.size w w':=by
 rcases (show x=false∨(x=true∧y=false) by revert h;cases x <;> cases y <;> simp) with rfl | ⟨rfl,rfl⟩
 all_goals
  clear h;go_enter Tryz.func214, Tryz.ntmps214;go_wp2_with (first | (go_at_call 169; with_reducible refine (cV1.run _).mono ?_;rintro e w1 ⟨rfl,hB1⟩;obtain ⟨u1,a1⟩:=QgZ hB1;obtain ⟨x10,x11,x12,x13⟩:=Qab a1) | (go_at_call 169; with_reducible refine (cV2.run _).mono ?_;rintro e w2 ⟨rfl,hB2⟩;have u2:=u1.trans (hB2.mono u1.size);have a2:=Qac a1 hB2;obtain ⟨x20,x21,x22,x23⟩:=Qab a2) | fail);go_ret;exact ⟨rfl,u2⟩
theorem Qmv (s t:ByteArray) (c:Int) (w:World) (hc:c≤0) (cV1:Two 169 #[Z s] (.bool true)) (cV2:Two 169 #[Z t] (.bool true)) (cC:Two 170 #[Z t,Z ⟨#[48]⟩] (.int .i64 c)) :
  Calls Tryz.prog 214 #[.agg #[Z s,Z t]] w fun e w'=>e = .returned (.bool false)∧Below w.heap.size w w':=by
 go_enter Tryz.func214, Tryz.ntmps214;go_wp2_with (first | (go_at_call 169; with_reducible refine (cV1.run _).mono ?_;rintro e w1 ⟨rfl,hB1⟩;obtain ⟨u1,a1⟩:=QgZ hB1;obtain ⟨x10,x11,x12,x13⟩:=Qab a1) | (go_at_call 169; with_reducible refine (cV2.run _).mono ?_;rintro e w2 ⟨rfl,hB2⟩;have u2:=u1.trans (hB2.mono u1.size);have a2:=Qac a1 hB2;obtain ⟨x20,x21,x22,x23⟩:=Qab a2) | (go_at_call 170; with_reducible refine (cC.run _).mono ?_;rintro e w3 ⟨rfl,hB3⟩;have u3:=u2.trans (hB3.mono u2.size);have a3:=Qac a2 hB3;obtain ⟨x30,x31,x32,x33⟩:=Qab a3) | fail);go_ret;exact ⟨rfl,u3⟩
theorem Qmw (s t g:ByteArray) (b:Bool) (w:World) (hg:(g.toList == [49])=b) (cV1:Two 169 #[Z s] (.bool true)) (cV2:Two 169 #[Z t] (.bool true)) (cC:Two 170 #[Z t,Z ⟨#[48]⟩] (.int .i64 1)) (cG:Two 172 #[Z s,Z t] (.tuple #[Z g,.int .i64 0])) :
  Calls Tryz.prog 214 #[.agg #[Z s,Z t]] w fun e w'=>e = .returned (.bool b)∧Below w.heap.size w w':=by
 go_enter Tryz.func214, Tryz.ntmps214;go_wp2_with (first | (go_at_call 169; with_reducible refine (cV1.run _).mono ?_;rintro e w1 ⟨rfl,hB1⟩;obtain ⟨u1,a1⟩:=QgZ hB1;obtain ⟨x10,x11,x12,x13⟩:=Qab a1) | (go_at_call 169; with_reducible refine (cV2.run _).mono ?_;rintro e w2 ⟨rfl,hB2⟩;have u2:=u1.trans (hB2.mono u1.size);have a2:=Qac a1 hB2;obtain ⟨x20,x21,x22,x23⟩:=Qab a2) | (go_at_call 170; with_reducible refine (cC.run _).mono ?_;rintro e w3 ⟨rfl,hB3⟩;have u3:=u2.trans (hB3.mono u2.size);have a3:=Qac a2 hB3;obtain ⟨x30,x31,x32,x33⟩:=Qab a3) | (go_at_call 172; with_reducible refine (cG.run _).mono ?_;rintro e w4 ⟨rfl,hB4⟩;have u4:=u3.trans (hB4.mono u3.size);have a4:=Qac a3 hB4;obtain ⟨x40,x41,x42,x43⟩:=Qab a4) | fail);go_ret;exact ⟨rfl,u4⟩
theorem QsQ (z:Int):((txt z).toList == [49])=decide (z=1):=by
 have:=QcU (txt z) (txt 1);rw [txt_1] at this;rw [show ([49]:List UInt8)=(⟨#[49]⟩:ByteArray).toList from by decide +kernel,this,←txt_1];by_cases h:z=1
 ·subst h;simp
 ·rw [decide_eq_false h,decide_eq_false fun e=>h (Qcv e)]
theorem Qmx (s t:ByteArray) (hs:s.size≤1000000) (ht:t.size≤1000000) (w:World):Calls Tryz.prog 214 #[.agg #[Z s,Z t]] w fun e w'=>e = .returned (.bool (qOf s t).isSome)∧Below w.heap.size w w':=by
 rcases N10.both s t with ⟨x,y,rfl,rfl,hx,hy⟩ | h
 ·have cC:=Qqf hy Qfy;rw [txt_0] at cC;rw [qOf,QbC hx,QbC hy,Option.bind_some,Option.bind_some];by_cases h0:0<y
  ·have cC':Two 170 #[Z (txt y),Z ⟨#[48]⟩] (.int .i64 1):=by rwa [cmpZ,if_neg (by omega),if_neg (by omega)] at cC
   refine Qmw _ _ _ _ w ?_ (Qek hx) (Qek hy) cC' (QsE hx hy);rw [QsQ];by_cases hg:Nat.gcd x.natAbs y.natAbs=1
   ·rw [if_pos ⟨h0,hg⟩,hg];rfl
   ·rw [if_neg (fun h=>hg h.2),decide_eq_false (by omega)];rfl
  ·rw [if_neg (fun h=>h0 h.1)];refine Qmv _ _ _ w ?_ (Qek hx) (Qek hy) cC;unfold cmpZ;split
   ·omega
   ·rw [if_pos (by omega)];omega
 ·have hn:qOf s t=none:=by
   rcases h with h | h
   ·rw [qOf,QjI h];rfl
   ·rw [qOf,QjI h];cases zOf s <;> rfl
  rw [hn];exact Qoq _ _ _ _ w (N10.nb h) (Qoh s hs) (Qoh t ht)
theorem QsR (s t u v:ByteArray) (x y:Bool) (w:World) (h:(x && y)=false) (cV1:Two 214 #[.agg #[Z s,Z t]] (.bool x)) (cV2:Two 214 #[.agg #[Z u,Z v]] (.bool y)) :
  Calls Tryz.prog 233 #[.agg #[Z s,Z t],.agg #[Z u,Z v]] w fun e w'=>e = .returned (.tuple #[.agg #[Z ⟨#[]⟩,Z ⟨#[]⟩],.int .i64 40])∧Below w.heap.size w w':=by
 rcases (show x=false∨(x=true∧y=false) by revert h;cases x <;> cases y <;> simp) with rfl | ⟨rfl,rfl⟩
 all_goals
  clear h;go_enter Tryz.func233, Tryz.ntmps233;go_wp2_with (first | (go_at_call 214; with_reducible refine (cV1.run _).mono ?_;rintro e w1 ⟨rfl,hB1⟩;obtain ⟨u1,a1,b1,r1⟩:=QeQ hB1;obtain ⟨x10,x11,x12,x13⟩:=Qab a1;obtain ⟨y10,y11,y12,y13⟩:=Qab b1;obtain ⟨z10,z11,z12,z13⟩:=Qab r1) | (go_at_call 214; with_reducible refine (cV2.run _).mono ?_;rintro e w2 ⟨rfl,hB2⟩;have u2:=u1.trans (hB2.mono u1.size);have a2:=Qac a1 hB2;have b2:=Qac b1 hB2;have r2:=Qac r1 hB2;obtain ⟨x20,x21,x22,x23⟩:=Qab a2;obtain ⟨y20,y21,y22,y23⟩:=Qab b2;obtain ⟨z20,z21,z22,z23⟩:=Qab r2) | fail);have k0:=QaM w2 (w.heap.size+1+1) (Z ⟨#[]⟩) (Z ⟨#[]⟩) _ _ z20 z21;refine bodyPost_ret (v:=.tuple #[.agg #[(Z ⟨#[]⟩),(Z ⟨#[]⟩)],.int .i64 40]) (by simp [results,Tryz.results233, go_sem,k0.1,k0.2]) rfl ⟨rfl,(u2.setCell (by simp;omega) _).setCell (by simp;omega) _⟩
theorem QkW (s t u v l r:ByteArray) (e1 e2:Int) (w:World) (he:e1=30∨(e1=0∧e2=30)) (cV1:Two 214 #[.agg #[Z s,Z t]] (.bool true)) (cV2:Two 214 #[.agg #[Z u,Z v]] (.bool true)) (cM1:Two 243 #[Z s,Z u] (.tuple #[Z l,.int .i64 e1])) (cM2:Two 243 #[Z t,Z v] (.tuple #[Z r,.int .i64 e2])) :
  Calls Tryz.prog 233 #[.agg #[Z s,Z t],.agg #[Z u,Z v]] w fun e w'=>e = .returned (.tuple #[.agg #[Z ⟨#[]⟩,Z ⟨#[]⟩],.int .i64 40])∧Below w.heap.size w w':=by
 rcases he with rfl | ⟨rfl,rfl⟩
 all_goals
  go_enter Tryz.func233, Tryz.ntmps233;go_wp2_with (first | (go_at_call 214; with_reducible refine (cV1.run _).mono ?_;rintro e w1 ⟨rfl,hB1⟩;obtain ⟨u1,a1,b1,r1⟩:=QeQ hB1;obtain ⟨x10,x11,x12,x13⟩:=Qab a1;obtain ⟨y10,y11,y12,y13⟩:=Qab b1;obtain ⟨z10,z11,z12,z13⟩:=Qab r1) | (go_at_call 214; with_reducible refine (cV2.run _).mono ?_;rintro e w2 ⟨rfl,hB2⟩;have u2:=u1.trans (hB2.mono u1.size);have a2:=Qac a1 hB2;have b2:=Qac b1 hB2;have r2:=Qac r1 hB2;obtain ⟨x20,x21,x22,x23⟩:=Qab a2;obtain ⟨y20,y21,y22,y23⟩:=Qab b2;obtain ⟨z20,z21,z22,z23⟩:=Qab r2) | (go_at_call 243; with_reducible refine (cM1.run _).mono ?_;rintro e w3 ⟨rfl,hB3⟩;have u3:=u2.trans (hB3.mono u2.size);have a3:=Qac a2 hB3;have b3:=Qac b2 hB3;have r3:=Qac r2 hB3;obtain ⟨x30,x31,x32,x33⟩:=Qab a3;obtain ⟨y30,y31,y32,y33⟩:=Qab b3;obtain ⟨z30,z31,z32,z33⟩:=Qab r3) | (go_at_call 243; with_reducible refine (cM2.run _).mono ?_;rintro e w4 ⟨rfl,hB4⟩;have u4:=u3.trans (hB4.mono u3.size);have a4:=Qac a3 hB4;have b4:=Qac b3 hB4;have r4:=Qac r3 hB4;obtain ⟨x40,x41,x42,x43⟩:=Qab a4;obtain ⟨y40,y41,y42,y43⟩:=Qab b4;obtain ⟨z40,z41,z42,z43⟩:=Qab r4) | fail);have k0:=QaM w4 (w.heap.size+1+1) (Z ⟨#[]⟩) (Z ⟨#[]⟩) _ _ z40 z41;refine bodyPost_ret (v:=.tuple #[.agg #[(Z ⟨#[]⟩),(Z ⟨#[]⟩)],.int .i64 40]) (by simp [results,Tryz.results233, go_sem,k0.1,k0.2]) rfl ⟨rfl,(u4.setCell (by simp;omega) _).setCell (by simp;omega) _⟩
theorem QsS (s t u v l r n d:ByteArray) (c:Int) (w:World) (cV1:Two 214 #[.agg #[Z s,Z t]] (.bool true)) (cV2:Two 214 #[.agg #[Z u,Z v]] (.bool true)) (cM1:Two 243 #[Z s,Z u] (.tuple #[Z l,.int .i64 0])) (cM2:Two 243 #[Z t,Z v] (.tuple #[Z r,.int .i64 0])) (cK:Two 135 #[Z l,Z r] (.tuple #[.agg #[Z n,Z d],.int .i64 c])) :
  Calls Tryz.prog 233 #[.agg #[Z s,Z t],.agg #[Z u,Z v]] w fun e w'=>e = .returned (.tuple #[.agg #[Z n,Z d],.int .i64 c])∧Below w.heap.size w w':=by
 go_enter Tryz.func233, Tryz.ntmps233;go_wp2_with (first | (go_at_call 214; with_reducible refine (cV1.run _).mono ?_;rintro e w1 ⟨rfl,hB1⟩;obtain ⟨u1,a1,b1,r1⟩:=QeQ hB1;obtain ⟨x10,x11,x12,x13⟩:=Qab a1;obtain ⟨y10,y11,y12,y13⟩:=Qab b1;obtain ⟨z10,z11,z12,z13⟩:=Qab r1) | (go_at_call 214; with_reducible refine (cV2.run _).mono ?_;rintro e w2 ⟨rfl,hB2⟩;have u2:=u1.trans (hB2.mono u1.size);have a2:=Qac a1 hB2;have b2:=Qac b1 hB2;have r2:=Qac r1 hB2;obtain ⟨x20,x21,x22,x23⟩:=Qab a2;obtain ⟨y20,y21,y22,y23⟩:=Qab b2;obtain ⟨z20,z21,z22,z23⟩:=Qab r2) | (go_at_call 243; with_reducible refine (cM1.run _).mono ?_;rintro e w3 ⟨rfl,hB3⟩;have u3:=u2.trans (hB3.mono u2.size);have a3:=Qac a2 hB3;have b3:=Qac b2 hB3;have r3:=Qac r2 hB3;obtain ⟨x30,x31,x32,x33⟩:=Qab a3;obtain ⟨y30,y31,y32,y33⟩:=Qab b3;obtain ⟨z30,z31,z32,z33⟩:=Qab r3) | (go_at_call 243; with_reducible refine (cM2.run _).mono ?_;rintro e w4 ⟨rfl,hB4⟩;have u4:=u3.trans (hB4.mono u3.size);have a4:=Qac a3 hB4;have b4:=Qac b3 hB4;have r4:=Qac r3 hB4;obtain ⟨x40,x41,x42,x43⟩:=Qab a4;obtain ⟨y40,y41,y42,y43⟩:=Qab b4;obtain ⟨z40,z41,z42,z43⟩:=Qab r4) | (go_at_call 135; with_reducible refine (cK.run _).mono ?_;rintro e w5 ⟨rfl,hB5⟩;have u5:=u4.trans (hB5.mono u4.size);have a5:=Qac a4 hB5;have b5:=Qac b4 hB5;have r5:=Qac r4 hB5;obtain ⟨x50,x51,x52,x53⟩:=Qab a5;obtain ⟨y50,y51,y52,y53⟩:=Qab b5;obtain ⟨z50,z51,z52,z53⟩:=Qab r5) | fail);have k0:=QaM w5 (w.heap.size+1+1) (Z n) (Z d) _ _ z50 z51;refine bodyPost_ret (v:=.tuple #[.agg #[(Z n),(Z d)],.int .i64 c]) (by simp [results,Tryz.results233, go_sem,k0.1,k0.2]) rfl ⟨rfl,(u5.setCell (by simp;omega) _).setCell (by simp;omega) _⟩
theorem Qjd (s t u v:ByteArray) (x y:Bool) (w:World) (h:(x && y)=false) (cV1:Two 214 #[.agg #[Z s,Z t]] (.bool x)) (cV2:Two 214 #[.agg #[Z u,Z v]] (.bool y)) :
  Calls Tryz.prog 244 #[.agg #[Z s,Z t],.agg #[Z u,Z v]] w fun e w'=>e = .returned (.tuple #[Z ⟨#[]⟩,Z ⟨#[]⟩,Z ⟨#[]⟩,.bool false])∧Below w.heap.size w w':=by
 rcases (show x=false∨(x=true∧y=false) by revert h;cases x <;> cases y <;> simp) with rfl | ⟨rfl,rfl⟩
 all_goals
  clear h;go_enter Tryz.func244, Tryz.ntmps244;go_wp2_with (first | (go_at_call 214; with_reducible refine (cV1.run _).mono ?_;rintro e w1 ⟨rfl,hB1⟩;obtain ⟨u1,a1,b1⟩:=QgA hB1;obtain ⟨x10,x11,x12,x13⟩:=Qab a1;obtain ⟨y10,y11,y12,y13⟩:=Qab b1) | (go_at_call 214; with_reducible refine (cV2.run _).mono ?_;rintro e w2 ⟨rfl,hB2⟩;have u2:=u1.trans (hB2.mono u1.size);have a2:=Qac a1 hB2;have b2:=Qac b1 hB2;obtain ⟨x20,x21,x22,x23⟩:=Qab a2;obtain ⟨y20,y21,y22,y23⟩:=Qab b2) | fail);refine bodyPost_ret (v:=.tuple #[Z ⟨#[]⟩,Z ⟨#[]⟩,Z ⟨#[]⟩,.bool false]) (by simp [results,Tryz.results244, go_sem]) rfl ⟨rfl,u2⟩
theorem Qea (s t u v l r m:ByteArray) (e1 e2 e3:Int) (b:Bool) (w:World) (he:(e1=30∧b=false)∨(e1=0∧e2=30∧b=false)∨(e1=0∧e2=0∧e3=30∧b=false)∨(e1=0∧e2=0∧e3=0∧b=true)) (cV1:Two 214 #[.agg #[Z s,Z t]] (.bool true)) (cV2:Two 214 #[.agg #[Z u,Z v]] (.bool true)) (cM1:Two 243 #[Z s,Z v] (.tuple #[Z l,.int .i64 e1])) (cM2:Two 243 #[Z u,Z t] (.tuple #[Z r,.int .i64 e2])) (cM3:Two 243 #[Z t,Z v] (.tuple #[Z m,.int .i64 e3])) :
  Calls Tryz.prog 244 #[.agg #[Z s,Z t],.agg #[Z u,Z v]] w fun e w'=>e = .returned (.tuple #[Z l,Z r,Z m,.bool b])∧Below w.heap.size w w':=by
 rcases he with ⟨rfl,rfl⟩ | ⟨rfl,rfl,rfl⟩ | ⟨rfl,rfl,rfl,rfl⟩ | ⟨rfl,rfl,rfl,rfl⟩
 ·go_enter Tryz.func244, Tryz.ntmps244;go_wp2_with (first | (go_at_call 214; with_reducible refine (cV1.run _).mono ?_;rintro e w1 ⟨rfl,hB1⟩;obtain ⟨u1,a1,b1⟩:=QgA hB1;obtain ⟨x10,x11,x12,x13⟩:=Qab a1;obtain ⟨y10,y11,y12,y13⟩:=Qab b1) | (go_at_call 214; with_reducible refine (cV2.run _).mono ?_;rintro e w2 ⟨rfl,hB2⟩;have u2:=u1.trans (hB2.mono u1.size);have a2:=Qac a1 hB2;have b2:=Qac b1 hB2;obtain ⟨x20,x21,x22,x23⟩:=Qab a2;obtain ⟨y20,y21,y22,y23⟩:=Qab b2) | (go_at_call 243; with_reducible refine (cM1.run _).mono ?_;rintro e w3 ⟨rfl,hB3⟩;have u3:=u2.trans (hB3.mono u2.size);have a3:=Qac a2 hB3;have b3:=Qac b2 hB3;obtain ⟨x30,x31,x32,x33⟩:=Qab a3;obtain ⟨y30,y31,y32,y33⟩:=Qab b3) | (go_at_call 243; with_reducible refine (cM2.run _).mono ?_;rintro e w4 ⟨rfl,hB4⟩;have u4:=u3.trans (hB4.mono u3.size);have a4:=Qac a3 hB4;have b4:=Qac b3 hB4;obtain ⟨x40,x41,x42,x43⟩:=Qab a4;obtain ⟨y40,y41,y42,y43⟩:=Qab b4) | (go_at_call 243; with_reducible refine (cM3.run _).mono ?_;rintro e w5 ⟨rfl,hB5⟩;have u5:=u4.trans (hB5.mono u4.size);have a5:=Qac a4 hB5;have b5:=Qac b4 hB5;obtain ⟨x50,x51,x52,x53⟩:=Qab a5;obtain ⟨y50,y51,y52,y53⟩:=Qab b5) | fail);refine bodyPost_ret (v:=.tuple #[Z l,Z r,Z m,.bool false]) (by simp [results,Tryz.results244, go_sem]) rfl ⟨rfl,u5⟩
 ·go_enter Tryz.func244, Tryz.ntmps244;go_wp2_with (first | (go_at_call 214; with_reducible refine (cV1.run _).mono ?_;rintro e w1 ⟨rfl,hB1⟩;obtain ⟨u1,a1,b1⟩:=QgA hB1;obtain ⟨x10,x11,x12,x13⟩:=Qab a1;obtain ⟨y10,y11,y12,y13⟩:=Qab b1) | (go_at_call 214; with_reducible refine (cV2.run _).mono ?_;rintro e w2 ⟨rfl,hB2⟩;have u2:=u1.trans (hB2.mono u1.size);have a2:=Qac a1 hB2;have b2:=Qac b1 hB2;obtain ⟨x20,x21,x22,x23⟩:=Qab a2;obtain ⟨y20,y21,y22,y23⟩:=Qab b2) | (go_at_call 243; with_reducible refine (cM1.run _).mono ?_;rintro e w3 ⟨rfl,hB3⟩;have u3:=u2.trans (hB3.mono u2.size);have a3:=Qac a2 hB3;have b3:=Qac b2 hB3;obtain ⟨x30,x31,x32,x33⟩:=Qab a3;obtain ⟨y30,y31,y32,y33⟩:=Qab b3) | (go_at_call 243; with_reducible refine (cM2.run _).mono ?_;rintro e w4 ⟨rfl,hB4⟩;have u4:=u3.trans (hB4.mono u3.size);have a4:=Qac a3 hB4;have b4:=Qac b3 hB4;obtain ⟨x40,x41,x42,x43⟩:=Qab a4;obtain ⟨y40,y41,y42,y43⟩:=Qab b4) | (go_at_call 243; with_reducible refine (cM3.run _).mono ?_;rintro e w5 ⟨rfl,hB5⟩;have u5:=u4.trans (hB5.mono u4.size);have a5:=Qac a4 hB5;have b5:=Qac b4 hB5;obtain ⟨x50,x51,x52,x53⟩:=Qab a5;obtain ⟨y50,y51,y52,y53⟩:=Qab b5) | fail);refine bodyPost_ret (v:=.tuple #[Z l,Z r,Z m,.bool false]) (by simp [results,Tryz.results244, go_sem]) rfl ⟨rfl,u5⟩
 ·go_enter Tryz.func244, Tryz.ntmps244;go_wp2_with (first | (go_at_call 214; with_reducible refine (cV1.run _).mono ?_;rintro e w1 ⟨rfl,hB1⟩;obtain ⟨u1,a1,b1⟩:=QgA hB1;obtain ⟨x10,x11,x12,x13⟩:=Qab a1;obtain ⟨y10,y11,y12,y13⟩:=Qab b1) | (go_at_call 214; with_reducible refine (cV2.run _).mono ?_;rintro e w2 ⟨rfl,hB2⟩;have u2:=u1.trans (hB2.mono u1.size);have a2:=Qac a1 hB2;have b2:=Qac b1 hB2;obtain ⟨x20,x21,x22,x23⟩:=Qab a2;obtain ⟨y20,y21,y22,y23⟩:=Qab b2) | (go_at_call 243; with_reducible refine (cM1.run _).mono ?_;rintro e w3 ⟨rfl,hB3⟩;have u3:=u2.trans (hB3.mono u2.size);have a3:=Qac a2 hB3;have b3:=Qac b2 hB3;obtain ⟨x30,x31,x32,x33⟩:=Qab a3;obtain ⟨y30,y31,y32,y33⟩:=Qab b3) | (go_at_call 243; with_reducible refine (cM2.run _).mono ?_;rintro e w4 ⟨rfl,hB4⟩;have u4:=u3.trans (hB4.mono u3.size);have a4:=Qac a3 hB4;have b4:=Qac b3 hB4;obtain ⟨x40,x41,x42,x43⟩:=Qab a4;obtain ⟨y40,y41,y42,y43⟩:=Qab b4) | (go_at_call 243; with_reducible refine (cM3.run _).mono ?_;rintro e w5 ⟨rfl,hB5⟩;have u5:=u4.trans (hB5.mono u4.size);have a5:=Qac a4 hB5;have b5:=Qac b4 hB5;obtain ⟨x50,x51,x52,x53⟩:=Qab a5;obtain ⟨y50,y51,y52,y53⟩:=Qab b5) | fail);refine bodyPost_ret (v:=.tuple #[Z l,Z r,Z m,.bool false]) (by simp [results,Tryz.results244, go_sem]) rfl ⟨rfl,u5⟩
 ·go_enter Tryz.func244, Tryz.ntmps244;go_wp2_with (first | (go_at_call 214; with_reducible refine (cV1.run _).mono ?_;rintro e w1 ⟨rfl,hB1⟩;obtain ⟨u1,a1,b1⟩:=QgA hB1;obtain ⟨x10,x11,x12,x13⟩:=Qab a1;obtain ⟨y10,y11,y12,y13⟩:=Qab b1) | (go_at_call 214; with_reducible refine (cV2.run _).mono ?_;rintro e w2 ⟨rfl,hB2⟩;have u2:=u1.trans (hB2.mono u1.size);have a2:=Qac a1 hB2;have b2:=Qac b1 hB2;obtain ⟨x20,x21,x22,x23⟩:=Qab a2;obtain ⟨y20,y21,y22,y23⟩:=Qab b2) | (go_at_call 243; with_reducible refine (cM1.run _).mono ?_;rintro e w3 ⟨rfl,hB3⟩;have u3:=u2.trans (hB3.mono u2.size);have a3:=Qac a2 hB3;have b3:=Qac b2 hB3;obtain ⟨x30,x31,x32,x33⟩:=Qab a3;obtain ⟨y30,y31,y32,y33⟩:=Qab b3) | (go_at_call 243; with_reducible refine (cM2.run _).mono ?_;rintro e w4 ⟨rfl,hB4⟩;have u4:=u3.trans (hB4.mono u3.size);have a4:=Qac a3 hB4;have b4:=Qac b3 hB4;obtain ⟨x40,x41,x42,x43⟩:=Qab a4;obtain ⟨y40,y41,y42,y43⟩:=Qab b4) | (go_at_call 243; with_reducible refine (cM3.run _).mono ?_;rintro e w5 ⟨rfl,hB5⟩;have u5:=u4.trans (hB5.mono u4.size);have a5:=Qac a4 hB5;have b5:=Qac b4 hB5;obtain ⟨x50,x51,x52,x53⟩:=Qab a5;obtain ⟨y50,y51,y52,y53⟩:=Qab b5) | fail);refine bodyPost_ret (v:=.tuple #[Z l,Z r,Z m,.bool true]) (by simp [results,Tryz.results244, go_sem]) rfl ⟨rfl,u5⟩
theorem QcX (x y:Int) (hx:Fits x) (hy:Fits y):∃ (l:ByteArray) (e:Int),Two 243 #[Z (txt x),Z (txt y)] (.tuple #[Z l,.int .i64 e])∧((Fits (x*y)∧l=txt (x*y)∧e=0)∨(¬ Fits (x*y)∧e=30)):=by
 by_cases h:Fits (x*y)
 ·exact ⟨_,_,fun W=>Qav h▸N10.Qog x y hx hy W,.inl ⟨h,rfl,rfl⟩⟩
 ·exact ⟨_,_,fun W=>QaJ h▸N10.Qog x y hx hy W,.inr ⟨h,rfl⟩⟩
theorem QgG (s t:ByteArray) (hs:s.size≤1000000) (ht:t.size≤1000000):Two 214 #[.agg #[Z s,Z t]] (.bool (qOf s t).isSome):=fun W=>Qmx s t hs ht W
theorem QbF {q:Rat} (h:FitQ q):Two 214 #[.agg #[Z (txt q.num),Z (txt (q.den:Int))]] (.bool true):=by
 have:=QgG _ _ h.size.1 h.size.2
 rwa [QdG h] at this
theorem Qor (x y:Int) (hx:Fits x) (hy:Fits y) (n d:ByteArray) (c:Int) (h:bR (redR (txt x) (txt y)) = .tuple #[.agg #[Z n,Z d],.int .i64 c]):Two 135 #[Z (txt x),Z (txt y)] (.tuple #[.agg #[Z n,Z d],.int .i64 c]):=fun W=>by
 have:=QiT (txt x) (txt y) (QaT hx) (QaT hy) W
 rwa [h] at this
theorem Qos (s t u v:ByteArray):(∃ p q:Rat,FitQ p∧FitQ q∧s=txt p.num∧t=txt (p.den:Int)∧u=txt q.num∧v=txt (q.den:Int))∨((qOf s t).isSome && (qOf u v).isSome)=false:=by
 cases h1:qOf s t with
 | none=>exact .inr rfl
 | some p =>
  cases h2:qOf u v with
  | none=>exact .inr rfl
  | some q =>
   obtain ⟨a,b,c⟩:=QhQ h1;obtain ⟨a',b',c'⟩:=QhQ h2;exact .inl ⟨p,q,c,c',a,b,a',b'⟩
theorem QsT {s t u v:ByteArray} (h:((qOf s t).isSome && (qOf u v).isSome)=false):qsOk [(s,t),(u,v)]=false:=by
 simpa [qsOk] using h
theorem Qot (s t u v l k m:ByteArray) (w:World) (cC:Two 244 #[.agg #[Z s,Z t],.agg #[Z u,Z v]] (.tuple #[Z l,Z k,Z m,.bool false])) :
  Calls Tryz.prog 241 #[.agg #[Z s,Z t],.agg #[Z u,Z v]] w fun e w'=>e = .returned (.tuple #[.agg #[Z ⟨#[]⟩,Z ⟨#[]⟩],.int .i64 40])∧Below w.heap.size w w':=by
 go_enter Tryz.func241, Tryz.ntmps241;go_wp2_with (first | (go_at_call 244; with_reducible refine (cC.run _).mono ?_;rintro e w1 ⟨rfl,hB1⟩;obtain ⟨u1,a1,b1,r1⟩:=QeQ hB1;obtain ⟨x10,x11,x12,x13⟩:=Qab a1;obtain ⟨y10,y11,y12,y13⟩:=Qab b1;obtain ⟨z10,z11,z12,z13⟩:=Qab r1) | fail);have k0:=QaM w1 (w.heap.size+1+1) (Z ⟨#[]⟩) (Z ⟨#[]⟩) _ _ z10 z11;refine bodyPost_ret (v:=.tuple #[.agg #[(Z ⟨#[]⟩),(Z ⟨#[]⟩)],.int .i64 40]) (by simp [results,Tryz.results241, go_sem,k0.1,k0.2]) rfl ⟨rfl,(u1.setCell (by simp;omega) _).setCell (by simp;omega) _⟩
theorem Qqj (s t u v l k m n:ByteArray) (w:World) (cC:Two 244 #[.agg #[Z s,Z t],.agg #[Z u,Z v]] (.tuple #[Z l,Z k,Z m,.bool true])) (cA:Two 245 #[Z l,Z k] (.tuple #[Z n,.int .i64 30])) :
  Calls Tryz.prog 241 #[.agg #[Z s,Z t],.agg #[Z u,Z v]] w fun e w'=>e = .returned (.tuple #[.agg #[Z ⟨#[]⟩,Z ⟨#[]⟩],.int .i64 40])∧Below w.heap.size w w':=by
 go_enter Tryz.func241, Tryz.ntmps241;go_wp2_with (first | (go_at_call 244; with_reducible refine (cC.run _).mono ?_;rintro e w1 ⟨rfl,hB1⟩;obtain ⟨u1,a1,b1,r1⟩:=QeQ hB1;obtain ⟨x10,x11,x12,x13⟩:=Qab a1;obtain ⟨y10,y11,y12,y13⟩:=Qab b1;obtain ⟨z10,z11,z12,z13⟩:=Qab r1) | (go_at_call 245; with_reducible refine (cA.run _).mono ?_;rintro e w2 ⟨rfl,hB2⟩;have u2:=u1.trans (hB2.mono u1.size);have a2:=Qac a1 hB2;have b2:=Qac b1 hB2;have r2:=Qac r1 hB2;obtain ⟨x20,x21,x22,x23⟩:=Qab a2;obtain ⟨y20,y21,y22,y23⟩:=Qab b2;obtain ⟨z20,z21,z22,z23⟩:=Qab r2) | fail);have k0:=QaM w2 (w.heap.size+1+1) (Z ⟨#[]⟩) (Z ⟨#[]⟩) _ _ z20 z21;refine bodyPost_ret (v:=.tuple #[.agg #[(Z ⟨#[]⟩),(Z ⟨#[]⟩)],.int .i64 40]) (by simp [results,Tryz.results241, go_sem,k0.1,k0.2]) rfl ⟨rfl,(u2.setCell (by simp;omega) _).setCell (by simp;omega) _⟩
theorem QsU (s t u v l k m n n' d':ByteArray) (c:Int) (w:World) (cC:Two 244 #[.agg #[Z s,Z t],.agg #[Z u,Z v]] (.tuple #[Z l,Z k,Z m,.bool true])) (cA:Two 245 #[Z l,Z k] (.tuple #[Z n,.int .i64 0])) (cK:Two 135 #[Z n,Z m] (.tuple #[.agg #[Z n',Z d'],.int .i64 c])) :
  Calls Tryz.prog 241 #[.agg #[Z s,Z t],.agg #[Z u,Z v]] w fun e w'=>e = .returned (.tuple #[.agg #[Z n',Z d'],.int .i64 c])∧Below w.heap.size w w':=by
 go_enter Tryz.func241, Tryz.ntmps241;go_wp2_with (first | (go_at_call 244; with_reducible refine (cC.run _).mono ?_;rintro e w1 ⟨rfl,hB1⟩;obtain ⟨u1,a1,b1,r1⟩:=QeQ hB1;obtain ⟨x10,x11,x12,x13⟩:=Qab a1;obtain ⟨y10,y11,y12,y13⟩:=Qab b1;obtain ⟨z10,z11,z12,z13⟩:=Qab r1) | (go_at_call 245; with_reducible refine (cA.run _).mono ?_;rintro e w2 ⟨rfl,hB2⟩;have u2:=u1.trans (hB2.mono u1.size);have a2:=Qac a1 hB2;have b2:=Qac b1 hB2;have r2:=Qac r1 hB2;obtain ⟨x20,x21,x22,x23⟩:=Qab a2;obtain ⟨y20,y21,y22,y23⟩:=Qab b2;obtain ⟨z20,z21,z22,z23⟩:=Qab r2) | (go_at_call 135; with_reducible refine (cK.run _).mono ?_;rintro e w3 ⟨rfl,hB3⟩;have u3:=u2.trans (hB3.mono u2.size);have a3:=Qac a2 hB3;have b3:=Qac b2 hB3;have r3:=Qac r2 hB3;obtain ⟨x30,x31,x32,x33⟩:=Qab a3;obtain ⟨y30,y31,y32,y33⟩:=Qab b3;obtain ⟨z30,z31,z32,z33⟩:=Qab r3) | fail);have k0:=QaM w3 (w.heap.size+1+1) (Z n') (Z d') _ _ z30 z31;refine bodyPost_ret (v:=.tuple #[.agg #[(Z n'),(Z d')],.int .i64 c]) (by simp [results,Tryz.results241, go_sem,k0.1,k0.2]) rfl ⟨rfl,(u3.setCell (by simp;omega) _).setCell (by simp;omega) _⟩
theorem Qqk (s t u v:ByteArray) (hs:s.size≤1000000) (ht:t.size≤1000000) (hu:u.size≤1000000) (hv:v.size≤1000000) (w:World) :
  Calls Tryz.prog 241 #[.agg #[Z s,Z t],.agg #[Z u,Z v]] w fun e w'=>e = .returned (bR (sumR Qfd s t u v))∧Below w.heap.size w w':=by
 rcases Qos s t u v with ⟨p,q,fp,fq,rfl,rfl,rfl,rfl⟩ | h
 ·obtain ⟨l,e1,m1,o1⟩:=QcX p.num q.den fp.1 fq.2;obtain ⟨k,e2,m2,o2⟩:=QcX q.num p.den fq.1 fp.2;obtain ⟨m,e3,m3,o3⟩:=QcX (p.den:Int) q.den fp.2 fq.2;rw [Qri fp fq,addQ];by_cases hA:Fits (p.num*q.den)∧Fits (q.num*p.den)∧Fits ((p.den:Int)*q.den)
  ·have e1':=o1.resolve_right (fun h=>h.1 hA.1);have e2':=o2.resolve_right (fun h=>h.1 hA.2.1);have e3':=o3.resolve_right (fun h=>h.1 hA.2.2);obtain ⟨-,rfl,rfl⟩:=e1';obtain ⟨-,rfl,rfl⟩:=e2';obtain ⟨-,rfl,rfl⟩:=e3';have cC:Two 244 _ _:=fun W=>Qea _ _ _ _ _ _ _ _ _ _ true W (.inr (.inr (.inr ⟨rfl,rfl,rfl,rfl⟩))) (QbF fp) (QbF fq) m1 m2 m3;by_cases hS:Fits (p.num*q.den+q.num*p.den)
   ·rw [if_pos ⟨hA.1,hA.2.1,hS,hA.2.2⟩];refine QsU _ _ _ _ _ _ _ _ _ _ _ w cC (fun W=>Qav hS▸N10.Qof _ _ hA.1 hA.2.1 W) (Qor _ _ hS hA.2.2 _ _ _ ?_);rw [Qfz hS hA.2.2 (QcV p q),QjN];rfl
   ·rw [if_neg (fun h=>hS h.2.2.1)];exact Qqj _ _ _ _ _ _ _ _ w cC (fun W=>QaJ hS▸N10.Qof _ _ hA.1 hA.2.1 W)
  ·rw [if_neg (fun h=>hA ⟨h.1,h.2.1,h.2.2.2⟩)]
   have he:(e1=30∧false=false)∨(e1=0∧e2=30∧false=false)∨(e1=0∧e2=0∧e3=30∧false=false)∨(e1=0∧e2=0∧e3=0∧false=true):=by
    rcases o1 with ⟨h1, -,rfl⟩ | ⟨h1,rfl⟩
    ·rcases o2 with ⟨h2, -,rfl⟩ | ⟨h2,rfl⟩
     ·rcases o3 with ⟨h3, -,rfl⟩ | ⟨h3,rfl⟩
      ·exact absurd ⟨h1,h2,h3⟩ hA
      ·exact .inr (.inr (.inl ⟨rfl,rfl,rfl,rfl⟩))
     ·exact .inr (.inl ⟨rfl,rfl,rfl⟩)
    ·exact .inl ⟨rfl,rfl⟩
   exact Qot _ _ _ _ _ _ _ w (fun W=>Qea _ _ _ _ _ _ _ _ _ _ false W he (QbF fp) (QbF fq) m1 m2 m3)
 ·rw [sumR,QsT h,if_neg (by decide)];exact Qot _ _ _ _ _ _ _ w (fun W=>Qjd _ _ _ _ _ _ W h (QgG s t hs ht) (QgG u v hu hv))
theorem Qou (s t u v l k m:ByteArray) (w:World) (cC:Two 244 #[.agg #[Z s,Z t],.agg #[Z u,Z v]] (.tuple #[Z l,Z k,Z m,.bool false])) :
  Calls Tryz.prog 242 #[.agg #[Z s,Z t],.agg #[Z u,Z v]] w fun e w'=>e = .returned (.tuple #[.agg #[Z ⟨#[]⟩,Z ⟨#[]⟩],.int .i64 40])∧Below w.heap.size w w':=by
 go_enter Tryz.func242, Tryz.ntmps242;go_wp2_with (first | (go_at_call 244; with_reducible refine (cC.run _).mono ?_;rintro e w1 ⟨rfl,hB1⟩;obtain ⟨u1,a1,b1,r1⟩:=QeQ hB1;obtain ⟨x10,x11,x12,x13⟩:=Qab a1;obtain ⟨y10,y11,y12,y13⟩:=Qab b1;obtain ⟨z10,z11,z12,z13⟩:=Qab r1) | fail);have k0:=QaM w1 (w.heap.size+1+1) (Z ⟨#[]⟩) (Z ⟨#[]⟩) _ _ z10 z11;refine bodyPost_ret (v:=.tuple #[.agg #[(Z ⟨#[]⟩),(Z ⟨#[]⟩)],.int .i64 40]) (by simp [results,Tryz.results242, go_sem,k0.1,k0.2]) rfl ⟨rfl,(u1.setCell (by simp;omega) _).setCell (by simp;omega) _⟩
theorem Qql (s t u v l k m n:ByteArray) (w:World) (cC:Two 244 #[.agg #[Z s,Z t],.agg #[Z u,Z v]] (.tuple #[Z l,Z k,Z m,.bool true])) (cA:Two 171 #[Z l,Z k] (.tuple #[Z n,.int .i64 30])) :
  Calls Tryz.prog 242 #[.agg #[Z s,Z t],.agg #[Z u,Z v]] w fun e w'=>e = .returned (.tuple #[.agg #[Z ⟨#[]⟩,Z ⟨#[]⟩],.int .i64 40])∧Below w.heap.size w w':=by
 go_enter Tryz.func242, Tryz.ntmps242;go_wp2_with (first | (go_at_call 244; with_reducible refine (cC.run _).mono ?_;rintro e w1 ⟨rfl,hB1⟩;obtain ⟨u1,a1,b1,r1⟩:=QeQ hB1;obtain ⟨x10,x11,x12,x13⟩:=Qab a1;obtain ⟨y10,y11,y12,y13⟩:=Qab b1;obtain ⟨z10,z11,z12,z13⟩:=Qab r1) | (go_at_call 171; with_reducible refine (cA.run _).mono ?_;rintro e w2 ⟨rfl,hB2⟩;have u2:=u1.trans (hB2.mono u1.size);have a2:=Qac a1 hB2;have b2:=Qac b1 hB2;have r2:=Qac r1 hB2;obtain ⟨x20,x21,x22,x23⟩:=Qab a2;obtain ⟨y20,y21,y22,y23⟩:=Qab b2;obtain ⟨z20,z21,z22,z23⟩:=Qab r2) | fail);have k0:=QaM w2 (w.heap.size+1+1) (Z ⟨#[]⟩) (Z ⟨#[]⟩) _ _ z20 z21;refine bodyPost_ret (v:=.tuple #[.agg #[(Z ⟨#[]⟩),(Z ⟨#[]⟩)],.int .i64 40]) (by simp [results,Tryz.results242, go_sem,k0.1,k0.2]) rfl ⟨rfl,(u2.setCell (by simp;omega) _).setCell (by simp;omega) _⟩
theorem QsV (s t u v l k m n n' d':ByteArray) (c:Int) (w:World) (cC:Two 244 #[.agg #[Z s,Z t],.agg #[Z u,Z v]] (.tuple #[Z l,Z k,Z m,.bool true])) (cA:Two 171 #[Z l,Z k] (.tuple #[Z n,.int .i64 0])) (cK:Two 135 #[Z n,Z m] (.tuple #[.agg #[Z n',Z d'],.int .i64 c])) :
  Calls Tryz.prog 242 #[.agg #[Z s,Z t],.agg #[Z u,Z v]] w fun e w'=>e = .returned (.tuple #[.agg #[Z n',Z d'],.int .i64 c])∧Below w.heap.size w w':=by
 go_enter Tryz.func242, Tryz.ntmps242;go_wp2_with (first | (go_at_call 244; with_reducible refine (cC.run _).mono ?_;rintro e w1 ⟨rfl,hB1⟩;obtain ⟨u1,a1,b1,r1⟩:=QeQ hB1;obtain ⟨x10,x11,x12,x13⟩:=Qab a1;obtain ⟨y10,y11,y12,y13⟩:=Qab b1;obtain ⟨z10,z11,z12,z13⟩:=Qab r1) | (go_at_call 171; with_reducible refine (cA.run _).mono ?_;rintro e w2 ⟨rfl,hB2⟩;have u2:=u1.trans (hB2.mono u1.size);have a2:=Qac a1 hB2;have b2:=Qac b1 hB2;have r2:=Qac r1 hB2;obtain ⟨x20,x21,x22,x23⟩:=Qab a2;obtain ⟨y20,y21,y22,y23⟩:=Qab b2;obtain ⟨z20,z21,z22,z23⟩:=Qab r2) | (go_at_call 135; with_reducible refine (cK.run _).mono ?_;rintro e w3 ⟨rfl,hB3⟩;have u3:=u2.trans (hB3.mono u2.size);have a3:=Qac a2 hB3;have b3:=Qac b2 hB3;have r3:=Qac r2 hB3;obtain ⟨x30,x31,x32,x33⟩:=Qab a3;obtain ⟨y30,y31,y32,y33⟩:=Qab b3;obtain ⟨z30,z31,z32,z33⟩:=Qab r3) | fail);have k0:=QaM w3 (w.heap.size+1+1) (Z n') (Z d') _ _ z30 z31;refine bodyPost_ret (v:=.tuple #[.agg #[(Z n'),(Z d')],.int .i64 c]) (by simp [results,Tryz.results242, go_sem,k0.1,k0.2]) rfl ⟨rfl,(u3.setCell (by simp;omega) _).setCell (by simp;omega) _⟩
theorem Qqm (s t u v:ByteArray) (hs:s.size≤1000000) (ht:t.size≤1000000) (hu:u.size≤1000000) (hv:v.size≤1000000) (w:World) :
  Calls Tryz.prog 242 #[.agg #[Z s,Z t],.agg #[Z u,Z v]] w fun e w'=>e = .returned (bR (sumR QeI s t u v))∧Below w.heap.size w w':=by
 rcases Qos s t u v with ⟨p,q,fp,fq,rfl,rfl,rfl,rfl⟩ | h
 ·obtain ⟨l,e1,m1,o1⟩:=QcX p.num q.den fp.1 fq.2;obtain ⟨k,e2,m2,o2⟩:=QcX q.num p.den fq.1 fp.2;obtain ⟨m,e3,m3,o3⟩:=QcX (p.den:Int) q.den fp.2 fq.2;rw [Qrj fp fq,subQ];by_cases hA:Fits (p.num*q.den)∧Fits (q.num*p.den)∧Fits ((p.den:Int)*q.den)
  ·have e1':=o1.resolve_right (fun h=>h.1 hA.1);have e2':=o2.resolve_right (fun h=>h.1 hA.2.1);have e3':=o3.resolve_right (fun h=>h.1 hA.2.2);obtain ⟨-,rfl,rfl⟩:=e1';obtain ⟨-,rfl,rfl⟩:=e2';obtain ⟨-,rfl,rfl⟩:=e3';have cC:Two 244 _ _:=fun W=>Qea _ _ _ _ _ _ _ _ _ _ true W (.inr (.inr (.inr ⟨rfl,rfl,rfl,rfl⟩))) (QbF fp) (QbF fq) m1 m2 m3;by_cases hS:Fits (p.num*q.den-q.num*p.den)
   ·rw [if_pos ⟨hA.1,hA.2.1,hS,hA.2.2⟩];refine QsV _ _ _ _ _ _ _ _ _ _ _ w cC (fun W=>Qav hS▸N10.QjU _ _ hA.1 hA.2.1 W) (Qor _ _ hS hA.2.2 _ _ _ ?_);rw [Qfz hS hA.2.2 (QcV p q),QjO];rfl
   ·rw [if_neg (fun h=>hS h.2.2.1)];exact Qql _ _ _ _ _ _ _ _ w cC (fun W=>QaJ hS▸N10.QjU _ _ hA.1 hA.2.1 W)
  ·rw [if_neg (fun h=>hA ⟨h.1,h.2.1,h.2.2.2⟩)]
   have he:(e1=30∧false=false)∨(e1=0∧e2=30∧false=false)∨(e1=0∧e2=0∧e3=30∧false=false)∨(e1=0∧e2=0∧e3=0∧false=true):=by
    rcases o1 with ⟨h1, -,rfl⟩ | ⟨h1,rfl⟩
    ·rcases o2 with ⟨h2, -,rfl⟩ | ⟨h2,rfl⟩
     ·rcases o3 with ⟨h3, -,rfl⟩ | ⟨h3,rfl⟩
      ·exact absurd ⟨h1,h2,h3⟩ hA
      ·exact .inr (.inr (.inl ⟨rfl,rfl,rfl,rfl⟩))
     ·exact .inr (.inl ⟨rfl,rfl,rfl⟩)
    ·exact .inl ⟨rfl,rfl⟩
   exact Qou _ _ _ _ _ _ _ w (fun W=>Qea _ _ _ _ _ _ _ _ _ _ false W he (QbF fp) (QbF fq) m1 m2 m3)
 ·rw [sumR,QsT h,if_neg (by decide)];exact Qou _ _ _ _ _ _ _ w (fun W=>Qjd _ _ _ _ _ _ W h (QgG s t hs ht) (QgG u v hu hv))
theorem Qqn (s t u v:ByteArray) (hs:s.size≤1000000) (ht:t.size≤1000000) (hu:u.size≤1000000) (hv:v.size≤1000000) (w:World) :
  Calls Tryz.prog 233 #[.agg #[Z s,Z t],.agg #[Z u,Z v]] w fun e w'=>e = .returned (bR (mulR s t u v))∧Below w.heap.size w w':=by
 rcases Qos s t u v with ⟨p,q,fp,fq,rfl,rfl,rfl,rfl⟩ | h
 ·obtain ⟨l,e1,m1,o1⟩:=QcX p.num q.num fp.1 fq.1;obtain ⟨r,e2,m2,o2⟩:=QcX (p.den:Int) q.den fp.2 fq.2;rw [mulR,QeM fp fq,if_pos rfl,Qbn fp.1 fq.1,Qbn fp.2 fq.2];by_cases h1:Fits (p.num*q.num)
  ·obtain ⟨-,rfl,rfl⟩:=o1.resolve_right (fun h=>h.1 h1);rw [Qay h1,Option.bind_some];by_cases h2:Fits ((p.den:Int)*q.den)
   ·obtain ⟨-,rfl,rfl⟩:=o2.resolve_right (fun h=>h.1 h2);rw [Qay h2,Option.bind_some];obtain ⟨n',d',e0,ho⟩:=Qcw (redR (txt (p.num*q.num)) (txt ((p.den:Int)*q.den)));rw [ho];exact QsS _ _ _ _ _ _ _ _ _ w (QbF fp) (QbF fq) m1 m2 (Qor _ _ h1 h2 _ _ _ ho)
   ·obtain ⟨-,rfl⟩:=o2.resolve_left (fun h=>h2 h.1);rw [Qbj h2];exact QkW _ _ _ _ _ _ _ _ w (.inr ⟨rfl,rfl⟩) (QbF fp) (QbF fq) m1 m2
  ·obtain ⟨-,rfl⟩:=o1.resolve_left (fun h=>h1 h.1);rw [Qbj h1];exact QkW _ _ _ _ _ _ _ _ w (.inl rfl) (QbF fp) (QbF fq) m1 m2
 ·rw [mulR,QsT h,if_neg (by decide)];exact QsR _ _ _ _ _ _ w h (QgG s t hs ht) (QgG u v hu hv)
theorem Qmy (s:ByteArray) (h:(s.toList == [48])=true):Two 215 #[Z s] (Z s):=fun w=>by
 go_enter Tryz.func215, Tryz.ntmps215;go_wp2;go_ret;exact ⟨rfl,Below.refl _ _⟩
theorem Qov (s:ByteArray) (h:(s.toList == [48])=false):Two 215 #[Z s] (Z ⟨#[49]⟩):=fun w=>by
 go_enter Tryz.func215, Tryz.ntmps215;go_wp2;go_ret;exact ⟨rfl,Below.refl _ _⟩
theorem Qqo (x y:Int):cmpZ x y = -1∨cmpZ x y=0∨cmpZ x y=1:=by
 unfold cmpZ;split
 ·exact .inl rfl
 ·split
  ·exact .inr (.inl rfl)
  ·exact .inr (.inr rfl)
theorem CmS.in3 {c:Int} {k:Nat} {s t u v:ByteArray} (h:CmS c k s t u v):c = -1∨c=0∨c=1:=by
 obtain ⟨n1,d1,n2,d2, -, -, -, -, -, -,hc, -⟩:=h.ex;rw [←hc];exact Qqo _ _
theorem CmS.meas {c:Int} {k:Nat} {s t u v:ByteArray} (h:CmS c k s t u v):QiW (some (Z t))+QiW (some (Z v))=k:=by
 obtain ⟨n1,d1,n2,d2, -, -, -, -,p1,p2, -,hk, -,rfl, -,rfl⟩:=h.ex;rw [QeR p1,QeR p2,hk]
theorem QkX {x y:Int}:cmpZ x y=0↔x=y:=by
 unfold cmpZ;constructor
 ·intro h;split at h
  ·cases h
  ·split at h
   ·assumption
   ·cases h
 ·intro h;rw [if_neg (by omega),if_pos h]
theorem Qow (x y:Int):cmpZ y x = -cmpZ x y:=by
 unfold cmpZ;rcases Int.lt_trichotomy x y with h | h | h
 ·rw [if_neg (by omega),if_neg (by omega),if_pos h];rfl
 ·rw [if_neg (by omega),if_pos h.symm,if_neg (by omega),if_pos h];rfl
 ·rw [if_pos h,if_neg (by omega),if_neg (by omega)]
def zO (z:Int):ByteArray:=if z=0 then ⟨#[48]⟩ else ⟨#[49]⟩
theorem Qrq (z:Int):zO z=txt (if z=0 then 0 else 1):=by
 rw [zO];split
 ·exact txt_0.symm
 ·exact txt_1.symm
theorem Qho (z:Int):Two 215 #[Z (txt z)] (Z (zO z)):=by
 by_cases h:z=0
 ·subst h;have:=Qmy (txt 0) (by rw [QbN];rfl);rw [zO,if_pos rfl]
  rwa [txt_0] at this ⊢
 ·rw [zO,if_neg h];exact Qov (txt z) (by rw [QbN];simpa using h)
theorem Qox {c : Int} {k : Nat} {s t u v : ByteArray} (h : CmS c k s t u v) : ∃ (q1 r1 q2 r2 : ByteArray) (x : Int),
    Two 173 #[Z s, Z t] (.tuple #[Z q1, Z r1, .int .i64 0]) ∧ Two 173 #[Z u, Z v] (.tuple #[Z q2, Z r2, .int .i64 0]) ∧
    Two 170 #[Z q1, Z q2] (.int .i64 x) ∧
    ((x ≠ 0 ∧ x = c) ∨
     (x = 0 ∧ ((r1.toList == [48]) = true ∨ ((r1.toList == [48]) = false ∧ (r2.toList == [48]) = true)) ∧ ∃ z1 z2 : ByteArray, Two 215 #[Z r1] (Z z1) ∧ Two 215 #[Z r2] (Z z2) ∧ Two 170 #[Z z1, Z z2] (.int .i64 c)) ∨
     (x = 0 ∧ (r1.toList == [48]) = false ∧ (r2.toList == [48]) = false ∧ ∃ k' : Nat, k' < k ∧ CmS (-c) k' t r1 v r2)) := by
  obtain ⟨n1, d1, n2, d2, f1, f2, f3, f4, p1, p2, hc, hk, rfl, rfl, rfl, rfl⟩ := h.ex;have g1 := Int.emod_nonneg n1 (show d1 ≠ 0 by omega);have g2 := Int.emod_nonneg n2 (show d2 ≠ 0 by omega);have l1 := Int.emod_lt_of_pos n1 p1;have l2 := Int.emod_lt_of_pos n2 p2;have fr1 : Fits (n1 % d1) := QbI f2 (by omega);have fr2 : Fits (n2 % d2) := QbI f4 (by omega);refine ⟨txt (n1 / d1), txt (n1 % d1), txt (n2 / d2), txt (n2 % d2), cmpZ (n1 / d1) (n2 / d2), Qmp f1 f2 (by omega), Qmp f3 f4 (by omega), Qqf (QaX f1) (QaX f3), ?_⟩;by_cases hq : n1 / d1 = n2 / d2
  · have hr := QiU hq
    have h0 : cmpZ (n1 / d1) (n2 / d2) = 0 := QkX.2 hq;by_cases hz : n1 % d1 = 0 ∨ n2 % d2 = 0
    · refine .inr (.inl ⟨h0, ?_, zO (n1 % d1), zO (n2 % d2), Qho _, Qho _, ?_⟩)
      · rw [QbN, QbN]
        by_cases h0 : n1 % d1 = 0
        · exact .inl (by simpa using h0)
        · exact .inr ⟨by simpa using h0, by simpa using hz.resolve_left h0⟩
      · have e : c = cmpZ (if n1 % d1 = 0 then 0 else 1) (if n2 % d2 = 0 then 0 else 1) := by
          rw [← hc, hr, QiV p1 p2 g1 g2 hz];generalize n1 % d1 = a at *
          generalize n2 % d2 = b at *
          unfold cmpZ;by_cases ha : a = 0
          · by_cases hb : b = 0
            · rw [if_pos ha, if_pos hb, if_neg (by omega), if_pos (by omega), if_neg (by omega), if_pos rfl]
            · rw [if_pos ha, if_neg hb, if_pos (by omega), if_pos (by omega)]
          · have hb : b = 0 := hz.resolve_left ha
            rw [if_neg ha, if_pos hb, if_neg (by omega), if_neg (by omega), if_neg (by omega), if_neg (by omega)]
        rw [Qrq, Qrq, e];exact Qqf (by split; exact Qfy; exact QnE) (by split; exact Qfy; exact QnE)
    · refine .inr (.inr ⟨h0, ?_, ?_, (n1 % d1).toNat + (n2 % d2).toNat, by omega, ⟨d1, n1 % d1, d2, n2 % d2, f2, fr1, f4, fr2, by omega, by omega, ?_, rfl, rfl, rfl, rfl, rfl⟩⟩)
      · rw [QbN]; simp; omega
      · rw [QbN]; simp; omega
      · rw [← hc, hr, Qow (d1 * (n2 % d2)), Int.neg_neg]
  · refine .inl ⟨fun h => hq (QkX.1 h), ?_⟩
    rw [← hc, Qhk p1 p2 hq]

theorem Qib (s0 t0 u0 v0:ByteArray) (C:Int) (k0:Nat) (w:World) (hs0:CmS C k0 s0 t0 u0 v0)
  (cV1:Two 214 #[.agg #[Z s0,Z t0]] (.bool true)) (cV2:Two 214 #[.agg #[Z u0,Z v0]] (.bool true)) :
  Calls Tryz.prog 177 #[.agg #[Z s0,Z t0],.agg #[Z u0,Z v0]] w fun e w'=>e = .returned (.int .i64 C)∧Below w.heap.size w w':=by
 have HS0:Shut _:=⟨hs0⟩;clear hs0;go_enter Tryz.func177, Tryz.ntmps177;go_wp2_with (first | (go_at_call 214; with_reducible refine (cV1.run _).mono ?_;rintro e w1 ⟨rfl,hB1⟩;obtain ⟨u1,a1,b1⟩:=QgA hB1;obtain ⟨x0,x1,x2,x3⟩:=Qab a1;obtain ⟨y0,y1,y2,y3⟩:=Qab b1) | (go_at_call 214; with_reducible refine (cV2.run _).mono ?_;rintro e w2 ⟨rfl,hB2⟩;have u2:=u1.trans (hB2.mono u1.size);have a2:=Qac a1 hB2;have b2:=Qac b1 hB2;obtain ⟨x0,x1,x2,x3⟩:=Qab a2;obtain ⟨y0,y1,y2,y3⟩:=Qab b2));have HU:Shut _:=⟨u2⟩;clear hB1 hB2 u1 u2 a1 b1 a2 b2 cV1 cV2
 go_loopw [7,8,9,10,11] (fun sv nv dv mv cv wr=>∃ (s t u v:ByteArray) (c sg:Int) (k:Nat),sv = .int .i64 sg∧nv=Z s∧dv=Z t∧mv=Z u∧cv=Z v∧Shut (sg=1∨sg = -1)∧Shut (sg*c=C)∧Shut (CmS c k s t u v)∧Shut (Below w.heap.size w wr)) (fun _ _ dv _ cv _=>QiW (some dv)+QiW (some cv))
 case atStart=>exact ⟨s0,t0,u0,v0,C,1,k0,rfl,rfl,rfl,rfl,rfl,⟨.inl rfl⟩,⟨Int.one_mul C⟩,HS0,HU⟩
 case round =>
  clear HU;obtain ⟨s,t,u,v,c,sg,k,rfl,rfl,rfl,rfl,rfl,HSg,HC,HS,HU⟩:=hrel;have h3:=HS.o.in3;have HM:Shut _:=⟨HS.o.meas⟩;obtain ⟨q1,r1,q2,r2,x,dv1,dv2,cx,hw⟩:=Qox HS.o;have bW:=HU.o;clear HS HU;rcases hw with ⟨hx0,rfl⟩ | ⟨rfl,hz,z1,z2,cz1,cz2,cc⟩ | ⟨rfl,hz1,hz2,k',hk,hn⟩
  ·have hx0b:(x == 0)=false:=by rw [beq_eq_false_iff_ne];exact hx0
   have hw1:IntKind.i64.wrap (sg*x)=C:=by rw [HC.o,←HC.o];rcases HSg.o with rfl | rfl <;> rcases h3 with rfl | rfl | rfl <;> rfl
   clear h3 hx0;go_wp2_with (first | (go_at_call 173; with_reducible refine (dv1.run _).mono ?_;rintro e w5 ⟨rfl,hB5⟩;have b5:=bW.trans (hB5.mono bW.size)) | (go_at_call 173; with_reducible refine (dv2.run _).mono ?_;rintro e w6 ⟨rfl,hB6⟩;have b6:=b5.trans (hB6.mono b5.size)) | (go_at_call 170; with_reducible refine (cx.run _).mono ?_;rintro e w7 ⟨rfl,hB7⟩;have b7:=b6.trans (hB7.mono b6.size)));go_ret;exact ⟨rfl,b7⟩
  ·have hw1:IntKind.i64.wrap (sg*c)=C:=by rw [HC.o,←HC.o];rcases HSg.o with rfl | rfl <;> rcases h3 with rfl | rfl | rfl <;> rfl
   clear h3;rcases hz with hz | ⟨hz,hz2⟩
   all_goals
    go_wp2_with (first | (go_at_call 173; with_reducible refine (dv1.run _).mono ?_;rintro e w5 ⟨rfl,hB5⟩;have b5:=bW.trans (hB5.mono bW.size)) | (go_at_call 173; with_reducible refine (dv2.run _).mono ?_;rintro e w6 ⟨rfl,hB6⟩;have b6:=b5.trans (hB6.mono b5.size)) | (go_at_call 170; with_reducible refine (cx.run _).mono ?_;rintro e w7 ⟨rfl,hB7⟩;have b7:=b6.trans (hB7.mono b6.size)) | (go_at_call 215; with_reducible refine (cz1.run _).mono ?_;rintro e w8 ⟨rfl,hB8⟩;have b8:=b7.trans (hB8.mono b7.size)) | (go_at_call 215; with_reducible refine (cz2.run _).mono ?_;rintro e w9 ⟨rfl,hB9⟩;have b9:=b8.trans (hB9.mono b8.size)) | (go_at_call 170; with_reducible refine (cc.run _).mono ?_;rintro e wx ⟨rfl,hBx⟩;have bx:=b9.trans (hBx.mono b9.size)));go_ret;exact ⟨rfl,bx⟩
  ·have HN:Shut _:=⟨hn⟩;have hsg:IntKind.i64.wrap (-sg) = -sg:=by rcases HSg.o with rfl | rfl <;> rfl
   have HSg2:Shut (-sg=1 ∨ -sg = -1):=⟨by rcases HSg.o with h | h <;> omega⟩;have HC2:Shut (-sg * -c=C):=⟨by rw [Int.neg_mul_neg];exact HC.o⟩;clear h3 hn HC HSg;go_wp2_with (first | (go_at_call 173; with_reducible refine (dv1.run _).mono ?_;rintro e w5 ⟨rfl,hB5⟩;have b5:=bW.trans (hB5.mono bW.size)) | (go_at_call 173; with_reducible refine (dv2.run _).mono ?_;rintro e w6 ⟨rfl,hB6⟩;have b6:=b5.trans (hB6.mono b5.size)) | (go_at_call 170; with_reducible refine (cx.run _).mono ?_;rintro e w7 ⟨rfl,hB7⟩;have b7:=b6.trans (hB7.mono b6.size)))
   go_roundw
   case rel=>exact ⟨_,_,_,_, -c, -sg,k',rfl,rfl,rfl,rfl,rfl,HSg2,HC2,HN,⟨b7⟩⟩
   case measure=>have m1:=HM.o;have m2:=HN.o.meas;simp;omega
end Rt
end
section
namespace En
open Go.RowKit Go.Extern.Stop Go.Stop Go.Extern
open Go.Proofs.YtihlgifojjeoaaaGreatDoor.Nm Go.Proofs.YtihlgifojjeoaaaGreatDoor.Rt
open N10 (Two)
theorem Qmz {p q:Rat} (fp:FitQ p) (fq:FitQ q):Ret 177 #[rq p,rq q] (.int .i64 (cmpQ p q)):=fun W=>by
 have d1:=p.den_pos;have d2:=q.den_pos;exact Qib _ _ _ _ (cmpQ p q) _ W ⟨p.num,p.den,q.num,q.den,fp.1,fp.2,fq.1,fq.2,by omega,by omega,rfl,rfl,rfl,rfl,rfl,rfl⟩ (QbF fp) (QbF fq)
theorem Qnw (p q:Rat):cmpQ p q≤0↔p≤q:=by
 rcases Qcs p q with ⟨e,h1⟩ | ⟨e,h1⟩ | ⟨e,h1⟩
 ·rw [e];exact ⟨fun _=>Rat.le_of_lt h1,fun _=>by decide⟩
 ·rw [e,h1];exact ⟨fun _=>Rat.le_refl,fun _=>by decide⟩
 ·rw [e];exact ⟨fun h2=>absurd h2 (by decide),fun h2=>absurd h2 (Rat.not_le.2 h1)⟩
structure BQ (n d:Nat) (q:Rat):Prop where
 num:q.num.natAbs≤n
 den:q.den≤d
theorem BQ.fit {n d:Nat} {q:Rat} (h:BQ n d q) (hn:n<10^200) (hd:d<10^200):FitQ q:=⟨Qas (Nat.lt_of_le_of_lt h.num hn),Qas (by rw [Int.natAbs_natCast];exact Nat.lt_of_le_of_lt h.den hd)⟩
theorem BQ.of_div {x y:Int} {n d:Nat} (h0:y≠0) (hx:x.natAbs≤n) (hy:y.natAbs≤d):BQ n d (Rat.divInt x y):=⟨Nat.le_trans (Qok h0).1 hx,Nat.le_trans (Qok h0).2 hy⟩
theorem Qrr (q:Rat):q=Rat.divInt q.num q.den:=(Rat.num_divInt_den q).symm
theorem Qbu {x y:Int} {m n:Nat} (hx:x.natAbs≤m) (hy:y.natAbs≤n):(x*y).natAbs≤m*n:=by rw [Int.natAbs_mul];exact Nat.mul_le_mul hx hy
theorem Qcb {n d:Nat} {q:Rat} (h:BQ n d q):(q.den:Int).natAbs≤d:=by rw [Int.natAbs_natCast];exact h.den
theorem BQ.add {n1 d1 n2 d2:Nat} {p q:Rat} (hp:BQ n1 d1 p) (hq:BQ n2 d2 q):BQ (n1*d2+n2*d1) (d1*d2) (p+q):=by
 have e1:=p.den_pos;have e2:=q.den_pos;rw [Qrr p,Qrr q,Rat.divInt_add_divInt _ _ (by omega) (by omega)];refine .of_div (Int.mul_ne_zero (by omega) (by omega)) ?_ (Qbu (Qcb hp) (Qcb hq));exact Nat.le_trans (Int.natAbs_add_le _ _) (Nat.add_le_add (Qbu hp.num (Qcb hq)) (Qbu hq.num (Qcb hp)))
theorem QbP {z:Int} {n:Nat} (h:z.natAbs≤n) (hn:n<10^200):Fits z:=Qas (Nat.lt_of_le_of_lt h hn)
theorem Quy {n1 d1 n2 d2:Nat} {p q:Rat} (hp:BQ n1 d1 p) (hq:BQ n2 d2 q) (h1:n1*d2+n2*d1<10^200) (h2:d1*d2<10^200):addQ p q=some (p+q):=by
 have a:=Qbu hp.num (Qcb hq);have b:=Qbu hq.num (Qcb hp);rw [addQ,if_pos];exact ⟨QbP a (by omega),QbP b (by omega),QbP (Nat.le_trans (Int.natAbs_add_le _ _) (Nat.add_le_add a b)) h1,QbP (Qbu (Qcb hp) (Qcb hq)) h2⟩
theorem Quz {n1 d1 n2 d2:Nat} {p q:Rat} (hp:BQ n1 d1 p) (hq:BQ n2 d2 q) (h1:n1*d2+n2*d1<10^200) (h2:d1*d2<10^200):subQ p q=some (p-q):=by
 have a:=Qbu hp.num (Qcb hq);have b:=Qbu hq.num (Qcb hp);rw [subQ,if_pos];exact ⟨QbP a (by omega),QbP b (by omega),QbP (Nat.le_trans (Int.natAbs_sub_le _ _) (Nat.add_le_add a b)) h1,QbP (Qbu (Qcb hp) (Qcb hq)) h2⟩
theorem QuA {n1 d1 n2 d2:Nat} {p q:Rat} (hp:BQ n1 d1 p) (hq:BQ n2 d2 q) (h1:n1*n2<10^200) (h2:d1*d2<10^200):mulQ p q=some (p*q):=by
 rw [mulQ,if_pos ⟨QbP (Qbu hp.num hq.num) h1,QbP (Qbu (Qcb hp) (Qcb hq)) h2⟩]
theorem Qrs {o1 o2:Option Rat} (h1:FitO o1) (h2:FitO o2):Ret 241 #[vO o1,vO o2] (resO (Qbk addQ o1 o2)):=fun W=>by
 have:=Qqk (sn o1) (sd o1) (sn o2) (sd o2) h1.sizes.1 h1.sizes.2 h2.sizes.1 h2.sizes.2 W;rw [addB h1 h2] at this;exact this
theorem QuB {o1 o2:Option Rat} (h1:FitO o1) (h2:FitO o2):Ret 242 #[vO o1,vO o2] (resO (Qbk subQ o1 o2)):=fun W=>by
 have:=Qqm (sn o1) (sd o1) (sn o2) (sd o2) h1.sizes.1 h1.sizes.2 h2.sizes.1 h2.sizes.2 W;rw [subB h1 h2] at this;exact this
theorem QuC {o1 o2:Option Rat} (h1:FitO o1) (h2:FitO o2):Ret 233 #[vO o1,vO o2] (resO (Qbk mulQ o1 o2)):=fun W=>by
 have:=Qqn (sn o1) (sd o1) (sn o2) (sd o2) h1.sizes.1 h1.sizes.2 h2.sizes.1 h2.sizes.2 W;rw [mulB h1 h2] at this;exact this
end En
end
end Go.Proofs.YtihlgifojjeoaaaGreatDoor
