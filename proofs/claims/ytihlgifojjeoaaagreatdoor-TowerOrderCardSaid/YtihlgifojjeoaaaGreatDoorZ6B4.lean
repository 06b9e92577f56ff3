import Derived.Test.YtihlgifojjeoaaaGreatDoorZ6B1
set_option maxRecDepth 1000000
set_option maxHeartbeats 40000000
open Go.Value renaming string→Z
open Go.Obj renaming cells→O
namespace Go.Proofs.YtihlgifojjeoaaaGreatDoor
section
open Go.RowKit Nm

def QcC (z:Int):Value:=if Fits z then .tuple #[Z (txt z),.int .i64 0] else .tuple #[Z ⟨#[]⟩,.int .i64 30]
theorem Qav {z:Int} (h:Fits z):QcC z = .tuple #[Z (txt z),.int .i64 0]:=if_pos h
theorem QaJ {z:Int} (h:¬ Fits z):QcC z = .tuple #[Z ⟨#[]⟩,.int .i64 30]:=if_neg h
theorem QeH {z:Int} (h:(natL z.natAbs).length≤1000):(txt z).size≤1000000:=by
 have h1:=Qce (n:=z.natAbs) (t:=4*(natL z.natAbs).length) (by have:=QaI z.natAbs;rw [Nat.pow_mul];exact this);rw [←QcA,Qhh];split
 ·simp
 ·split
  ·simp;omega
  ·omega
theorem QbU {z:Int} (h:Fits z):z.natAbs<10^200:=Nat.lt_of_lt_of_le (QjF z.natAbs) (Nat.pow_le_pow_right (by decide) h)
theorem Qgh {n:Nat} (h:n<10^200*10^200):(natL n).length≤1000:=by
 have e:(10000:Nat)^50=10^200:=by rw [show (10000:Nat)=10^4 from rfl,←Nat.pow_mul]
 have:(natL n).length≤50+50:=Qat (by rw [Nat.pow_add,e];exact h);omega
theorem p200:(10:Nat)^200+10^200≤10^200*10^200:=by
 have h:2≤(10:Nat)^200:=by
  have:(10:Nat)^1≤10^200:=Nat.pow_le_pow_right (by decide) (by decide);omega
 generalize (10:Nat)^200=P at *
 have:=Nat.mul_le_mul_left P h;omega
theorem QpF {x y:Int} (hx:Fits x) (hy:Fits y):(natL (x+y).natAbs).length≤1000:=by
 have h1:=QbU hx;have h2:=QbU hy;refine Qgh (Nat.lt_of_lt_of_le ?_ p200);generalize (10:Nat)^200=P at *
 omega
theorem QpG {x y:Int} (hx:Fits x) (hy:Fits y):(natL (x-y).natAbs).length≤1000:=by
 have h1:=QbU hx;have h2:=QbU hy;refine Qgh (Nat.lt_of_lt_of_le ?_ p200);generalize (10:Nat)^200=P at *
 omega
theorem QpH {x y:Int} (hx:Fits x) (hy:Fits y):(natL (x*y).natAbs).length≤1000:=by
 have h1:=QbU hx;have h2:=QbU hy;refine Qgh ?_;rw [Int.natAbs_mul];have hp:0<(10:Nat)^200:=Nat.pow_pos (by decide);generalize (10:Nat)^200=P at *
 calc x.natAbs*y.natAbs≤x.natAbs*P:=Nat.mul_le_mul_left _ (by omega)
  _<P*P:=Nat.mul_lt_mul_of_pos_right h1 hp

theorem QlS (x y:Int) (hx:Fits x) (hy:Fits y) (w:World) :
  Calls Tryz.prog 112 #[Z (txt x),Z (txt y),.func (Fn.func 168) #[] #[]] w fun e w'=>e = .returned (QcC (x+y))∧Below w.heap.size w w':=by
 have hlx:=Qbx hx;have hly:=Qbx hy;have hsx:=Qbm hx;have hsy:=Qbm hy;have cp:=fun W=>QaW (txt x) (txt y) (by omega) (by omega) W;rw [Qax x hx,Qax y hy,Bool.true_and] at cp;have hle:(natL (x+y).natAbs).length≤1000:=QpF hx hy;have ct:=fun (r:Value) (W:World) (h:IsN W r (x+y))=>QcT (x+y) r W h hle;have cv:=fun W=>Qdf (txt (x+y)) (QeH hle) W;rw [QeE] at cv;have HX:Shut _:=⟨And.intro hx hy⟩;have co:=fun (u v:Value) (W:World) (h1:IsN W u x) (h2:IsN W v y)=>Qgc x y u v W h1 h2 (by omega) (by omega);generalize hex:txt x=sx at *
 generalize hey:txt y=sy at *
 have HEX:Shut _:=⟨And.intro hex hey⟩;clear hex hey hx hy;go_enter Tryz.func112, Tryz.ntmps112;go_upto_region 2 with (go_at_call 114; refine (cp _).mono ?_;rintro e w1 ⟨b,p,n,c,b',p',n',c',rfl,hz1,hz2,hB1⟩)
 have hi1:=hz1 x HEX.o.1.symm HX.o.1;have hi2:=hz2 y HEX.o.2.symm HX.o.2;have hB2:Below w1.heap.size w1 ((w1.alloc (O #[.bool b,.slice p n c] 130)).alloc (O #[.bool b',.slice p' n' c'] 130)):=((Below.refl _ w1).alloc Lr _).alloc (by rw [World.size_alloc];omega) _;have hj1:=hi1.below hB2 Lr;have hj2:=hi2.below hB2 Lr;clear hz1 hz2 hi1 hi2;have HJ:Shut _:=⟨And.intro hj1 hj2⟩;clear hj1 hj2;by_cases hf:Fits (x+y)
 ·have HF:Shut _:=⟨hf⟩;rw [decide_eq_true hf] at cv;clear hf;go_wp2_with (first | (go_at_call 168; refine (co _ _ _ HJ.o.1 HJ.o.2).mono ?_;rintro e w2 ⟨r2,rfl,hr2,hB3⟩) | (go_at_call 118; refine (ct _ _ hr2).mono ?_;rintro e w3 ⟨rfl,hB4⟩) | (go_at_call 149; refine (cv _).mono ?_;rintro e w4 ⟨rfl,m4,rfl⟩))
  go_ret2
  have h5:=hB2.trans ((hB3.trans (hB4.mono hB3.size)).mono hB2.size);exact ⟨by rw [Qav HF.o];rfl,Qag (hB1.trans (h5.mono hB1.size)) m4⟩
 ·have HF:Shut _:=⟨hf⟩;rw [decide_eq_false hf] at cv;clear hf;go_wp2_with (first | (go_at_call 168; refine (co _ _ _ HJ.o.1 HJ.o.2).mono ?_;rintro e w2 ⟨r2,rfl,hr2,hB3⟩) | (go_at_call 118; refine (ct _ _ hr2).mono ?_;rintro e w3 ⟨rfl,hB4⟩) | (go_at_call 149; refine (cv _).mono ?_;rintro e w4 ⟨rfl,m4,rfl⟩))
  go_ret2
  have h5:=hB2.trans ((hB3.trans (hB4.mono hB3.size)).mono hB2.size);exact ⟨by rw [QaJ HF.o];rfl,Qag (hB1.trans (h5.mono hB1.size)) m4⟩
theorem QlT (x y:Int) (hx:Fits x) (hy:Fits y) (w:World) :
  Calls Tryz.prog 112 #[Z (txt x),Z (txt y),.func (Fn.func 185) #[] #[]] w fun e w'=>e = .returned (QcC (x-y))∧Below w.heap.size w w':=by
 have hlx:=Qbx hx;have hly:=Qbx hy;have hsx:=Qbm hx;have hsy:=Qbm hy;have cp:=fun W=>QaW (txt x) (txt y) (by omega) (by omega) W;rw [Qax x hx,Qax y hy,Bool.true_and] at cp;have hle:(natL (x-y).natAbs).length≤1000:=QpG hx hy;have ct:=fun (r:Value) (W:World) (h:IsN W r (x-y))=>QcT (x-y) r W h hle;have cv:=fun W=>Qdf (txt (x-y)) (QeH hle) W;rw [QeE] at cv;have HX:Shut _:=⟨And.intro hx hy⟩;have co:=fun (u v:Value) (W:World) (h1:IsN W u x) (h2:IsN W v y)=>QiG x y u v W h1 h2 (by omega) (by omega);generalize hex:txt x=sx at *
 generalize hey:txt y=sy at *
 have HEX:Shut _:=⟨And.intro hex hey⟩;clear hex hey hx hy;go_enter Tryz.func112, Tryz.ntmps112;go_upto_region 2 with (go_at_call 114; refine (cp _).mono ?_;rintro e w1 ⟨b,p,n,c,b',p',n',c',rfl,hz1,hz2,hB1⟩)
 have hi1:=hz1 x HEX.o.1.symm HX.o.1;have hi2:=hz2 y HEX.o.2.symm HX.o.2;have hB2:Below w1.heap.size w1 ((w1.alloc (O #[.bool b,.slice p n c] 130)).alloc (O #[.bool b',.slice p' n' c'] 130)):=((Below.refl _ w1).alloc Lr _).alloc (by rw [World.size_alloc];omega) _;have hj1:=hi1.below hB2 Lr;have hj2:=hi2.below hB2 Lr;clear hz1 hz2 hi1 hi2;have HJ:Shut _:=⟨And.intro hj1 hj2⟩;clear hj1 hj2;by_cases hf:Fits (x-y)
 ·have HF:Shut _:=⟨hf⟩;rw [decide_eq_true hf] at cv;clear hf;go_wp2_with (first | (go_at_call 185; refine (co _ _ _ HJ.o.1 HJ.o.2).mono ?_;rintro e w2 ⟨r2,rfl,hr2,hB3⟩) | (go_at_call 118; refine (ct _ _ hr2).mono ?_;rintro e w3 ⟨rfl,hB4⟩) | (go_at_call 149; refine (cv _).mono ?_;rintro e w4 ⟨rfl,m4,rfl⟩))
  go_ret2
  have h5:=hB2.trans ((hB3.trans (hB4.mono hB3.size)).mono hB2.size);exact ⟨by rw [Qav HF.o];rfl,Qag (hB1.trans (h5.mono hB1.size)) m4⟩
 ·have HF:Shut _:=⟨hf⟩;rw [decide_eq_false hf] at cv;clear hf;go_wp2_with (first | (go_at_call 185; refine (co _ _ _ HJ.o.1 HJ.o.2).mono ?_;rintro e w2 ⟨r2,rfl,hr2,hB3⟩) | (go_at_call 118; refine (ct _ _ hr2).mono ?_;rintro e w3 ⟨rfl,hB4⟩) | (go_at_call 149; refine (cv _).mono ?_;rintro e w4 ⟨rfl,m4,rfl⟩))
  go_ret2
  have h5:=hB2.trans ((hB3.trans (hB4.mono hB3.size)).mono hB2.size);exact ⟨by rw [QaJ HF.o];rfl,Qag (hB1.trans (h5.mono hB1.size)) m4⟩

theorem QlU (x y:Int) (hx:Fits x) (hy:Fits y) (w:World) :
  Calls Tryz.prog 112 #[Z (txt x),Z (txt y),.func (Fn.func 113) #[] #[]] w fun e w'=>e = .returned (QcC (x*y))∧Below w.heap.size w w':=by
 have hlx:=Qbx hx;have hly:=Qbx hy;have hsx:=Qbm hx;have hsy:=Qbm hy;have cp:=fun W=>QaW (txt x) (txt y) (by omega) (by omega) W;rw [Qax x hx,Qax y hy,Bool.true_and] at cp;have hle:(natL (x*y).natAbs).length≤1000:=QpH hx hy;have ct:=fun (r:Value) (W:World) (h:IsN W r (x*y))=>QcT (x*y) r W h hle;have cv:=fun W=>Qdf (txt (x*y)) (QeH hle) W;rw [QeE] at cv;have HX:Shut _:=⟨And.intro hx hy⟩;have co:=fun (u v:Value) (W:World) (h1:IsN W u x) (h2:IsN W v y)=>QiF x y u v W h1 h2 (by omega) (by omega);generalize hex:txt x=sx at *
 generalize hey:txt y=sy at *
 have HEX:Shut _:=⟨And.intro hex hey⟩;clear hex hey hx hy;go_enter Tryz.func112, Tryz.ntmps112;go_upto_region 2 with (go_at_call 114; refine (cp _).mono ?_;rintro e w1 ⟨b,p,n,c,b',p',n',c',rfl,hz1,hz2,hB1⟩)
 have hi1:=hz1 x HEX.o.1.symm HX.o.1;have hi2:=hz2 y HEX.o.2.symm HX.o.2;have hB2:Below w1.heap.size w1 ((w1.alloc (O #[.bool b,.slice p n c] 130)).alloc (O #[.bool b',.slice p' n' c'] 130)):=((Below.refl _ w1).alloc Lr _).alloc (by rw [World.size_alloc];omega) _;have hj1:=hi1.below hB2 Lr;have hj2:=hi2.below hB2 Lr;clear hz1 hz2 hi1 hi2;have HJ:Shut _:=⟨And.intro hj1 hj2⟩;clear hj1 hj2;by_cases hf:Fits (x*y)
 ·have HF:Shut _:=⟨hf⟩;rw [decide_eq_true hf] at cv;clear hf;go_wp2_with (first | (go_at_call 113; refine (co _ _ _ HJ.o.1 HJ.o.2).mono ?_;rintro e w2 ⟨r2,rfl,hr2,hB3⟩) | (go_at_call 118; refine (ct _ _ hr2).mono ?_;rintro e w3 ⟨rfl,hB4⟩) | (go_at_call 149; refine (cv _).mono ?_;rintro e w4 ⟨rfl,m4,rfl⟩))
  go_ret2
  have h5:=hB2.trans ((hB3.trans (hB4.mono hB3.size)).mono hB2.size);exact ⟨by rw [Qav HF.o];rfl,Qag (hB1.trans (h5.mono hB1.size)) m4⟩
 ·have HF:Shut _:=⟨hf⟩;rw [decide_eq_false hf] at cv;clear hf;go_wp2_with (first | (go_at_call 113; refine (co _ _ _ HJ.o.1 HJ.o.2).mono ?_;rintro e w2 ⟨r2,rfl,hr2,hB3⟩) | (go_at_call 118; refine (ct _ _ hr2).mono ?_;rintro e w3 ⟨rfl,hB4⟩) | (go_at_call 149; refine (cv _).mono ?_;rintro e w4 ⟨rfl,m4,rfl⟩))
  go_ret2
  have h5:=hB2.trans ((hB3.trans (hB4.mono hB3.size)).mono hB2.size);exact ⟨by rw [QaJ HF.o];rfl,Qag (hB1.trans (h5.mono hB1.size)) m4⟩

theorem QfG (s t:ByteArray) (hs:s.size≤1000000) (ht:t.size≤1000000) (h:(Qap s && Qap t)=false) (f:Value) (w:World) :
  Calls Tryz.prog 112 #[Z s,Z t,f] w fun e w'=>e = .returned (.tuple #[Z ⟨#[]⟩,.int .i64 30])∧Below w.heap.size w w':=by
 have cp:=fun W=>QaW s t hs ht W;rw [h] at cp;go_enter Tryz.func112, Tryz.ntmps112;go_wp2_with (go_at_call 114; refine (cp _).mono ?_;rintro e w1 ⟨b,p,n,c,b',p',n',c',rfl,hz1,hz2,hB1⟩)
 go_ret2
 exact ⟨rfl,(hB1.alloc hB1.size _).alloc (by rw [World.size_alloc];have:=hB1.size;omega) _⟩

theorem Qre (x y:Int) (hx:Fits x) (hy:Fits y) (w:World) :
  Calls Tryz.prog 131 #[Z (txt x),Z (txt y)] w fun e w'=>e = .returned (QcC (x+y))∧Below w.heap.size w w':=by
 have cc:=QlS x y hx hy w;generalize txt x=sx at *
 generalize txt y=sy at *
 by_cases hf:Fits (x+y)
 ·have HF:Shut _:=⟨Qav hf⟩;rw [Qav hf] at cc;clear hf;go_enter Tryz.func131, Tryz.ntmps131;go_wp2_with (go_at_call 112; refine cc.mono ?_;rintro e w1 ⟨rfl,hB1⟩)
  go_ret2
  exact ⟨by rw [HF.o];rfl,hB1⟩
 ·have HF:Shut _:=⟨QaJ hf⟩;rw [QaJ hf] at cc;clear hf;go_enter Tryz.func131, Tryz.ntmps131;go_wp2_with (go_at_call 112; refine cc.mono ?_;rintro e w1 ⟨rfl,hB1⟩)
  go_ret2
  exact ⟨by rw [HF.o];rfl,hB1⟩
theorem Qny (s t:ByteArray) (hs:s.size≤1000000) (ht:t.size≤1000000) (h:(Qap s && Qap t)=false) (w:World) :
  Calls Tryz.prog 131 #[Z s,Z t] w fun e w'=>e = .returned (.tuple #[Z ⟨#[]⟩,.int .i64 30])∧Below w.heap.size w w':=by
 have cc:=fun f=>QfG s t hs ht h f w;go_enter Tryz.func131, Tryz.ntmps131;go_wp2_with (go_at_call 112; refine (cc _).mono ?_;rintro e w1 ⟨rfl,hB1⟩)
 go_ret2
 exact ⟨rfl,hB1⟩

theorem QtY (x y:Int) (hx:Fits x) (hy:Fits y) (w:World) :
  Calls Tryz.prog 145 #[Z (txt x),Z (txt y)] w fun e w'=>e = .returned (QcC (x-y))∧Below w.heap.size w w':=by
 have cc:=QlT x y hx hy w;generalize txt x=sx at *
 generalize txt y=sy at *
 by_cases hf:Fits (x-y)
 ·have HF:Shut _:=⟨Qav hf⟩;rw [Qav hf] at cc;clear hf;go_enter Tryz.func145, Tryz.ntmps145;go_wp2_with (go_at_call 112; refine cc.mono ?_;rintro e w1 ⟨rfl,hB1⟩)
  go_ret2
  exact ⟨by rw [HF.o];rfl,hB1⟩
 ·have HF:Shut _:=⟨QaJ hf⟩;rw [QaJ hf] at cc;clear hf;go_enter Tryz.func145, Tryz.ntmps145;go_wp2_with (go_at_call 112; refine cc.mono ?_;rintro e w1 ⟨rfl,hB1⟩)
  go_ret2
  exact ⟨by rw [HF.o];rfl,hB1⟩
theorem Qnz (s t:ByteArray) (hs:s.size≤1000000) (ht:t.size≤1000000) (h:(Qap s && Qap t)=false) (w:World) :
  Calls Tryz.prog 145 #[Z s,Z t] w fun e w'=>e = .returned (.tuple #[Z ⟨#[]⟩,.int .i64 30])∧Below w.heap.size w w':=by
 have cc:=fun f=>QfG s t hs ht h f w;go_enter Tryz.func145, Tryz.ntmps145;go_wp2_with (go_at_call 112; refine (cc _).mono ?_;rintro e w1 ⟨rfl,hB1⟩)
 go_ret2
 exact ⟨rfl,hB1⟩

theorem QdF (x y:Int) (hx:Fits x) (hy:Fits y) (w:World) :
  Calls Tryz.prog 66 #[Z (txt x),Z (txt y)] w fun e w'=>e = .returned (QcC (x*y))∧Below w.heap.size w w':=by
 have cc:=QlU x y hx hy w;generalize txt x=sx at *
 generalize txt y=sy at *
 by_cases hf:Fits (x*y)
 ·have HF:Shut _:=⟨Qav hf⟩;rw [Qav hf] at cc;clear hf;go_enter Tryz.func66, Tryz.ntmps66;go_wp2_with (go_at_call 112; refine cc.mono ?_;rintro e w1 ⟨rfl,hB1⟩)
  go_ret2
  exact ⟨by rw [HF.o];rfl,hB1⟩
 ·have HF:Shut _:=⟨QaJ hf⟩;rw [QaJ hf] at cc;clear hf;go_enter Tryz.func66, Tryz.ntmps66;go_wp2_with (go_at_call 112; refine cc.mono ?_;rintro e w1 ⟨rfl,hB1⟩)
  go_ret2
  exact ⟨by rw [HF.o];rfl,hB1⟩
theorem QnA (s t:ByteArray) (hs:s.size≤1000000) (ht:t.size≤1000000) (h:(Qap s && Qap t)=false) (w:World) :
  Calls Tryz.prog 66 #[Z s,Z t] w fun e w'=>e = .returned (.tuple #[Z ⟨#[]⟩,.int .i64 30])∧Below w.heap.size w w':=by
 have cc:=fun f=>QfG s t hs ht h f w;go_enter Tryz.func66, Tryz.ntmps66;go_wp2_with (go_at_call 112; refine (cc _).mono ?_;rintro e w1 ⟨rfl,hB1⟩)
 go_ret2
 exact ⟨rfl,hB1⟩

theorem QdZ (x y:Int) (hx:Fits x) (hy:Fits y) (w:World) :
  Calls Tryz.prog 67 #[Z (txt x),Z (txt y)] w fun e w'=>e = .returned (.int .i64 (cmpZ x y))∧Below w.heap.size w w':=by
 have hlx:=Qbx hx;have hly:=Qbx hy;have hsx:=Qbm hx;have hsy:=Qbm hy;have cp:=fun W=>QaW (txt x) (txt y) (by omega) (by omega) W;rw [Qax x hx,Qax y hy,Bool.true_and] at cp;have HX:Shut _:=⟨And.intro hx hy⟩;have co:=fun (u v:Value) (W:World) (h1:IsN W u x) (h2:IsN W v y)=>QgY x y u v W h1 h2 (by omega) (by omega);generalize hex:txt x=sx at *
 generalize hey:txt y=sy at *
 have HEX:Shut _:=⟨And.intro hex hey⟩;clear hex hey hx hy;go_enter Tryz.func67, Tryz.ntmps67;go_upto_region 2 with (go_at_call 114; refine (cp _).mono ?_;rintro e w1 ⟨b,p,n,c,b',p',n',c',rfl,hz1,hz2,hB1⟩)
 have hi1:=hz1 x HEX.o.1.symm HX.o.1;have hi2:=hz2 y HEX.o.2.symm HX.o.2;have hB2:Below w1.heap.size w1 ((w1.alloc (O #[.bool b,.slice p n c] 130)).alloc (O #[.bool b',.slice p' n' c'] 130)):=((Below.refl _ w1).alloc Lr _).alloc (by rw [World.size_alloc];omega) _;have hj1:=hi1.below hB2 Lr;have hj2:=hi2.below hB2 Lr;clear hz1 hz2 hi1 hi2;have HJ:Shut _:=⟨And.intro hj1 hj2⟩;clear hj1 hj2;go_wp2_with (go_at_call 115; refine (co _ _ _ HJ.o.1 HJ.o.2).mono ?_;rintro e w2 ⟨rfl,hB3⟩);go_ret;have h5:=hB2.trans (hB3.mono hB2.size);exact ⟨rfl,hB1.trans (h5.mono hB1.size)⟩
theorem Qgi (s t:ByteArray) (hs:s.size≤1000000) (ht:t.size≤1000000) (h:(Qap s && Qap t)=false) (w:World) :
  Calls Tryz.prog 67 #[Z s,Z t] w fun e w'=>e = .returned (.int .i64 0)∧Below w.heap.size w w':=by
 have cp:=fun W=>QaW s t hs ht W;rw [h] at cp;go_enter Tryz.func67, Tryz.ntmps67;go_wp2_with (go_at_call 114; refine (cp _).mono ?_;rintro e w1 ⟨b,p,n,c,b',p',n',c',rfl,hz1,hz2,hB1⟩);go_ret;exact ⟨rfl,(hB1.alloc hB1.size _).alloc (by rw [World.size_alloc];have:=hB1.size;omega) _⟩
theorem IsN.of {W:World} {B:Nat} {v:Value} {z:Int} (h:OwnU W B v (natL z.natAbs)):∃ (p:Option Addr) (cap:Nat),v = .slice p (natL z.natAbs).length cap∧IsN W (.agg #[.bool (decide (z<0)),v]) z:=by
 obtain ⟨p,cap,rfl,hn⟩:=h.na.out;exact ⟨p,cap,rfl,p,cap,rfl,hn⟩
theorem QnB (x:Int):IntKind.u64.wrap x=x % 18446744073709551616:=by simp [IntKind.wrap,IntKind.signed,IntKind.bits]
theorem QpI {n:Nat} (h:n<18446744073709551616):(natL n).length≤5:=Qat (by omega)

theorem Qgj (n:Int) (h1 : -9223372036854775808≤n) (h2:n≤9223372036854775807) (w:World) :
  Calls Tryz.prog 106 #[.int .i64 n] w fun e w'=>e = .returned (Z (txt n))∧Below w.heap.size w w':=by
 have hn:n.natAbs<18446744073709551616:=by omega
 have hl:=QpI hn;have co:=fun W=>QdU n.natAbs hn W;have ct:=fun (u:Value) (W:World) (h:IsN W u n)=>QcT n u W h (by omega);obtain ⟨s,hs⟩:∃ s,s=txt n:=⟨_,rfl⟩;rw [←hs] at ct ⊢;clear hs;by_cases h0:n<0
 ·have hd:decide (n<0)=true:=decide_eq_true h0;have ha:((n.natAbs:Nat):Int)=IntKind.u64.wrap (-IntKind.u64.wrap n):=by rw [QnB,QnB];omega
  have HI:Shut (∀ (W:World) (B:Nat) (v:Value),OwnU W B v (natL n.natAbs)→∃ (p:Option Addr) (cap:Nat),v = .slice p (natL n.natAbs).length cap∧IsN W (.agg #[.bool true,v]) n):=⟨fun W B v h=>by have:=IsN.of h;rwa [hd] at this⟩;rw [ha] at co;go_enter Tryz.func106, Tryz.ntmps106;clear hd ha hl;go_wp2_with (first | (go_at_call 146; refine (co _).mono ?_;rintro e w1 ⟨v1,rfl,hO1,hB1⟩;obtain ⟨p,cap,rfl,hI⟩:=HI.o _ _ _ hO1) | (go_at_call 118; refine (ct _ _ hI).mono ?_;rintro e w2 ⟨rfl,hB2⟩));go_ret;exact ⟨rfl,hB1.trans (hB2.mono hB1.size)⟩
 ·have hd:decide (n<0)=false:=decide_eq_false h0;obtain ⟨k,rfl⟩:=Int.eq_ofNat_of_zero_le (show 0≤n by omega);rw [Int.natAbs_natCast] at co;have HI:Shut (∀ (W:World) (B:Nat) (v:Value),OwnU W B v (natL k)→∃ (p:Option Addr) (cap:Nat),v = .slice p (natL k).length cap∧IsN W (.agg #[.bool false,v]) (k:Int)):=⟨fun W B v h=>by have:=IsN.of (z:=(k:Int)) (by rw [Int.natAbs_natCast];exact h);rwa [hd,Int.natAbs_natCast] at this⟩;have hk:k<18446744073709551616:=by omega
  go_enter Tryz.func106, Tryz.ntmps106;clear hd hl hn;go_wp2_with (first | (go_at_call 146; refine (co _).mono ?_;rintro e w1 ⟨v1,rfl,hO1,hB1⟩;obtain ⟨p,cap,rfl,hI⟩:=HI.o _ _ _ hO1) | (go_at_call 118; refine (ct _ _ hI).mono ?_;rintro e w2 ⟨rfl,hB2⟩));go_ret;exact ⟨rfl,hB1.trans (hB2.mono hB1.size)⟩
end
end Go.Proofs.YtihlgifojjeoaaaGreatDoor
