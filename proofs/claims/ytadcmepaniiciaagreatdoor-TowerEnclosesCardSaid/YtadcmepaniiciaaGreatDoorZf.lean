import Derived.Test.YtadcmepaniiciaaGreatDoorZe
set_option maxRecDepth 1000000
set_option maxHeartbeats 40000000
open Go.Value renaming string→Z
open Go.Obj renaming cells→O
namespace Go.Proofs.YtadcmepaniiciaaGreatDoor
namespace Rt
open Go.RowKit Go.Proofs.YtadcmepaniiciaaGreatDoor.Nm
open N10 (Two)
theorem QkP (x y:Int) (hx:Fits x) (hy:Fits y):∃ (l:ByteArray) (e:Int),Two 66 #[Z (txt x),Z (txt y)] (.tuple #[Z l,.int .i64 e])∧((Fits (x*y)∧l=txt (x*y)∧e=0)∨(¬ Fits (x*y)∧e=30)):=by
 by_cases h:Fits (x*y)
 ·exact ⟨_,_,fun W=>Qav h▸QdF x y hx hy W,.inl ⟨h,rfl,rfl⟩⟩
 ·exact ⟨_,_,fun W=>QaJ h▸QdF x y hx hy W,.inr ⟨h,rfl⟩⟩
theorem Qhk {n1 d1 n2 d2:Int} (h1:0<d1) (h2:0<d2) (hne:n1 / d1≠n2 / d2):cmpZ (n1*d2) (n2*d1)=cmpZ (n1 / d1) (n2 / d2):=by
 have key:∀ {n1 d1 n2 d2:Int},0<d1→0<d2→n1 / d1<n2 / d2→n1*d2<n2*d1:=by
  intro n1 d1 n2 d2 h1 h2 hlt;have a1:n1<(n1 / d1+1)*d1:=Int.lt_ediv_add_one_mul_self n1 h1;have a2:n2 / d2*d2≤n2:=Int.ediv_mul_le n2 (by omega);have b1:n1*d2<(n1 / d1+1)*d1*d2:=Int.mul_lt_mul_of_pos_right a1 h2;have b2:n2 / d2*d2*d1≤n2*d1:=Int.mul_le_mul_of_nonneg_right a2 (by omega);have b3:(n1 / d1+1)*(d1*d2)≤n2 / d2*(d1*d2):=Int.mul_le_mul_of_nonneg_right (by omega) (Int.le_of_lt (Int.mul_pos h1 h2));have e1:(n1 / d1+1)*d1*d2=(n1 / d1+1)*(d1*d2):=Int.mul_assoc _ _ _;have e2:n2 / d2*d2*d1=n2 / d2*(d1*d2):=by rw [Int.mul_assoc,Int.mul_comm d2]
  omega
 unfold cmpZ;rcases Int.lt_trichotomy (n1 / d1) (n2 / d2) with h | h | h
 ·rw [if_pos h,if_pos (key h1 h2 h)]
 ·exact absurd h hne
 ·have:=key h2 h1 h;rw [if_neg (by omega),if_neg (by omega),if_neg (by omega),if_neg (by omega)]
theorem QiU {n1 d1 n2 d2:Int} (he:n1 / d1=n2 / d2):cmpZ (n1*d2) (n2*d1)=cmpZ (d2*(n1 % d1)) (d1*(n2 % d2)):=by
 have e1:=Int.mul_ediv_add_emod n1 d1;have e2:=Int.mul_ediv_add_emod n2 d2;rw [←he] at e2;generalize n1 / d1=k at *
 generalize n1 % d1=a at *
 generalize n2 % d2=b at *
 have x1:n1*d2=d1*k*d2+d2*a:=by rw [←e1,Int.add_mul,Int.mul_comm a]
 have x2:n2*d1=d1*k*d2+d1*b:=by rw [←e2,Int.add_mul,Int.mul_comm b,Int.mul_comm (d2*k),Int.mul_comm d2,←Int.mul_assoc]
 rw [x1,x2];unfold cmpZ;generalize d1*k*d2=g;generalize d2*a=x;generalize d1*b=y;by_cases h:x<y
 ·rw [if_pos h,if_pos (by omega)]
 ·by_cases h2:x=y
  ·rw [if_neg h,if_pos h2,if_neg (by omega),if_pos (by omega)]
  ·rw [if_neg h,if_neg h2,if_neg (by omega),if_neg (by omega)]
theorem QiV {a b d1 d2:Int} (h1:0<d1) (h2:0<d2) (ha:0≤a) (hb:0≤b) (h:a=0∨b=0):cmpZ (d2*a) (d1*b)=cmpZ a b:=by
 have p1:0<a→0<d2*a:=fun h=>Int.mul_pos h2 h;have p2:0<b→0<d1*b:=fun h=>Int.mul_pos h1 h;have z1:a=0→d2*a=0:=fun h=>by rw [h,Int.mul_zero]
 have z2:b=0→d1*b=0:=fun h=>by rw [h,Int.mul_zero]
 generalize d2*a=x at *
 generalize d1*b=y at *
 unfold cmpZ;rcases h with h | h
 ·have:=z1 h;by_cases hb0:b=0
  ·have:=z2 hb0;rw [if_neg (by omega),if_pos (by omega),if_neg (by omega),if_pos (by omega)]
  ·have:=p2 (by omega);rw [if_pos (by omega),if_pos (by omega)]
 ·have:=z2 h;by_cases ha0:a=0
  ·have:=z1 ha0;rw [if_neg (by omega),if_pos (by omega),if_neg (by omega),if_pos (by omega)]
  ·have:=p1 (by omega);rw [if_neg (by omega),if_neg (by omega),if_neg (by omega),if_neg (by omega)]
structure CmS (c:Int) (k:Nat) (s t u v:ByteArray):Prop where
 ex:∃ n1 d1 n2 d2:Int,Fits n1∧Fits d1∧Fits n2∧Fits d2∧0<d1∧0<d2∧cmpZ (n1*d2) (n2*d1)=c∧k=d1.toNat+d2.toNat∧s=txt n1∧t=txt d1∧u=txt n2∧v=txt d2
def QiW (o:Option Value):Nat:=match o with
 | some (Z s)=>(decN (dvl (bl s))).length*0+dvl (bl s)
 | _=>0
def meas (b:Nat) (W:World):Nat:=QiW (W.cell? ⟨b,1,none⟩)+QiW (W.cell? ⟨b+1,1,none⟩)
theorem QeR {d:Int} (h:0<d):QiW (some (Z (txt d)))=d.toNat:=by
 have:=(N10.Qmo d (by omega)).2.1;simp only [QiW];omega
theorem Qoj {b:Nat} {W:World} {s t u v:ByteArray} {c:Int} {k:Nat} (h:AB b W s t u v) (hs:CmS c k s t u v):meas b W=k:=by
 obtain ⟨n1,d1,n2,d2, -, -, -, -,p1,p2, -,hk, -,rfl, -,rfl⟩:=hs.ex;obtain ⟨-,c1, -,c3⟩:=h.cells;rw [meas,c1,c3,QeR p1,QeR p2,hk]
theorem QhZ {c : Int} {k : Nat} {s t u v : ByteArray} (h : CmS c k s t u v) : ∃ (l r : ByteArray) (e1 e2 : Int),
    Two 66 #[Z s, Z v] (.tuple #[Z l, .int .i64 e1]) ∧ Two 66 #[Z u, Z t] (.tuple #[Z r, .int .i64 e2]) ∧
    ((e1 = 0 ∧ e2 = 0 ∧ Two 67 #[Z l, Z r] (.int .i64 c)) ∨
     ((e1 = 30 ∨ (e1 = 0 ∧ e2 = 30)) ∧ ∃ q1 r1 q2 r2 : ByteArray, Two 68 #[Z s, Z t] (.tuple #[Z q1, Z r1, .int .i64 0]) ∧ Two 68 #[Z u, Z v] (.tuple #[Z q2, Z r2, .int .i64 0]) ∧
       (((q1.toList == q2.toList) = false ∧ Two 67 #[Z q1, Z q2] (.int .i64 c)) ∨
        (q1 = q2 ∧ ((r1.toList == [48]) = true ∨ ((r1.toList == [48]) = false ∧ (r2.toList == [48]) = true)) ∧ Two 67 #[Z r1, Z r2] (.int .i64 c)) ∨
        (q1 = q2 ∧ (r1.toList == [48]) = false ∧ (r2.toList == [48]) = false ∧ ∃ k' : Nat, k' < k ∧ CmS c k' v r2 t r1)))) := by
  obtain ⟨n1, d1, n2, d2, f1, f2, f3, f4, p1, p2, hc, hk, rfl, rfl, rfl, rfl⟩ := h.ex;obtain ⟨l, e1, m1, o1⟩ := QkP n1 d2 f1 f4;obtain ⟨r, e2, m2, o2⟩ := QkP n2 d1 f3 f2;refine ⟨l, r, e1, e2, m1, m2, ?_⟩;by_cases hb : Fits (n1 * d2) ∧ Fits (n2 * d1)
  · rcases o1 with ⟨g1, rfl, rfl⟩ | ⟨g1, rfl⟩
    · rcases o2 with ⟨g2, rfl, rfl⟩ | ⟨g2, rfl⟩
      · refine .inl ⟨rfl, rfl, fun W => ?_⟩
        have := QdZ _ _ g1 g2 W;rw [hc] at this;exact this
      · exact absurd hb.2 g2
    · exact absurd hb.1 g1
  · refine .inr ⟨?_, txt (n1 / d1), txt (n1 % d1), txt (n2 / d2), txt (n2 % d2), fun W => QiI _ _ f1 f2 (by omega) W, fun W => QiI _ _ f3 f4 (by omega) W, ?_⟩
    · rcases o1 with ⟨g1, -, rfl⟩ | ⟨g1, rfl⟩
      · rcases o2 with ⟨g2, -, rfl⟩ | ⟨g2, rfl⟩
        · exact absurd ⟨g1, g2⟩ hb
        · exact .inr ⟨rfl, rfl⟩
      · exact .inl rfl
    have g1 := Int.emod_nonneg n1 (show d1 ≠ 0 by omega);have g2 := Int.emod_nonneg n2 (show d2 ≠ 0 by omega);have l1 := Int.emod_lt_of_pos n1 p1;have l2 := Int.emod_lt_of_pos n2 p2;have fr1 : Fits (n1 % d1) := QbI f2 (by omega);have fr2 : Fits (n2 % d2) := QbI f4 (by omega);by_cases hq : n1 / d1 = n2 / d2
    · have hr := QiU hq
      by_cases hz : n1 % d1 = 0 ∨ n2 % d2 = 0
      · refine .inr (.inl ⟨by rw [hq], ?_, fun W => ?_⟩)
        · rw [QbN, QbN]
          by_cases h0 : n1 % d1 = 0
          · exact .inl (by simpa using h0)
          · exact .inr ⟨by simpa using h0, by simpa using hz.resolve_left h0⟩
        · have := QdZ (n1 % d1) (n2 % d2) fr1 fr2 W
          rw [← QiV p1 p2 g1 g2 hz, ← hr, hc] at this;exact this
      · refine .inr (.inr ⟨by rw [hq], ?_, ?_, (n2 % d2).toNat + (n1 % d1).toNat, by omega, ⟨d2, n2 % d2, d1, n1 % d1, f4, fr2, f2, fr1, by omega, by omega, by rw [← hr, hc], rfl, rfl, rfl, rfl, rfl⟩⟩)
        · rw [QbN]; simp; omega
        · rw [QbN]; simp; omega
    · refine .inl ⟨?_, fun W => ?_⟩
      · rw [QcU]; exact decide_eq_false fun e => hq (Qcv e)
      · have := QdZ (n1 / d1) (n2 / d2) (QaX f1) (QaX f3) W
        rw [← Qhk p1 p2 hq, hc] at this;exact this
def CmJ (b:Nat) (w:World) (c:Int) (s0 t0 u0 v0:ByteArray) (a:Act) (W:World):Prop :=
 ∃ (s t u v:ByteArray) (k:Nat),Shut (CmS c k s t u v)∧Shut (AB b W s t u v)∧Shut (Below w.heap.size w W)∧∃ y5 y6 y7 y8 y9 y10 y11 y12 y13 y14 y15 y16 y17 y18 y19 y20 y21 y22 y23 y24 y25 y26 y27 y28 y29 y30 y31 y32 y33 y34 y35 y36 y37 y38 y39 y40 y41 y42 y43 y44 y45 y46 y47 y48 y49 y50 y51 y52 y53 y54 y55 y56 y57 y58 y59 y60 y61 y62 y63 y64 y65 y66 y67 y68 y69 y70 y71 y72 y73 y74 y75 y76 y77 y78 y79 y80 y81 y82 y83 y84 y85 y86 y87 y88 y89 y90 y91 y92 y93:Value,a=⟨#[.agg #[Z s0,Z t0],.agg #[Z u0,Z v0],.pointer (some ⟨b,0,none⟩),.pointer (some ⟨b+1,0,none⟩),.int .i64 0,y5,y6,y7,y8,y9,y10,y11,y12,y13,y14,y15,y16,y17,y18,y19,y20,y21,y22,y23,y24,y25,y26,y27,y28,y29,y30,y31,y32,y33,y34,y35,y36,y37,y38,y39,y40,y41,y42,y43,y44,y45,y46,y47,y48,y49,y50,y51,y52,y53,y54,y55,y56,y57,y58,y59,y60,y61,y62,y63,y64,y65,y66,y67,y68,y69,y70,y71,y72,y73,y74,y75,y76,y77,y78,y79,y80,y81,y82,y83,y84,y85,y86,y87,y88,y89,y90,y91,y92,y93], []⟩
theorem QiX (s0 t0 u0 v0:ByteArray) (c:Int) (k0:Nat) (w:World) (h:¬(s0=u0∧t0=v0)) (hs0:CmS c k0 s0 t0 u0 v0)
  (hV1:∀ W:World,Calls Tryz.prog 65 #[.agg #[Z s0,Z t0]] W fun e W'=>e = .returned (.bool true)∧Below W.heap.size W W')
  (hV2:∀ W:World,Calls Tryz.prog 65 #[.agg #[Z u0,Z v0]] W fun e W'=>e = .returned (.bool true)∧Below W.heap.size W W') :
  Calls Tryz.prog 27 #[.agg #[Z s0,Z t0],.agg #[Z u0,Z v0]] w fun e w'=>e = .returned (.int .i64 c)∧Below w.heap.size w w':=by
 have inj:∀ a b:ByteArray,a.toList=b.toList→a=b:=fun a b h=>by
  have:=QcU a b;rw [h] at this;simpa using this.symm
 have a0:=AB.new w s0 t0 u0 v0;have u00:=((Below.refl w.heap.size w).alloc Lr (O #[Z s0,Z t0] 42)).alloc (by simp) (O #[Z u0,Z v0] 42);have HS0:Shut _:=⟨hs0⟩;clear hs0;go_enter Tryz.func27, Tryz.ntmps27;go_wp2;generalize ((w.alloc (O #[Z s0,Z t0] 42)).alloc (O #[Z u0,Z v0] 42))=W0 at *
 obtain ⟨b,hb⟩:∃ b,b=w.heap.size:=⟨_,rfl⟩;rw [←hb] at a0;rw [←hb];have hbw:w.heap.size≤b:=by omega
 have HU:Shut _:=⟨u00⟩;clear hb u00;refine wp_scope_jumps 0 (CmJ b w c s0 t0 u0 v0) (fun _ W=>meas b W) rfl ?_ ?_
 ·by_cases h1:s0=u0
  ·have h2:¬ t0.toList=v0.toList:=fun e=>h ⟨h1,inj _ _ e⟩;have h3:s0.toList=u0.toList:=by rw [h1]
   clear h h1 inj;have a0c:=a0.cells;obtain ⟨x0,x1,x2,x3⟩:=a0c;go_wp2_with (first | (go_at_call 65; with_reducible refine (hV1 _).mono ?_;rintro e w1 ⟨rfl,hB1⟩;have a1:=a0.keep hB1;obtain ⟨x0,x1,x2,x3⟩:=a1.cells) | (go_at_call 65; with_reducible refine (hV2 _).mono ?_;rintro e w2 ⟨rfl,hB2⟩;have a2:=a1.keep hB2;obtain ⟨y0,y1,y2,y3⟩:=a2.cells));go_step3;have bW:=(HU.o.trans (hB1.mono HU.o.size)).trans (hB2.mono (HU.o.trans (hB1.mono HU.o.size)).size);have HA:Shut _:=⟨a2⟩;have HS:=HS0;clear hB1 hB2 HU a1 a0 HS0;obtain ⟨l,r,e1,e2,m1,m2,hw⟩:=QhZ HS.o;rcases hw with ⟨rfl,rfl,cc⟩ | ⟨he,q1,r1,q2,r2,dv1,dv2,hw⟩
   rotate_left
   rcases he with rfl | ⟨rfl,rfl⟩;rcases hw with ⟨hq,cc⟩ | ⟨rfl,hz,cc⟩ | ⟨rfl,hz1,hz2,k',hk,hn⟩
   rotate_left
   rcases hz with hz | ⟨hz,hz2⟩
   rotate_left 3
   rcases hw with ⟨hq,cc⟩ | ⟨rfl,hz,cc⟩ | ⟨rfl,hz1,hz2,k',hk,hn⟩
   rotate_left
   rcases hz with hz | ⟨hz,hz2⟩
   all_goals go_wp2_with (first | (go_at_call 66; with_reducible refine (m1.run _).mono ?_;rintro e w3 ⟨rfl,hB3⟩;have a3:=HA.o.keep hB3;obtain ⟨z0,z1,z2,z3⟩:=a3.cells;have b3:=bW.trans (hB3.mono bW.size)) | (go_at_call 66; with_reducible refine (m2.run _).mono ?_;rintro e w4 ⟨rfl,hB4⟩;have a4:=a3.keep hB4;obtain ⟨o0,o1,o2,o3⟩:=a4.cells;have b4:=b3.trans (hB4.mono b3.size)) | (go_at_call 68; with_reducible refine (dv1.run _).mono ?_;rintro e w5 ⟨rfl,hB5⟩;have a5:=a4.keep hB5;obtain ⟨p0,p1,p2,p3⟩:=a5.cells;have b5:=b4.trans (hB5.mono b4.size)) | (go_at_call 68; with_reducible refine (dv2.run _).mono ?_;rintro e w6 ⟨rfl,hB6⟩;have a6:=a5.keep hB6;obtain ⟨j0,j1,j2,j3⟩:=a6.cells;have b6:=b5.trans (hB6.mono b5.size);have fz0:=Qad a6.a 0;have fz1:=Qad a6.a 1;have fz2:=Qad a6.b 0;have fz3:=Qad a6.b 1) | (go_at_call 67; with_reducible refine (cc.run _).mono ?_;rintro e w7 ⟨rfl,hB7⟩;first | have b7:=b6.trans (hB7.mono b6.size) | have b7:=b4.trans (hB7.mono b4.size)))
   all_goals first
    | (simp only [Exit.jump];go_ret;exact ⟨rfl,b7⟩)
    | (go_step3
       have q1:=Qdj (b:=b+1) (u:=Z t0) (v:=Z r1) (Qfh (u:=Z v0) (v:=Z r2) a6.a) (by omega);have q2:=Qfh (u:=Z t0) (v:=Z r1) (Qdj (b:=b) (u:=Z v0) (v:=Z r2) a6.b (by omega));have q3:=(((b6.setCell (p:=⟨b,0,none⟩) hbw (Z v0)).setCell (p:=⟨b,1,none⟩) hbw (Z r2)).setCell (p:=⟨b+1,0,none⟩) (Nat.le_succ_of_le hbw) (Z t0)).setCell (p:=⟨b+1,1,none⟩) (Nat.le_succ_of_le hbw) (Z r1);exact ⟨rfl,⟨_,_,_,_,k',⟨hn⟩,⟨⟨q1,q2⟩⟩,⟨q3⟩,_,_,_,_,_,_,_,_,_,_,_,_,_,_,_,_,_,_,_,_,_,_,_,_,_,_,_,_,_,_,_,_,_,_,_,_,_,_,_,_,_,_,_,_,_,_,_,_,_,_,_,_,_,_,_,_,_,_,_,_,_,_,_,_,_,_,_,_,_,_,_,_,_,_,_,_,_,_,_,_,_,_,_,_,_,_,_,_,_,rfl⟩⟩)
  ·have h3:¬ s0.toList=u0.toList:=fun e=>h1 (inj _ _ e);clear h h1 inj;have a0c:=a0.cells;obtain ⟨x0,x1,x2,x3⟩:=a0c;go_wp2_with (first | (go_at_call 65; with_reducible refine (hV1 _).mono ?_;rintro e w1 ⟨rfl,hB1⟩;have a1:=a0.keep hB1;obtain ⟨x0,x1,x2,x3⟩:=a1.cells) | (go_at_call 65; with_reducible refine (hV2 _).mono ?_;rintro e w2 ⟨rfl,hB2⟩;have a2:=a1.keep hB2;obtain ⟨y0,y1,y2,y3⟩:=a2.cells));go_step3;have bW:=(HU.o.trans (hB1.mono HU.o.size)).trans (hB2.mono (HU.o.trans (hB1.mono HU.o.size)).size);have HA:Shut _:=⟨a2⟩;have HS:=HS0;clear hB1 hB2 HU a1 a0 HS0;obtain ⟨l,r,e1,e2,m1,m2,hw⟩:=QhZ HS.o;rcases hw with ⟨rfl,rfl,cc⟩ | ⟨he,q1,r1,q2,r2,dv1,dv2,hw⟩
   rotate_left
   rcases he with rfl | ⟨rfl,rfl⟩;rcases hw with ⟨hq,cc⟩ | ⟨rfl,hz,cc⟩ | ⟨rfl,hz1,hz2,k',hk,hn⟩
   rotate_left
   rcases hz with hz | ⟨hz,hz2⟩
   rotate_left 3
   rcases hw with ⟨hq,cc⟩ | ⟨rfl,hz,cc⟩ | ⟨rfl,hz1,hz2,k',hk,hn⟩
   rotate_left
   rcases hz with hz | ⟨hz,hz2⟩
   all_goals go_wp2_with (first | (go_at_call 66; with_reducible refine (m1.run _).mono ?_;rintro e w3 ⟨rfl,hB3⟩;have a3:=HA.o.keep hB3;obtain ⟨z0,z1,z2,z3⟩:=a3.cells;have b3:=bW.trans (hB3.mono bW.size)) | (go_at_call 66; with_reducible refine (m2.run _).mono ?_;rintro e w4 ⟨rfl,hB4⟩;have a4:=a3.keep hB4;obtain ⟨o0,o1,o2,o3⟩:=a4.cells;have b4:=b3.trans (hB4.mono b3.size)) | (go_at_call 68; with_reducible refine (dv1.run _).mono ?_;rintro e w5 ⟨rfl,hB5⟩;have a5:=a4.keep hB5;obtain ⟨p0,p1,p2,p3⟩:=a5.cells;have b5:=b4.trans (hB5.mono b4.size)) | (go_at_call 68; with_reducible refine (dv2.run _).mono ?_;rintro e w6 ⟨rfl,hB6⟩;have a6:=a5.keep hB6;obtain ⟨j0,j1,j2,j3⟩:=a6.cells;have b6:=b5.trans (hB6.mono b5.size);have fz0:=Qad a6.a 0;have fz1:=Qad a6.a 1;have fz2:=Qad a6.b 0;have fz3:=Qad a6.b 1) | (go_at_call 67; with_reducible refine (cc.run _).mono ?_;rintro e w7 ⟨rfl,hB7⟩;first | have b7:=b6.trans (hB7.mono b6.size) | have b7:=b4.trans (hB7.mono b4.size)))
   all_goals first
    | (simp only [Exit.jump];go_ret;exact ⟨rfl,b7⟩)
    | (go_step3
       have q1:=Qdj (b:=b+1) (u:=Z t0) (v:=Z r1) (Qfh (u:=Z v0) (v:=Z r2) a6.a) (by omega);have q2:=Qfh (u:=Z t0) (v:=Z r1) (Qdj (b:=b) (u:=Z v0) (v:=Z r2) a6.b (by omega));have q3:=(((b6.setCell (p:=⟨b,0,none⟩) hbw (Z v0)).setCell (p:=⟨b,1,none⟩) hbw (Z r2)).setCell (p:=⟨b+1,0,none⟩) (Nat.le_succ_of_le hbw) (Z t0)).setCell (p:=⟨b+1,1,none⟩) (Nat.le_succ_of_le hbw) (Z r1);exact ⟨rfl,⟨_,_,_,_,k',⟨hn⟩,⟨⟨q1,q2⟩⟩,⟨q3⟩,_,_,_,_,_,_,_,_,_,_,_,_,_,_,_,_,_,_,_,_,_,_,_,_,_,_,_,_,_,_,_,_,_,_,_,_,_,_,_,_,_,_,_,_,_,_,_,_,_,_,_,_,_,_,_,_,_,_,_,_,_,_,_,_,_,_,_,_,_,_,_,_,_,_,_,_,_,_,_,_,_,_,_,_,_,_,_,_,_,rfl⟩⟩)
 ·clear a0 HU HS0 h inj hV1 hV2;rintro a' W ⟨s,t,u,v,k,HS,HA,HU,y5,y6,y7,y8,y9,y10,y11,y12,y13,y14,y15,y16,y17,y18,y19,y20,y21,y22,y23,y24,y25,y26,y27,y28,y29,y30,y31,y32,y33,y34,y35,y36,y37,y38,y39,y40,y41,y42,y43,y44,y45,y46,y47,y48,y49,y50,y51,y52,y53,y54,y55,y56,y57,y58,y59,y60,y61,y62,y63,y64,y65,y66,y67,y68,y69,y70,y71,y72,y73,y74,y75,y76,y77,y78,y79,y80,y81,y82,y83,y84,y85,y86,y87,y88,y89,y90,y91,y92,y93,rfl⟩;have bW:=HU.o;obtain ⟨x0,x1,x2,x3⟩:=HA.o.cells;clear HU;obtain ⟨l,r,e1,e2,m1,m2,hw⟩:=QhZ HS.o;rcases hw with ⟨rfl,rfl,cc⟩ | ⟨he,q1,r1,q2,r2,dv1,dv2,hw⟩
  rotate_left
  rcases he with rfl | ⟨rfl,rfl⟩;rcases hw with ⟨hq,cc⟩ | ⟨rfl,hz,cc⟩ | ⟨rfl,hz1,hz2,k',hk,hn⟩
  rotate_left
  rcases hz with hz | ⟨hz,hz2⟩
  rotate_left 3
  rcases hw with ⟨hq,cc⟩ | ⟨rfl,hz,cc⟩ | ⟨rfl,hz1,hz2,k',hk,hn⟩
  rotate_left
  rcases hz with hz | ⟨hz,hz2⟩
  all_goals go_wp2_with (first | (go_at_call 66; with_reducible refine (m1.run _).mono ?_;rintro e w3 ⟨rfl,hB3⟩;have a3:=HA.o.keep hB3;obtain ⟨z0,z1,z2,z3⟩:=a3.cells;have b3:=bW.trans (hB3.mono bW.size)) | (go_at_call 66; with_reducible refine (m2.run _).mono ?_;rintro e w4 ⟨rfl,hB4⟩;have a4:=a3.keep hB4;obtain ⟨o0,o1,o2,o3⟩:=a4.cells;have b4:=b3.trans (hB4.mono b3.size)) | (go_at_call 68; with_reducible refine (dv1.run _).mono ?_;rintro e w5 ⟨rfl,hB5⟩;have a5:=a4.keep hB5;obtain ⟨p0,p1,p2,p3⟩:=a5.cells;have b5:=b4.trans (hB5.mono b4.size)) | (go_at_call 68; with_reducible refine (dv2.run _).mono ?_;rintro e w6 ⟨rfl,hB6⟩;have a6:=a5.keep hB6;obtain ⟨j0,j1,j2,j3⟩:=a6.cells;have b6:=b5.trans (hB6.mono b5.size);have fz0:=Qad a6.a 0;have fz1:=Qad a6.a 1;have fz2:=Qad a6.b 0;have fz3:=Qad a6.b 1) | (go_at_call 67; with_reducible refine (cc.run _).mono ?_;rintro e w7 ⟨rfl,hB7⟩;first | have b7:=b6.trans (hB7.mono b6.size) | have b7:=b4.trans (hB7.mono b4.size)))
  all_goals first
   | (simp only [Exit.jump];go_ret;exact ⟨rfl,b7⟩)
   | (go_step3
      have q1:=Qdj (b:=b+1) (u:=Z t) (v:=Z r1) (Qfh (u:=Z v) (v:=Z r2) a6.a) (by omega);have q2:=Qfh (u:=Z t) (v:=Z r1) (Qdj (b:=b) (u:=Z v) (v:=Z r2) a6.b (by omega));have q3:=(((b6.setCell (p:=⟨b,0,none⟩) hbw (Z v)).setCell (p:=⟨b,1,none⟩) hbw (Z r2)).setCell (p:=⟨b+1,0,none⟩) (Nat.le_succ_of_le hbw) (Z t)).setCell (p:=⟨b+1,1,none⟩) (Nat.le_succ_of_le hbw) (Z r1);refine ⟨rfl,⟨_,_,_,_,k',⟨hn⟩,⟨⟨q1,q2⟩⟩,⟨q3⟩,_,_,_,_,_,_,_,_,_,_,_,_,_,_,_,_,_,_,_,_,_,_,_,_,_,_,_,_,_,_,_,_,_,_,_,_,_,_,_,_,_,_,_,_,_,_,_,_,_,_,_,_,_,_,_,_,_,_,_,_,_,_,_,_,_,_,_,_,_,_,_,_,_,_,_,_,_,_,_,_,_,_,_,_,_,_,_,_,_,rfl⟩, ?_⟩;rw [Qoj ⟨q1,q2⟩ hn,Qoj HA.o HS.o];exact hk)
theorem QgB {p q:Rat} (hp:FitQ p) (hq:FitQ q) (w:World):Calls Tryz.prog 27 #[rq p,rq q] w fun e w'=>e = .returned (.int .i64 (cmpQ p q))∧Below w.heap.size w w':=by
 by_cases he:p=q
 ·subst he;rw [Qgv];exact QiN _ _ w
 ·have d1:=p.den_pos;have d2:=q.den_pos;exact QiX _ _ _ _ (cmpQ p q) _ w (fun h=>he (QfJ (Prod.ext h.1 h.2))) ⟨p.num,p.den,q.num,q.den,hp.1,hp.2,hq.1,hq.2,by omega,by omega,rfl,rfl,rfl,rfl,rfl,rfl⟩ (QnW hp) (QnW hq)
end Rt
section
namespace Rt
open Go.RowKit Go.Proofs.YtadcmepaniiciaaGreatDoor.Nm
open N10 (Two)
theorem QsJ {p q:Rat} (h:p<q):cmpQ p q = -1:=by rw [cmpQ,cmpZ,if_pos ((Rat.lt_iff p q).1 h)]
theorem QsK {p q:Rat} (h:q<p):cmpQ p q=1:=by
 have:=(Rat.lt_iff q p).1 h;rw [cmpQ,cmpZ,if_neg (by omega),if_neg (by omega)]
theorem QsL (p q:Rat):p<q∨p=q∨q<p:=by
 by_cases h:p<q
 ·exact .inl h
 ·have h1:=Rat.not_lt.1 h;by_cases h2:q<p
  ·exact .inr (.inr h2)
  ·exact .inr (.inl (Rat.le_antisymm (Rat.not_lt.1 h2) h1))
theorem Qcs (p q:Rat):(cmpQ p q = -1∧p<q)∨(cmpQ p q=0∧p=q)∨(cmpQ p q=1∧q<p):=by
 rcases QsL p q with h | h | h
 ·exact .inl ⟨QsJ h,h⟩
 ·exact .inr (.inl ⟨by rw [h,Qgv],h⟩)
 ·exact .inr (.inr ⟨QsK h,h⟩)
theorem Qnw {p q:Rat}:cmpQ p q≤0↔p≤q:=by
 rcases Qcs p q with ⟨h,hl⟩ | ⟨h,rfl⟩ | ⟨h,hl⟩
 ·exact ⟨fun _=>Rat.le_iff_lt_or_eq.2 (.inl hl),fun _=>by omega⟩
 ·exact ⟨fun _=>Rat.le_refl,fun _=>by omega⟩
 ·exact ⟨fun x=>by omega,fun x=>absurd hl (Rat.not_lt.2 x)⟩
theorem Qhl {k x y:Int} (hk:0<k):cmpZ (k*x) (k*y)=cmpZ x y:=by
 have h1:k*x<k*y↔x<y:=⟨fun h=>Int.lt_of_mul_lt_mul_left h (Int.le_of_lt hk),fun h=>Int.mul_lt_mul_of_pos_left h hk⟩;have h2:k*x=k*y↔x=y:=⟨fun h=>Int.eq_of_mul_eq_mul_left (by omega) h,fun h=>by rw [h]⟩;unfold cmpZ;by_cases a:x<y
 ·rw [if_pos a,if_pos (h1.2 a)]
 ·by_cases b:x=y
  ·rw [if_neg a,if_neg (fun h=>a (h1.1 h)),if_pos b,if_pos (h2.2 b)]
  ·rw [if_neg a,if_neg (fun h=>a (h1.1 h)),if_neg b,if_neg (fun h=>b (h2.1 h))]
theorem QiY {x y:Int} (h0:y≠0):(Rat.divInt x y).num*y=x*((Rat.divInt x y).den:Int):=by
 have h:=Rat.num_divInt_den (Rat.divInt x y);exact (Rat.divInt_eq_divInt_iff (QdJ _) h0).1 h
theorem QkQ {n d m c:Int} (hd:0<d) (hc:0<c):cmpQ (Rat.divInt n d) (Rat.divInt m c)=cmpZ (n*c) (m*d):=by
 have e1:=QiY (x:=n) (y:=d) (by omega);have e2:=QiY (x:=m) (y:=c) (by omega);have p1:0<((Rat.divInt n d).den:Int):=by have:=(Rat.divInt n d).den_pos;omega
 have p2:0<((Rat.divInt m c).den:Int):=by have:=(Rat.divInt m c).den_pos;omega
 rw [cmpQ];generalize (Rat.divInt n d).num=a at *
 generalize (Rat.divInt m c).num=b at *
 generalize ((Rat.divInt n d).den:Int)=u at *
 generalize ((Rat.divInt m c).den:Int)=v at *
 rw [←Qhl (Int.mul_pos hd hc) (x:=a*v),←Qhl (Int.mul_pos p1 p2) (x:=n*c)];congr 1
 ·have:d*c*(a*v)=(a*d)*(c*v):=by grind
  rw [this,e1];grind
 ·have:d*c*(b*u)=(b*c)*(d*u):=by grind
  rw [this,e2];grind
theorem Qok {x y:Int} (h0:y≠0):(Rat.divInt x y).num.natAbs≤x.natAbs∧(Rat.divInt x y).den≤y.natAbs:=by
 rw [Rat.num_divInt,Rat.den_divInt,if_neg h0];refine ⟨Nat.le_trans (Int.natAbs_ediv_le_natAbs _ _) ?_,Nat.div_le_self _ _⟩;rw [Int.natAbs_mul];rcases Int.lt_trichotomy y 0 with h | h | h
 ·rw [Int.sign_eq_neg_one_of_neg h];simp
 ·omega
 ·rw [Int.sign_eq_one_of_pos h];simp
theorem QgC (c:Nat) (hc:c≤30):((10:Int)^c).natAbs≤10^30∧0<(10:Int)^c:=by
 refine ⟨?_,Int.pow_pos (by decide)⟩;rw [Int.natAbs_pow];exact Nat.pow_le_pow_right (by decide) hc
end Rt
end
section
open Go.RowKit Go.Proofs.YtadcmepaniiciaaGreatDoor.Nm
theorem Qhm (low high q:Nat) (b1:Nat) (hlq:low≤q) (hqh:q≤high) (hh:high<18446744073709551616) (w:World)
  (cF:∀ (W:World) (f:Nat),Below w.heap.size w W→f≤high→Calls Tryz.prog 240 #[.int .u64 f,.pointer (some ⟨b1,0,none⟩)] W fun e w'=>e = .returned (.bool (decide (f≤q)))∧Below W.heap.size W w') :
  Calls Tryz.prog 236 #[.int .u64 low,.int .u64 high,.func (Fn.func 240) #[] #[.pointer (some ⟨b1,0,none⟩)]] w fun e w'=>e = .returned (.int .u64 q)∧Below w.heap.size w w':=by
 have HC:Shut _:=⟨cF⟩;clear cF;go_enter Tryz.func236, Tryz.ntmps236;go_wp2
 go_loopw [0,1] (fun lv hv wr=>∃ a b:Nat,a≤q∧q≤b∧b≤high∧lv = .int .u64 a∧hv = .int .u64 b∧Below w.heap.size w wr) (fun lv hv _=>(intOf hv).toNat-(intOf lv).toNat)
 case atStart=>exact ⟨low,high,hlq,hqh,Nat.le_refl _,rfl,rfl,Below.refl _ _⟩
 case round =>
  obtain ⟨a,b,ha,hb,hbh,rfl,rfl,hB⟩:=hrel;by_cases hlt:a<b
  ·obtain ⟨m,hm⟩:∃ m,m=b-(b-a) / 2:=⟨_,rfl⟩;have hmi:((b:Int)-((b:Int)-(a:Int)) / 2)=(m:Int):=by omega
   have hm1:a<m:=by omega
   have hm2:m≤b:=by omega
   have c1:=HC.o wr m hB (by omega);clear hm;by_cases hf:m≤q
   ·rw [decide_eq_true hf] at c1;go_wp2_with (go_at_call 240; refine c1.mono ?_;rintro e w1 ⟨rfl,hB1⟩);exact ⟨⟨m,b,hf,hb,hbh,rfl,rfl,hB.trans (hB1.mono hB.size)⟩,by simp [intOf];omega⟩
   ·rw [decide_eq_false hf] at c1;go_wp2_with (go_at_call 240; refine c1.mono ?_;rintro e w1 ⟨rfl,hB1⟩);exact ⟨⟨a,m-1,ha,by omega,by omega,rfl,by congr 1;omega,hB.trans (hB1.mono hB.size)⟩,by simp [intOf];omega⟩
  ·obtain rfl:a=q:=by omega
   go_wp2;go_ret;exact ⟨rfl,hB⟩
def sqr:Nat→Nat
 | 0=>0
 | n+1=>if (sqr n+1)*(sqr n+1)≤n+1 then sqr n+1 else sqr n
theorem QbJ:∀ n,sqr n*sqr n≤n∧n<(sqr n+1)*(sqr n+1)
 | 0=>by decide
 | n+1=>by
  obtain ⟨h1,h2⟩:=QbJ n;rw [sqr];split
  ·rename_i h;refine ⟨h, ?_⟩;have:(sqr n+1+1)*(sqr n+1+1)=(sqr n+1)*(sqr n+1)+2*(sqr n+1)+1:=by grind
   omega
  ·rename_i h;exact ⟨by omega,by omega⟩
theorem Qrm {n f:Nat}:f*f≤n↔f≤sqr n:=by
 obtain ⟨h1,h2⟩:=QbJ n;constructor
 ·intro h;rcases Nat.lt_or_ge (sqr n) f with h3 | h3
  ·have:=Nat.mul_le_mul h3 h3;simp only [Nat.succ_eq_add_one] at this;omega
  ·exact h3
 ·intro h;exact Nat.le_trans (Nat.mul_le_mul h h) h1
theorem QiZ (n f b:Nat) (hf:f<100000000) (w:World) (hb:w.cell? ⟨b,0,none⟩=some (.int .u64 n)) :
  Calls Tryz.prog 240 #[.int .u64 f,.pointer (some ⟨b,0,none⟩)] w fun e w'=>e = .returned (.bool (decide (f≤sqr n)))∧Below w.heap.size w w':=by
 have hm:f*f≤99999999*99999999:=Nat.mul_le_mul (by omega) (by omega);have HS:=@Qrm n f;obtain ⟨m,hmm⟩:∃ m,m=f*f:=⟨_,rfl⟩;have hmi:((f:Int)*(f:Int))=(m:Int):=by rw [hmm,Int.natCast_mul]
 rw [←hmm] at HS hm;have HD:Shut (decide (m≤n)=decide (f≤sqr n)):=⟨by rw [decide_eq_decide,←HS]⟩;clear hmm HS;generalize decide (f≤sqr n)=r at *
 go_enter Tryz.func240, Tryz.ntmps240;go_wp2;go_ret;exact ⟨by rw [←HD.o];rfl,Below.refl _ _⟩
def QgX (x:Nat):Prop:=∀ (va:Value) (w:World),NA w va (natL x)→Calls Tryz.prog 230 #[va] w fun e w'=>∃ v,e = .returned v∧NA w' v (natL (sqr x))∧Below w.heap.size w w'
set_option maxRecDepth 100000 in
theorem Qmr (x:Nat) (hx:x<10000000000000000):QgX x:=by
 intro va w hA;have hla:=len4 hx
 have hq:sqr x≤99999999:=by
  have:=(QbJ x).1;rcases Nat.lt_or_ge 99999999 (sqr x) with h | h
  ·have:=Nat.mul_le_mul h h;simp only [Nat.succ_eq_add_one] at this;omega
  ·exact h
 have cw:∀ (p:Option Addr) (c:Nat) (W:World),NA W (.slice p (natL x).length c) (natL x)→Calls Tryz.prog 223 #[.slice p (natL x).length c] W fun e w'=>e = .returned (.int .u64 x)∧w'=W:=fun p c W h=>by
  obtain ⟨p',c',g,o,e,h1,h2,h3,hu⟩:=h.open;injection e with e1 e2 e3;subst e1;subst e3;have:=Qex (natL x) p c g o W (fun h=>(h3 h).1) hu (Qao x) (by omega) (by rw [Qan];omega)
  rwa [Qan] at this
 have cG:∀ (W:World) (b:Nat),W.cell? ⟨b,0,none⟩=some (.int .u64 x)→Calls Tryz.prog 236 #[.int .u64 0,.int .u64 99999999,.func (Fn.func 240) #[] #[.pointer (some ⟨b,0,none⟩)]] W fun e w'=>e = .returned (.int .u64 (sqr x))∧Below W.heap.size W w':=fun W b hb=>Qhm 0 99999999 (sqr x) b (by omega) hq (by omega) W (fun W' f hW' hf=>QiZ x f b (by omega) W' ((hW'.cell (p:=⟨b,0,none⟩) (World.block_lt_of_cell? W _ hb)).trans hb));have cO:=fun W=>QdU (sqr x) (by omega) W;obtain ⟨t,ht⟩:∃ t,t=(natL x).length-3:=⟨_,rfl⟩;have hmax:max (((natL x).length:Int)-3) 0=(t:Int):=by omega
 have hmax2:(if ((natL x).length:Int)-3<0 then (0:Int) else ((natL x).length:Int)-3)=(t:Int):=by split <;> omega
 have hdv:(t:Int) / 2=0:=by omega
 clear ht;have HA:=hA;obtain ⟨p,cap,rfl,h1,h2,⟨rfl,hl,rfl⟩ | ⟨g,o,rfl,hg,hu⟩⟩:=hA
 ·have c1:=cw none 0 w HA;have hl0:(natL x).length=0:=by rw [hl];rfl
  clear hl h1 h2 HA cw;rw [hl0] at c1 ⊢;have hm0:max (-3:Int) 0 / 2*2=0:=by decide
  clear hl0 hmax hmax2;go_enter Tryz.func230, Tryz.ntmps230;go_upto_region 3 with (go_at_call 223; refine c1.mono ?_;rintro e w1 ⟨rfl,rfl⟩)
  have hBn:Below w1.heap.size w1 (w1.alloc (O #[.int .u64 (x:Int)] 160)):=(Below.refl _ _).alloc Lr _;have hbx:(w1.alloc (O #[.int .u64 (x:Int)] 160)).cell? ⟨w1.heap.size,0,none⟩=some (.int .u64 (x:Int)):=by rw [RowAt.cell (RowAt.new w1 #[.int .u64 (x:Int)] 160) 0];rfl
  have cg:=cG _ _ hbx;generalize w1.alloc (O #[.int .u64 (x:Int)] 160)=W2 at *
  go_wp2_with (first | (go_at_call 236; refine cg.mono ?_;rintro e w7 ⟨rfl,hB7⟩) | (go_at_call 146; refine (cO _).mono ?_;rintro e w8 ⟨v8,rfl,hO8,hB8⟩));go_ret;have h5:=hB7.trans (hB8.mono hB7.size);exact ⟨_,rfl,hO8.na,hBn.trans (h5.mono hBn.size)⟩
 ·have c1:=cw (some ⟨g,o,none⟩) cap w HA;clear HA cw hu;generalize (natL x).length=nx at *
  go_enter Tryz.func230, Tryz.ntmps230;go_upto_region 3 with (go_at_call 223; refine c1.mono ?_;rintro e w1 ⟨rfl,rfl⟩)
  have hBn:Below w1.heap.size w1 (w1.alloc (O #[.int .u64 (x:Int)] 160)):=(Below.refl _ _).alloc Lr _;have hbx:(w1.alloc (O #[.int .u64 (x:Int)] 160)).cell? ⟨w1.heap.size,0,none⟩=some (.int .u64 (x:Int)):=by rw [RowAt.cell (RowAt.new w1 #[.int .u64 (x:Int)] 160) 0];rfl
  have cg:=cG _ _ hbx;generalize w1.alloc (O #[.int .u64 (x:Int)] 160)=W2 at *
  go_wp2_with (first | (go_at_call 236; refine cg.mono ?_;rintro e w7 ⟨rfl,hB7⟩) | (go_at_call 146; refine (cO _).mono ?_;rintro e w8 ⟨v8,rfl,hO8,hB8⟩));go_ret;have h5:=hB7.trans (hB8.mono hB7.size);exact ⟨_,rfl,hO8.na,hBn.trans (h5.mono hBn.size)⟩
theorem Qol (x r:Nat) (hr:0<r):sqr x≤(r+x / r) / 2:=by
 have h1:=(QbJ x).1;generalize sqr x=s at *
 have h2:2*s-r≤x / r:=by
  rw [Nat.le_div_iff_mul_le hr];rcases Nat.le_total (2*s) r with h | h
  ·rw [Nat.sub_eq_zero_of_le h,Nat.zero_mul];exact Nat.zero_le _
  ·obtain ⟨k,hk⟩:=Nat.le.dest h;have e:2*s-r=k:=by omega
   rw [e];have h3:k*r+(s*s)=k*r+s*s:=rfl
   have:k*r≤s*s:=by
    rcases Nat.le_total r s with h4 | h4
    ·obtain ⟨d,rfl⟩:=Nat.le.dest h4;have:k=r+2*d:=by omega
     subst this;grind
    ·obtain ⟨d,rfl⟩:=Nat.le.dest h4;have:s=k+d:=by omega
     subst this;grind
   omega
 omega
theorem Qms (x r:Nat) (hr:0<r) (hs:sqr x≤r) (h:r≤(r+x / r) / 2):r=sqr x:=by
 have h1:r≤x / r:=by omega
 rw [Nat.le_div_iff_mul_le hr] at h1;have:=Qrm.1 h1;omega
theorem Qhn (m:Nat) (hm:m≠0):∀ h,natL (10000^h*m)=List.replicate h 0++natL m
 | 0=>by rw [Nat.pow_zero,Nat.one_mul];rfl
 | h+1=>by
  have hp:0<10000^h*m:=Nat.mul_pos (Nat.pow_pos (by decide)) (by omega);have e:10000^(h+1)*m=10000*(10000^h*m):=by rw [Nat.pow_succ];grind
  rw [e,Qbi (by omega),show 10000*(10000^h*m) % 10000=0 by omega,show 10000*(10000^h*m) / 10000=10000^h*m by omega,Qhn m hm h];rfl
theorem QkR:natL 2 = [2]:=by rw [Qbi (by decide)];rw [show 2 / 10000=0 from rfl,Qau]
theorem NA.two (w:World):NA (w.alloc (O #[.int .u32 2] 171)) (.slice (some ⟨w.heap.size,0,none⟩) 1 1) (natL 2):=by
 rw [QkR];exact NA.one w 2
theorem Qja (x h e:Nat) (he:e=sqr (x / 10000^(2*h))):sqr x≤10000^h*(e+1)∧0<10000^h*(e+1):=by
 have hp:0<10000^h:=Nat.pow_pos (by decide);refine ⟨?_,Nat.mul_pos hp (by omega)⟩;have h1:=(QbJ (x / 10000^(2*h))).2;rw [←he] at h1;have hp2:0<10000^(2*h):=Nat.pow_pos (by decide);have h2:x<(e+1)*(e+1)*10000^(2*h):=by rwa [Nat.div_lt_iff_lt_mul hp2] at h1
 have h3:(e+1)*(e+1)*10000^(2*h)=10000^h*(e+1)*(10000^h*(e+1)):=by
  rw [show 2*h=h+h by omega,Nat.pow_add];grind
 rw [h3] at h2;rcases Nat.lt_or_ge (10000^h*(e+1)) (sqr x) with h4 | h4
 ·have h5:=(QbJ x).1;have h6:=Nat.mul_le_mul (Nat.le_of_lt h4) (Nat.le_of_lt h4);omega
 ·exact h4
def RS (w wr:World) (rv:Value) (x r r0:Nat):Prop:=NA wr rv (natL r)∧sqr x≤r∧0<r∧r≤r0∧Below w.heap.size w wr
set_option maxRecDepth 100000 in
theorem Qmt (x:Nat) (hl4:4<(natL x).length) (hl:(natL x).length≤100):QgX x:=by
 intro va w hA;obtain ⟨n,hn⟩:∃ n,n=(natL x).length:=⟨_,rfl⟩;obtain ⟨t,ht⟩:∃ t,t=n-3:=⟨_,rfl⟩;obtain ⟨h,hh⟩:∃ h,h=t / 2:=⟨_,rfl⟩;obtain ⟨cut,hcut⟩:∃ cut,cut=2*h:=⟨_,rfl⟩;have hx0:x≠0:=fun e=>by rw [e,Qau] at hl4;simp at hl4
 have hA0:=hA;obtain ⟨p,cap,rfl,hA⟩:=hA.out;obtain ⟨g,o,rfl,hg,hu,hc1,hcm⟩:=hA.from (show 1≤(natL x).length by omega);have hcn:cut≤n:=by omega
 have hdl:((natL x).drop cut).length=n-cut:=by rw [List.length_drop,←hn]
 have hnd:nv ((natL x).drop cut)=x / 10000^cut:=by rw [Qeq (natL x) (Qao x) cut (by omega),Qan]
 have hab:x / 10000^cut<10000000000000000:=by
  rw [Nat.div_lt_iff_lt_mul (Nat.pow_pos (by decide))];have h1:=QaI x;have h2:10000^(natL x).length≤10000^(4+cut):=Nat.pow_le_pow_right (by decide) (by omega);rw [Nat.pow_add,show 10000^4=10000000000000000 by decide] at h2;omega
 have cw:Calls Tryz.prog 223 #[.slice (some ⟨g,o+cut,none⟩) (n-cut) (cap-cut)] w fun e w'=>e = .returned (.int .u64 (x / 10000^cut:Nat))∧w'=w:=by
  have:=Qex ((natL x).drop cut) (some ⟨g,o+cut,none⟩) (cap-cut) g (o+cut) w (fun _=>rfl) (hu.drop cut) (fun z hz=>Qao x z (List.mem_of_mem_drop hz)) (by omega) (by rw [hnd];omega)
  rwa [hdl,hnd] at this
 obtain ⟨ab,hab2⟩:∃ ab,ab=x / 10000^cut:=⟨_,rfl⟩;rw [←hab2] at cw hab
 have hq:sqr ab≤99999999:=by
  have:=(QbJ ab).1;rcases Nat.lt_or_ge 99999999 (sqr ab) with h | h
  ·have:=Nat.mul_le_mul h h;simp only [Nat.succ_eq_add_one] at this;omega
  ·exact h
 have cG:∀ (W:World) (b:Nat),W.cell? ⟨b,0,none⟩=some (.int .u64 ab)→Calls Tryz.prog 236 #[.int .u64 0,.int .u64 99999999,.func (Fn.func 240) #[] #[.pointer (some ⟨b,0,none⟩)]] W fun e w'=>e = .returned (.int .u64 (sqr ab))∧Below W.heap.size W w':=fun W b hb=>Qhm 0 99999999 (sqr ab) b (by omega) hq (by omega) W (fun W' f hW' hf=>QiZ ab f b (by omega) W' ((hW'.cell (p:=⟨b,0,none⟩) (World.block_lt_of_cell? W _ hb)).trans hb));have hns:=Qja x h (sqr ab) (by rw [hab2,hcut])
 have hr0:10000^h*(sqr ab+1)<10000^(h+3):=by
  rw [Nat.pow_add];exact Nat.mul_lt_mul_of_pos_left (by omega) (Nat.pow_pos (by decide))
 obtain ⟨m,hm⟩:∃ m,m=sqr ab+1:=⟨_,rfl⟩;rw [←hm] at hns hr0;have hsh:=Qhn m (by omega) h;have cO:=fun W=>QdU m (by omega) W;have cS:=fun (v:Value) (W:World) (hv:NA W v (natL m))=>QcL (natL m) v h W hv (by have:=Qat (n:=m) (k:=3) (by omega);omega);rw [←hsh] at cS;obtain ⟨r0,hr0e⟩:∃ r0,r0=10000^h*m:=⟨_,rfl⟩;rw [←hr0e] at hns hr0 cS;have hmi:((sqr ab:Nat):Int)+1=(m:Int):=by omega
 have hx100:x<10000^100:=Nat.lt_of_lt_of_le (QaI x) (Nat.pow_le_pow_right (by decide) hl);have hr100:r0<10000^100:=Nat.lt_of_lt_of_le hr0 (Nat.pow_le_pow_right (by decide) (by omega));have b1:n≤100:=by omega
 have b2:5≤n:=by omega
 have b3:t≤100:=by omega
 have b4:h≤100:=by omega
 have b5:cut≤100:=by omega
 have i1:max ((n:Int)-3) 0=(t:Int):=by omega
 have i2:(if (n:Int)-3<0 then (0:Int) else (n:Int)-3)=(t:Int):=by split <;> omega
 have i3:(t:Int) / 2=(h:Int):=by omega
 have i4:(h:Int)*2=(cut:Int):=by omega
 have i5:(cut:Int) / 2=(h:Int):=by omega
 have i6:(0:Int)≤(cut:Int):=by omega
 have i7:(cut:Int)≤(n:Int):=by omega
 have i8:(n:Int)≤(cap:Int):=by omega
 have i9:((cut:Int) == 0)=false:=by rw [beq_eq_false_iff_ne];omega
 have i10:¬((cut:Int)=0):=by omega
 have i11:¬ cut=0:=by omega
 have i12:¬ cap=cut:=by omega
 have i13:(cut:Int)≤(cap:Int):=by omega
 have HA:Shut _:=⟨hA⟩;have HX:Shut (0<x∧x<10000^100∧r0<10000^100∧n=(natL x).length∧n≤100):=⟨by omega,hx100,hr100,hn,by omega⟩;have HNS:Shut _:=⟨hns⟩;have hest:((sqr ab:Nat):Int)≤99999999:=by omega
 have HM:Shut _:=⟨hm⟩;rw [←hn];clear hA hA0 hu hg hns hr0 hr0e hx100 hr100 hab hab2 hnd hdl hq hsh hm hl4 hl hn ht hh hcut hx0 hc1 hcm;go_enter Tryz.func230, Tryz.ntmps230;go_upto_region 3 with (go_at_call 223; refine cw.mono ?_;rintro e w1 ⟨rfl,rfl⟩)
 have hBn:Below w1.heap.size w1 (w1.alloc (O #[.int .u64 (ab:Int)] 160)):=(Below.refl _ _).alloc Lr _;have hbx:(w1.alloc (O #[.int .u64 (ab:Int)] 160)).cell? ⟨w1.heap.size,0,none⟩=some (.int .u64 (ab:Int)):=by rw [RowAt.cell (RowAt.new w1 #[.int .u64 (ab:Int)] 160) 0];rfl
 have cg:=cG _ _ hbx;generalize w1.alloc (O #[.int .u64 (ab:Int)] 160)=W2 at *
 clear cG cw hbx;generalize sqr ab=est at *
 go_upto_region 6 with (go_at_call 236; refine cg.mono ?_;rintro e w7 ⟨rfl,hB7⟩)
 go_upto_region 7 with (first | (go_at_call 146; refine (cO _).mono ?_;rintro e w8 ⟨v8,rfl,hO8,hB8⟩) | (go_at_call 195; refine (cS _ _ hO8.na).mono ?_;rintro e w9 ⟨u9,rfl,hO9,hn9,hB9⟩))
 have hB29:=hBn.trans ((hB7.trans ((hB8.trans (hB9.mono hB8.size)).mono hB7.size)).mono hBn.size);have HS:Shut (RS w1 w9 u9 x r0 r0):=⟨⟨hO9.na,HNS.o.1,HNS.o.2,Nat.le_refl _,hB29⟩⟩;obtain ⟨p9,c9,rfl,_⟩:=hO9.na.out;clear hO9 hn9 hO8 hB29 hB9 hB8 hB7 hBn cS cO cg HNS
 go_loopw [6] (fun rv wr=>∃ (r:Nat) (q:Option Addr) (c:Nat),rv = .slice q (natL r).length c∧Shut (RS w1 wr rv x r r0)) (fun rv wr=>QeF wr rv)
 case atStart=>exact ⟨r0,p9,c9,rfl,HS⟩
 case round =>
  clear HS;obtain ⟨r,q,c,rfl,hS⟩:=hrel;have hb:=Nat.pow_pos (n:=100) (show 0<10000 by decide);have hrl:(natL r).length≤100:=Qat (Nat.lt_of_le_of_lt hS.o.2.2.2.1 HX.o.2.2.1);have hql:(natL (x / r)).length≤100:=Qat (Nat.lt_of_le_of_lt (Nat.div_le_self _ _) HX.o.2.1)
  have hsl:(natL (r+x / r)).length≤101:=Qat (by
   have h1:=Nat.lt_of_le_of_lt hS.o.2.2.2.1 HX.o.2.2.1;have h2:=Nat.lt_of_le_of_lt (Nat.div_le_self x r) HX.o.2.1;rw [Nat.pow_succ];omega)
  have hr0:=hS.o.2.2.1;have cd:=fun (W:World) (hW:Below w1.heap.size w1 W) (hWn:NA W (.slice q (natL r).length c) (natL r))=>Qgf x r (by omega) _ _ W (HA.o.below hW Lr) hWn (by have:=HX.o.2.2.2;omega) (by omega);rw [←HX.o.2.2.2.1] at cd;have cp:=fun (W:World) (v:Value) (h1:NA W (.slice q (natL r).length c) (natL r)) (h2:NA W v (natL (x / r)))=>Qey r (x / r) _ v W h1 h2 (by omega) (by omega);have c2:=fun (W:World) (v u:Value) (h1:NA W v (natL (r+x / r))) (h2:NA W u (natL 2))=>Qgf (r+x / r) 2 (by decide) v u W h1 h2 (by omega) (by rw [QkR];decide)
  have hnl:(natL ((r+x / r) / 2)).length≤101:=Qat (by
   have h1:=Nat.lt_of_le_of_lt hS.o.2.2.2.1 HX.o.2.2.1;have h2:=Nat.lt_of_le_of_lt (Nat.div_le_self x r) HX.o.2.1;rw [Nat.pow_succ];omega)
  have cc:=fun (W:World) (p1 p2:Option Addr) (d1 d2:Nat) (h1:NA W (.slice p1 (natL ((r+x / r) / 2)).length d1) (natL ((r+x / r) / 2))) (h2:NA W (.slice p2 (natL r).length d2) (natL r))=>QrY ((r+x / r) / 2) r p1 p2 d1 d2 W h1 h2 (by omega) (by omega);have hnge:=Qol x r hr0;have hnend:=Qms x r hr0 hS.o.2.1
  have hs0:0<sqr x:=by
   have:=(QbJ x).2;rcases Nat.eq_zero_or_pos (sqr x) with h9 | h9
   ·rw [h9] at this;have:=HX.o.1;omega
   ·exact h9
  have HN2:Shut _:=⟨And.intro hnge (And.intro hnend hs0)⟩;have HC2:Shut _:=⟨c2⟩;have hnum:QeF wr (.slice q (natL r).length c)=r:=QeG hS.o.1;have HNUM:Shut _:=⟨hnum⟩;clear hb hsl hnge hnend hs0 c2 hnum;generalize hnx:(r+x / r) / 2=nx at *
  have hcmp:(0≤cmpN nx r∧r≤nx)∨(cmpN nx r<0∧nx<r):=by
   unfold cmpN;(repeat' split) <;> omega
  generalize cmpN nx r=cv at *
  clear hnx;go_upto_region 8 with (go_at_call 154; refine (cd _ hS.o.2.2.2.2 hS.o.1).mono ?_;rintro e v1 ⟨x1,x2,rfl,hx1,hx2,hB1⟩)
  have hr1:=hS.o.1.below hB1 Lr;go_wp2_with (go_at_call 155; refine (cp _ _ hr1 hx1).mono ?_;rintro e v2 ⟨x3,rfl,hx3,hB2⟩);have hBn3:Below v2.heap.size v2 (v2.alloc (O #[.int .u32 2] 171)):=(Below.refl _ _).alloc Lr _;have cdd:=HC2.o _ x3 _ (hx3.below hBn3 Lr) (NA.two v2);have hr3:=(hr1.below hB2 Lr).below hBn3 Lr;have hB13:=hB1.trans ((hB2.trans (hBn3.mono hB2.size)).mono hB1.size);clear hx1 hx2 hx3 HC2 hr1 hB1 hB2 hBn3 cd cp;generalize v2.alloc (O #[.int .u32 2] 171)=v3 at *
  refine cdd.mono ?_;rintro e v4 ⟨x4,x5,rfl,hx4,hx5,hB4⟩;obtain ⟨p4,c4,rfl,hx4'⟩:=hx4.out;have hr4:=hr3.below hB4 Lr;have ccc:=cc v4 p4 q c4 c hx4' hr4;have hB14:=hB13.trans (hB4.mono hB13.size);have hBF:=hS.o.2.2.2.2.trans (hB14.mono hS.o.2.2.2.2.size);clear hr3 hx4 hx5 cdd cc hB13 hB4 hB14;rcases hcmp with ⟨hc,hle⟩ | ⟨hc,hlt⟩
  ·have hrs:=HN2.o.2.1 hle;have HR:Shut (∀ k,NA (v4.drewN k) (.slice q (natL r).length c) (natL (sqr x))):=⟨fun k=>by rw [←hrs];exact hr4⟩;have HBF:Shut _:=⟨hBF⟩;clear hrs hle hr4 hx4' hBF hr0;go_wp2_with (go_at_call 153; refine ccc.mono ?_;rintro e v5 ⟨rfl,m5,rfl⟩);go_ret;exact ⟨_,rfl,HR.o m5,Qag HBF.o m5⟩
  ·have HR:Shut (∀ k,RS w1 (v4.drewN k) (.slice p4 (natL nx).length c4) x nx r0):=⟨fun k=>⟨hx4',HN2.o.1,by have h1:=HN2.o.1;have h2:=HN2.o.2.2;omega,by have:=hS.o.2.2.2.1;omega,Qag hBF k⟩⟩;have HM2:Shut (∀ k,QeF (v4.drewN k) (.slice p4 (natL nx).length c4)<QeF wr (.slice q (natL r).length c)):=⟨fun k=>by rw [HNUM.o,QeG (HR.o k).1];exact hlt⟩;have hc2:¬ 0≤cv:=by omega
   clear hlt hr4 hx4' hBF hr0;go_wp2_with (go_at_call 153; refine ccc.mono ?_;rintro e v5 ⟨rfl,m5,rfl⟩);exact ⟨⟨nx,p4,c4,rfl,⟨HR.o m5⟩⟩,HM2.o m5⟩
theorem root_any (x:Nat) (hl:(natL x).length≤100):QgX x:=by
 rcases Nat.lt_or_ge 4 (natL x).length with h | h
 ·exact Qmt x h hl
 ·refine Qmr x ?_;have h1:=QaI x;have h2:10000^(natL x).length≤10000^4:=Nat.pow_le_pow_right (by decide) h;rw [show 10000^4=10000000000000000 by decide] at h2;omega
theorem QsM (z:Int) (hz:Fits z) (h0:0≤z) (hr:QgX z.natAbs) (w:World) :
  Calls Tryz.prog 203 #[Z (txt z)] w fun e w'=>e = .returned (.tuple #[Z (txt (sqr z.natAbs:Nat)),.int .i64 0])∧Below w.heap.size w w':=by
 have cp:=fun W=>QhP z hz W;have hd:decide (z<0)=false:=decide_eq_false (by omega)
 have hsl:(natL (sqr z.natAbs)).length≤1000:=by
  have h1:=(QbJ z.natAbs).1;have h2:=QbU hz;refine Qgh (Nat.lt_of_lt_of_le ?_ p200);rcases Nat.eq_zero_or_pos (sqr z.natAbs) with h | h
  ·rw [h];generalize (10:Nat)^200=P at *;omega
  ·have:=Nat.le_mul_of_pos_left (sqr z.natAbs) h;generalize (10:Nat)^200=P at *
   omega
 have ct:=fun (u:Value) (W:World) (h:IsN W u ((sqr z.natAbs:Nat):Int))=>QcT ((sqr z.natAbs:Nat):Int) u W h (by rw [Int.natAbs_natCast];exact hsl)
 have HI:Shut (∀ (W:World) (v:Value),NA W v (natL (sqr z.natAbs))→∃ p c,v = .slice p (natL (sqr z.natAbs)).length c∧IsN W (.agg #[.bool false,.slice p (natL (sqr z.natAbs)).length c]) ((sqr z.natAbs:Nat):Int)):=⟨fun W v h=>by
  obtain ⟨p,c,rfl,h2⟩:=h.out;exact ⟨p,c,rfl,p,c,by rw [Int.natAbs_natCast,decide_eq_false (by omega)],by rw [Int.natAbs_natCast];exact h2⟩⟩
 generalize txt z=s at *
 generalize ht:txt ((sqr z.natAbs:Nat):Int)=t at *
 go_enter Tryz.func203, Tryz.ntmps203;go_upto_region 2 with (go_at_call 152; refine (cp _).mono ?_;rintro e w1 ⟨u,rfl,⟨p,c,rfl,hn⟩,hB1⟩)
 have hB2:Below w1.heap.size w1 (w1.alloc (O #[.bool false,.slice p (natL z.natAbs).length c] 130)):=(Below.refl _ _).alloc Lr _;have cr:=hr _ _ (hn.below hB2 Lr);have HB1:Shut _:=⟨hB1⟩;clear hn hr hd;go_wp2_with (first | (go_at_call 230; refine cr.mono ?_;rintro e w3 ⟨v3,rfl,hv3,hB3⟩;obtain ⟨p3,c3,rfl,hi3⟩:=HI.o _ _ hv3) | (go_at_call 118; refine (ct _ _ hi3).mono ?_;rintro e w4 ⟨rfl,hB4⟩))
 go_ret2
 have h5:=hB2.trans ((hB3.trans (hB4.mono hB3.size)).mono hB2.size);exact ⟨rfl,HB1.o.trans (h5.mono HB1.o.size)⟩
theorem Qqg (z:Int) (hz:Fits z) (h0:z<0) (w:World) :
  Calls Tryz.prog 203 #[Z (txt z)] w fun e w'=>e = .returned (.tuple #[Z ⟨#[]⟩,.int .i64 30])∧Below w.heap.size w w':=by
 have cp:=fun W=>QhP z hz W;have hd:decide (z<0)=true:=decide_eq_true h0;generalize txt z=s at *
 go_enter Tryz.func203, Tryz.ntmps203;go_upto_region 2 with (go_at_call 152; refine (cp _).mono ?_;rintro e w1 ⟨u,rfl,⟨p,c,rfl,hn⟩,hB1⟩)
 clear hn hd;go_wp2
 go_ret2
 exact ⟨rfl,hB1.alloc hB1.size _⟩
end
end Go.Proofs.YtadcmepaniiciaaGreatDoor
