import Derived.Test.YtihlgifojjeoaaaGreatDoorZ6C2
import Derived.ScopeJumps
import Derived.WalkMore
set_option maxRecDepth 1000000
set_option maxHeartbeats 40000000
open Go.Value renaming string→Z
open Go.Obj renaming cells→O
namespace Go.Proofs.YtihlgifojjeoaaaGreatDoor
namespace Rt
open Go.RowKit Go.Proofs.YtihlgifojjeoaaaGreatDoor.Nm
open N10 (Two)

theorem QkP (x y:Int) (hx:Fits x) (hy:Fits y):∃ (l:ByteArray) (e:Int),Two 66 #[Z (txt x),Z (txt y)] (.tuple #[Z l,.int .i64 e])∧((Fits (x*y)∧l=txt (x*y)∧e=0)∨(¬ Fits (x*y)∧e=30)):=by
 by_cases h:Fits (x*y)
 ·exact ⟨_,_,fun W=>Qav h▸QdF x y hx hy W,.inl ⟨h,rfl,rfl⟩⟩
 ·exact ⟨_,_,fun W=>QaJ h▸QdF x y hx hy W,.inr ⟨h,rfl⟩⟩
theorem Qhk {n1 d1 n2 d2:Int} (h1:0<d1) (h2:0<d2) (hne:n1 / d1≠n2 / d2):cmpZ (n1*d2) (n2*d1)=cmpZ (n1 / d1) (n2 / d2):=by
 have key:∀ {n1 d1 n2 d2:Int},0<d1→0<d2→n1 / d1<n2 / d2→n1*d2<n2*d1:=by
  intro n1 d1 n2 d2 h1 h2 hlt;have a1:n1<(n1 / d1+1)*d1:=Int.lt_ediv_add_one_mul_self n1 h1;have a2:n2 / d2*d2≤n2:=Int.ediv_mul_le n2 (by omega);have b1:n1*d2<(n1 / d1+1)*d1*d2:=Int.mul_lt_mul_of_pos_right a1 h2;have b2:n2 / d2*d2*d1≤n2*d1:=Int.mul_le_mul_of_nonneg_right a2 (by omega);have b3:(n1 / d1+1)*(d1*d2)≤n2 / d2*(d1*d2):=Int.mul_le_mul_of_nonneg_right (by omega) (Int.le_of_lt (Int.mul_pos h1 h2));have e1:(n1 / d1+1)*d1*d2=(n1 / d1+1)*(d1*d2):=Int.mul_assoc _ _ _;have e2:n2 / d2*d2*d1=n2 / d2*(d1*d2):=by rw [Int.mul_assoc,Int.mul_comm d2]
  omega
 unfold cmpZ;rcases Int.lt_trichotomy (n1 / d1) (n2 / d2) with h | h | h
 ·rw [if_pos h,if_pos (key h1 h2 h)]
 ·exact absurd h hne
 ·have:=key h2 h1 h;rw [if_neg (by omega),if_neg (by omega),if_neg (by omega),if_neg (by omega)]
theorem QiU {n1 d1 n2 d2:Int} (he:n1 / d1=n2 / d2):cmpZ (n1*d2) (n2*d1)=cmpZ (d2*(n1 % d1)) (d1*(n2 % d2)):=by
 have e1:=Int.mul_ediv_add_emod n1 d1;have e2:=Int.mul_ediv_add_emod n2 d2;rw [←he] at e2;generalize n1 / d1=k at *
 generalize n1 % d1=a at *
 generalize n2 % d2=b at *
 have x1:n1*d2=d1*k*d2+d2*a:=by rw [←e1,Int.add_mul,Int.mul_comm a]
 have x2:n2*d1=d1*k*d2+d1*b:=by rw [←e2,Int.add_mul,Int.mul_comm b,Int.mul_comm (d2*k),Int.mul_comm d2,←Int.mul_assoc]
 rw [x1,x2];unfold cmpZ;generalize d1*k*d2=g;generalize d2*a=x;generalize d1*b=y;by_cases h:x<y
 ·rw [if_pos h,if_pos (by omega)]
 ·by_cases h2:x=y
  ·rw [if_neg h,if_pos h2,if_neg (by omega),if_pos (by omega)]
  ·rw [if_neg h,if_neg h2,if_neg (by omega),if_neg (by omega)]
theorem QiV {a b d1 d2:Int} (h1:0<d1) (h2:0<d2) (ha:0≤a) (hb:0≤b) (h:a=0∨b=0):cmpZ (d2*a) (d1*b)=cmpZ a b:=by
 have p1:0<a→0<d2*a:=fun h=>Int.mul_pos h2 h;have p2:0<b→0<d1*b:=fun h=>Int.mul_pos h1 h;have z1:a=0→d2*a=0:=fun h=>by rw [h,Int.mul_zero]
 have z2:b=0→d1*b=0:=fun h=>by rw [h,Int.mul_zero]
 generalize d2*a=x at *
 generalize d1*b=y at *
 unfold cmpZ;rcases h with h | h
 ·have:=z1 h;by_cases hb0:b=0
  ·have:=z2 hb0;rw [if_neg (by omega),if_pos (by omega),if_neg (by omega),if_pos (by omega)]
  ·have:=p2 (by omega);rw [if_pos (by omega),if_pos (by omega)]
 ·have:=z2 h;by_cases ha0:a=0
  ·have:=z1 ha0;rw [if_neg (by omega),if_pos (by omega),if_neg (by omega),if_pos (by omega)]
  ·have:=p1 (by omega);rw [if_neg (by omega),if_neg (by omega),if_neg (by omega),if_neg (by omega)]
structure CmS (c:Int) (k:Nat) (s t u v:ByteArray):Prop where
 ex:∃ n1 d1 n2 d2:Int,Fits n1∧Fits d1∧Fits n2∧Fits d2∧0<d1∧0<d2∧cmpZ (n1*d2) (n2*d1)=c∧k=d1.toNat+d2.toNat∧s=txt n1∧t=txt d1∧u=txt n2∧v=txt d2
def QiW (o:Option Value):Nat:=match o with
 | some (Z s)=>(decN (dvl (bl s))).length*0+dvl (bl s)
 | _=>0
def meas (b:Nat) (W:World):Nat:=QiW (W.cell? ⟨b,1,none⟩)+QiW (W.cell? ⟨b+1,1,none⟩)
theorem QeR {d:Int} (h:0<d):QiW (some (Z (txt d)))=d.toNat:=by
 have:=(N10.Qmo d (by omega)).2.1;simp only [QiW];omega
theorem Qoj {b:Nat} {W:World} {s t u v:ByteArray} {c:Int} {k:Nat} (h:AB b W s t u v) (hs:CmS c k s t u v):meas b W=k:=by
 obtain ⟨n1,d1,n2,d2, -, -, -, -,p1,p2, -,hk, -,rfl, -,rfl⟩:=hs.ex;obtain ⟨-,c1, -,c3⟩:=h.cells;rw [meas,c1,c3,QeR p1,QeR p2,hk]
theorem QhZ {c : Int} {k : Nat} {s t u v : ByteArray} (h : CmS c k s t u v) : ∃ (l r : ByteArray) (e1 e2 : Int),
    Two 66 #[Z s, Z v] (.tuple #[Z l, .int .i64 e1]) ∧ Two 66 #[Z u, Z t] (.tuple #[Z r, .int .i64 e2]) ∧
    ((e1 = 0 ∧ e2 = 0 ∧ Two 67 #[Z l, Z r] (.int .i64 c)) ∨
     ((e1 = 30 ∨ (e1 = 0 ∧ e2 = 30)) ∧ ∃ q1 r1 q2 r2 : ByteArray, Two 68 #[Z s, Z t] (.tuple #[Z q1, Z r1, .int .i64 0]) ∧ Two 68 #[Z u, Z v] (.tuple #[Z q2, Z r2, .int .i64 0]) ∧
       (((q1.toList == q2.toList) = false ∧ Two 67 #[Z q1, Z q2] (.int .i64 c)) ∨
        (q1 = q2 ∧ ((r1.toList == [48]) = true ∨ ((r1.toList == [48]) = false ∧ (r2.toList == [48]) = true)) ∧ Two 67 #[Z r1, Z r2] (.int .i64 c)) ∨
        (q1 = q2 ∧ (r1.toList == [48]) = false ∧ (r2.toList == [48]) = false ∧ ∃ k' : Nat, k' < k ∧ CmS c k' v r2 t r1)))) := by
  obtain ⟨n1, d1, n2, d2, f1, f2, f3, f4, p1, p2, hc, hk, rfl, rfl, rfl, rfl⟩ := h.ex;obtain ⟨l, e1, m1, o1⟩ := QkP n1 d2 f1 f4;obtain ⟨r, e2, m2, o2⟩ := QkP n2 d1 f3 f2;refine ⟨l, r, e1, e2, m1, m2, ?_⟩;by_cases hb : Fits (n1 * d2) ∧ Fits (n2 * d1)
  · rcases o1 with ⟨g1, rfl, rfl⟩ | ⟨g1, rfl⟩
    · rcases o2 with ⟨g2, rfl, rfl⟩ | ⟨g2, rfl⟩
      · refine .inl ⟨rfl, rfl, fun W => ?_⟩
        have := QdZ _ _ g1 g2 W;rw [hc] at this;exact this
      · exact absurd hb.2 g2
    · exact absurd hb.1 g1
  · refine .inr ⟨?_, txt (n1 / d1), txt (n1 % d1), txt (n2 / d2), txt (n2 % d2), fun W => QiI _ _ f1 f2 (by omega) W, fun W => QiI _ _ f3 f4 (by omega) W, ?_⟩
    · rcases o1 with ⟨g1, -, rfl⟩ | ⟨g1, rfl⟩
      · rcases o2 with ⟨g2, -, rfl⟩ | ⟨g2, rfl⟩
        · exact absurd ⟨g1, g2⟩ hb
        · exact .inr ⟨rfl, rfl⟩
      · exact .inl rfl
    have g1 := Int.emod_nonneg n1 (show d1 ≠ 0 by omega);have g2 := Int.emod_nonneg n2 (show d2 ≠ 0 by omega);have l1 := Int.emod_lt_of_pos n1 p1;have l2 := Int.emod_lt_of_pos n2 p2;have fr1 : Fits (n1 % d1) := QbI f2 (by omega);have fr2 : Fits (n2 % d2) := QbI f4 (by omega);by_cases hq : n1 / d1 = n2 / d2
    · have hr := QiU hq
      by_cases hz : n1 % d1 = 0 ∨ n2 % d2 = 0
      · refine .inr (.inl ⟨by rw [hq], ?_, fun W => ?_⟩)
        · rw [QbN, QbN]
          by_cases h0 : n1 % d1 = 0
          · exact .inl (by simpa using h0)
          · exact .inr ⟨by simpa using h0, by simpa using hz.resolve_left h0⟩
        · have := QdZ (n1 % d1) (n2 % d2) fr1 fr2 W
          rw [← QiV p1 p2 g1 g2 hz, ← hr, hc] at this;exact this
      · refine .inr (.inr ⟨by rw [hq], ?_, ?_, (n2 % d2).toNat + (n1 % d1).toNat, by omega, ⟨d2, n2 % d2, d1, n1 % d1, f4, fr2, f2, fr1, by omega, by omega, by rw [← hr, hc], rfl, rfl, rfl, rfl, rfl⟩⟩)
        · rw [QbN]; simp; omega
        · rw [QbN]; simp; omega
    · refine .inl ⟨?_, fun W => ?_⟩
      · rw [QcU]; exact decide_eq_false fun e => hq (Qcv e)
      · have := QdZ (n1 / d1) (n2 / d2) (QaX f1) (QaX f3) W
        rw [← Qhk p1 p2 hq, hc] at this;exact this
def CmJ (b:Nat) (w:World) (c:Int) (s0 t0 u0 v0:ByteArray) (a:Act) (W:World):Prop :=
 ∃ (s t u v:ByteArray) (k:Nat),Shut (CmS c k s t u v)∧Shut (AB b W s t u v)∧Shut (Below w.heap.size w W)∧∃ y5 y6 y7 y8 y9 y10 y11 y12 y13 y14 y15 y16 y17 y18 y19 y20 y21 y22 y23 y24 y25 y26 y27 y28 y29 y30 y31 y32 y33 y34 y35 y36 y37 y38 y39 y40 y41 y42 y43 y44 y45 y46 y47 y48 y49 y50 y51 y52 y53 y54 y55 y56 y57 y58 y59 y60 y61 y62 y63 y64 y65 y66 y67 y68 y69 y70 y71 y72 y73 y74 y75 y76 y77 y78 y79 y80 y81 y82 y83 y84 y85 y86 y87 y88 y89 y90 y91 y92 y93:Value,a=⟨#[.agg #[Z s0,Z t0],.agg #[Z u0,Z v0],.pointer (some ⟨b,0,none⟩),.pointer (some ⟨b+1,0,none⟩),.int .i64 0,y5,y6,y7,y8,y9,y10,y11,y12,y13,y14,y15,y16,y17,y18,y19,y20,y21,y22,y23,y24,y25,y26,y27,y28,y29,y30,y31,y32,y33,y34,y35,y36,y37,y38,y39,y40,y41,y42,y43,y44,y45,y46,y47,y48,y49,y50,y51,y52,y53,y54,y55,y56,y57,y58,y59,y60,y61,y62,y63,y64,y65,y66,y67,y68,y69,y70,y71,y72,y73,y74,y75,y76,y77,y78,y79,y80,y81,y82,y83,y84,y85,y86,y87,y88,y89,y90,y91,y92,y93], []⟩
theorem QiX (s0 t0 u0 v0:ByteArray) (c:Int) (k0:Nat) (w:World) (h:¬(s0=u0∧t0=v0)) (hs0:CmS c k0 s0 t0 u0 v0)
  (hV1:∀ W:World,Calls Tryz.prog 65 #[.agg #[Z s0,Z t0]] W fun e W'=>e = .returned (.bool true)∧Below W.heap.size W W')
  (hV2:∀ W:World,Calls Tryz.prog 65 #[.agg #[Z u0,Z v0]] W fun e W'=>e = .returned (.bool true)∧Below W.heap.size W W') :
  Calls Tryz.prog 27 #[.agg #[Z s0,Z t0],.agg #[Z u0,Z v0]] w fun e w'=>e = .returned (.int .i64 c)∧Below w.heap.size w w':=by
 have inj:∀ a b:ByteArray,a.toList=b.toList→a=b:=fun a b h=>by
  have:=QcU a b;rw [h] at this;simpa using this.symm
 have a0:=AB.new w s0 t0 u0 v0;have u00:=((Below.refl w.heap.size w).alloc Lr (O #[Z s0,Z t0] 42)).alloc (by simp) (O #[Z u0,Z v0] 42);have HS0:Shut _:=⟨hs0⟩;clear hs0;go_enter Tryz.func27, Tryz.ntmps27;go_wp2;generalize ((w.alloc (O #[Z s0,Z t0] 42)).alloc (O #[Z u0,Z v0] 42))=W0 at *
 obtain ⟨b,hb⟩:∃ b,b=w.heap.size:=⟨_,rfl⟩;rw [←hb] at a0;rw [←hb];have hbw:w.heap.size≤b:=by omega
 have HU:Shut _:=⟨u00⟩;clear hb u00;refine wp_scope_jumps 0 (CmJ b w c s0 t0 u0 v0) (fun _ W=>meas b W) rfl ?_ ?_
 ·by_cases h1:s0=u0
  ·have h2:¬ t0.toList=v0.toList:=fun e=>h ⟨h1,inj _ _ e⟩;have h3:s0.toList=u0.toList:=by rw [h1]
   clear h h1 inj;have a0c:=a0.cells;obtain ⟨x0,x1,x2,x3⟩:=a0c;go_wp2_with (first | (go_at_call 65; with_reducible refine (hV1 _).mono ?_;rintro e w1 ⟨rfl,hB1⟩;have a1:=a0.keep hB1;obtain ⟨x0,x1,x2,x3⟩:=a1.cells) | (go_at_call 65; with_reducible refine (hV2 _).mono ?_;rintro e w2 ⟨rfl,hB2⟩;have a2:=a1.keep hB2;obtain ⟨y0,y1,y2,y3⟩:=a2.cells));go_step3;have bW:=(HU.o.trans (hB1.mono HU.o.size)).trans (hB2.mono (HU.o.trans (hB1.mono HU.o.size)).size);have HA:Shut _:=⟨a2⟩;have HS:=HS0;clear hB1 hB2 HU a1 a0 HS0;obtain ⟨l,r,e1,e2,m1,m2,hw⟩:=QhZ HS.o;rcases hw with ⟨rfl,rfl,cc⟩ | ⟨he,q1,r1,q2,r2,dv1,dv2,hw⟩
   rotate_left
   rcases he with rfl | ⟨rfl,rfl⟩;rcases hw with ⟨hq,cc⟩ | ⟨rfl,hz,cc⟩ | ⟨rfl,hz1,hz2,k',hk,hn⟩
   rotate_left
   rcases hz with hz | ⟨hz,hz2⟩
   rotate_left 3
   rcases hw with ⟨hq,cc⟩ | ⟨rfl,hz,cc⟩ | ⟨rfl,hz1,hz2,k',hk,hn⟩
   rotate_left
   rcases hz with hz | ⟨hz,hz2⟩
   all_goals go_wp2_with (first | (go_at_call 66; with_reducible refine (m1.run _).mono ?_;rintro e w3 ⟨rfl,hB3⟩;have a3:=HA.o.keep hB3;obtain ⟨z0,z1,z2,z3⟩:=a3.cells;have b3:=bW.trans (hB3.mono bW.size)) | (go_at_call 66; with_reducible refine (m2.run _).mono ?_;rintro e w4 ⟨rfl,hB4⟩;have a4:=a3.keep hB4;obtain ⟨o0,o1,o2,o3⟩:=a4.cells;have b4:=b3.trans (hB4.mono b3.size)) | (go_at_call 68; with_reducible refine (dv1.run _).mono ?_;rintro e w5 ⟨rfl,hB5⟩;have a5:=a4.keep hB5;obtain ⟨p0,p1,p2,p3⟩:=a5.cells;have b5:=b4.trans (hB5.mono b4.size)) | (go_at_call 68; with_reducible refine (dv2.run _).mono ?_;rintro e w6 ⟨rfl,hB6⟩;have a6:=a5.keep hB6;obtain ⟨j0,j1,j2,j3⟩:=a6.cells;have b6:=b5.trans (hB6.mono b5.size);have fz0:=Qad a6.a 0;have fz1:=Qad a6.a 1;have fz2:=Qad a6.b 0;have fz3:=Qad a6.b 1) | (go_at_call 67; with_reducible refine (cc.run _).mono ?_;rintro e w7 ⟨rfl,hB7⟩;first | have b7:=b6.trans (hB7.mono b6.size) | have b7:=b4.trans (hB7.mono b4.size)))
   all_goals first
    | (simp only [Exit.jump];go_ret;exact ⟨rfl,b7⟩)
    | (go_step3
       have q1:=Qdj (b:=b+1) (u:=Z t0) (v:=Z r1) (Qfh (u:=Z v0) (v:=Z r2) a6.a) (by omega);have q2:=Qfh (u:=Z t0) (v:=Z r1) (Qdj (b:=b) (u:=Z v0) (v:=Z r2) a6.b (by omega));have q3:=(((b6.setCell (p:=⟨b,0,none⟩) hbw (Z v0)).setCell (p:=⟨b,1,none⟩) hbw (Z r2)).setCell (p:=⟨b+1,0,none⟩) (Nat.le_succ_of_le hbw) (Z t0)).setCell (p:=⟨b+1,1,none⟩) (Nat.le_succ_of_le hbw) (Z r1);exact ⟨rfl,⟨_,_,_,_,k',⟨hn⟩,⟨⟨q1,q2⟩⟩,⟨q3⟩,_,_,_,_,_,_,_,_,_,_,_,_,_,_,_,_,_,_,_,_,_,_,_,_,_,_,_,_,_,_,_,_,_,_,_,_,_,_,_,_,_,_,_,_,_,_,_,_,_,_,_,_,_,_,_,_,_,_,_,_,_,_,_,_,_,_,_,_,_,_,_,_,_,_,_,_,_,_,_,_,_,_,_,_,_,_,_,_,_,rfl⟩⟩)
  ·have h3:¬ s0.toList=u0.toList:=fun e=>h1 (inj _ _ e);clear h h1 inj;have a0c:=a0.cells;obtain ⟨x0,x1,x2,x3⟩:=a0c;go_wp2_with (first | (go_at_call 65; with_reducible refine (hV1 _).mono ?_;rintro e w1 ⟨rfl,hB1⟩;have a1:=a0.keep hB1;obtain ⟨x0,x1,x2,x3⟩:=a1.cells) | (go_at_call 65; with_reducible refine (hV2 _).mono ?_;rintro e w2 ⟨rfl,hB2⟩;have a2:=a1.keep hB2;obtain ⟨y0,y1,y2,y3⟩:=a2.cells));go_step3;have bW:=(HU.o.trans (hB1.mono HU.o.size)).trans (hB2.mono (HU.o.trans (hB1.mono HU.o.size)).size);have HA:Shut _:=⟨a2⟩;have HS:=HS0;clear hB1 hB2 HU a1 a0 HS0;obtain ⟨l,r,e1,e2,m1,m2,hw⟩:=QhZ HS.o;rcases hw with ⟨rfl,rfl,cc⟩ | ⟨he,q1,r1,q2,r2,dv1,dv2,hw⟩
   rotate_left
   rcases he with rfl | ⟨rfl,rfl⟩;rcases hw with ⟨hq,cc⟩ | ⟨rfl,hz,cc⟩ | ⟨rfl,hz1,hz2,k',hk,hn⟩
   rotate_left
   rcases hz with hz | ⟨hz,hz2⟩
   rotate_left 3
   rcases hw with ⟨hq,cc⟩ | ⟨rfl,hz,cc⟩ | ⟨rfl,hz1,hz2,k',hk,hn⟩
   rotate_left
   rcases hz with hz | ⟨hz,hz2⟩
   all_goals go_wp2_with (first | (go_at_call 66; with_reducible refine (m1.run _).mono ?_;rintro e w3 ⟨rfl,hB3⟩;have a3:=HA.o.keep hB3;obtain ⟨z0,z1,z2,z3⟩:=a3.cells;have b3:=bW.trans (hB3.mono bW.size)) | (go_at_call 66; with_reducible refine (m2.run _).mono ?_;rintro e w4 ⟨rfl,hB4⟩;have a4:=a3.keep hB4;obtain ⟨o0,o1,o2,o3⟩:=a4.cells;have b4:=b3.trans (hB4.mono b3.size)) | (go_at_call 68; with_reducible refine (dv1.run _).mono ?_;rintro e w5 ⟨rfl,hB5⟩;have a5:=a4.keep hB5;obtain ⟨p0,p1,p2,p3⟩:=a5.cells;have b5:=b4.trans (hB5.mono b4.size)) | (go_at_call 68; with_reducible refine (dv2.run _).mono ?_;rintro e w6 ⟨rfl,hB6⟩;have a6:=a5.keep hB6;obtain ⟨j0,j1,j2,j3⟩:=a6.cells;have b6:=b5.trans (hB6.mono b5.size);have fz0:=Qad a6.a 0;have fz1:=Qad a6.a 1;have fz2:=Qad a6.b 0;have fz3:=Qad a6.b 1) | (go_at_call 67; with_reducible refine (cc.run _).mono ?_;rintro e w7 ⟨rfl,hB7⟩;first | have b7:=b6.trans (hB7.mono b6.size) | have b7:=b4.trans (hB7.mono b4.size)))
   all_goals first
    | (simp only [Exit.jump];go_ret;exact ⟨rfl,b7⟩)
    | (go_step3
       have q1:=Qdj (b:=b+1) (u:=Z t0) (v:=Z r1) (Qfh (u:=Z v0) (v:=Z r2) a6.a) (by omega);have q2:=Qfh (u:=Z t0) (v:=Z r1) (Qdj (b:=b) (u:=Z v0) (v:=Z r2) a6.b (by omega));have q3:=(((b6.setCell (p:=⟨b,0,none⟩) hbw (Z v0)).setCell (p:=⟨b,1,none⟩) hbw (Z r2)).setCell (p:=⟨b+1,0,none⟩) (Nat.le_succ_of_le hbw) (Z t0)).setCell (p:=⟨b+1,1,none⟩) (Nat.le_succ_of_le hbw) (Z r1);exact ⟨rfl,⟨_,_,_,_,k',⟨hn⟩,⟨⟨q1,q2⟩⟩,⟨q3⟩,_,_,_,_,_,_,_,_,_,_,_,_,_,_,_,_,_,_,_,_,_,_,_,_,_,_,_,_,_,_,_,_,_,_,_,_,_,_,_,_,_,_,_,_,_,_,_,_,_,_,_,_,_,_,_,_,_,_,_,_,_,_,_,_,_,_,_,_,_,_,_,_,_,_,_,_,_,_,_,_,_,_,_,_,_,_,_,_,_,rfl⟩⟩)
 ·clear a0 HU HS0 h inj hV1 hV2;rintro a' W ⟨s,t,u,v,k,HS,HA,HU,y5,y6,y7,y8,y9,y10,y11,y12,y13,y14,y15,y16,y17,y18,y19,y20,y21,y22,y23,y24,y25,y26,y27,y28,y29,y30,y31,y32,y33,y34,y35,y36,y37,y38,y39,y40,y41,y42,y43,y44,y45,y46,y47,y48,y49,y50,y51,y52,y53,y54,y55,y56,y57,y58,y59,y60,y61,y62,y63,y64,y65,y66,y67,y68,y69,y70,y71,y72,y73,y74,y75,y76,y77,y78,y79,y80,y81,y82,y83,y84,y85,y86,y87,y88,y89,y90,y91,y92,y93,rfl⟩;have bW:=HU.o;obtain ⟨x0,x1,x2,x3⟩:=HA.o.cells;clear HU;obtain ⟨l,r,e1,e2,m1,m2,hw⟩:=QhZ HS.o;rcases hw with ⟨rfl,rfl,cc⟩ | ⟨he,q1,r1,q2,r2,dv1,dv2,hw⟩
  rotate_left
  rcases he with rfl | ⟨rfl,rfl⟩;rcases hw with ⟨hq,cc⟩ | ⟨rfl,hz,cc⟩ | ⟨rfl,hz1,hz2,k',hk,hn⟩
  rotate_left
  rcases hz with hz | ⟨hz,hz2⟩
  rotate_left 3
  rcases hw with ⟨hq,cc⟩ | ⟨rfl,hz,cc⟩ | ⟨rfl,hz1,hz2,k',hk,hn⟩
  rotate_left
  rcases hz with hz | ⟨hz,hz2⟩
  all_goals go_wp2_with (first | (go_at_call 66; with_reducible refine (m1.run _).mono ?_;rintro e w3 ⟨rfl,hB3⟩;have a3:=HA.o.keep hB3;obtain ⟨z0,z1,z2,z3⟩:=a3.cells;have b3:=bW.trans (hB3.mono bW.size)) | (go_at_call 66; with_reducible refine (m2.run _).mono ?_;rintro e w4 ⟨rfl,hB4⟩;have a4:=a3.keep hB4;obtain ⟨o0,o1,o2,o3⟩:=a4.cells;have b4:=b3.trans (hB4.mono b3.size)) | (go_at_call 68; with_reducible refine (dv1.run _).mono ?_;rintro e w5 ⟨rfl,hB5⟩;have a5:=a4.keep hB5;obtain ⟨p0,p1,p2,p3⟩:=a5.cells;have b5:=b4.trans (hB5.mono b4.size)) | (go_at_call 68; with_reducible refine (dv2.run _).mono ?_;rintro e w6 ⟨rfl,hB6⟩;have a6:=a5.keep hB6;obtain ⟨j0,j1,j2,j3⟩:=a6.cells;have b6:=b5.trans (hB6.mono b5.size);have fz0:=Qad a6.a 0;have fz1:=Qad a6.a 1;have fz2:=Qad a6.b 0;have fz3:=Qad a6.b 1) | (go_at_call 67; with_reducible refine (cc.run _).mono ?_;rintro e w7 ⟨rfl,hB7⟩;first | have b7:=b6.trans (hB7.mono b6.size) | have b7:=b4.trans (hB7.mono b4.size)))
  all_goals first
   | (simp only [Exit.jump];go_ret;exact ⟨rfl,b7⟩)
   | (go_step3
      have q1:=Qdj (b:=b+1) (u:=Z t) (v:=Z r1) (Qfh (u:=Z v) (v:=Z r2) a6.a) (by omega);have q2:=Qfh (u:=Z t) (v:=Z r1) (Qdj (b:=b) (u:=Z v) (v:=Z r2) a6.b (by omega));have q3:=(((b6.setCell (p:=⟨b,0,none⟩) hbw (Z v)).setCell (p:=⟨b,1,none⟩) hbw (Z r2)).setCell (p:=⟨b+1,0,none⟩) (Nat.le_succ_of_le hbw) (Z t)).setCell (p:=⟨b+1,1,none⟩) (Nat.le_succ_of_le hbw) (Z r1);refine ⟨rfl,⟨_,_,_,_,k',⟨hn⟩,⟨⟨q1,q2⟩⟩,⟨q3⟩,_,_,_,_,_,_,_,_,_,_,_,_,_,_,_,_,_,_,_,_,_,_,_,_,_,_,_,_,_,_,_,_,_,_,_,_,_,_,_,_,_,_,_,_,_,_,_,_,_,_,_,_,_,_,_,_,_,_,_,_,_,_,_,_,_,_,_,_,_,_,_,_,_,_,_,_,_,_,_,_,_,_,_,_,_,_,_,_,_,rfl⟩, ?_⟩;rw [Qoj ⟨q1,q2⟩ hn,Qoj HA.o HS.o];exact hk)
theorem QgB {p q:Rat} (hp:FitQ p) (hq:FitQ q) (w:World):Calls Tryz.prog 27 #[rq p,rq q] w fun e w'=>e = .returned (.int .i64 (cmpQ p q))∧Below w.heap.size w w':=by
 by_cases he:p=q
 ·subst he;rw [Qgv];exact QiN _ _ w
 ·have d1:=p.den_pos;have d2:=q.den_pos;exact QiX _ _ _ _ (cmpQ p q) _ w (fun h=>he (QfJ (Prod.ext h.1 h.2))) ⟨p.num,p.den,q.num,q.den,hp.1,hp.2,hq.1,hq.2,by omega,by omega,rfl,rfl,rfl,rfl,rfl,rfl⟩ (QnW hp) (QnW hq)
end Rt
end Go.Proofs.YtihlgifojjeoaaaGreatDoor
