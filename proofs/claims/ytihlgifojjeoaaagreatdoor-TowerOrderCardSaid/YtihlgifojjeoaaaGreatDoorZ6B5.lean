import Derived.Test.YtihlgifojjeoaaaGreatDoorZ6B1
import Derived.Test.YtihlgifojjeoaaaGreatDoorZ6B2
import Derived.Test.YtihlgifojjeoaaaGreatDoorZ6B3
import Derived.Test.YtihlgifojjeoaaaGreatDoorZ6B4
set_option maxRecDepth 1000000
set_option maxHeartbeats 40000000
open Go.Value renaming string→Z
open Go.Obj renaming cells→O
namespace Go.Proofs.YtihlgifojjeoaaaGreatDoor
section
open Go.RowKit Nm

theorem divP (a b:Nat):(a:Int) / (b:Int)=((a / b:Nat):Int)∧(a:Int) % (b:Int)=((a % b:Nat):Int):=⟨(Int.natCast_ediv a b).symm,(Int.natCast_emod a b).symm⟩
theorem QvI (a b:Nat) (hb:0<b) (h:a % b=0):(-(a:Int)) / (b:Int) = -((a / b:Nat):Int)∧(-(a:Int)) % (b:Int)=0:=by
 rw [Int.ediv_emod_unique (show (0:Int)<b by omega)];have h1:=Nat.div_add_mod a b;have h2:((b*(a / b)+a % b:Nat):Int)=(a:Int):=by rw [h1]
 rw [h,Nat.add_zero,Int.natCast_mul] at h2;refine ⟨by rw [Int.mul_neg,h2];omega,by omega,by omega⟩
theorem QvJ (a b:Nat) (hb:0<b) (h:0<a % b):(-(a:Int)) / (b:Int) = -((a / b+1:Nat):Int)∧(-(a:Int)) % (b:Int)=((b-a % b:Nat):Int):=by
 rw [Int.ediv_emod_unique (show (0:Int)<b by omega)];have h1:=Nat.div_add_mod a b;have h3:=Nat.mod_lt a hb;have h2:((b*(a / b)+a % b:Nat):Int)=(a:Int):=by rw [h1]
 rw [Int.natCast_add,Int.natCast_mul] at h2;refine ⟨?_,by omega,by omega⟩;rw [Int.natCast_add,Int.mul_neg,Int.mul_add,←h2];omega
theorem Qrf (s:Bool) (Q:Nat):(s && decide (0<(natL Q).length))=decide ((if s=true then -(Q:Int) else (Q:Int))<0)∧(if s=true then -(Q:Int) else (Q:Int)).natAbs=Q:=by
 have hz:(natL Q).length=0↔Q=0:=QaF;cases s with
 | false=>exact ⟨by rw [Bool.false_and,if_neg (by decide),decide_eq_false (by omega)],by rw [if_neg (by decide)];omega⟩
 | true =>
  refine ⟨?_,by rw [if_pos rfl];omega⟩;rw [Bool.true_and,if_pos rfl,decide_eq_decide];constructor
  ·intro h;have:Q≠0:=fun h0=>by have:=hz.2 h0;omega
   omega
  ·intro h;have:=mt hz.1 (show Q≠0 by omega);omega
theorem QkB (x y:Int) (hy:y≠0) (Q R:Nat) (h:(¬(x<0∧0<x.natAbs % y.natAbs)∧Q=x.natAbs / y.natAbs∧R=x.natAbs % y.natAbs)∨(x<0∧0<x.natAbs % y.natAbs∧Q=x.natAbs / y.natAbs+1∧R=y.natAbs-x.natAbs % y.natAbs)) :
  x / y=(if (!(decide (x<0) == decide (y<0)))=true then -(Q:Int) else (Q:Int))∧x % y=(R:Int):=by
 have hb:0<y.natAbs:=by omega
 have key:∀ (z:Int),(z=x)→(if x<0 then (-(x.natAbs:Int)) else (x.natAbs:Int)) / (y.natAbs:Int)=(if x<0 then -(Q:Int) else (Q:Int))∧(if x<0 then (-(x.natAbs:Int)) else (x.natAbs:Int)) % (y.natAbs:Int)=(R:Int):=by
  intro z _;by_cases hx:x<0
  ·rw [if_pos hx,if_pos hx];rcases h with ⟨h1,rfl,rfl⟩ | ⟨_,h1,rfl,rfl⟩
   ·have h2:x.natAbs % y.natAbs=0:=by
     rcases Nat.eq_zero_or_pos (x.natAbs % y.natAbs) with h3 | h3
     ·exact h3
     ·exact absurd ⟨hx,h3⟩ h1
    rw [h2];exact QvI _ _ hb h2
   ·exact QvJ _ _ hb h1
  ·rw [if_neg hx,if_neg hx];rcases h with ⟨_,rfl,rfl⟩ | ⟨h1,_⟩
   ·exact divP _ _
   ·exact absurd h1 hx
 obtain ⟨k1,k2⟩:=key x rfl;have hxe:(if x<0 then (-(x.natAbs:Int)) else (x.natAbs:Int))=x:=by split <;> omega
 rw [hxe] at k1 k2;by_cases hy0:y<0
 ·have hye:y = -(y.natAbs:Int):=by omega
  have e1:x / y = -(x / (y.natAbs:Int)):=by
   calc x / y=x / (-(y.natAbs:Int)):=by rw [←hye]
    _=_:=Int.ediv_neg _ _
  have e2:x % y=x % (y.natAbs:Int):=by
   calc x % y=x % (-(y.natAbs:Int)):=by rw [←hye]
    _=_:=Int.emod_neg _ _
  rw [e1,e2,k1,k2,decide_eq_true hy0];refine ⟨?_,rfl⟩;by_cases hx:x<0
  ·rw [if_pos hx,decide_eq_true hx];simp
  ·rw [if_neg hx,decide_eq_false hx];simp
 ·have hye:(y.natAbs:Int)=y:=by omega
  rw [hye] at k1 k2;rw [k1,k2,decide_eq_false hy0];refine ⟨?_,rfl⟩;by_cases hx:x<0
  ·rw [if_pos hx,decide_eq_true hx];simp
  ·rw [if_neg hx,decide_eq_false hx];simp
theorem Qdg (x y:Int) (hy:y≠0) (Q R:Nat) (h:(¬(x<0∧0<x.natAbs % y.natAbs)∧Q=x.natAbs / y.natAbs∧R=x.natAbs % y.natAbs)∨(x<0∧0<x.natAbs % y.natAbs∧Q=x.natAbs / y.natAbs+1∧R=y.natAbs-x.natAbs % y.natAbs)) :
  (!(decide (x<0) == decide (y<0)) && decide (0<(natL Q).length))=decide (x / y<0)∧(x / y).natAbs=Q∧decide (x % y<0)=false∧(x % y).natAbs=R:=by
 obtain ⟨h1,h2⟩:=QkB x y hy Q R h;have h3:=Qrf (!(decide (x<0) == decide (y<0))) Q;rw [←h1] at h3;rw [h2];exact ⟨h3.1,h3.2,decide_eq_false (by omega),by omega⟩

def box4 (w:World) (a b c d:Array Value):World:=(box3 w a b c).alloc (.cells d 130)
theorem QlV (w:World) (a b c d:Array Value):Below w.heap.size w (box4 w a b c d):=(QcF w a b c).alloc (QcF w a b c).size _
theorem QpJ (w:World) (a b c d:Array Value):RowAt (box4 w a b c d) w.heap.size a 130 ∧ RowAt (box4 w a b c d) (w.heap.size+1) b 130 ∧ RowAt (box4 w a b c d) (w.heap.size+1+1) c 130 ∧ RowAt (box4 w a b c d) (w.heap.size+1+1+1) d 130 := by
 obtain ⟨h1,h2,h3⟩:=QeD w a b c;have h4:=RowAt.new (box3 w a b c) d 130;rw [QiE] at h4;exact ⟨RowAt.alloc h1 _,RowAt.alloc h2 _,RowAt.alloc h3 _,h4⟩

theorem Qgk (x y:Int) (Q R:Nat) (S:Bool) (w W:World) (b:Nat) (hb:w.heap.size≤b) (c d:Value) (c' d':Value) (hc:∀ k n,c ≠ .int k n) (hd:∀ k n,d ≠ .int k n) (hc':∀ k n,c' ≠ .int k n) (hd':∀ k n,d' ≠ .int k n) (h3:RowAt W b #[c,d] 130) (h4:RowAt W (b+1) #[c',d'] 130) (hB:Below w.heap.size w W) (p3 p4:Option Addr) (cp3 cp4:Nat) (hv3:NA W (.slice p3 (natL Q).length cp3) (natL Q)) (hv4:NA W (.slice p4 (natL R).length cp4) (natL R))
  (HD:(S && decide (0<(natL Q).length))=decide (x / y<0)∧(x / y).natAbs=Q∧decide (x % y<0)=false∧(x % y).natAbs=R) :
  IsN ((((W.setCell ⟨b,0,none⟩ (.bool (S && decide (0<(natL Q).length)))).setCell ⟨b,1,none⟩ (.slice p3 (natL Q).length cp3)).setCell ⟨b+1,0,none⟩ (.bool false)).setCell ⟨b+1,1,none⟩ (.slice p4 (natL R).length cp4)) (.agg #[.bool (S && decide (0<(natL Q).length)),.slice p3 (natL Q).length cp3]) (x / y) ∧
  IsN ((((W.setCell ⟨b,0,none⟩ (.bool (S && decide (0<(natL Q).length)))).setCell ⟨b,1,none⟩ (.slice p3 (natL Q).length cp3)).setCell ⟨b+1,0,none⟩ (.bool false)).setCell ⟨b+1,1,none⟩ (.slice p4 (natL R).length cp4)) (.agg #[.bool false,.slice p4 (natL R).length cp4]) (x % y) ∧
  Below w.heap.size w ((((W.setCell ⟨b,0,none⟩ (.bool (S && decide (0<(natL Q).length)))).setCell ⟨b,1,none⟩ (.slice p3 (natL Q).length cp3)).setCell ⟨b+1,0,none⟩ (.bool false)).setCell ⟨b+1,1,none⟩ (.slice p4 (natL R).length cp4)):=by
 obtain ⟨e1,e2,e3,e4⟩:=HD;have e:b+1≠b:=by omega
 have key:∀ {v:Value} {l:List Nat},NA W v l→NA ((((W.setCell ⟨b,0,none⟩ (.bool (S && decide (0<(natL Q).length)))).setCell ⟨b,1,none⟩ (.slice p3 (natL Q).length cp3)).setCell ⟨b+1,0,none⟩ (.bool false)).setCell ⟨b+1,1,none⟩ (.slice p4 (natL R).length cp4)) v l:=fun h =>
  (h.setNum2 h3 hc hd (S && decide (0<(natL Q).length)) (.slice p3 (natL Q).length cp3)).setNum2 ((RowAt.set_other h4 ⟨b,0,none⟩ e _).set_other ⟨b,1,none⟩ e _) hc' hd' false (.slice p4 (natL R).length cp4)
 refine ⟨⟨p3,cp3,by rw [e1,e2],by rw [e2];exact key hv3⟩,⟨p4,cp4,by rw [e3,e4],by rw [e4];exact key hv4⟩, ?_⟩;exact (((hB.setCell (p:=⟨b,0,none⟩) hb _).setCell (p:=⟨b,1,none⟩) hb _).setCell (p:=⟨b+1,0,none⟩) (Nat.le_succ_of_le hb) _).setCell (p:=⟨b+1,1,none⟩) (Nat.le_succ_of_le hb) _

theorem QlW (x y:Int) (u v:Value) (w:World) (hx:IsN w u x) (hy:IsN w v y) (hl:(natL x.natAbs).length≤900) (hl2:(natL y.natAbs).length≤900) (hy0:y≠0) :
  Calls Tryz.prog 117 #[u,v] w fun e w'=>∃ r1 r2,e = .returned (.tuple #[r1,r2])∧IsN w' r1 (x / y)∧IsN w' r2 (x % y)∧Below w.heap.size w w':=by
 obtain ⟨p,cap,rfl,hN⟩:=hx;obtain ⟨q,cap',rfl,hN'⟩:=hy;have HB0:Shut _:=⟨QlV w #[.bool (decide (x<0)),.slice p (natL x.natAbs).length cap] #[.bool (decide (y<0)),.slice q (natL y.natAbs).length cap'] #[.bool false,.slice none 0 0] #[.bool false,.slice none 0 0]⟩;obtain ⟨r1,r2,r3,r4⟩:=QpJ w #[.bool (decide (x<0)),.slice p (natL x.natAbs).length cap] #[.bool (decide (y<0)),.slice q (natL y.natAbs).length cap'] #[.bool false,.slice none 0 0] #[.bool false,.slice none 0 0];go_enter Tryz.func117, Tryz.ntmps117;go_upto_region 1 with fail
 rw [show (((w.alloc (O #[.bool (decide (x<0)),.slice p (natL x.natAbs).length cap] 130)).alloc (O #[.bool (decide (y<0)),.slice q (natL y.natAbs).length cap'] 130)).alloc (O #[.bool false,.slice none 0 0] 130)).alloc (O #[.bool false,.slice none 0 0] 130)=box4 w #[.bool (decide (x<0)),.slice p (natL x.natAbs).length cap] #[.bool (decide (y<0)),.slice q (natL y.natAbs).length cap'] #[.bool false,.slice none 0 0] #[.bool false,.slice none 0 0] from rfl];generalize box4 w #[.bool (decide (x<0)),.slice p (natL x.natAbs).length cap] #[.bool (decide (y<0)),.slice q (natL y.natAbs).length cap'] #[.bool false,.slice none 0 0] #[.bool false,.slice none 0 0]=W0 at *
 have cd:=Qgf x.natAbs y.natAbs (by omega) (.slice p (natL x.natAbs).length cap) (.slice q (natL y.natAbs).length cap') W0 (hN.below HB0.o Lr) (hN'.below HB0.o Lr) hl hl2;obtain ⟨a1,a2,a3,a4⟩:=Qaf r1 (Below.refl _ W0);obtain ⟨b1,b2,b3,b4⟩:=Qaf r2 (Below.refl _ W0);have HR1:Shut _:=⟨r1⟩;have HR2:Shut _:=⟨r2⟩;have HR3:Shut _:=⟨r3⟩;have HR4:Shut _:=⟨r4⟩;have HN:Shut _:=⟨hN⟩;have HN':Shut _:=⟨hN'⟩;clear r1 r2 r3 r4 hN hN';by_cases hc:x<0∧0<x.natAbs % y.natAbs
 ·have hx0:=hc.1
  have hpos:0<(natL (x.natAbs % y.natAbs)).length:=by
   rcases Nat.eq_zero_or_pos (natL (x.natAbs % y.natAbs)).length with h | h
   ·have:=QaF.1 h;omega
   ·exact h
  have HD:Shut _:=⟨Qdg x y hy0 _ _ (.inr ⟨hc.1,hc.2,rfl,rfl⟩)⟩;have hle:x.natAbs % y.natAbs≤y.natAbs:=Nat.le_of_lt (Nat.mod_lt _ (by omega));have hlq:(natL (x.natAbs / y.natAbs)).length≤1000:=Nat.le_trans (Qal (Nat.div_le_self _ _)) (by omega);generalize x.natAbs % y.natAbs=R at *
  generalize x.natAbs / y.natAbs=Q at *
  clear hc;go_upto_region 3 with (go_at_call 154; refine cd.mono ?_;rintro e w1 ⟨v1,v2,rfl,hv1,hv2,hB1⟩;obtain ⟨p1,cp1,rfl,hv1'⟩:=hv1.out;obtain ⟨p2,cp2,rfl,hv2'⟩:=hv2.out;obtain ⟨e1,e2,_,_⟩:=Qaf HR1.o hB1;obtain ⟨f1,f2,_,_⟩:=Qaf HR2.o hB1;obtain ⟨g1,g2,g3,g4⟩:=Qaf HR3.o hB1;obtain ⟨h1,h2,h3,h4⟩:=Qaf HR4.o hB1)
  have h1N:natL 1 = [1]:=by rw [Qbi (by decide)];simp [Qau]
  have hWb:Below w1.heap.size w1 ((w1.alloc (O #[.int .u32 1] 171)).drew):=((Below.refl _ w1).alloc Lr _).drew;have cp:=Qey Q 1 (.slice p1 (natL Q).length cp1) (.slice (some ⟨w1.heap.size,0,none⟩) 1 1) ((w1.alloc (O #[.int .u32 1] 171)).drew) (hv1'.below hWb Lr) (by rw [h1N];exact (NA.one w1 1).below ((Below.refl _ _).drew) Lr) hlq (by rw [h1N];decide);have cm:=fun W (hW:Below w1.heap.size w1 W)=>QdE y.natAbs R hle (.slice q (natL y.natAbs).length cap') (.slice p2 (natL R).length cp2) W (HN'.o.below ((HB0.o.trans (hB1.mono HB0.o.size)).trans (hW.mono (HB0.o.trans (hB1.mono HB0.o.size)).size)) Lr) (hv2'.below hW Lr) (by omega);have HB1:Shut _:=⟨hB1⟩;have HWb:Shut _:=⟨hWb⟩;have HX0:Shut _:=⟨hx0⟩;clear hv1 hv2 hv1' hv2' hB1 hWb h1N hle hlq
  go_region_held3 (fun w'=>w'.cell? ⟨w.heap.size+1,1,none⟩=some (.slice q (natL y.natAbs).length cap')) (go_keep) (first | (go_at_call 155; refine cp.mono ?_;rintro e w3 ⟨v3,rfl,hv3,hB3⟩;obtain ⟨p3,cp3,rfl,hv3'⟩:=hv3.out;have hB3':=HWb.o.trans (hB3.mono HWb.o.size);have hB3w:=HB1.o.trans (hB3'.mono HB1.o.size);obtain ⟨s1,s2,_,_⟩:=Qaf HR2.o hB3w) | (go_at_call 156; refine (cm w3 hB3').mono ?_;rintro e w4 ⟨v4,rfl,hv4,hB4⟩;obtain ⟨p4,cp4,rfl,hv4'⟩:=hv4.out;have hB4w:=hB3w.trans (hB4.mono hB3w.size);obtain ⟨t1,t2,t3,t4⟩:=Qaf HR1.o hB4w;obtain ⟨m1,m2,m3,m4⟩:=Qaf HR2.o hB4w;obtain ⟨n1,n2,n3,n4⟩:=Qaf HR3.o hB4w;obtain ⟨o1,o2,o3,o4⟩:=Qaf HR4.o hB4w))
  have HV3:Shut _:=⟨hv3.below hB4 Lr⟩;have HV4:Shut _:=⟨hv4⟩;have HB4:Shut _:=⟨hB4w⟩;clear cp cm hv3 hv4 hv3' hv4' hB3 hB3' hB3w hB4 hB4w;go_wp2_with (go_at_call 150; refine (Qcf _ p3 _ cp3 _).mono ?_;rintro e w5 ⟨rfl,hB5⟩;have hB5w:=HB4.o.trans (hB5.mono HB4.o.size);obtain ⟨x1,x2,x3,x4⟩:=Qaf HR3.o hB5w;obtain ⟨y1,y2,y3,y4⟩:=Qaf HR4.o hB5w);have HO:=Qgk x y (Q+1) (y.natAbs-R) (!decide (y<0)) w w5 (w.heap.size+1+1) (by omega) _ _ _ _ (fun _ _=>by simp) (fun _ _=>by simp) (fun _ _=>by simp) (fun _ _=>by simp) (RowAt.below HR3.o hB5w (RowAt.lt HR3.o)) (RowAt.below HR4.o hB5w (RowAt.lt HR4.o)) (HB0.o.trans (hB5w.mono HB0.o.size)) p3 p4 cp3 cp4 (HV3.o.below hB5 Lr) (HV4.o.below hB5 Lr) (by have:=HD.o;rw [decide_eq_true HX0.o,show (true == decide (y<0))=decide (y<0) by simp] at this;exact this);exact bodyPost_ret (v:=.tuple #[.agg #[.bool (!decide (y<0) && decide (0<(natL (Q+1)).length)),.slice p3 (natL (Q+1)).length cp3],.agg #[.bool false,.slice p4 (natL (y.natAbs-R)).length cp4]]) (by simp [results,Tryz.results117, go_sem,x1,x2,y1,y2]) rfl ⟨_,_,rfl,HO⟩
 ·have HD:Shut _:=⟨Qdg x y hy0 _ _ (.inl ⟨hc,rfl,rfl⟩)⟩
  have hcc:decide (x<0)=true→¬ 0<(natL (x.natAbs % y.natAbs)).length:=fun h1 h2=>hc ⟨of_decide_eq_true h1,by
   rcases Nat.eq_zero_or_pos (x.natAbs % y.natAbs) with h | h
   ·rw [h,Qau] at h2;exact absurd h2 (by decide)
   ·exact h⟩
  generalize x.natAbs % y.natAbs=R at *
  generalize x.natAbs / y.natAbs=Q at *
  clear hc;have HCC:Shut _:=⟨hcc⟩;clear hcc;cases hxd:decide (x<0) with
  | true =>
   have hr0:¬ 0<(natL R).length:=HCC.o hxd;have HXD:Shut _:=⟨hxd⟩;rw [hxd] at a1;clear hxd;go_wp2_with (first | (go_at_call 154; refine cd.mono ?_;rintro e w1 ⟨v1,v2,rfl,hv1,hv2,hB1⟩;obtain ⟨p1,cp1,rfl,hv1'⟩:=hv1.out;obtain ⟨p2,cp2,rfl,hv2'⟩:=hv2.out;obtain ⟨e1,e2,_,_⟩:=Qaf HR1.o hB1;obtain ⟨f1,f2,_,_⟩:=Qaf HR2.o hB1;obtain ⟨g1,g2,g3,g4⟩:=Qaf HR3.o hB1;obtain ⟨h1,h2,h3,h4⟩:=Qaf HR4.o hB1;rw [HXD.o] at e1) | (go_at_call 150; refine (Qcf _ p1 _ cp1 _).mono ?_;rintro e w5 ⟨rfl,hB5⟩;have hB5w:=hB1.trans (hB5.mono hB1.size);obtain ⟨x1,x2,x3,x4⟩:=Qaf HR3.o hB5w;obtain ⟨y1,y2,y3,y4⟩:=Qaf HR4.o hB5w));have HO:=Qgk x y Q R (!decide (y<0)) w w5 (w.heap.size+1+1) (by omega) _ _ _ _ (fun _ _=>by simp) (fun _ _=>by simp) (fun _ _=>by simp) (fun _ _=>by simp) (RowAt.below HR3.o hB5w (RowAt.lt HR3.o)) (RowAt.below HR4.o hB5w (RowAt.lt HR4.o)) (HB0.o.trans (hB5w.mono HB0.o.size)) p1 p2 cp1 cp2 (hv1.below hB5 Lr) (hv2.below hB5 Lr) (by have:=HD.o;rw [HXD.o,show (true == decide (y<0))=decide (y<0) by simp] at this;exact this);exact bodyPost_ret (v:=.tuple #[.agg #[.bool (!decide (y<0) && decide (0<(natL Q).length)),.slice p1 (natL Q).length cp1],.agg #[.bool false,.slice p2 (natL R).length cp2]]) (by simp [results,Tryz.results117, go_sem,x1,x2,y1,y2]) rfl ⟨_,_,rfl,HO⟩
  | false =>
   have HXD:Shut _:=⟨hxd⟩;rw [hxd] at a1;clear hxd;go_wp2_with (first | (go_at_call 154; refine cd.mono ?_;rintro e w1 ⟨v1,v2,rfl,hv1,hv2,hB1⟩;obtain ⟨p1,cp1,rfl,hv1'⟩:=hv1.out;obtain ⟨p2,cp2,rfl,hv2'⟩:=hv2.out;obtain ⟨e1,e2,_,_⟩:=Qaf HR1.o hB1;obtain ⟨f1,f2,_,_⟩:=Qaf HR2.o hB1;obtain ⟨g1,g2,g3,g4⟩:=Qaf HR3.o hB1;obtain ⟨h1,h2,h3,h4⟩:=Qaf HR4.o hB1;rw [HXD.o] at e1) | (go_at_call 150; refine (Qcf _ p1 _ cp1 _).mono ?_;rintro e w5 ⟨rfl,hB5⟩;have hB5w:=hB1.trans (hB5.mono hB1.size);obtain ⟨x1,x2,x3,x4⟩:=Qaf HR3.o hB5w;obtain ⟨y1,y2,y3,y4⟩:=Qaf HR4.o hB5w));have HO:=Qgk x y Q R (!(false == decide (y<0))) w w5 (w.heap.size+1+1) (by omega) _ _ _ _ (fun _ _=>by simp) (fun _ _=>by simp) (fun _ _=>by simp) (fun _ _=>by simp) (RowAt.below HR3.o hB5w (RowAt.lt HR3.o)) (RowAt.below HR4.o hB5w (RowAt.lt HR4.o)) (HB0.o.trans (hB5w.mono HB0.o.size)) p1 p2 cp1 cp2 (hv1.below hB5 Lr) (hv2.below hB5 Lr) (by have:=HD.o;rw [HXD.o] at this;exact this);rw [show (!(false == decide (y<0)))=decide (y<0) by simp] at HO;exact bodyPost_ret (v:=.tuple #[.agg #[.bool (decide (y<0) && decide (0<(natL Q).length)),.slice p1 (natL Q).length cp1],.agg #[.bool false,.slice p2 (natL R).length cp2]]) (by simp [results,Tryz.results117, go_sem,x1,x2,y1,y2]) rfl ⟨_,_,rfl,HO⟩
theorem QlX (x y:Int) (u v:Value) (w:World) (hx:IsN w u x) (hy:IsN w v y) (hg:GcdC x.natAbs y.natAbs) :
  Calls Tryz.prog 148 #[u,v] w fun e w'=>∃ r,e = .returned r∧IsN w' r ((Nat.gcd x.natAbs y.natAbs:Nat):Int)∧Below w.heap.size w w':=by
 obtain ⟨p,cap,rfl,hN⟩:=hx;obtain ⟨q,cap',rfl,hN'⟩:=hy;have HB0:Shut _:=⟨QcF w #[.bool (decide (x<0)),.slice p (natL x.natAbs).length cap] #[.bool (decide (y<0)),.slice q (natL y.natAbs).length cap'] #[.bool false,.slice none 0 0]⟩;obtain ⟨r1,r2,r3⟩:=QeD w #[.bool (decide (x<0)),.slice p (natL x.natAbs).length cap] #[.bool (decide (y<0)),.slice q (natL y.natAbs).length cap'] #[.bool false,.slice none 0 0];go_enter Tryz.func148, Tryz.ntmps148;go_upto_region 1 with fail
 rw [show ((w.alloc (O #[.bool (decide (x<0)),.slice p (natL x.natAbs).length cap] 130)).alloc (O #[.bool (decide (y<0)),.slice q (natL y.natAbs).length cap'] 130)).alloc (O #[.bool false,.slice none 0 0] 130)=box3 w #[.bool (decide (x<0)),.slice p (natL x.natAbs).length cap] #[.bool (decide (y<0)),.slice q (natL y.natAbs).length cap'] #[.bool false,.slice none 0 0] from rfl];generalize box3 w #[.bool (decide (x<0)),.slice p (natL x.natAbs).length cap] #[.bool (decide (y<0)),.slice q (natL y.natAbs).length cap'] #[.bool false,.slice none 0 0]=W0 at *
 obtain ⟨a1,a2,_,_⟩:=Qaf r1 (Below.refl _ W0);obtain ⟨b1,b2,_,_⟩:=Qaf r2 (Below.refl _ W0);have ct:=hg _ _ W0 (hN.below HB0.o Lr) (hN'.below HB0.o Lr);have HR3:Shut _:=⟨r3⟩;have n1:¬(w.heap.size=w.heap.size+1+1):=by omega
 have n2:¬(w.heap.size+1+1=w.heap.size):=by omega
 clear r1 r2 r3 hN hN' hg;go_wp2_with (go_at_call 186; refine ct.mono ?_;rintro e w1 ⟨v1,rfl,hv1,hB1⟩;obtain ⟨p1,cp1,rfl,hv1'⟩:=hv1.out;obtain ⟨g1,g2,g3,g4⟩:=Qaf HR3.o hB1);have hF:=((HB0.o.trans (hB1.mono HB0.o.size)).setCell (p:=⟨w.heap.size+1+1,0,none⟩) (by show w.heap.size≤w.heap.size+1+1;omega) (.bool false)).setCell (p:=⟨w.heap.size+1+1,1,none⟩) (by show w.heap.size≤w.heap.size+1+1;omega) (.slice p1 (natL (Nat.gcd x.natAbs y.natAbs)).length cp1);have hv2:=hv1.setNum2 (RowAt.below HR3.o hB1 (RowAt.lt HR3.o)) (fun _ _=>by simp) (fun _ _=>by simp) false (.slice p1 (natL (Nat.gcd x.natAbs y.natAbs)).length cp1);refine bodyPost_ret (v:=.agg #[.bool false,.slice p1 (natL (Nat.gcd x.natAbs y.natAbs)).length cp1]) (by simp [results,Tryz.results148, go_sem,g1,g2]) rfl ⟨_,rfl,⟨p1,cp1,by rw [Int.natAbs_natCast,decide_eq_false (by omega)],by rw [Int.natAbs_natCast];exact hv2⟩,hF⟩
theorem QkC {x y:Int} (hx:Fits x) (hy:Fits y):(natL ((Nat.gcd x.natAbs y.natAbs:Nat):Int).natAbs).length≤1000:=by
 have h1:=QbU hx;have h2:=QbU hy;rw [Int.natAbs_natCast];refine Qgh (Nat.lt_of_lt_of_le ?_ p200);generalize (10:Nat)^200=P at *
 rcases Nat.eq_zero_or_pos x.natAbs with h | h
 ·rw [h,Nat.gcd_zero_left];omega
 ·have:=Nat.gcd_le_left y.natAbs h;omega

theorem QlY (x y:Int) (hx:Fits x) (hy:Fits y) (hg:GcdC x.natAbs y.natAbs) (w:World) :
  Calls Tryz.prog 112 #[Z (txt x),Z (txt y),.func (Fn.func 148) #[] #[]] w fun e w'=>e = .returned (QcC (((Nat.gcd x.natAbs y.natAbs:Nat):Int)))∧Below w.heap.size w w':=by
 have hlx:=Qbx hx;have hly:=Qbx hy;have hsx:=Qbm hx;have hsy:=Qbm hy;have cp:=fun W=>QaW (txt x) (txt y) (by omega) (by omega) W;rw [Qax x hx,Qax y hy,Bool.true_and] at cp;have hle:(natL (((Nat.gcd x.natAbs y.natAbs:Nat):Int)).natAbs).length≤1000:=QkC hx hy;have ct:=fun (r:Value) (W:World) (h:IsN W r (((Nat.gcd x.natAbs y.natAbs:Nat):Int)))=>QcT (((Nat.gcd x.natAbs y.natAbs:Nat):Int)) r W h hle;have cv:=fun W=>Qdf (txt (((Nat.gcd x.natAbs y.natAbs:Nat):Int))) (QeH hle) W;rw [QeE] at cv;have HX:Shut _:=⟨And.intro hx hy⟩;have co:=fun (u v:Value) (W:World) (h1:IsN W u x) (h2:IsN W v y)=>QlX x y u v W h1 h2 hg;generalize hex:txt x=sx at *
 generalize hey:txt y=sy at *
 have HEX:Shut _:=⟨And.intro hex hey⟩;clear hex hey hx hy;go_enter Tryz.func112, Tryz.ntmps112;go_upto_region 2 with (go_at_call 114; refine (cp _).mono ?_;rintro e w1 ⟨b,p,n,c,b',p',n',c',rfl,hz1,hz2,hB1⟩)
 have hi1:=hz1 x HEX.o.1.symm HX.o.1;have hi2:=hz2 y HEX.o.2.symm HX.o.2;have hB2:Below w1.heap.size w1 ((w1.alloc (O #[.bool b,.slice p n c] 130)).alloc (O #[.bool b',.slice p' n' c'] 130)):=((Below.refl _ w1).alloc Lr _).alloc (by rw [World.size_alloc];omega) _;have hj1:=hi1.below hB2 Lr;have hj2:=hi2.below hB2 Lr;clear hz1 hz2 hi1 hi2;have HJ:Shut _:=⟨And.intro hj1 hj2⟩;clear hj1 hj2;by_cases hf:Fits (((Nat.gcd x.natAbs y.natAbs:Nat):Int))
 ·have HF:Shut _:=⟨hf⟩;rw [decide_eq_true hf] at cv;clear hf;go_wp2_with (first | (go_at_call 148; refine (co _ _ _ HJ.o.1 HJ.o.2).mono ?_;rintro e w2 ⟨r2,rfl,hr2,hB3⟩) | (go_at_call 118; refine (ct _ _ hr2).mono ?_;rintro e w3 ⟨rfl,hB4⟩) | (go_at_call 149; refine (cv _).mono ?_;rintro e w4 ⟨rfl,m4,rfl⟩))
  go_ret2
  have h5:=hB2.trans ((hB3.trans (hB4.mono hB3.size)).mono hB2.size);exact ⟨by rw [Qav HF.o];rfl,Qag (hB1.trans (h5.mono hB1.size)) m4⟩
 ·have HF:Shut _:=⟨hf⟩;rw [decide_eq_false hf] at cv;clear hf;go_wp2_with (first | (go_at_call 148; refine (co _ _ _ HJ.o.1 HJ.o.2).mono ?_;rintro e w2 ⟨r2,rfl,hr2,hB3⟩) | (go_at_call 118; refine (ct _ _ hr2).mono ?_;rintro e w3 ⟨rfl,hB4⟩) | (go_at_call 149; refine (cv _).mono ?_;rintro e w4 ⟨rfl,m4,rfl⟩))
  go_ret2
  have h5:=hB2.trans ((hB3.trans (hB4.mono hB3.size)).mono hB2.size);exact ⟨by rw [QaJ HF.o];rfl,Qag (hB1.trans (h5.mono hB1.size)) m4⟩

theorem Qrg (x y:Int) (hx:Fits x) (hy:Fits y) (hg:GcdC x.natAbs y.natAbs) (w:World) :
  Calls Tryz.prog 111 #[Z (txt x),Z (txt y)] w fun e w'=>e = .returned (QcC (((Nat.gcd x.natAbs y.natAbs:Nat):Int)))∧Below w.heap.size w w':=by
 have cc:=QlY x y hx hy hg w;generalize txt x=sx at *
 generalize txt y=sy at *
 by_cases hf:Fits (((Nat.gcd x.natAbs y.natAbs:Nat):Int))
 ·have HF:Shut _:=⟨Qav hf⟩;rw [Qav hf] at cc;clear hf;go_enter Tryz.func111, Tryz.ntmps111;go_wp2_with (go_at_call 112; refine cc.mono ?_;rintro e w1 ⟨rfl,hB1⟩)
  go_ret2
  exact ⟨by rw [HF.o];rfl,hB1⟩
 ·have HF:Shut _:=⟨QaJ hf⟩;rw [QaJ hf] at cc;clear hf;go_enter Tryz.func111, Tryz.ntmps111;go_wp2_with (go_at_call 112; refine cc.mono ?_;rintro e w1 ⟨rfl,hB1⟩)
  go_ret2
  exact ⟨by rw [HF.o];rfl,hB1⟩
theorem QnC (s t:ByteArray) (hs:s.size≤1000000) (ht:t.size≤1000000) (h:(Qap s && Qap t)=false) (w:World) :
  Calls Tryz.prog 111 #[Z s,Z t] w fun e w'=>e = .returned (.tuple #[Z ⟨#[]⟩,.int .i64 30])∧Below w.heap.size w w':=by
 have cc:=fun f=>QfG s t hs ht h f w;go_enter Tryz.func111, Tryz.ntmps111;go_wp2_with (go_at_call 112; refine (cc _).mono ?_;rintro e w1 ⟨rfl,hB1⟩)
 go_ret2
 exact ⟨rfl,hB1⟩

theorem QtZ (x y:Int) (hy:y≠0):(x / y).natAbs≤x.natAbs+1∧(x % y).natAbs≤y.natAbs:=by
 by_cases hc:x<0∧0<x.natAbs % y.natAbs
 ·obtain ⟨_,h2,_,h4⟩:=Qdg x y hy _ _ (.inr ⟨hc.1,hc.2,rfl,rfl⟩);have:=Nat.div_le_self x.natAbs y.natAbs;omega
 ·obtain ⟨_,h2,_,h4⟩:=Qdg x y hy _ _ (.inl ⟨hc,rfl,rfl⟩);have:=Nat.div_le_self x.natAbs y.natAbs;have:=Nat.mod_lt x.natAbs (show 0<y.natAbs by omega);omega
theorem QpK {x y:Int} (hx:Fits x) (hy:Fits y) (h0:y≠0):(natL (x / y).natAbs).length≤1000∧(natL (x % y).natAbs).length≤1000:=by
 have h1:=QbU hx;have h2:=QbU hy;have h3:=QtZ x y h0;have hp:1≤(10:Nat)^200:=Nat.pow_pos (by decide);refine ⟨Qgh (Nat.lt_of_lt_of_le ?_ p200),Qgh (Nat.lt_of_lt_of_le ?_ p200)⟩
 all_goals generalize (10:Nat)^200=P at *
 all_goals omega

theorem QiI (x y:Int) (hx:Fits x) (hy:Fits y) (h0:y≠0) (w:World) :
  Calls Tryz.prog 68 #[Z (txt x),Z (txt y)] w fun e w'=>e = .returned (.tuple #[Z (txt (x / y)),Z (txt (x % y)),.int .i64 0])∧Below w.heap.size w w':=by
 have hlx:=Qbx hx;have hly:=Qbx hy;have hsx:=Qbm hx;have hsy:=Qbm hy;have cp:=fun W=>QaW (txt x) (txt y) (by omega) (by omega) W;rw [Qax x hx,Qax y hy,Bool.true_and] at cp;have hle:=QpK hx hy h0;have ct1:=fun (r:Value) (W:World) (h:IsN W r (x / y))=>QcT (x / y) r W h hle.1;have ct2:=fun (r:Value) (W:World) (h:IsN W r (x % y))=>QcT (x % y) r W h hle.2;have cz:=fun (r:Value) (W:World) (h:IsN W r y)=>Qcg y r W h;rw [decide_eq_false h0] at cz;have HX:Shut _:=⟨And.intro hx hy⟩;have co:=fun (u v:Value) (W:World) (h1:IsN W u x) (h2:IsN W v y)=>QlW x y u v W h1 h2 (by omega) (by omega) h0;generalize hex:txt x=sx at *
 generalize hey:txt y=sy at *
 generalize txt (x / y)=sq at *
 generalize txt (x % y)=sr at *
 generalize x / y=Q at *
 generalize x % y=R at *
 have HEX:Shut _:=⟨And.intro hex hey⟩;clear hex hey hx hy hle h0;go_enter Tryz.func68, Tryz.ntmps68;go_upto_region 2 with (go_at_call 114; refine (cp _).mono ?_;rintro e w1 ⟨b,p,n,c,b',p',n',c',rfl,hz1,hz2,hB1⟩)
 have hi1:=hz1 x HEX.o.1.symm HX.o.1;have hi2:=hz2 y HEX.o.2.symm HX.o.2;have hB2:Below w1.heap.size w1 ((w1.alloc (O #[.bool b,.slice p n c] 130)).alloc (O #[.bool b',.slice p' n' c'] 130)):=((Below.refl _ w1).alloc Lr _).alloc (by rw [World.size_alloc];omega) _;have hj1:=hi1.below hB2 Lr;have hj2:=hi2.below hB2 Lr;have HJ:Shut _:=⟨And.intro hj1 hj2⟩;have r1:=(RowAt.new w1 #[.bool b,.slice p n c] 130).alloc (O #[.bool b',.slice p' n' c'] 130);have r2:=box2 w1 (O #[.bool b,.slice p n c] 130) (.bool b') (.slice p' n' c');clear hz1 hz2 hi1 hi2 hj1 hj2;generalize (w1.alloc (O #[.bool b,.slice p n c] 130)).alloc (O #[.bool b',.slice p' n' c'] 130)=W1 at *
 obtain ⟨a1,a2,a3,a4⟩:=Qaf r1 (Below.refl _ W1);obtain ⟨b1,b2,b3,b4⟩:=Qaf r2 (Below.refl _ W1);have HR1:Shut _:=⟨r1⟩;have HR2:Shut _:=⟨r2⟩;clear r1 r2;go_wp2_with (first | (go_at_call 116; refine (cz _ _ HJ.o.2).mono ?_;rintro e w2 ⟨rfl,hB3⟩;obtain ⟨c1,c2,_,_⟩:=Qaf HR1.o hB3;obtain ⟨d1,d2,_,_⟩:=Qaf HR2.o hB3) | (go_at_call 117; refine (co _ _ _ (HJ.o.1.below hB3 Lr) (HJ.o.2.below hB3 Lr)).mono ?_;rintro e w3 ⟨u3,v3,rfl,hu3,hv3,hB4⟩;obtain ⟨p3,c3,rfl,hu3'⟩:=hu3;obtain ⟨p4,c4,rfl,hv3'⟩:=hv3));have hB5:Below w3.heap.size w3 ((w3.alloc (O #[.bool (decide (Q<0)),.slice p3 (natL Q.natAbs).length c3] 130)).alloc (O #[.bool (decide (R<0)),.slice p4 (natL R.natAbs).length c4] 130)):=((Below.refl _ w3).alloc Lr _).alloc (by rw [World.size_alloc];omega) _;have r3:=(RowAt.new w3 #[.bool (decide (Q<0)),.slice p3 (natL Q.natAbs).length c3] 130).alloc (O #[.bool (decide (R<0)),.slice p4 (natL R.natAbs).length c4] 130);have r4:=box2 w3 (O #[.bool (decide (Q<0)),.slice p3 (natL Q.natAbs).length c3] 130) (.bool (decide (R<0))) (.slice p4 (natL R.natAbs).length c4);have hq:IsN w3 (.agg #[.bool (decide (Q<0)),.slice p3 (natL Q.natAbs).length c3]) Q:=⟨p3,c3,rfl,hu3'⟩;have hr:IsN w3 (.agg #[.bool (decide (R<0)),.slice p4 (natL R.natAbs).length c4]) R:=⟨p4,c4,rfl,hv3'⟩;have HQ:Shut _:=⟨And.intro hq hr⟩;have HB5:Shut _:=⟨hB5⟩;clear hq hr hu3' hv3' a1 a2 a3 a4 b1 b2 b3 b4 c1 c2 d1 d2 co cz cp hB5;generalize (w3.alloc (O #[.bool (decide (Q<0)),.slice p3 (natL Q.natAbs).length c3] 130)).alloc (O #[.bool (decide (R<0)),.slice p4 (natL R.natAbs).length c4] 130)=W3 at *
 obtain ⟨a1,a2,a3,a4⟩:=Qaf r3 (Below.refl _ W3);obtain ⟨b1,b2,b3,b4⟩:=Qaf r4 (Below.refl _ W3);have HR3:Shut _:=⟨r3⟩;have HR4:Shut _:=⟨r4⟩;have hdr:Below W3.heap.size W3 W3.drew:=(Below.refl _ _).drew;have HD:Shut _:=⟨hdr⟩;clear r3 r4 hdr
 go_region_held3 (fun w'=>w'.cell? ⟨w3.heap.size,0,none⟩=some (.bool (decide (Q<0)))∧w'.cell? ⟨w3.heap.size,1,none⟩=some (.slice p3 (natL Q.natAbs).length c3)∧w'.cell? ⟨w3.heap.size+1,0,none⟩=some (.bool (decide (R<0)))∧w'.cell? ⟨w3.heap.size+1,1,none⟩=some (.slice p4 (natL R.natAbs).length c4)) (go_keep) (first | (go_at_call_of 118 (Value.agg #[.bool (decide (Q<0)),.slice p3 (natL Q.natAbs).length c3]);refine (ct1 _ W3.drew (HQ.o.1.below (HB5.o.trans (HD.o.mono HB5.o.size)) Lr)).mono ?_;rintro e w4 ⟨rfl,hB6⟩;have hB6':=HD.o.trans (hB6.mono HD.o.size);obtain ⟨e1,e2,_,_⟩:=Qaf HR3.o hB6';obtain ⟨f1,f2,_,_⟩:=Qaf HR4.o hB6') | (go_at_call_of 118 (Value.agg #[.bool (decide (R<0)),.slice p4 (natL R.natAbs).length c4]);refine (ct2 _ w4 (HQ.o.2.below (HB5.o.trans (hB6'.mono HB5.o.size)) Lr)).mono ?_;rintro e w5 ⟨rfl,hB7⟩;have hB7':=hB6'.trans (hB7.mono hB6'.size);obtain ⟨m1,m2,_,_⟩:=Qaf HR3.o hB7';obtain ⟨o1,o2,_,_⟩:=Qaf HR4.o hB7'))
 all_goals go_wp2
 all_goals exact bodyPost_ret (v:=.tuple #[Z sq,Z sr,.int .i64 0]) (by simp [results,Tryz.results68, go_sem]) rfl ⟨rfl,hB1.trans ((hB2.trans ((hB3.trans (hB4.mono hB3.size) |>.trans ((HB5.o.trans (hB7'.mono HB5.o.size)).mono (hB3.trans (hB4.mono hB3.size)).size)).mono hB2.size)).mono hB1.size)⟩

theorem QpL (x:Int) (hx:Fits x) (w:World) :
  Calls Tryz.prog 68 #[Z (txt x),Z (txt 0)] w fun e w'=>e = .returned (.tuple #[Z ⟨#[]⟩,Z ⟨#[]⟩,.int .i64 30])∧Below w.heap.size w w':=by
 have hy:Fits 0:=by unfold Fits;simp [decN]
 have hsx:=Qbm hx;have hsy:=Qbm hy;have cp:=fun W=>QaW (txt x) (txt 0) (by omega) (by omega) W;rw [Qax x hx,Qax 0 hy,Bool.true_and] at cp;have cz:=fun (r:Value) (W:World) (h:IsN W r 0)=>Qcg 0 r W h;rw [decide_eq_true rfl] at cz;have HX:Shut _:=⟨And.intro hx hy⟩;generalize hex:txt x=sx at *
 generalize hey:txt 0=sy at *
 have HEX:Shut _:=⟨And.intro hex hey⟩;clear hex hey hx hy;go_enter Tryz.func68, Tryz.ntmps68;go_upto_region 2 with (go_at_call 114; refine (cp _).mono ?_;rintro e w1 ⟨b,p,n,c,b',p',n',c',rfl,hz1,hz2,hB1⟩)
 have hi2:=hz2 0 HEX.o.2.symm HX.o.2;have hB2:Below w1.heap.size w1 ((w1.alloc (O #[.bool b,.slice p n c] 130)).alloc (O #[.bool b',.slice p' n' c'] 130)):=((Below.refl _ w1).alloc Lr _).alloc (by rw [World.size_alloc];omega) _;have HJ:Shut _:=⟨hi2.below hB2 Lr⟩;clear hz1 hz2 hi2;go_wp2_with (go_at_call 116; refine (cz _ _ HJ.o).mono ?_;rintro e w2 ⟨rfl,hB3⟩);exact bodyPost_ret (v:=.tuple #[Z ⟨#[]⟩,Z ⟨#[]⟩,.int .i64 30]) (by simp [results,Tryz.results68, go_sem]) rfl ⟨rfl,hB1.trans ((hB2.trans (hB3.mono hB2.size)).mono hB1.size)⟩
theorem Qsf (s t:ByteArray) (hs:s.size≤1000000) (ht:t.size≤1000000) (h:(Qap s && Qap t)=false) (w:World) :
  Calls Tryz.prog 68 #[Z s,Z t] w fun e w'=>e = .returned (.tuple #[Z ⟨#[]⟩,Z ⟨#[]⟩,.int .i64 30])∧Below w.heap.size w w':=by
 have cp:=fun W=>QaW s t hs ht W;rw [h] at cp;go_enter Tryz.func68, Tryz.ntmps68;go_wp2_with (go_at_call 114; refine (cp _).mono ?_;rintro e w1 ⟨b,p,n,c,b',p',n',c',rfl,hz1,hz2,hB1⟩);exact bodyPost_ret (v:=.tuple #[Z ⟨#[]⟩,Z ⟨#[]⟩,.int .i64 30]) (by simp [results,Tryz.results68, go_sem]) rfl ⟨rfl,(hB1.alloc hB1.size _).alloc (by rw [World.size_alloc];have:=hB1.size;omega) _⟩
end
end Go.Proofs.YtihlgifojjeoaaaGreatDoor
