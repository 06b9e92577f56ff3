import Derived.Test.YtihlgifojjeoaaaGreatDoorZ8L
import Derived.Test.YtihlgifojjeoaaaGreatDoorZ8H9
import Derived.Test.YtihlgifojjeoaaaGreatDoorZ8O1
import Derived.Test.YtihlgifojjeoaaaGreatDoorZ8G7
set_option maxRecDepth 1000000
set_option maxHeartbeats 40000000
open Go.Value renaming string→J
open Go.Obj renaming cells→Jc
namespace Go.Proofs.YtihlgifojjeoaaaGreatDoor
theorem Mm14 {α:Type} {a0 a1 a2 a3 a4 a5 a6 a7 a8 a9 a10 a11 a12 a13 a14:α} {l:List α}:a14∈a0::a1::a2::a3::a4::a5::a6::a7::a8::a9::a10::a11::a12::a13::a14::l:=.tail _ (.tail _ (.tail _ (.tail _ (.tail _ (.tail _ (.tail _ (.tail _ (.tail _ (.tail _ (.tail _ (.tail _ (.tail _ (.tail _ (.head _))))))))))))))
section
namespace Tw
open SR Go.Proofs.YtihlgifojjeoaaaGreatDoor.Nm Go.Proofs.YtihlgifojjeoaaaGreatDoor.Rt
theorem zeroL_zeros (n:Nat):QbQ (zeros n)=true:=by
 rw [QbQ,List.all_eq_true];intro x hx;exact decide_eq_true (List.eq_of_mem_replicate hx)
theorem embO_one:∀ {rs:List (List Rat)},Qdz rs→∀ q,embO rs [q]=some (q :: zeros (2^rs.length-1))
 | [],_,_=>rfl
 | d :: rs,h,q=>by
  have ih:=embO_one h.2 q;have h2:=Nat.two_pow_pos rs.length;rw [embO,if_neg (by rw [List.length_singleton,Nat.pow_succ];omega),ih];show some (q :: (zeros (2^rs.length-1)++zeros d.length))=some (q :: zeros (2^(rs.length+1)-1));rw [h.1,zeros,zeros,List.replicate_append_replicate,zeros,show 2^rs.length-1+2^rs.length=2^(rs.length+1)-1 by rw [Nat.pow_succ];omega]
theorem lat_frac (n d:Int) (hn:n.natAbs≤20) (h1:1≤d) (h9:d≤9):Lat 2520 50400 (Rat.divInt n d):=by
 rcases (by omega:d=1∨d=2∨d=3∨d=4∨d=5∨d=6∨d=7∨d=8∨d=9) with rfl | rfl | rfl | rfl | rfl | rfl | rfl | rfl | rfl
 ·exact ⟨by decide,n*2520,(Rat.divInt_mul_right (n:=n) (d:=1) (a:=2520) (by decide)).symm,by omega⟩
 ·exact ⟨by decide,n*1260,(Rat.divInt_mul_right (n:=n) (d:=2) (a:=1260) (by decide)).symm,by omega⟩
 ·exact ⟨by decide,n*840,(Rat.divInt_mul_right (n:=n) (d:=3) (a:=840) (by decide)).symm,by omega⟩
 ·exact ⟨by decide,n*630,(Rat.divInt_mul_right (n:=n) (d:=4) (a:=630) (by decide)).symm,by omega⟩
 ·exact ⟨by decide,n*504,(Rat.divInt_mul_right (n:=n) (d:=5) (a:=504) (by decide)).symm,by omega⟩
 ·exact ⟨by decide,n*420,(Rat.divInt_mul_right (n:=n) (d:=6) (a:=420) (by decide)).symm,by omega⟩
 ·exact ⟨by decide,n*360,(Rat.divInt_mul_right (n:=n) (d:=7) (a:=360) (by decide)).symm,by omega⟩
 ·exact ⟨by decide,n*315,(Rat.divInt_mul_right (n:=n) (d:=8) (a:=315) (by decide)).symm,by omega⟩
 ·exact ⟨by decide,n*280,(Rat.divInt_mul_right (n:=n) (d:=9) (a:=280) (by decide)).symm,by omega⟩
theorem one_all {n:Nat} {q:Rat} (h:Lat 2520 50400 q):AllL 2520 50400 (q :: zeros n):=AllL.cons h (AllL.zeros _ _ (by decide))
theorem sgR_sub (p q:Rat):sgR (p-q)=cmpQ p q:=by
 rcases Qcs p q with ⟨h,l⟩ | ⟨h,l⟩ | ⟨h,l⟩
 ·have k:p + -q<q + -q:=Rat.add_lt_add_right.2 l;rw [Rat.add_neg_cancel] at k;rw [h,Rat.sub_eq_add_neg,Qfm k]
 ·rw [h,l,Rat.sub_eq_add_neg,Rat.add_neg_cancel,QcZ]
 ·have k:q + -q<p + -q:=Rat.add_lt_add_right.2 l;rw [Rat.add_neg_cancel] at k;rw [h,Rat.sub_eq_add_neg,Qdu k]
structure OrdF (L:List (List Rat)) (u1 u2:Rat) (a b d x y p q first second:List Rat) (ab ba bd ad s v w1:Int):Prop where
 t:FitT L
 n:L.length≤1000
 c1:ovr L (fun rs=>chk2 rs a b ((Qaj subQ a b).bind (Qaw rs)))=some ab
 c2:ovr L (fun rs=>chk2 rs b a ((Qaj subQ b a).bind (Qaw rs)))=some ba
 c3:ovr L (fun rs=>chk2 rs b d ((Qaj subQ b d).bind (Qaw rs)))=some bd
 c4:ovr L (fun rs=>chk2 rs a d ((Qaj subQ a d).bind (Qaw rs)))=some ad
 c5:ovr L (fun rs=>chk rs d (Qaw rs d))=some s
 e6:ovr L (fun rs=>chk2 rs a d (Qaj addQ a d))=some x
 e7:ovr L (fun rs=>chk2 rs b d (Qaj addQ b d))=some y
 e8:ovr L (fun rs=>chk2 rs a d (mulO rs a d))=some p
 e9:ovr L (fun rs=>chk2 rs b d (mulO rs b d))=some q
 c10:ovr L (fun rs=>chk2 rs x y ((Qaj subQ x y).bind (Qaw rs)))=some v
 c11:ovr L (fun rs=>chk2 rs p q ((Qaj subQ p q).bind (Qaw rs)))=some w1
 f1:ovr L (fun rs=>embO rs [u1])=some first
 f2:ovr L (fun rs=>embO rs [u2])=some second
 c12:ovr L (fun rs=>chk2 rs first second ((Qaj subQ first second).bind (Qaw rs)))=some (cmpQ u1 u2)
 r1:ovr L (fun rs=>chk rs first (ratE first))=some u1
 ga:Fs a
 gb:Fs b
 gd:Fs d
 gx:Fs x
 gy:Fs y
 gp:Fs p
 gq:Fs q
 gfirst:Fs first
 gsecond:Fs second
 q1:FitQ u1
 q2:FitQ u2
 fin:ab = -ba∧v=ab∧w1=ab*s∧(ab<0∨bd<0∨0≤ad)∧(0<ab∨0<bd∨ad≤0)
 wab:ab = -1∨ab=0∨ab=1
 ws:s = -1∨s=0∨s=1
theorem bounds4:∀ k,k<4→sfit 1 7 k 2520 100800=true:=by decide +kernel
theorem ord_facts {L:List (List Rat)} {k:Nat} (hM:MadeT L k) (hk:k<4) {a b d:List Rat} (la:a.length=2^L.length) (lb:b.length=2^L.length) (ld:d.length=2^L.length) (aa:AllL 6 30 a) (ab_:AllL 6 30 b) (ad_:AllL 6 30 d) {u1 u2:Rat} (h1:Lat 2520 50400 u1) (h2:Lat 2520 50400 u2) :
  ∃ x y p q first second ab ba bd ad s v w1,OrdF L u1 u2 a b d x y p q first second ab ba bd ad s v w1:=by
 obtain ⟨rs,S,R,hF,hT,hR,hrk,h0⟩:=Qjz hM;rw [hM.len,←hrk] at la lb ld;have bs:=QoT rs.length (by omega);simp only [Bool.and_eq_true,decide_eq_true_iff] at bs;obtain ⟨b1,b2,b3,b4,b5,b6,c1,c2,c3,c4,c5⟩:=bs;have c6:=bounds4 rs.length (by omega);have hp:=QbG (show rs.length≤4 by omega);have h4:rs.length≤4:=by omega
 obtain ⟨v1,x1,l1,a1⟩:=QoS la lb aa ab_ (by decide +kernel);obtain ⟨v2,x2,l2,a2⟩:=QoS lb la ab_ aa (by decide +kernel);obtain ⟨v3,x3,l3,a3⟩:=QoS lb ld ab_ ad_ (by decide +kernel);obtain ⟨v4,x4,l4,a4⟩:=QoS la ld aa ad_ (by decide +kernel);obtain ⟨x,e6,l6,a6⟩:=Qim la ld aa ad_ (by decide +kernel);obtain ⟨y,e7,l7,a7⟩:=Qim lb ld ab_ ad_ (by decide +kernel);obtain ⟨p,e8,l8,a8⟩:=Qcp hR la ld (by decide) (by decide) aa ad_ b1;obtain ⟨q,e9,l9,a9⟩:=Qcp hR lb ld (by decide) (by decide) ab_ ad_ b1;obtain ⟨v5,x5,l5,a5⟩:=QoS l6 l7 a6 a7 (by decide +kernel);obtain ⟨v6,x6,m6,n6⟩:=QoS l8 l9 a8 a9 (by rw [Bool.and_eq_true];exact ⟨decide_eq_true b6,by decide +kernel⟩);obtain ⟨ab,s1⟩:=Qcq (by decide) hR l1 (by decide) a1 c3;obtain ⟨ba,s2⟩:=Qcq (by decide) hR l2 (by decide) a2 c3;obtain ⟨bd,s3⟩:=Qcq (by decide) hR l3 (by decide) a3 c3;obtain ⟨ad,s4⟩:=Qcq (by decide) hR l4 (by decide) a4 c3;obtain ⟨s,s5⟩:=Qcq (by decide) hR ld (by decide) ad_ c1;obtain ⟨v,s6⟩:=Qcq (by decide) hR l5 (by decide) a5 c4;obtain ⟨w1,s7⟩:=Qcq (by decide) hR m6 (by decide) n6 c5;have g1:=embO_one h0 u1;have g2:=embO_one h0 u2;have lf:∀ z:Rat,(z :: zeros (2^rs.length-1)).length=2^rs.length:=fun z=>by rw [List.length_cons,zeros,List.length_replicate];omega
 obtain ⟨v7,x7,l10,a10⟩:=QoS (lf u1) (lf u2) (one_all h1) (one_all h2) (by decide +kernel);obtain ⟨pl,s8⟩:=Qcq (by decide) hR l10 (by decide) a10 c6;have hpl:=QvC hT g1 g2 x7 s8;rw [sgR_sub] at hpl;subst hpl;refine ⟨x,y,p,q,_,_,ab,ba,bd,ad,s,v,w1,⟨hM.fit,by rw [hM.len];omega, ?_, ?_, ?_, ?_, ?_, ?_, ?_, ?_, ?_, ?_, ?_, ?_, ?_, ?_, ?_,.el aa la h4,.el ab_ lb h4,.el ad_ ld h4,.add e6 (by omega),.add e7 (by omega),.mul e8 l8 h4,.mul e9 l9 h4,⟨(one_all h1).fit (by decide +kernel),by rw [lf];omega⟩,⟨(one_all h2).fit (by decide +kernel),by rw [lf];omega⟩,h1.fit (by decide) (by decide),h2.fit (by decide) (by decide),QvA hT la lb ld x1 s1 x2 s2 x3 s3 x4 s4 s5 e6 e7 e8 e9 x5 s6 x6 s7,Qcu s1,Qcu s5⟩⟩
 ·rw [QaA hF,Qcd la lb,x1,Option.bind_some,s1]
 ·rw [QaA hF,Qcd lb la,x2,Option.bind_some,s2]
 ·rw [QaA hF,Qcd lb ld,x3,Option.bind_some,s3]
 ·rw [QaA hF,Qcd la ld,x4,Option.bind_some,s4]
 ·rw [QaA hF,QhF ld,s5]
 ·rw [QaA hF,Qcd la ld,e6]
 ·rw [QaA hF,Qcd lb ld,e7]
 ·rw [QaA hF,Qcd la ld,e8]
 ·rw [QaA hF,Qcd lb ld,e9]
 ·rw [QaA hF,Qcd l6 l7,x5,Option.bind_some,s6]
 ·rw [QaA hF,Qcd l8 l9,x6,Option.bind_some,s7]
 ·rw [QaA hF,g1]
 ·rw [QaA hF,g2]
 ·rw [QaA hF,Qcd (lf _) (lf _),x7,Option.bind_some,s8]
 ·rw [QaA hF,QhF (lf _),ratE,List.tail_cons,if_pos (zeroL_zeros _)];rfl
end Tw
end
section
namespace Tw
open Go.RowKit Go.Extern.Stop Go.Stop Go.Extern
open En Go.Proofs.YtihlgifojjeoaaaGreatDoor.Nm Go.Proofs.YtihlgifojjeoaaaGreatDoor.Rt
theorem order_walk (a:Addr) {cs:Array Value} {c:Nat→Int} (n1 m1:Int) (hC:C65 cs c) (hn : -9223372036854775808≤n1∧n1≤9223372036854775807) (hm : -9223372036854775808≤m1∧m1≤9223372036854775807) (w:World) (hg:Gl w) (hv:Ref a w) (hs:∀ W,Gl W→Ref a W→Calls Tryz.prog 10 #[] W fun e W'=>e = .returned (.bool true)∧Below W.heap.size W W'):Calls Tryz.prog 7 #[.agg cs,.int .i64 n1,.int .i64 m1] w fun e w'=>e = .returned (.bool true)∧Below w.heap.size w w':=by
 obtain ⟨k1,hk1,cp1⟩:=pick_any n1 41 hn.1 hn.2 (by decide) (by decide);obtain ⟨k3,hk3,cp3⟩:=pick_any m1 41 hm.1 hm.2 (by decide) (by decide);obtain ⟨j1,hj1⟩:∃ j1:Int,j1=n1.tdiv 41:=⟨_,rfl⟩;obtain ⟨j2,hj2⟩:∃ j2:Int,j2=m1.tdiv 41:=⟨_,rfl⟩;have hn1:=hn.1;have hn2:=hn.2;have hm1:=hm.1;have hm2:=hm.2;have hd1:(n1.tdiv 41).natAbs=n1.natAbs / 41:=Int.natAbs_tdiv n1 41;have hd2:(m1.tdiv 41).natAbs=m1.natAbs / 41:=Int.natAbs_tdiv m1 41;obtain ⟨k2,hk2,cp2⟩:=pick_any j1 9 (by omega) (by omega) (by decide) (by decide);obtain ⟨k4,hk4,cp4⟩:=pick_any j2 9 (by omega) (by omega) (by decide) (by decide);obtain ⟨x1,hx1⟩:∃ x1:Int,x1=(k1:Int)-20:=⟨_,rfl⟩;obtain ⟨x2,hx2⟩:∃ x2:Int,x2=1+(k2:Int):=⟨_,rfl⟩;obtain ⟨x3,hx3⟩:∃ x3:Int,x3=(k3:Int)-20:=⟨_,rfl⟩;obtain ⟨x4,hx4⟩:∃ x4:Int,x4=1+(k4:Int):=⟨_,rfl⟩;have w1:IntKind.i64.wrap ((k1:Int)-20)=x1:=by rw [hx1];simp [IntKind.wrap,IntKind.signed,IntKind.bits];omega
 have w2:IntKind.i64.wrap (1+(k2:Int))=x2:=by rw [hx2];simp [IntKind.wrap,IntKind.signed,IntKind.bits];omega
 have w3:IntKind.i64.wrap ((k3:Int)-20)=x3:=by rw [hx3];simp [IntKind.wrap,IntKind.signed,IntKind.bits];omega
 have w4:IntKind.i64.wrap (1+(k4:Int))=x4:=by rw [hx4];simp [IntKind.wrap,IntKind.signed,IntKind.bits];omega
 have w5:IntKind.i64.wrap (n1.tdiv 41)=j1:=by rw [hj1];simp [IntKind.wrap,IntKind.signed,IntKind.bits];omega
 have w6:IntKind.i64.wrap (m1.tdiv 41)=j2:=by rw [hj2];simp [IntKind.wrap,IntKind.signed,IntKind.bits];omega
 obtain ⟨s1,t1,e1,co1⟩:=of_l x1 x2 (by omega) (by omega) (by omega);obtain ⟨s2,t2,e2,co2⟩:=of_l x3 x4 (by omega) (by omega) (by omega);have q1:=lat_frac x1 x2 (by omega) (by omega) (by omega);have q2:=lat_frac x3 x4 (by omega) (by omega) (by omega);clear hd1 hd2 hx1 hx2 hx3 hx4 hk1 hk2 hk3 hk4 hj1 hj2 hn hm hn1 hn2 hm1 hm2;generalize Rat.divInt x1 x2=u1 at *
 generalize Rat.divInt x3 x4=u2 at *
 have E1:Sh _:=⟨e1⟩;have E2:Sh _:=⟨e2⟩;have Q1:Sh _:=⟨q1⟩;have Q2:Sh _:=⟨q2⟩;have C1:Sh _:=⟨cp1⟩;have C2:Sh _:=⟨cp2⟩;have C3:Sh _:=⟨cp3⟩;have C4:Sh _:=⟨cp4⟩;have O1:Sh _:=⟨co1⟩;have O2:Sh _:=⟨co2⟩;clear e1 e2 q1 q2 cp1 cp2 cp3 cp4 co1 co2;have u_:=(Below.refl w.heap.size w).alloc Lr (.cells cs 24);have n_bC:(w.alloc (.cells cs 24)).heap[w.heap.size]? = some (.cells cs 24 (0,0)):=World.alloc_heap_new w _;have hK:Sh (Ks [kBx w.heap.size (.cells cs 24 (0,0)),kGl,kRef a] (w.alloc (.cells cs 24))):=⟨((((Ks.nil w).add (kRef a) hv).add kGl hg).keep u_).add (kBx w.heap.size (.cells cs 24 (0,0))) n_bC⟩;have hB:Sh (Below w.heap.size w (w.alloc (.cells cs 24))):=⟨u_⟩;have hq:=hs _ (hK.o _ Mm1) (hK.o _ Mm2);have HC:Sh _:=⟨hC⟩;clear hv hg hs hC u_ n_bC;go_enter Tryz.func7, Tryz.ntmps7;go_wp2_with fail;generalize w.alloc (.cells cs 24)=W at *
 refine hq.mono ?_;rintro e V ⟨rfl,g⟩;have hK:=hK.kp g;have hB:=hB.tr g;clear hq g
 rename World=>W
 go_upto_region 2 with fail
 have hrg:W.rangeAt w.heap.size 0 cs.toList:=fun j v hv=>by
  have hb:=((hK.o _ Mm0):W.heap[w.heap.size]? = some (.cells cs 24 (0,0)));rw [Nat.zero_add];exact En.Qaa hb j (by rw [←Array.getElem?_toList];exact hv)
 refine wp_region_lit ?_;refine wpList_load_mid rfl _ _ rfl _ _ rfl cs.toList _ hrg Tryz.underlying24 rfl (HC.o.size24) ?_;rw [Array.toArray_toList];clear hrg;go_wp2_with fail;have hq:=QrJ HC.o W;refine hq.mono ?_;rintro e V ⟨⟨L,vt,va,vb,vd,rfl,hT,hM,ea,eb,ed⟩,g⟩;clear hq;obtain ⟨p,cap,rfl,_⟩:=hT.parts;have HM:Sh _:=⟨hM⟩;obtain ⟨n,hn⟩:∃ n,n=L.length:=⟨_,rfl⟩;rw [←hn] at hT ⊢;have HN:Sh (n=L.length):=⟨hn⟩;have hL4:L.length≤4:=by rw [hM.len];have:=QbM (c 0) (n:=4) (by decide);omega
 obtain ⟨la,hla⟩:∃ l,l=elL (fun i=>c (17+i)) (2^L.length):=⟨_,rfl⟩;obtain ⟨lb,hlb⟩:∃ l,l=elL (fun i=>c (33+i)) (2^L.length):=⟨_,rfl⟩;obtain ⟨ld,hld⟩:∃ l,l=elL (fun i=>c (49+i)) (2^L.length):=⟨_,rfl⟩;rw [←hla] at ea;rw [←hlb] at eb;rw [←hld] at ed;have hK:=((((hK.kp g).ad (kTw (.agg #[.slice p n cap]) L) hT.at_).ad (kEl vd ld) ed).ad (kEl vb lb) eb).ad (kEl va la) ea;have hB:=hB.tr g;have qa:la.length=2^L.length∧AllL 6 30 la:=⟨by rw [hla,Qdx],by rw [hla];exact Qfo _ _⟩;have qb:lb.length=2^L.length∧AllL 6 30 lb:=⟨by rw [hlb,Qdx],by rw [hlb];exact Qfo _ _⟩;have qd:ld.length=2^L.length∧AllL 6 30 ld:=⟨by rw [hld,Qdx],by rw [hld];exact Qfo _ _⟩;clear hT ea eb ed g hn hla hlb hld HC
 rename World=>W
 obtain ⟨x,y,pp,qq,first,second,ab,ba,bd,ad,s,v,w7,NF⟩:=ord_facts HM.o (QbM (c 0) (by decide)) qa.1 qb.1 qd.1 qa.2 qb.2 qd.2 Q1.o Q2.o;replace NF:Sh _:=⟨NF⟩;clear qa qb qd hL4;go_wp2_with fail;have n_bT:(W.alloc (Jc #[.slice p n cap] 28)).heap[W.heap.size]? = some (Jc #[.slice p n cap] 28 (0,0)):=by first | exact World.alloc_heap_new W (Jc #[.slice p n cap] 28) | (have:=World.alloc_heap_new W (Jc #[.slice p n cap] 28);simpa using this)
 have u_:Below W.heap.size W (W.alloc (Jc #[.slice p n cap] 28)):=((Below.refl W.heap.size W).alloc (by first | exact Nat.le_refl _ | (simp;done) | (simp;omega)) (Jc #[.slice p n cap] 28));have hK:=hK.kp u_;have hB:=hB.tr u_;clear u_;generalize (W.alloc (Jc #[.slice p n cap] 28))=Wn at *
 generalize W.heap.size=bT at *
 rename World=>W
 have hK:=hK.ad (kBx bT (Jc #[.slice p n cap] 28 (0,0))) (n_bT);clear n_bT;have cx0:=En.Qaa (hK.o _ Mm0) 0 rfl;have hq:=AnsA.sayI (Compare_O NF.o.t NF.o.n NF.o.ga.n NF.o.gb.n NF.o.ga.f NF.o.gb.f W (hK.o _ Mm6) (hK.o _ Mm4) (hK.o _ Mm1) (hK.o _ Mm2)) NF.o.c1;refine hq.run.mono ?_;rintro e V ⟨rfl,g⟩;have hK:=hK.kp g;have hB:=hB.tr g;clear hq g
 rename World=>W
 skip
 clear cx0;have cx0:=En.Qaa (hK.o _ Mm0) 0 rfl;go_wp2_with fail;have hq:=AnsA.sayI (Compare_O NF.o.t NF.o.n NF.o.gb.n NF.o.ga.n NF.o.gb.f NF.o.ga.f W (hK.o _ Mm6) (hK.o _ Mm4) (hK.o _ Mm2) (hK.o _ Mm1)) NF.o.c2;refine hq.run.mono ?_;rintro e V ⟨rfl,g⟩;have hK:=hK.kp g;have hB:=hB.tr g;clear hq g
 rename World=>W
 clear cx0;have cx0:=En.Qaa (hK.o _ Mm0) 0 rfl;go_wp2_with fail;have hq:=AnsA.sayI (Compare_O NF.o.t NF.o.n NF.o.gb.n NF.o.gd.n NF.o.gb.f NF.o.gd.f W (hK.o _ Mm6) (hK.o _ Mm4) (hK.o _ Mm2) (hK.o _ Mm3)) NF.o.c3;refine hq.run.mono ?_;rintro e V ⟨rfl,g⟩;have hK:=hK.kp g;have hB:=hB.tr g;clear hq g
 rename World=>W
 clear cx0;have cx0:=En.Qaa (hK.o _ Mm0) 0 rfl;go_wp2_with fail;have hq:=AnsA.sayI (Compare_O NF.o.t NF.o.n NF.o.ga.n NF.o.gd.n NF.o.ga.f NF.o.gd.f W (hK.o _ Mm6) (hK.o _ Mm4) (hK.o _ Mm1) (hK.o _ Mm3)) NF.o.c4;refine hq.run.mono ?_;rintro e V ⟨rfl,g⟩;have hK:=hK.kp g;have hB:=hB.tr g;clear hq g
 rename World=>W
 clear cx0;have cx0:=En.Qaa (hK.o _ Mm0) 0 rfl;go_wp2_with fail;have hq:=AnsA.sayI (QeV NF.o.t NF.o.n NF.o.gd.n NF.o.gd.f W (hK.o _ Mm6) (hK.o _ Mm4) (hK.o _ Mm3)) NF.o.c5;refine hq.run.mono ?_;rintro e V ⟨rfl,g⟩;have hK:=hK.kp g;have hB:=hB.tr g;clear hq g
 rename World=>W
 clear cx0;have cx0:=En.Qaa (hK.o _ Mm0) 0 rfl;go_wp2_with fail;have hq:=AnsA.sayE (QqQ NF.o.t NF.o.n NF.o.ga.n NF.o.gd.n NF.o.ga.f NF.o.gd.f W (hK.o _ Mm6) (hK.o _ Mm4) (hK.o _ Mm1) (hK.o _ Mm3)) NF.o.e6;refine hq.run.mono ?_;rintro e V ⟨⟨v1,rfl,ev⟩,g⟩;have hK:=(hK.kp g).ad (kEl v1 x) (ev);have hB:=hB.tr g;clear hq g
 rename World=>W
 clear ev;clear cx0;have cx0:=En.Qaa (hK.o _ Mm1) 0 rfl;go_wp2_with fail;have hq:=AnsA.sayE (QqQ NF.o.t NF.o.n NF.o.gb.n NF.o.gd.n NF.o.gb.f NF.o.gd.f W (hK.o _ Mm7) (hK.o _ Mm5) (hK.o _ Mm3) (hK.o _ Mm4)) NF.o.e7;refine hq.run.mono ?_;rintro e V ⟨⟨v2,rfl,ev⟩,g⟩;have hK:=(hK.kp g).ad (kEl v2 y) (ev);have hB:=hB.tr g;clear hq g
 rename World=>W
 clear ev;clear cx0;have cx0:=En.Qaa (hK.o _ Mm2) 0 rfl;go_wp2_with fail;have hq:=AnsA.sayE (Qin NF.o.t NF.o.n NF.o.ga.n NF.o.gd.n NF.o.ga.f NF.o.gd.f W (hK.o _ Mm8) (hK.o _ Mm6) (hK.o _ Mm3) (hK.o _ Mm5)) NF.o.e8;refine hq.run.mono ?_;rintro e V ⟨⟨v3,rfl,ev⟩,g⟩;have hK:=(hK.kp g).ad (kEl v3 pp) (ev);have hB:=hB.tr g;clear hq g
 rename World=>W
 clear ev;clear cx0;have cx0:=En.Qaa (hK.o _ Mm3) 0 rfl;go_wp2_with fail;have hq:=AnsA.sayE (Qin NF.o.t NF.o.n NF.o.gb.n NF.o.gd.n NF.o.gb.f NF.o.gd.f W (hK.o _ Mm9) (hK.o _ Mm7) (hK.o _ Mm5) (hK.o _ Mm6)) NF.o.e9;refine hq.run.mono ?_;rintro e V ⟨⟨v4,rfl,ev⟩,g⟩;have hK:=(hK.kp g).ad (kEl v4 qq) (ev);have hB:=hB.tr g;clear hq g
 rename World=>W
 clear ev;clear cx0;have cx0:=En.Qaa (hK.o _ Mm4) 0 rfl;go_wp2_with fail;have hq:=AnsA.sayI (Compare_O NF.o.t NF.o.n NF.o.gx.n NF.o.gy.n NF.o.gx.f NF.o.gy.f W (hK.o _ Mm10) (hK.o _ Mm8) (hK.o _ Mm3) (hK.o _ Mm2)) NF.o.c10;refine hq.run.mono ?_;rintro e V ⟨rfl,g⟩;have hK:=hK.kp g;have hB:=hB.tr g;clear hq g
 rename World=>W
 clear cx0;have cx0:=En.Qaa (hK.o _ Mm4) 0 rfl;go_wp2_with fail;have hq:=AnsA.sayI (Compare_O NF.o.t NF.o.n NF.o.gp.n NF.o.gq.n NF.o.gp.f NF.o.gq.f W (hK.o _ Mm10) (hK.o _ Mm8) (hK.o _ Mm1) (hK.o _ Mm0)) NF.o.c11;refine hq.run.mono ?_;rintro e V ⟨rfl,g⟩;have hK:=hK.kp g;have hB:=hB.tr g;clear hq g
 rename World=>W
 clear cx0;go_wp2_with fail;have hq:=C1.o W;refine hq.run.mono ?_;rintro e V ⟨rfl,g⟩;have hK:=hK.kp g;have hB:=hB.tr g;clear hq g
 rename World=>W
 go_wp2_with fail;have hq:=C2.o W;refine hq.run.mono ?_;rintro e V ⟨rfl,g⟩;have hK:=hK.kp g;have hB:=hB.tr g;clear hq g
 rename World=>W
 go_wp2_with fail;have hq:=O1.o W;refine hq.run.mono ?_;rintro e V ⟨rfl,g⟩;have hK:=hK.kp g;have hB:=hB.tr g;clear hq g
 rename World=>W
 go_wp2_with fail;have n_bR:(W.alloc (Jc #[J s1,J t1] 42)).heap[W.heap.size]? = some (Jc #[J s1,J t1] 42 (0,0)):=by first | exact World.alloc_heap_new W (Jc #[J s1,J t1] 42) | (have:=World.alloc_heap_new W (Jc #[J s1,J t1] 42);simpa using this)
 have u_:Below W.heap.size W (W.alloc (Jc #[J s1,J t1] 42)):=((Below.refl W.heap.size W).alloc (by first | exact Nat.le_refl _ | (simp;done) | (simp;omega)) (Jc #[J s1,J t1] 42));have hK:=hK.kp u_;have hB:=hB.tr u_;clear u_;generalize (W.alloc (Jc #[J s1,J t1] 42))=Wn at *
 generalize W.heap.size=bR at *
 rename World=>W
 have hK:=hK.ad (kBx bR (Jc #[J s1,J t1] 42 (0,0))) (n_bR);clear n_bR;have hq:=C3.o W;refine hq.run.mono ?_;rintro e V ⟨rfl,g⟩;have hK:=hK.kp g;have hB:=hB.tr g;clear hq g
 rename World=>W
 go_wp2_with fail;have hq:=C4.o W;refine hq.run.mono ?_;rintro e V ⟨rfl,g⟩;have hK:=hK.kp g;have hB:=hB.tr g;clear hq g
 rename World=>W
 go_wp2_with fail;have hq:=O2.o W;refine hq.run.mono ?_;rintro e V ⟨rfl,g⟩;have hK:=hK.kp g;have hB:=hB.tr g;clear hq g
 rename World=>W
 go_upto_region 18 with fail
 have n_bS:(W.alloc (Jc #[J s2,J t2] 42)).heap[W.heap.size]? = some (Jc #[J s2,J t2] 42 (0,0)):=by first | exact World.alloc_heap_new W (Jc #[J s2,J t2] 42) | (have:=World.alloc_heap_new W (Jc #[J s2,J t2] 42);simpa using this)
 have u_:Below W.heap.size W (W.alloc (Jc #[J s2,J t2] 42)):=((Below.refl W.heap.size W).alloc (by first | exact Nat.le_refl _ | (simp;done) | (simp;omega)) (Jc #[J s2,J t2] 42));have hK:=hK.kp u_;have hB:=hB.tr u_;clear u_;generalize (W.alloc (Jc #[J s2,J t2] 42))=Wn at *
 generalize W.heap.size=bS at *
 rename World=>W
 have hK:=hK.ad (kBx bS (Jc #[J s2,J t2] 42 (0,0))) (n_bS);clear n_bS;have cx0:=En.Qaa (hK.o _ Mm6) 0 rfl;have r0:=En.Qaa (hK.o _ Mm1) 0 rfl;have r1:=En.Qaa (hK.o _ Mm1) 1 rfl;go_wp2_with fail;have hq:=AnsA.sayE (Qkq NF.o.t NF.o.n NF.o.q1 E1.o W (hK.o _ Mm12) (hK.o _ Mm10)) NF.o.f1;refine hq.run.mono ?_;rintro e V ⟨⟨v5,rfl,ev⟩,g⟩;have hK:=(hK.kp g).ad (kEl v5 first) (ev);have hB:=hB.tr g;clear hq g
 rename World=>W
 clear ev cx0 r0 r1;have cx0:=En.Qaa (hK.o _ Mm7) 0 rfl;have r0:=En.Qaa (hK.o _ Mm1) 0 rfl;have r1:=En.Qaa (hK.o _ Mm1) 1 rfl;go_wp2_with fail;have hq:=AnsA.sayE (Qkq NF.o.t NF.o.n NF.o.q2 E2.o W (hK.o _ Mm13) (hK.o _ Mm11)) NF.o.f2;refine hq.run.mono ?_;rintro e V ⟨⟨v6,rfl,ev⟩,g⟩;have hK:=(hK.kp g).ad (kEl v6 second) (ev);have hB:=hB.tr g;clear hq g
 rename World=>W
 clear ev cx0 r0 r1;have cx0:=En.Qaa (hK.o _ Mm8) 0 rfl;go_wp2_with fail;have hq:=AnsA.sayI (Compare_O NF.o.t NF.o.n NF.o.gfirst.n NF.o.gsecond.n NF.o.gfirst.f NF.o.gsecond.f W (hK.o _ Mm14) (hK.o _ Mm12) (hK.o _ Mm1) (hK.o _ Mm0)) NF.o.c12;refine hq.run.mono ?_;rintro e V ⟨rfl,g⟩;have hK:=hK.kp g;have hB:=hB.tr g;clear hq g
 rename World=>W
 clear cx0;have cx0:=En.Qaa (hK.o _ Mm8) 0 rfl;go_wp2_with fail;have hq:=(QmJ NF.o.t NF.o.n NF.o.gfirst.n NF.o.gfirst.f W (hK.o _ Mm14) (hK.o _ Mm12) (hK.o _ Mm1));refine hq.mono ?_;rintro e V ⟨g,h1,h2⟩;obtain rfl:=h1 _ NF.o.r1;clear h1 h2;have hK:=hK.kp g;have hB:=hB.tr g;clear hq g cx0
 rename World=>W
 rw [E1.o];go_upto_region 22 with fail
 have n_bU:(W.alloc (Jc #[J s1,J t1] 42)).heap[W.heap.size]? = some (Jc #[J s1,J t1] 42 (0,0)):=by first | exact World.alloc_heap_new W (Jc #[J s1,J t1] 42) | (have:=World.alloc_heap_new W (Jc #[J s1,J t1] 42);simpa using this)
 have u_:Below W.heap.size W (W.alloc (Jc #[J s1,J t1] 42)):=((Below.refl W.heap.size W).alloc (by first | exact Nat.le_refl _ | (simp;done) | (simp;omega)) (Jc #[J s1,J t1] 42));have hK:=hK.kp u_;have hB:=hB.tr u_;clear u_;generalize (W.alloc (Jc #[J s1,J t1] 42))=Wn at *
 generalize W.heap.size=bU at *
 rename World=>W
 have hK:=hK.ad (kBx bU (Jc #[J s1,J t1] 42 (0,0))) (n_bU);clear n_bU;have r0:=En.Qaa (hK.o _ Mm4) 0 rfl;have r1:=En.Qaa (hK.o _ Mm4) 1 rfl;have r2:=En.Qaa (hK.o _ Mm3) 0 rfl;have r3:=En.Qaa (hK.o _ Mm3) 1 rfl;have r4:=En.Qaa (hK.o _ Mm0) 0 rfl;have r5:=En.Qaa (hK.o _ Mm0) 1 rfl;obtain ⟨z,hz⟩:∃ z,z=cmpQ u1 u2:=⟨_,rfl⟩;have hq:=cmp_say NF.o.q1 NF.o.q2 E1.o E2.o W;rw [←hz] at hq ⊢;have HZ:Sh _:=⟨hz⟩;clear hz;go_wp2_with fail;have hq:=hq;refine hq.run.mono ?_;rintro e V ⟨rfl,g⟩;have hK:=hK.kp g;have hB:=hB.tr g;clear hq g
 rename World=>W
 clear r0 r1 r2 r3 r4 r5;have r0:=En.Qaa (hK.o _ Mm4) 0 rfl;have r1:=En.Qaa (hK.o _ Mm4) 1 rfl;have r4:=En.Qaa (hK.o _ Mm0) 0 rfl;have r5:=En.Qaa (hK.o _ Mm0) 1 rfl;go_upto_region 24 with fail
 clear r0 r1 r4 r5;obtain ⟨f1,f2,f3,f4,f5⟩:=NF.o.fin;have f6:=NF.o.wab;have f7:=NF.o.ws;have HB:=hB.o;clear NF hK hB;obtain rfl:ba = -ab:=by omega
 subst f2 f3 ;rcases f6 with rfl | rfl | rfl <;> rcases f7 with rfl | rfl | rfl
 all_goals clear f1
 all_goals (go_wp2_with fail)
 all_goals (go_ret;exact ⟨by first | rfl | decide | (simp;omega),HB⟩)
end Tw
end
end Go.Proofs.YtihlgifojjeoaaaGreatDoor
