import Derived.Test.YtihlgifojjeoaaaGreatDoorZ5L
import Derived.Test.YtihlgifojjeoaaaGreatDoorZ5H9
set_option maxRecDepth 1000000
set_option maxHeartbeats 40000000
open Go.Value renaming string→J
open Go.Obj renaming cells→Jc
namespace Go.Proofs.YtihlgifojjeoaaaGreatDoor
theorem Mm16 {α:Type} {a0 a1 a2 a3 a4 a5 a6 a7 a8 a9 a10 a11 a12 a13 a14 a15 a16:α} {l:List α}:a16∈a0::a1::a2::a3::a4::a5::a6::a7::a8::a9::a10::a11::a12::a13::a14::a15::a16::l:=.tail _ (.tail _ (.tail _ (.tail _ (.tail _ (.tail _ (.tail _ (.tail _ (.tail _ (.tail _ (.tail _ (.tail _ (.tail _ (.tail _ (.tail _ (.tail _ (.head _))))))))))))))))
theorem Mm15 {α:Type} {a0 a1 a2 a3 a4 a5 a6 a7 a8 a9 a10 a11 a12 a13 a14 a15:α} {l:List α}:a15∈a0::a1::a2::a3::a4::a5::a6::a7::a8::a9::a10::a11::a12::a13::a14::a15::l:=.tail _ (.tail _ (.tail _ (.tail _ (.tail _ (.tail _ (.tail _ (.tail _ (.tail _ (.tail _ (.tail _ (.tail _ (.tail _ (.tail _ (.tail _ (.head _)))))))))))))))
theorem Mm14 {α:Type} {a0 a1 a2 a3 a4 a5 a6 a7 a8 a9 a10 a11 a12 a13 a14:α} {l:List α}:a14∈a0::a1::a2::a3::a4::a5::a6::a7::a8::a9::a10::a11::a12::a13::a14::l:=.tail _ (.tail _ (.tail _ (.tail _ (.tail _ (.tail _ (.tail _ (.tail _ (.tail _ (.tail _ (.tail _ (.tail _ (.tail _ (.tail _ (.head _))))))))))))))
section
namespace Tw
open SR Go.Proofs.YtihlgifojjeoaaaGreatDoor.Nm Go.Proofs.YtihlgifojjeoaaaGreatDoor.Rt
structure RingF (L:List (List Rat)) (a b d ab bd one sum left ad:List Rat):Prop where
 t:FitT L
 n:L.length≤1000
 e1:ovr L (fun rs=>chk2 rs a b (mulO rs a b))=some ab
 e2:ovr L (fun rs=>chk2 rs b a (mulO rs b a))=some ab
 e3:ovr L (fun rs=>chk2 rs b d (mulO rs b d))=some bd
 e4:ovr L (fun rs=>chk2 rs ab d (mulO rs ab d))=some one
 e5:ovr L (fun rs=>chk2 rs a bd (mulO rs a bd))=some one
 e6:ovr L (fun rs=>chk2 rs b d (pairO addQ b d))=some sum
 e7:ovr L (fun rs=>chk2 rs a sum (mulO rs a sum))=some left
 e8:ovr L (fun rs=>chk2 rs a d (mulO rs a d))=some ad
 e9:ovr L (fun rs=>chk2 rs ab ad (pairO addQ ab ad))=some left
 e10:ovr L (fun rs=>chk2 rs sum d (pairO subQ sum d))=some b
 e11:ovr L (fun rs=>chk2 rs d b (pairO addQ d b))=some sum
 ga:Fs a
 gb:Fs b
 gd:Fs d
 gab:Fs ab
 gbd:Fs bd
 gone:Fs one
 gsum:Fs sum
 gleft:Fs left
 gad:Fs ad
theorem ring_facts {L:List (List Rat)} {k:Nat} (hM:MadeT L k) (hk:k<4) {a b d:List Rat} (la:a.length=2^L.length) (lb:b.length=2^L.length) (ld:d.length=2^L.length) (aa:AllL 6 30 a) (ab_:AllL 6 30 b) (ad_:AllL 6 30 d) :
  ∃ ab bd one sum left ad,RingF L a b d ab bd one sum left ad:=by
 obtain ⟨rs,S,R,hF,hT,hR,hrk,_⟩:=made_base hM;rw [hM.len,←hrk] at la lb ld;have bs:=bounds3 rs.length (by omega);simp only [Bool.and_eq_true,decide_eq_true_iff] at bs;obtain ⟨b1,b2,b3,b4,b5,b6,_⟩:=bs;have hp:=pow_le (show rs.length≤4 by omega);have h4:rs.length≤4:=by omega
 obtain ⟨ab,e1,l1,s1⟩:=mul_fit1 hR la lb (by decide) (by decide) aa ab_ b1;obtain ⟨ba,e2,l2,s2⟩:=mul_fit1 hR lb la (by decide) (by decide) ab_ aa b1;obtain ⟨bd,e3,l3,s3⟩:=mul_fit1 hR lb ld (by decide) (by decide) ab_ ad_ b1;obtain ⟨one,e4,l4,s4⟩:=mul_fit1 hR l1 ld (by decide) (by decide) s1 ad_ b2;obtain ⟨two,e5,l5,s5⟩:=mul_fit1 hR la l3 (by decide) (by decide) aa s3 b3;obtain ⟨sum,e6,l6,s6⟩:=add_fit lb ld ab_ ad_ (by decide +kernel);obtain ⟨left,e7,l7,s7⟩:=mul_fit1 hR la l6 (by decide) (by decide) aa s6 b4;obtain ⟨ad,e8,l8,s8⟩:=mul_fit1 hR la ld (by decide) (by decide) aa ad_ b1;obtain ⟨right,e9,l9,s9⟩:=add_fit l1 l8 s1 s8 (by rw [Bool.and_eq_true];exact ⟨decide_eq_true b6,by decide +kernel⟩);obtain ⟨back,e10,l10,s10⟩:=sub_fit l6 ld s6 ad_ (by decide +kernel);obtain ⟨other,e11,l11,s11⟩:=add_fit ld lb ad_ ab_ (by decide +kernel);obtain ⟨rfl,rfl,rfl,rfl,rfl⟩:=ring_all hT la lb ld e1 e2 e3 e4 e5 e6 e7 e8 e9 e10 e11;refine ⟨ab,bd,one,sum,left,ad,⟨hM.fit,by rw [hM.len];omega, ?_, ?_, ?_, ?_, ?_, ?_, ?_, ?_, ?_, ?_, ?_,.el aa la h4,.el ab_ lb h4,.el ad_ ld h4,.mul e1 l1 h4,.mul e3 l3 h4,.mul e4 l4 h4,.add e6 (by omega),.mul e7 l7 h4,.mul e8 l8 h4⟩⟩
 ·rw [ovr_some hF,chk2_of la lb,e1]
 ·rw [ovr_some hF,chk2_of lb la,e2]
 ·rw [ovr_some hF,chk2_of lb ld,e3]
 ·rw [ovr_some hF,chk2_of l1 ld,e4]
 ·rw [ovr_some hF,chk2_of la l3,e5]
 ·rw [ovr_some hF,chk2_of lb ld,e6]
 ·rw [ovr_some hF,chk2_of la l6,e7]
 ·rw [ovr_some hF,chk2_of la ld,e8]
 ·rw [ovr_some hF,chk2_of l1 l8,e9]
 ·rw [ovr_some hF,chk2_of l6 ld,e10]
 ·rw [ovr_some hF,chk2_of ld lb,e11]
end Tw
end
section
namespace Tw
open Go.RowKit Go.Extern.Stop Go.Stop Go.Extern
open En Go.Proofs.YtihlgifojjeoaaaGreatDoor.Nm Go.Proofs.YtihlgifojjeoaaaGreatDoor.Rt
theorem ring_walk (a:Addr) {cs:Array Value} {c:Nat→Int} (hC:C65 cs c) (w:World) (hg:Gl w) (hv:Ref a w) (hs:∀ W,Gl W→Ref a W→Calls Tryz.prog 10 #[] W fun e W'=>e = .returned (.bool true)∧Below W.heap.size W W'):Calls Tryz.prog 3 #[.agg cs] w fun e w'=>e = .returned (.bool true)∧Below w.heap.size w w':=by
 have u_:=(Below.refl w.heap.size w).alloc Lr (.cells cs 24);have n_bC:(w.alloc (.cells cs 24)).heap[w.heap.size]? = some (.cells cs 24 (0,0)):=World.alloc_heap_new w _;have hK:Sh (Ks [kBx w.heap.size (.cells cs 24 (0,0)),kGl,kRef a] (w.alloc (.cells cs 24))):=⟨((((Ks.nil w).add (kRef a) hv).add kGl hg).keep u_).add (kBx w.heap.size (.cells cs 24 (0,0))) n_bC⟩;have hB:Sh (Below w.heap.size w (w.alloc (.cells cs 24))):=⟨u_⟩;have hq:=hs _ (hK.o _ Mm1) (hK.o _ Mm2);have HC:Sh _:=⟨hC⟩;clear hv hg hs hC u_ n_bC;go_enter Tryz.func3, Tryz.ntmps3;go_wp2_with fail;generalize w.alloc (.cells cs 24)=W at *
 refine hq.mono ?_;rintro e V ⟨rfl,g⟩;have hK:=hK.kp g;have hB:=hB.tr g;clear hq g
 rename World=>W
 go_upto_region 2 with fail
 have hrg:W.rangeAt w.heap.size 0 cs.toList:=fun j v hv=>by
  have hb:=((hK.o _ Mm0):W.heap[w.heap.size]? = some (.cells cs 24 (0,0)));rw [Nat.zero_add];exact En.lcell hb j (by rw [←Array.getElem?_toList];exact hv)
 refine wp_region_lit ?_;refine wpList_load_mid rfl _ _ rfl _ _ rfl cs.toList _ hrg Tryz.underlying24 rfl (HC.o.size24) ?_;rw [Array.toArray_toList];clear hrg;go_wp2_with fail;have hq:=made_c HC.o W;refine hq.mono ?_;rintro e V ⟨⟨L,vt,va,vb,vd,rfl,hT,hM,ea,eb,ed⟩,g⟩;clear hq;obtain ⟨p,cap,rfl,_⟩:=hT.parts;have HM:Sh _:=⟨hM⟩;obtain ⟨n,hn⟩:∃ n,n=L.length:=⟨_,rfl⟩;rw [←hn] at hT ⊢;have HN:Sh (n=L.length):=⟨hn⟩;have hL4:L.length≤4:=by rw [hM.len];have:=pickN_lt (c 0) (n:=4) (by decide);omega
 obtain ⟨la,hla⟩:∃ l,l=elL (fun i=>c (17+i)) (2^L.length):=⟨_,rfl⟩;obtain ⟨lb,hlb⟩:∃ l,l=elL (fun i=>c (33+i)) (2^L.length):=⟨_,rfl⟩;obtain ⟨ld,hld⟩:∃ l,l=elL (fun i=>c (49+i)) (2^L.length):=⟨_,rfl⟩;rw [←hla] at ea;rw [←hlb] at eb;rw [←hld] at ed;have hK:=((((hK.kp g).ad (kTw (.agg #[.slice p n cap]) L) hT.at_).ad (kEl vd ld) ed).ad (kEl vb lb) eb).ad (kEl va la) ea;have hB:=hB.tr g;have qa:la.length=2^L.length∧AllL 6 30 la:=⟨by rw [hla,elL_len],by rw [hla];exact elL_all _ _⟩;have qb:lb.length=2^L.length∧AllL 6 30 lb:=⟨by rw [hlb,elL_len],by rw [hlb];exact elL_all _ _⟩;have qd:ld.length=2^L.length∧AllL 6 30 ld:=⟨by rw [hld,elL_len],by rw [hld];exact elL_all _ _⟩;clear hT ea eb ed g hn hla hlb hld HC
 rename World=>W
 obtain ⟨ab,bd,one,sum,left,ad,NF⟩:=ring_facts HM.o (pickN_lt (c 0) (by decide)) qa.1 qb.1 qd.1 qa.2 qb.2 qd.2;replace NF:Sh _:=⟨NF⟩;clear qa qb qd hL4;go_wp2_with fail;have n_bT:(W.alloc (Jc #[.slice p n cap] 28)).heap[W.heap.size]? = some (Jc #[.slice p n cap] 28 (0,0)):=by first | exact World.alloc_heap_new W (Jc #[.slice p n cap] 28) | (have:=World.alloc_heap_new W (Jc #[.slice p n cap] 28);simpa using this)
 have u_:Below W.heap.size W (W.alloc (Jc #[.slice p n cap] 28)):=((Below.refl W.heap.size W).alloc (by first | exact Nat.le_refl _ | (simp;done) | (simp;omega)) (Jc #[.slice p n cap] 28));have hK:=hK.kp u_;have hB:=hB.tr u_;clear u_;generalize (W.alloc (Jc #[.slice p n cap] 28))=Wn at *
 generalize W.heap.size=bT at *
 rename World=>W
 have hK:=hK.ad (kBx bT (Jc #[.slice p n cap] 28 (0,0))) (n_bT);clear n_bT;have cx0:=En.lcell (hK.o _ Mm0) 0 rfl;have hq:=AnsA.sayE (Mul_O NF.o.t NF.o.n NF.o.ga.n NF.o.gb.n NF.o.ga.f NF.o.gb.f W (hK.o _ Mm6) (hK.o _ Mm4) (hK.o _ Mm1) (hK.o _ Mm2)) NF.o.e1;refine hq.run.mono ?_;rintro e V ⟨⟨v1,rfl,ev⟩,g⟩;have hK:=(hK.kp g).ad (kEl v1 ab) (ev);have hB:=hB.tr g;clear hq g
 rename World=>W
 clear ev
 skip
 clear cx0;have cx0:=En.lcell (hK.o _ Mm1) 0 rfl;go_wp2_with fail;have hq:=AnsA.sayE (Mul_O NF.o.t NF.o.n NF.o.gb.n NF.o.ga.n NF.o.gb.f NF.o.ga.f W (hK.o _ Mm7) (hK.o _ Mm5) (hK.o _ Mm3) (hK.o _ Mm2)) NF.o.e2;refine hq.run.mono ?_;rintro e V ⟨⟨v2,rfl,ev⟩,g⟩;have hK:=(hK.kp g).ad (kEl v2 ab) (ev);have hB:=hB.tr g;clear hq g
 rename World=>W
 clear ev;clear cx0;have cx0:=En.lcell (hK.o _ Mm2) 0 rfl;go_wp2_with fail;have hq:=AnsA.sayE (Mul_O NF.o.t NF.o.n NF.o.gb.n NF.o.gd.n NF.o.gb.f NF.o.gd.f W (hK.o _ Mm8) (hK.o _ Mm6) (hK.o _ Mm4) (hK.o _ Mm5)) NF.o.e3;refine hq.run.mono ?_;rintro e V ⟨⟨v3,rfl,ev⟩,g⟩;have hK:=(hK.kp g).ad (kEl v3 bd) (ev);have hB:=hB.tr g;clear hq g
 rename World=>W
 clear ev;clear cx0;have cx0:=En.lcell (hK.o _ Mm3) 0 rfl;go_wp2_with fail;have hq:=AnsA.sayE (Mul_O NF.o.t NF.o.n NF.o.gab.n NF.o.gd.n NF.o.gab.f NF.o.gd.f W (hK.o _ Mm9) (hK.o _ Mm7) (hK.o _ Mm2) (hK.o _ Mm6)) NF.o.e4;refine hq.run.mono ?_;rintro e V ⟨⟨v4,rfl,ev⟩,g⟩;have hK:=(hK.kp g).ad (kEl v4 one) (ev);have hB:=hB.tr g;clear hq g
 rename World=>W
 clear ev;clear cx0;have cx0:=En.lcell (hK.o _ Mm4) 0 rfl;go_wp2_with fail;have hq:=AnsA.sayE (Mul_O NF.o.t NF.o.n NF.o.ga.n NF.o.gbd.n NF.o.ga.f NF.o.gbd.f W (hK.o _ Mm10) (hK.o _ Mm8) (hK.o _ Mm5) (hK.o _ Mm1)) NF.o.e5;refine hq.run.mono ?_;rintro e V ⟨⟨v5,rfl,ev⟩,g⟩;have hK:=(hK.kp g).ad (kEl v5 one) (ev);have hB:=hB.tr g;clear hq g
 rename World=>W
 clear ev;clear cx0;have cx0:=En.lcell (hK.o _ Mm5) 0 rfl;go_wp2_with fail;have hq:=AnsA.sayE (Add_O NF.o.t NF.o.n NF.o.gb.n NF.o.gd.n NF.o.gb.f NF.o.gd.f W (hK.o _ Mm11) (hK.o _ Mm9) (hK.o _ Mm7) (hK.o _ Mm8)) NF.o.e6;refine hq.run.mono ?_;rintro e V ⟨⟨v6,rfl,ev⟩,g⟩;have hK:=(hK.kp g).ad (kEl v6 sum) (ev);have hB:=hB.tr g;clear hq g
 rename World=>W
 clear ev;clear cx0;have cx0:=En.lcell (hK.o _ Mm6) 0 rfl;go_wp2_with fail;have hq:=AnsA.sayE (Mul_O NF.o.t NF.o.n NF.o.ga.n NF.o.gsum.n NF.o.ga.f NF.o.gsum.f W (hK.o _ Mm12) (hK.o _ Mm10) (hK.o _ Mm7) (hK.o _ Mm0)) NF.o.e7;refine hq.run.mono ?_;rintro e V ⟨⟨v7,rfl,ev⟩,g⟩;have hK:=(hK.kp g).ad (kEl v7 left) (ev);have hB:=hB.tr g;clear hq g
 rename World=>W
 clear ev;clear cx0;have cx0:=En.lcell (hK.o _ Mm7) 0 rfl;go_wp2_with fail;have hq:=AnsA.sayE (Mul_O NF.o.t NF.o.n NF.o.ga.n NF.o.gd.n NF.o.ga.f NF.o.gd.f W (hK.o _ Mm13) (hK.o _ Mm11) (hK.o _ Mm8) (hK.o _ Mm10)) NF.o.e8;refine hq.run.mono ?_;rintro e V ⟨⟨v8,rfl,ev⟩,g⟩;have hK:=(hK.kp g).ad (kEl v8 ad) (ev);have hB:=hB.tr g;clear hq g
 rename World=>W
 clear ev;clear cx0;have cx0:=En.lcell (hK.o _ Mm8) 0 rfl;go_wp2_with fail;have hq:=AnsA.sayE (Add_O NF.o.t NF.o.n NF.o.gab.n NF.o.gad.n NF.o.gab.f NF.o.gad.f W (hK.o _ Mm14) (hK.o _ Mm12) (hK.o _ Mm7) (hK.o _ Mm0)) NF.o.e9;refine hq.run.mono ?_;rintro e V ⟨⟨v9,rfl,ev⟩,g⟩;have hK:=(hK.kp g).ad (kEl v9 left) (ev);have hB:=hB.tr g;clear hq g
 rename World=>W
 clear ev;clear cx0;have cx0:=En.lcell (hK.o _ Mm9) 0 rfl;go_wp2_with fail;have hq:=AnsA.sayE (Sub_O NF.o.t NF.o.n NF.o.gsum.n NF.o.gd.n NF.o.gsum.f NF.o.gd.f W (hK.o _ Mm15) (hK.o _ Mm13) (hK.o _ Mm3) (hK.o _ Mm12)) NF.o.e10;refine hq.run.mono ?_;rintro e V ⟨⟨v10,rfl,ev⟩,g⟩;have hK:=(hK.kp g).ad (kEl v10 lb) (ev);have hB:=hB.tr g;clear hq g
 rename World=>W
 clear ev;clear cx0;have cx0:=En.lcell (hK.o _ Mm10) 0 rfl;go_wp2_with fail;have hq:=AnsA.sayE (Add_O NF.o.t NF.o.n NF.o.gd.n NF.o.gb.n NF.o.gd.f NF.o.gb.f W (hK.o _ Mm16) (hK.o _ Mm14) (hK.o _ Mm13) (hK.o _ Mm12)) NF.o.e11;refine hq.run.mono ?_;rintro e V ⟨⟨v11,rfl,ev⟩,g⟩;have hK:=(hK.kp g).ad (kEl v11 sum) (ev);have hB:=hB.tr g;clear hq g
 rename World=>W
 clear ev;clear cx0;go_wp2_with fail;refine (same_say (hK.o _ Mm10) (hK.o _ Mm9) NF.o.gab.n).run.mono ?_;rintro e V ⟨rfl,g⟩;have hK:=hK.kp g;have hB:=hB.tr g;clear g
 rename World=>W
 go_wp2_with fail;refine (same_say (hK.o _ Mm7) (hK.o _ Mm6) NF.o.gone.n).run.mono ?_;rintro e V ⟨rfl,g⟩;have hK:=hK.kp g;have hB:=hB.tr g;clear g
 rename World=>W
 go_wp2_with fail;refine (same_say (hK.o _ Mm4) (hK.o _ Mm2) NF.o.gleft.n).run.mono ?_;rintro e V ⟨rfl,g⟩;have hK:=hK.kp g;have hB:=hB.tr g;clear g
 rename World=>W
 go_wp2_with fail;refine (same_say (hK.o _ Mm1) (hK.o _ Mm13) NF.o.gb.n).run.mono ?_;rintro e V ⟨rfl,g⟩;have hK:=hK.kp g;have hB:=hB.tr g;clear g
 rename World=>W
 go_wp2_with fail;refine (same_say (hK.o _ Mm5) (hK.o _ Mm0) NF.o.gsum.n).run.mono ?_;rintro e V ⟨rfl,g⟩;have hK:=hK.kp g;have hB:=hB.tr g;clear g
 rename World=>W
 go_wp2_with fail;go_ret;exact ⟨rfl,hB.o⟩
end Tw
end
end Go.Proofs.YtihlgifojjeoaaaGreatDoor
