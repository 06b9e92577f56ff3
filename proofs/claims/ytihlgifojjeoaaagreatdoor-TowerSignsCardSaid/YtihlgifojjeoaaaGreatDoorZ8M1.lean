import Derived.Test.YtihlgifojjeoaaaGreatDoorZ8L
import Derived.Test.YtihlgifojjeoaaaGreatDoorZ8H9
import Derived.Test.YtihlgifojjeoaaaGreatDoorZ8L1
import Derived.Deep.RegionHeld
set_option maxRecDepth 1000000
set_option maxHeartbeats 40000000
open Go.Value renaming string→J
open Go.Obj renaming cells→Jc
namespace Go.Proofs.YtihlgifojjeoaaaGreatDoor
section
namespace Tw
open SR Go.Proofs.YtihlgifojjeoaaaGreatDoor.Nm Go.Proofs.YtihlgifojjeoaaaGreatDoor.Rt
theorem QjB:∀ {rs:List (List Rat)},Qdz rs→embO rs [0]=some (zeros (2^rs.length))
 | [],_=>rfl
 | d :: rs,h=>by
  have ih:=QjB h.2;rw [embO,if_neg (by rw [List.length_singleton,Nat.pow_succ];have:=Nat.two_pow_pos rs.length;omega),ih];show some (zeros (2^rs.length)++zeros d.length)=some (zeros (2^(rs.length+1)));rw [h.1,zeros,zeros,List.replicate_append_replicate,Nat.pow_succ,Nat.mul_two]
structure SignF (L:List (List Rat)) (a b zero product sum negative:List Rat) (s r p q m z:Int):Prop where
 t:FitT L
 n:L.length≤1000
 e0:ovr L (fun rs=>embO rs [0])=some zero
 s1:ovr L (fun rs=>chk rs a (Qaw rs a))=some s
 s2:ovr L (fun rs=>chk rs b (Qaw rs b))=some r
 e1:ovr L (fun rs=>chk2 rs a b (mulO rs a b))=some product
 e2:ovr L (fun rs=>chk2 rs a b (Qaj addQ a b))=some sum
 e3:ovr L (fun rs=>chk2 rs zero a (Qaj subQ zero a))=some negative
 s3:ovr L (fun rs=>chk rs product (Qaw rs product))=some p
 s4:ovr L (fun rs=>chk rs sum (Qaw rs sum))=some q
 s5:ovr L (fun rs=>chk rs negative (Qaw rs negative))=some m
 s6:ovr L (fun rs=>chk rs zero (Qaw rs zero))=some z
 ga:Fs a
 gb:Fs b
 gzero:Fs zero
 gproduct:Fs product
 gsum:Fs sum
 gnegative:Fs negative
 fin:z=0∧p=s*r∧m = -s∧(s≠r∨q=s)∧(s≠0∨q=r)∧(r≠0∨q=s)
 ws:s = -1∨s=0∨s=1
 wr:r = -1∨r=0∨r=1
theorem QmO {L:List (List Rat)} {k:Nat} (hM:MadeT L k) (hk:k<4) {a b:List Rat} (la:a.length=2^L.length) (lb:b.length=2^L.length) (aa:AllL 6 30 a) (ab_:AllL 6 30 b) :
  ∃ zero product sum negative s r p q n z,SignF L a b zero product sum negative s r p q n z:=by
 obtain ⟨rs,S,R,hF,hT,hR,hrk,h0⟩:=Qjz hM;rw [hM.len,←hrk] at la lb;have bs:=QoT rs.length (by omega);simp only [Bool.and_eq_true,decide_eq_true_iff] at bs;obtain ⟨b1,b2,b3,b4,b5,b6,c1,c2,c3,_⟩:=bs;have hp:=QbG (show rs.length≤4 by omega);have h4:rs.length≤4:=by omega
 have az:AllL 6 30 (zeros (2^rs.length)):=AllL.zeros _ _ (by decide);have lz:(zeros (2^rs.length)).length=2^rs.length:=List.length_replicate;obtain ⟨product,e1,l1,a1⟩:=Qcp hR la lb (by decide) (by decide) aa ab_ b1;obtain ⟨sum,e2,l2,a2⟩:=Qim la lb aa ab_ (by decide +kernel);obtain ⟨negative,e3,l3,a3⟩:=QoS lz la az aa (by decide +kernel);obtain ⟨s,s1⟩:=Qcq (by decide) hR la (by decide) aa c1;obtain ⟨r,s2⟩:=Qcq (by decide) hR lb (by decide) ab_ c1;obtain ⟨p,s3⟩:=Qcq (by decide) hR l1 (by decide) a1 c2;obtain ⟨q,s4⟩:=Qcq (by decide) hR l2 (by decide) a2 c3;obtain ⟨n,s5⟩:=Qcq (by decide) hR l3 (by decide) a3 c3;obtain ⟨z,s6⟩:=Qcq (by decide) hR lz (by decide) az c1;refine ⟨_,product,sum,negative,s,r,p,q,n,z,⟨hM.fit,by rw [hM.len];omega, ?_, ?_, ?_, ?_, ?_, ?_, ?_, ?_, ?_, ?_,.el aa la h4,.el ab_ lb h4,.el az lz h4,.mul e1 l1 h4,.add e2 (by omega),.sub e3 (by omega),Qpl hT la lb e1 e2 e3 s1 s2 s3 s4 s5 s6,Qcu s1,Qcu s2⟩⟩
 ·rw [QaA hF,QjB h0]
 ·rw [QaA hF,QhF la,s1]
 ·rw [QaA hF,QhF lb,s2]
 ·rw [QaA hF,Qcd la lb,e1]
 ·rw [QaA hF,Qcd la lb,e2]
 ·rw [QaA hF,Qcd lz la,e3]
 ·rw [QaA hF,QhF l1,s3]
 ·rw [QaA hF,QhF l2,s4]
 ·rw [QaA hF,QhF l3,s5]
 ·rw [QaA hF,QhF lz,s6]
end Tw
end
section
namespace Tw
open Go.RowKit Go.Extern.Stop Go.Stop Go.Extern
open En Go.Proofs.YtihlgifojjeoaaaGreatDoor.Nm Go.Proofs.YtihlgifojjeoaaaGreatDoor.Rt
theorem QmP (a:Addr) {cs:Array Value} {c:Nat→Int} (hC:C65 cs c) (w:World) (hg:Gl w) (hv:Ref a w) (hs:∀ W,Gl W→Ref a W→Calls Tryz.prog 10 #[] W fun e W'=>e = .returned (.bool true)∧Below W.heap.size W W'):Calls Tryz.prog 5 #[.agg cs] w fun e w'=>e = .returned (.bool true)∧Below w.heap.size w w':=by
 have u_:=(Below.refl w.heap.size w).alloc Lr (.cells cs 24);have n_bC:(w.alloc (.cells cs 24)).heap[w.heap.size]? = some (.cells cs 24 (0,0)):=World.alloc_heap_new w _;have hK:Sh (Ks [kBx w.heap.size (.cells cs 24 (0,0)),kGl,kRef a] (w.alloc (.cells cs 24))):=⟨((((Ks.nil w).add (kRef a) hv).add kGl hg).keep u_).add (kBx w.heap.size (.cells cs 24 (0,0))) n_bC⟩;have hB:Sh (Below w.heap.size w (w.alloc (.cells cs 24))):=⟨u_⟩;have hq:=hs _ (hK.o _ Mm1) (hK.o _ Mm2);have HC:Sh _:=⟨hC⟩;clear hv hg hs hC u_ n_bC;go_enter Tryz.func5, Tryz.ntmps5;go_wp2_with fail;generalize w.alloc (.cells cs 24)=W at *
 refine hq.mono ?_;rintro e V ⟨rfl,g⟩;have hK:=hK.kp g;have hB:=hB.tr g;clear hq g
 rename World=>W
 go_upto_region 2 with fail
 have hrg:W.rangeAt w.heap.size 0 cs.toList:=fun j v hv=>by
  have hb:=((hK.o _ Mm0):W.heap[w.heap.size]? = some (.cells cs 24 (0,0)));rw [Nat.zero_add];exact En.Qaa hb j (by rw [←Array.getElem?_toList];exact hv)
 refine wp_region_lit ?_;refine wpList_load_mid rfl _ _ rfl _ _ rfl cs.toList _ hrg Tryz.underlying24 rfl (HC.o.size24) ?_;rw [Array.toArray_toList];clear hrg;go_wp2_with fail;have hq:=QrJ HC.o W;refine hq.mono ?_;rintro e V ⟨⟨L,vt,va,vb,vd,rfl,hT,hM,ea,eb,ed⟩,g⟩;clear hq;obtain ⟨p,cap,rfl,_⟩:=hT.parts;have HM:Sh _:=⟨hM⟩;obtain ⟨n,hn⟩:∃ n,n=L.length:=⟨_,rfl⟩;rw [←hn] at hT ⊢;have HN:Sh (n=L.length):=⟨hn⟩;have hL4:L.length≤4:=by rw [hM.len];have:=QbM (c 0) (n:=4) (by decide);omega
 obtain ⟨la,hla⟩:∃ l,l=elL (fun i=>c (17+i)) (2^L.length):=⟨_,rfl⟩;obtain ⟨lb,hlb⟩:∃ l,l=elL (fun i=>c (33+i)) (2^L.length):=⟨_,rfl⟩;obtain ⟨ld,hld⟩:∃ l,l=elL (fun i=>c (49+i)) (2^L.length):=⟨_,rfl⟩;rw [←hla] at ea;rw [←hlb] at eb;rw [←hld] at ed;have hK:=((((hK.kp g).ad (kTw (.agg #[.slice p n cap]) L) hT.at_).ad (kEl vd ld) ed).ad (kEl vb lb) eb).ad (kEl va la) ea;have hB:=hB.tr g;have qa:la.length=2^L.length∧AllL 6 30 la:=⟨by rw [hla,Qdx],by rw [hla];exact Qfo _ _⟩;have qb:lb.length=2^L.length∧AllL 6 30 lb:=⟨by rw [hlb,Qdx],by rw [hlb];exact Qfo _ _⟩;have qd:ld.length=2^L.length∧AllL 6 30 ld:=⟨by rw [hld,Qdx],by rw [hld];exact Qfo _ _⟩;clear hT ea eb ed g hn hla hlb hld HC
 rename World=>W
 obtain ⟨zero,product,sum,negative,s,r,z1,q,m,z,NF⟩:=QmO HM.o (QbM (c 0) (by decide)) qa.1 qb.1 qa.2 qb.2;replace NF:Sh _:=⟨NF⟩;clear qa qb qd hL4;go_wp2_with fail;have n_bT:(W.alloc (Jc #[.slice p n cap] 28)).heap[W.heap.size]? = some (Jc #[.slice p n cap] 28 (0,0)):=by first | exact World.alloc_heap_new W (Jc #[.slice p n cap] 28) | (have:=World.alloc_heap_new W (Jc #[.slice p n cap] 28);simpa using this)
 have u_:Below W.heap.size W (W.alloc (Jc #[.slice p n cap] 28)):=((Below.refl W.heap.size W).alloc (by first | exact Nat.le_refl _ | (simp;done) | (simp;omega)) (Jc #[.slice p n cap] 28));have hK:=hK.kp u_;have hB:=hB.tr u_;clear u_;generalize (W.alloc (Jc #[.slice p n cap] 28))=Wn at *
 generalize W.heap.size=bT at *
 rename World=>W
 have hK:=hK.ad (kBx bT (Jc #[.slice p n cap] 28 (0,0))) (n_bT);clear n_bT
 skip
 have SS:Sh (∀ X,Below W.heap.size W X→X.cell? ⟨bT,0,none⟩=some (.slice p n cap)):=⟨fun X hX=>En.Qaa ((hK.o.keep hX) _ Mm0) 0 rfl⟩
 go_region_held (fun X=>X.cell? ⟨bT,0,none⟩=some (.slice p n cap)) (first | exact SS.o _ (QaS (Below.refl _ _)) | exact SS.o _ k2 | exact SS.o _ k1 | fail) (first | (go_at_call 19; have hq:=Qfw 0 1 ⟨#[48]⟩ ⟨#[49]⟩ (by decide +kernel) (by decide) (by decide) (by decide) W.drew;(with_reducible refine hq.run.mono ?_);rintro e x1 ⟨rfl,g⟩;have k1:Below W.heap.size W x1:=Qah g;clear hq g) | (go_at_call 18; have hq:=AnsA.sayE (Qkq NF.o.t NF.o.n (r:=0) fit0 (n:=⟨#[48]⟩) (d:=⟨#[49]⟩) (by decide +kernel) x1 ((hK.o.keep k1) _ Mm6) ((hK.o.keep k1) _ Mm4)) NF.o.e0;(with_reducible refine hq.run.mono ?_);rintro e x2 ⟨⟨v0,rfl,ev⟩,g⟩;have k2:=k1.trans (g.mono k1.size);clear hq g) | fail)
 all_goals (try clear SS)
 have hK:=(hK.kp k2).ad (kEl v0 zero) (ev);have hB:=hB.tr k2;clear k1 k2 ev
 rename World=>W
 have cx0:=En.Qaa (hK.o _ Mm1) 0 rfl;go_wp2_with fail;have hq:=AnsA.sayI (QeV NF.o.t NF.o.n NF.o.ga.n NF.o.ga.f W (hK.o _ Mm7) (hK.o _ Mm5) (hK.o _ Mm2)) NF.o.s1;refine hq.run.mono ?_;rintro e V ⟨rfl,g⟩;have hK:=hK.kp g;have hB:=hB.tr g;clear hq g
 rename World=>W
 clear cx0;have cx0:=En.Qaa (hK.o _ Mm1) 0 rfl;go_wp2_with fail;have hq:=AnsA.sayI (QeV NF.o.t NF.o.n NF.o.gb.n NF.o.gb.f W (hK.o _ Mm7) (hK.o _ Mm5) (hK.o _ Mm3)) NF.o.s2;refine hq.run.mono ?_;rintro e V ⟨rfl,g⟩;have hK:=hK.kp g;have hB:=hB.tr g;clear hq g
 rename World=>W
 clear cx0;have cx0:=En.Qaa (hK.o _ Mm1) 0 rfl;go_wp2_with fail;have hq:=AnsA.sayE (Qin NF.o.t NF.o.n NF.o.ga.n NF.o.gb.n NF.o.ga.f NF.o.gb.f W (hK.o _ Mm7) (hK.o _ Mm5) (hK.o _ Mm2) (hK.o _ Mm3)) NF.o.e1;refine hq.run.mono ?_;rintro e V ⟨⟨v1,rfl,ev⟩,g⟩;have hK:=(hK.kp g).ad (kEl v1 product) (ev);have hB:=hB.tr g;clear hq g
 rename World=>W
 clear ev;clear cx0;have cx0:=En.Qaa (hK.o _ Mm2) 0 rfl;go_wp2_with fail;have hq:=AnsA.sayE (QqQ NF.o.t NF.o.n NF.o.ga.n NF.o.gb.n NF.o.ga.f NF.o.gb.f W (hK.o _ Mm8) (hK.o _ Mm6) (hK.o _ Mm3) (hK.o _ Mm4)) NF.o.e2;refine hq.run.mono ?_;rintro e V ⟨⟨v2,rfl,ev⟩,g⟩;have hK:=(hK.kp g).ad (kEl v2 sum) (ev);have hB:=hB.tr g;clear hq g
 rename World=>W
 clear ev;clear cx0;have cx0:=En.Qaa (hK.o _ Mm3) 0 rfl;go_wp2_with fail;have hq:=AnsA.sayE (Qvc NF.o.t NF.o.n NF.o.gzero.n NF.o.ga.n NF.o.gzero.f NF.o.ga.f W (hK.o _ Mm9) (hK.o _ Mm7) (hK.o _ Mm2) (hK.o _ Mm4)) NF.o.e3;refine hq.run.mono ?_;rintro e V ⟨⟨v3,rfl,ev⟩,g⟩;have hK:=(hK.kp g).ad (kEl v3 negative) (ev);have hB:=hB.tr g;clear hq g
 rename World=>W
 clear ev;clear cx0;have cx0:=En.Qaa (hK.o _ Mm4) 0 rfl;go_wp2_with fail;have hq:=AnsA.sayI (QeV NF.o.t NF.o.n NF.o.gproduct.n NF.o.gproduct.f W (hK.o _ Mm10) (hK.o _ Mm8) (hK.o _ Mm2)) NF.o.s3;refine hq.run.mono ?_;rintro e V ⟨rfl,g⟩;have hK:=hK.kp g;have hB:=hB.tr g;clear hq g
 rename World=>W
 clear cx0;have cx0:=En.Qaa (hK.o _ Mm4) 0 rfl;go_wp2_with fail;have hq:=AnsA.sayI (QeV NF.o.t NF.o.n NF.o.gsum.n NF.o.gsum.f W (hK.o _ Mm10) (hK.o _ Mm8) (hK.o _ Mm1)) NF.o.s4;refine hq.run.mono ?_;rintro e V ⟨rfl,g⟩;have hK:=hK.kp g;have hB:=hB.tr g;clear hq g
 rename World=>W
 clear cx0;have cx0:=En.Qaa (hK.o _ Mm4) 0 rfl;go_wp2_with fail;have hq:=AnsA.sayI (QeV NF.o.t NF.o.n NF.o.gnegative.n NF.o.gnegative.f W (hK.o _ Mm10) (hK.o _ Mm8) (hK.o _ Mm0)) NF.o.s5;refine hq.run.mono ?_;rintro e V ⟨rfl,g⟩;have hK:=hK.kp g;have hB:=hB.tr g;clear hq g
 rename World=>W
 clear cx0;have cx0:=En.Qaa (hK.o _ Mm4) 0 rfl;go_wp2_with fail;have hq:=AnsA.sayI (QeV NF.o.t NF.o.n NF.o.gzero.n NF.o.gzero.f W (hK.o _ Mm10) (hK.o _ Mm8) (hK.o _ Mm3)) NF.o.s6;refine hq.run.mono ?_;rintro e V ⟨rfl,g⟩;have hK:=hK.kp g;have hB:=hB.tr g;clear hq g
 rename World=>W
 clear cx0;obtain ⟨f1,f2,f3,f4,f5,f6⟩:=NF.o.fin;have f7:=NF.o.ws;have f8:=NF.o.wr;have HB:=hB.o;clear NF hK hB;subst f1 f2 f3;rcases f7 with rfl | rfl | rfl <;> rcases f8 with rfl | rfl | rfl
 all_goals (first | (have e1:q = -1:=(by omega);subst e1) | (have e1:q=0:=(by omega);subst e1) | (have e1:q=1:=(by omega);subst e1) | skip)
 all_goals clear f4 f5 f6
 all_goals (go_wp2_with fail;go_ret;exact ⟨by first | rfl | decide | simp,HB⟩)
end Tw
end
end Go.Proofs.YtihlgifojjeoaaaGreatDoor
