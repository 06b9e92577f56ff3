import Derived.Test.YtihlgifojjeoaaaGreatDoorZ8L
import Derived.Test.YtihlgifojjeoaaaGreatDoorZ8H9
import Derived.Test.YtihlgifojjeoaaaGreatDoorZ8R1
set_option maxRecDepth 1000000
set_option maxHeartbeats 40000000
open Go.Value renaming string→J
open Go.Obj renaming cells→Jc
namespace Go.Proofs.YtihlgifojjeoaaaGreatDoor
theorem Mm16 {α:Type} {a0 a1 a2 a3 a4 a5 a6 a7 a8 a9 a10 a11 a12 a13 a14 a15 a16:α} {l:List α}:a16∈a0::a1::a2::a3::a4::a5::a6::a7::a8::a9::a10::a11::a12::a13::a14::a15::a16::l:=.tail _ (.tail _ (.tail _ (.tail _ (.tail _ (.tail _ (.tail _ (.tail _ (.tail _ (.tail _ (.tail _ (.tail _ (.tail _ (.tail _ (.tail _ (.tail _ (.head _))))))))))))))))
theorem Mm15 {α:Type} {a0 a1 a2 a3 a4 a5 a6 a7 a8 a9 a10 a11 a12 a13 a14 a15:α} {l:List α}:a15∈a0::a1::a2::a3::a4::a5::a6::a7::a8::a9::a10::a11::a12::a13::a14::a15::l:=.tail _ (.tail _ (.tail _ (.tail _ (.tail _ (.tail _ (.tail _ (.tail _ (.tail _ (.tail _ (.tail _ (.tail _ (.tail _ (.tail _ (.tail _ (.head _)))))))))))))))
theorem Mm14 {α:Type} {a0 a1 a2 a3 a4 a5 a6 a7 a8 a9 a10 a11 a12 a13 a14:α} {l:List α}:a14∈a0::a1::a2::a3::a4::a5::a6::a7::a8::a9::a10::a11::a12::a13::a14::l:=.tail _ (.tail _ (.tail _ (.tail _ (.tail _ (.tail _ (.tail _ (.tail _ (.tail _ (.tail _ (.tail _ (.tail _ (.tail _ (.tail _ (.head _))))))))))))))
section
namespace Tw
open SR Go.Proofs.YtihlgifojjeoaaaGreatDoor.Nm Go.Proofs.YtihlgifojjeoaaaGreatDoor.Rt
structure RootS (L:List (List Rat)) (d:List Rat) (s:Int):Prop where
 t:FitT L
 n:L.length≤1000
 s1:ovr L (fun rs=>chk rs d (Qaw rs d))=some s
 gd:Fs d
 no:s≠1→ovr L (fun rs=>extO rs d)=none
structure RootF (L:List (List Rat)) (a b d:List Rat) (U:List (List Rat)) (root want x y ab eab:List Rat) (r:Int):Prop where
 ext:ovr L (fun rs=>extO rs d)=some U
 t:FitT U
 n:U.length≤1000
 e1:ovr U rootO=some root
 e2:ovr U (fun rs=>chk2 rs root root (mulO rs root root))=some want
 e3:ovr U (fun rs=>embO rs d)=some want
 c4:ovr U (fun rs=>chk2 rs want want ((Qaj subQ want want).bind (Qaw rs)))=some 0
 s5:ovr U (fun rs=>chk rs root (Qaw rs root))=some 1
 e6:ovr U (fun rs=>embO rs a)=some x
 e7:ovr U (fun rs=>embO rs b)=some y
 e8:ovr L (fun rs=>chk2 rs a b (mulO rs a b))=some ab
 e9:ovr U (fun rs=>chk2 rs x y (mulO rs x y))=some eab
 e10:ovr U (fun rs=>embO rs ab)=some eab
 s11:ovr L (fun rs=>chk rs a (Qaw rs a))=some r
 s12:ovr U (fun rs=>chk rs x (Qaw rs x))=some r
 ga:Fs a
 gb:Fs b
 groot:Fs root
 gwant:Fs want
 gx:Fs x
 gy:Fs y
 gab:Fs ab
 geab:Fs eab
theorem bounds6:∀ k,k<4→(mfit 6 42 k 6 6 30 30 && (mfit 6 42 k 1 1 1 1 && (sfit 6 42 k 1 1 && (sfit 6 42 k 6 30 && sfit 6 42 k 6 60))))=true:=by decide +kernel
theorem root_facts {L:List (List Rat)} {k:Nat} (hM:MadeT L k) (hk:k<3) {a b d:List Rat} (la:a.length=2^L.length) (lb:b.length=2^L.length) (ld:d.length=2^L.length) (aa:AllL 6 30 a) (ab_:AllL 6 30 b) (ad_:AllL 6 30 d) :
  ∃ s,RootS L d s∧(s=1→∃ U root want x y ab eab r,RootF L a b d U root want x y ab eab r):=by
 obtain ⟨rs,S,R,hF,hT,hR,hrk,h0⟩:=Qjz hM;rw [hM.len,←hrk] at la lb ld;have bs:=QoT rs.length (by omega);simp only [Bool.and_eq_true,decide_eq_true_iff] at bs;obtain ⟨b1,b2,b3,b4,b5,b6,c1,c2,c3,_⟩:=bs;have hp:=QbG (show rs.length≤4 by omega);have h4:rs.length≤4:=by omega
 obtain ⟨s,s1⟩:=Qcq (by decide) hR ld (by decide) ad_ c1;have hs1:ovr L (fun rs=>chk rs d (Qaw rs d))=some s:=by rw [QaA hF,QhF ld,s1]
 refine ⟨s,⟨hM.fit,by rw [hM.len];omega,hs1,.el ad_ ld h4,fun hne => ?_⟩,fun he => ?_⟩
 ·rw [QaA hF,extO,if_neg (fun h=>hne (by have:=h.2.2;rw [s1] at this;exact Option.some.inj this))]
 ·subst he;have hadj:Adj rs d:=⟨by omega,ld,s1⟩;have hrev:rs.reverse=L:=by rw [Qcc hF,List.append_nil,List.reverse_reverse]
  have hU:Qam [] (L ++ [d])=some (d :: rs):=by rw [QcG,hF,Option.bind_some,Qam,if_pos hadj];rfl
  have lat6:∀ x∈L ++ [d],AllL 6 42 x:=fun x hx=>by
   rcases List.mem_append.1 hx with hx | hx
   ·exact (hM.lat x hx).lift (M:=6) (by decide)
   ·rw [List.mem_singleton.1 hx];exact ad_.mono (by decide)
  have hR6:RadT 6 42 (d :: rs):=Qjp (acc := []) trivial lat6 hU;have h60:Qdz (d :: rs):=⟨ld,h0⟩;have bs:=bounds6 (rs.length+1) (by omega);simp only [Bool.and_eq_true] at bs;obtain ⟨d1,d2,d3,d4,d5⟩:=bs;have hq:2^(rs.length+1)≤16:=(QbG (show rs.length+1≤4 by omega)).2;have up:∀ {z:List Rat},z.length=2^rs.length→(z++zeros d.length).length=2^(d :: rs).length:=fun h=>by rw [List.length_append,h,zeros,List.length_replicate,ld,List.length_cons,Nat.pow_succ];omega
  have upA:∀ {z:List Rat},AllL 6 30 z→AllL 6 30 (z++zeros d.length):=fun h=>h.app (AllL.zeros _ _ (by decide));have f16:∀ {z:List Rat},z.length=2^(d :: rs).length→z.length≤1000:=fun h=>by rw [h,List.length_cons];omega
  have g1:=embO_one h0 1;have e1:rootO (d :: rs)=some (zeros d.length++(1 :: zeros (2^rs.length-1))):=by rw [rootO,g1];rfl
  have lr:(zeros d.length++(1 :: zeros (2^rs.length-1))).length=2^(d :: rs).length:=by rw [List.length_append,zeros,List.length_replicate,ld,List.length_cons,zeros,List.length_replicate,List.length_cons,Nat.pow_succ];omega
  have ar:AllL 1 1 (zeros d.length++(1 :: zeros (2^rs.length-1))):=(AllL.zeros _ _ (by decide)).app (AllL.cons ⟨by decide,1,by decide +kernel,by decide⟩ (AllL.zeros _ _ (by decide)));obtain ⟨square,e2,l2,_⟩:=Qtn (by decide) hR6 lr lr (by decide) (by decide) ar ar d2;obtain ⟨w1,s5⟩:=Qcq (by decide) hR6 lr (by decide) ar d3;obtain ⟨rfl,rfl⟩:=QvE hT ld s1 e1 e2 s5;obtain ⟨v1,x4,l4,a4⟩:=QoS (up ld) (up ld) (upA ad_) (upA ad_) (by decide +kernel);obtain ⟨v,s4⟩:=Qcq (by decide) hR6 l4 (by decide) a4 d5;obtain ⟨δ,hδ⟩:=hT.ex ld;have hT2:=IsT.cons hT δ hδ (hT.sign hδ s1);have hv:=QqY hT2 (up ld) x4 s4;subst hv;obtain ⟨ab,e8,l8,a8⟩:=Qcp hR la lb (by decide) (by decide) aa ab_ b1;obtain ⟨xy,e9,l9,_⟩:=Qtn (by decide) hR6 (up la) (up lb) (by decide) (by decide) (upA aa) (upA ab_) d1;obtain ⟨r,s11⟩:=Qcq (by decide) hR la (by decide) aa c1;obtain ⟨z,s12⟩:=Qcq (by decide) hR6 (up la) (by decide) (upA aa) d4;obtain ⟨rfl,rfl⟩:=QvF hT ld s1 la lb e8 e9 s11 s12;have fd:FitL d:=ad_.fit (by decide +kernel);refine ⟨L ++ [d],_,_,_,_,ab,_,r,⟨?_, ?_, ?_, ?_, ?_, ?_, ?_, ?_, ?_, ?_, ?_, ?_, ?_, ?_, ?_,.el aa la h4,.el ab_ lb h4,⟨ar.fit (by decide +kernel),f16 lr⟩,⟨(upA ad_).fit (by decide +kernel),f16 (up ld)⟩,⟨(upA aa).fit (by decide +kernel),f16 (up la)⟩,⟨(upA ab_).fit (by decide +kernel),f16 (up lb)⟩,.mul e8 l8 h4,⟨QbL e9,f16 l9⟩⟩⟩
  ·rw [QaA hF,extO,if_pos hadj,List.reverse_cons,hrev]
  ·intro x hx;rcases List.mem_append.1 hx with hx | hx
   ·exact hM.fit x hx
   ·rw [List.mem_singleton.1 hx];exact ⟨fd,by rw [ld];omega⟩
  ·rw [List.length_append,hM.len,List.length_singleton];omega
  ·rw [QaA hU,e1]
  ·rw [QaA hU,Qcd lr lr,e2]
  ·rw [QaA hU,QvW ld]
  ·rw [QaA hU,Qcd (up ld) (up ld),x4,Option.bind_some,s4]
  ·rw [QaA hU,QhF lr,s5]
  ·rw [QaA hU,QvW la]
  ·rw [QaA hU,QvW lb]
  ·rw [QaA hF,Qcd la lb,e8]
  ·rw [QaA hU,Qcd (up la) (up lb),e9]
  ·rw [QaA hU,QvW l8]
  ·rw [QaA hF,QhF la,s11]
  ·rw [QaA hU,QhF (up la),s12]
end Tw
end
section
namespace Tw
open Go.RowKit Go.Extern.Stop Go.Stop Go.Extern
open En Go.Proofs.YtihlgifojjeoaaaGreatDoor.Nm Go.Proofs.YtihlgifojjeoaaaGreatDoor.Rt
theorem box_set0 {W:World} {b:Nat} {cs:Array Value} {y:Value} {T:TypeId} (h:W.heap[b]? = some (.cells cs T (0,0))):(W.setCell ⟨b,0,none⟩ y).heap[b]? = some (.cells (cs.setIfInBounds 0 y) T (0,0)):=by
 obtain ⟨hl,hg⟩:=Array.getElem?_eq_some_iff.1 h;simp [World.setCell,hl,Array.getElem_modify,hg]
theorem C65.set0 {cs:Array Value} {c:Nat→Int} (h:C65 cs c) (k:Int) (h1 : -9223372036854775808≤k) (h2:k≤9223372036854775807):∃ cs2 c2,cs2=cs.setIfInBounds 0 (.int .i64 k)∧C65 cs2 c2∧c2 0=k:=by
 refine ⟨_,fun i=>if i=0 then k else c i,rfl,⟨by simp [h.size],fun i hi => ?_,fun i hi => ?_⟩,rfl⟩
 ·by_cases h0:i=0
  ·subst h0;simp [h.size]
  ·rw [Array.getElem?_setIfInBounds_ne (by omega),h.at_ i hi];simp [h0]
 ·by_cases h0:i=0
  ·simp [h0];omega
  ·simp only [h0,if_false];exact h.bd i hi
theorem roots_walk (a:Addr) {cs:Array Value} {c:Nat→Int} (hC:C65 cs c) (w:World) (hg:Gl w) (hv:Ref a w) (hs:∀ W,Gl W→Ref a W→Calls Tryz.prog 10 #[] W fun e W'=>e = .returned (.bool true)∧Below W.heap.size W W'):Calls Tryz.prog 6 #[.agg cs] w fun e w'=>e = .returned (.bool true)∧Below w.heap.size w w':=by
 have HG:Sh _:=⟨hg⟩;have HV:Sh _:=⟨hv⟩;have u_:=(Below.refl w.heap.size w).alloc Lr (.cells cs 24);have n_bC:(w.alloc (.cells cs 24)).heap[w.heap.size]? = some (.cells cs 24 (0,0)):=World.alloc_heap_new w _;have hK:Sh (Ks [kBx w.heap.size (.cells cs 24 (0,0)),kGl,kRef a] (w.alloc (.cells cs 24))):=⟨((((Ks.nil w).add (kRef a) hv).add kGl hg).keep u_).add (kBx w.heap.size (.cells cs 24 (0,0))) n_bC⟩;have hB:Sh (Below w.heap.size w (w.alloc (.cells cs 24))):=⟨u_⟩;have hq:=hs _ (hK.o _ Mm1) (hK.o _ Mm2);have HC:Sh _:=⟨hC⟩;clear hv hg hs hC u_ n_bC;go_enter Tryz.func6, Tryz.ntmps6;go_wp2_with fail;generalize w.alloc (.cells cs 24)=W at *
 refine hq.mono ?_;rintro e V ⟨rfl,g⟩;have hK:=hK.kp g;have hB:=hB.tr g;clear hq g
 rename World=>W
 have cb:=HC.o.cell ((hK.o _ Mm0):W.heap[w.heap.size]? = some (.cells cs 24 (0,0))) 0 (by decide);obtain ⟨k,hk,cp⟩:=pick_any (c 0) 3 (HC.o.bd 0 (by decide)).1 (HC.o.bd 0 (by decide)).2 (by decide) (by decide);have CP:Sh _:=⟨cp⟩;clear cp;go_wp2_with fail;have hq:=CP.o W;refine hq.run.mono ?_;rintro e V ⟨rfl,g⟩;have hK:=hK.kp g;have hB:=hB.tr g;clear hq g
 rename World=>W
 clear cb;have nb0:=((hK.o _ Mm0):W.heap[w.heap.size]? = some (.cells cs 24 (0,0)));have cb:=HC.o.cell nb0 0 (by decide);have cf:=En.Qad nb0 0;go_upto_region 3 with fail
 have nb:=box_set0 (y:=.int .i64 (k:Int)) nb0;have hB2:Below w.heap.size w (W.setCell ⟨w.heap.size,0,none⟩ (.int .i64 (k:Int))):=hB.o.setCell Lr _;obtain ⟨cs2,c2,hcs,hC2,hc0⟩:=HC.o.set0 (k:Int) (by omega) (by omega);rw [←hcs] at nb;generalize W.setCell ⟨w.heap.size,0,none⟩ (.int .i64 (k:Int))=W2 at *
 have hK:Sh (Ks [kBx w.heap.size (.cells cs2 24 (0,0)),kGl,kRef a] W2):=⟨(((Ks.nil W2).add (kRef a) ((kRef a).k _ _ HV.o hB2)).add kGl (kGl.k _ _ HG.o hB2)).add (kBx w.heap.size (.cells cs2 24 (0,0))) nb⟩;have hB:Sh (Below w.heap.size w W2):=⟨hB2⟩;have hk3:QaG (c2 0) 4<3:=by rw [hc0,QaG,if_neg (by omega)];omega
 have HC2:Sh _:=⟨hC2⟩;have HK:Sh _:=⟨hk3⟩;clear nb nb0 cb cf hB2 hcs hC2 hc0 hk3 hk HC HG HV CP
 rename World=>W
 have hrg:W.rangeAt w.heap.size 0 cs2.toList:=fun j v hv=>by
  have hb:=((hK.o _ Mm0):W.heap[w.heap.size]? = some (.cells cs2 24 (0,0)));rw [Nat.zero_add];exact En.Qaa hb j (by rw [←Array.getElem?_toList];exact hv)
 refine wp_region_lit ?_;refine wpList_load_mid rfl _ _ rfl _ _ rfl cs2.toList _ hrg Tryz.underlying24 rfl (HC2.o.size24) ?_;rw [Array.toArray_toList];clear hrg;go_wp2_with fail;have hq:=QrJ HC2.o W;refine hq.mono ?_;rintro e V ⟨⟨L,vt,va,vb,vd,rfl,hT,hM,ea,eb,ed⟩,g⟩;clear hq;obtain ⟨p,cap,rfl,_⟩:=hT.parts;have HM:Sh _:=⟨hM⟩;obtain ⟨n,hn⟩:∃ n,n=L.length:=⟨_,rfl⟩;rw [←hn] at hT ⊢;have HN:Sh (n=L.length):=⟨hn⟩;have hL4:L.length≤4:=by rw [hM.len];have:=QbM (c2 0) (n:=4) (by decide);omega
 obtain ⟨la,hla⟩:∃ l,l=elL (fun i=>c2 (17+i)) (2^L.length):=⟨_,rfl⟩;obtain ⟨lb,hlb⟩:∃ l,l=elL (fun i=>c2 (33+i)) (2^L.length):=⟨_,rfl⟩;obtain ⟨ld,hld⟩:∃ l,l=elL (fun i=>c2 (49+i)) (2^L.length):=⟨_,rfl⟩;rw [←hla] at ea;rw [←hlb] at eb;rw [←hld] at ed;have hK:=((((hK.kp g).ad (kTw (.agg #[.slice p n cap]) L) hT.at_).ad (kEl vd ld) ed).ad (kEl vb lb) eb).ad (kEl va la) ea;have hB:=hB.tr g;have qa:la.length=2^L.length∧AllL 6 30 la:=⟨by rw [hla,Qdx],by rw [hla];exact Qfo _ _⟩;have qb:lb.length=2^L.length∧AllL 6 30 lb:=⟨by rw [hlb,Qdx],by rw [hlb];exact Qfo _ _⟩;have qd:ld.length=2^L.length∧AllL 6 30 ld:=⟨by rw [hld,Qdx],by rw [hld];exact Qfo _ _⟩;clear hT ea eb ed g hn hla hlb hld HC2
 rename World=>W
 obtain ⟨s,NF,RF⟩:=root_facts HM.o HK.o qa.1 qb.1 qd.1 qa.2 qb.2 qd.2;replace NF:Sh _:=⟨NF⟩;replace RF:Sh _:=⟨RF⟩;clear qa qb qd hL4;go_wp2_with fail;have n_bT:(W.alloc (Jc #[.slice p n cap] 28)).heap[W.heap.size]? = some (Jc #[.slice p n cap] 28 (0,0)):=by first | exact World.alloc_heap_new W (Jc #[.slice p n cap] 28) | (have:=World.alloc_heap_new W (Jc #[.slice p n cap] 28);simpa using this)
 have u_:Below W.heap.size W (W.alloc (Jc #[.slice p n cap] 28)):=((Below.refl W.heap.size W).alloc (by first | exact Nat.le_refl _ | (simp;done) | (simp;omega)) (Jc #[.slice p n cap] 28));have hK:=hK.kp u_;have hB:=hB.tr u_;clear u_;generalize (W.alloc (Jc #[.slice p n cap] 28))=Wn at *
 generalize W.heap.size=bT at *
 rename World=>W
 have hK:=hK.ad (kBx bT (Jc #[.slice p n cap] 28 (0,0))) (n_bT);clear n_bT;have cx0:=En.Qaa (hK.o _ Mm0) 0 rfl;have hq:=AnsA.sayI (QeV NF.o.t NF.o.n NF.o.gd.n NF.o.gd.f W (hK.o _ Mm6) (hK.o _ Mm4) (hK.o _ Mm3)) NF.o.s1;refine hq.run.mono ?_;rintro e V ⟨rfl,g⟩;have hK:=hK.kp g;have hB:=hB.tr g;clear hq g
 rename World=>W
 skip
 clear cx0;have cx0:=En.Qaa (hK.o _ Mm0) 0 rfl;go_wp2_with fail;by_cases hs:s=1
 ·obtain ⟨U,root,want,x,y,ab,eab,r,XF⟩:=RF.o hs;replace XF:Sh _:=⟨XF⟩;replace NF:Sh _:=⟨NF.o⟩;clear RF;have hq:=AnsA.sayT (Qlk NF.o.t NF.o.n NF.o.gd.n NF.o.gd.f W (hK.o _ Mm6) (hK.o _ Mm4) (hK.o _ Mm3)) XF.o.ext;refine hq.run.mono ?_;rintro e V ⟨⟨vt,rfl,ev⟩,g⟩;have hK:=(hK.kp g).ad (kTw (.agg #[vt]) U) (ev);have hB:=hB.tr g;clear hq g
  rename World=>W
  clear ev cx0;obtain ⟨p3,c3,et,_⟩:=((hK.o _ Mm0):TwAt W (.agg #[vt]) U).ex;obtain ⟨m,hm⟩:∃ m,m=U.length:=⟨_,rfl⟩;obtain rfl:vt = .slice p3 m c3:=(by rw [hm];injection et with et;simpa using et);clear et hm;go_upto_region 6 with fail
  have n_bU:(W.alloc (Jc #[.slice p3 m c3] 28)).heap[W.heap.size]? = some (Jc #[.slice p3 m c3] 28 (0,0)):=by first | exact World.alloc_heap_new W (Jc #[.slice p3 m c3] 28) | (have:=World.alloc_heap_new W (Jc #[.slice p3 m c3] 28);simpa using this)
  have u_:Below W.heap.size W (W.alloc (Jc #[.slice p3 m c3] 28)):=((Below.refl W.heap.size W).alloc (by first | exact Nat.le_refl _ | (simp;done) | (simp;omega)) (Jc #[.slice p3 m c3] 28));have hK:=hK.kp u_;have hB:=hB.tr u_;clear u_;generalize (W.alloc (Jc #[.slice p3 m c3] 28))=Wn at *
  generalize W.heap.size=bU at *
  rename World=>W
  have hK:=hK.ad (kBx bU (Jc #[.slice p3 m c3] 28 (0,0))) (n_bU);clear n_bU;subst hs;have cx0:=En.Qaa (hK.o _ Mm0) 0 rfl;go_wp2_with fail;have hq:=AnsA.sayE (Root_O XF.o.t XF.o.n W (hK.o _ Mm8) (hK.o _ Mm1)) XF.o.e1;refine hq.run.mono ?_;rintro e V ⟨⟨vr,rfl,ev⟩,g⟩;have hK:=(hK.kp g).ad (kEl vr root) (ev);have hB:=hB.tr g;clear hq g
  rename World=>W
  clear ev cx0;have cx0:=En.Qaa (hK.o _ Mm1) 0 rfl;go_wp2_with fail;have hq:=AnsA.sayE (Qin XF.o.t XF.o.n XF.o.groot.n XF.o.groot.n XF.o.groot.f XF.o.groot.f W (hK.o _ Mm9) (hK.o _ Mm2) (hK.o _ Mm0) (hK.o _ Mm0)) XF.o.e2;refine hq.run.mono ?_;rintro e V ⟨⟨v1,rfl,ev⟩,g⟩;have hK:=(hK.kp g).ad (kEl v1 want) (ev);have hB:=hB.tr g;clear hq g
  rename World=>W
  clear ev;clear cx0;have cx0:=En.Qaa (hK.o _ Mm2) 0 rfl;go_wp2_with fail;have hq:=AnsA.sayE (QoR XF.o.t XF.o.n NF.o.gd.n NF.o.gd.f W (hK.o _ Mm10) (hK.o _ Mm3) (hK.o _ Mm7)) XF.o.e3;refine hq.run.mono ?_;rintro e V ⟨⟨v2,rfl,ev⟩,g⟩;have hK:=(hK.kp g).ad (kEl v2 want) (ev);have hB:=hB.tr g;clear hq g
  rename World=>W
  clear ev;clear cx0;have cx0:=En.Qaa (hK.o _ Mm3) 0 rfl;go_wp2_with fail;have hq:=AnsA.sayI (Compare_O XF.o.t XF.o.n XF.o.gwant.n XF.o.gwant.n XF.o.gwant.f XF.o.gwant.f W (hK.o _ Mm11) (hK.o _ Mm4) (hK.o _ Mm1) (hK.o _ Mm0)) XF.o.c4;refine hq.run.mono ?_;rintro e V ⟨rfl,g⟩;have hK:=hK.kp g;have hB:=hB.tr g;clear hq g
  rename World=>W
  clear cx0;have cx0:=En.Qaa (hK.o _ Mm3) 0 rfl;go_wp2_with fail;have hq:=AnsA.sayI (QeV XF.o.t XF.o.n XF.o.groot.n XF.o.groot.f W (hK.o _ Mm11) (hK.o _ Mm4) (hK.o _ Mm2)) XF.o.s5;refine hq.run.mono ?_;rintro e V ⟨rfl,g⟩;have hK:=hK.kp g;have hB:=hB.tr g;clear hq g
  rename World=>W
  clear cx0;have cx0:=En.Qaa (hK.o _ Mm3) 0 rfl;go_wp2_with fail;have hq:=AnsA.sayE (QoR XF.o.t XF.o.n XF.o.ga.n XF.o.ga.f W (hK.o _ Mm11) (hK.o _ Mm4) (hK.o _ Mm6)) XF.o.e6;refine hq.run.mono ?_;rintro e V ⟨⟨v3,rfl,ev⟩,g⟩;have hK:=(hK.kp g).ad (kEl v3 x) (ev);have hB:=hB.tr g;clear hq g
  rename World=>W
  clear ev;clear cx0;have cx0:=En.Qaa (hK.o _ Mm4) 0 rfl;go_wp2_with fail;have hq:=AnsA.sayE (QoR XF.o.t XF.o.n XF.o.gb.n XF.o.gb.f W (hK.o _ Mm12) (hK.o _ Mm5) (hK.o _ Mm8)) XF.o.e7;refine hq.run.mono ?_;rintro e V ⟨⟨v4,rfl,ev⟩,g⟩;have hK:=(hK.kp g).ad (kEl v4 y) (ev);have hB:=hB.tr g;clear hq g
  rename World=>W
  clear ev;clear cx0;have cx0:=En.Qaa (hK.o _ Mm7) 0 rfl;go_wp2_with fail;have hq:=AnsA.sayE (Qin NF.o.t NF.o.n XF.o.ga.n XF.o.gb.n XF.o.ga.f XF.o.gb.f W (hK.o _ Mm13) (hK.o _ Mm11) (hK.o _ Mm8) (hK.o _ Mm9)) XF.o.e8;refine hq.run.mono ?_;rintro e V ⟨⟨v5,rfl,ev⟩,g⟩;have hK:=(hK.kp g).ad (kEl v5 ab) (ev);have hB:=hB.tr g;clear hq g
  rename World=>W
  clear ev;clear cx0;have cx0:=En.Qaa (hK.o _ Mm6) 0 rfl;go_wp2_with fail;have hq:=AnsA.sayE (Qin XF.o.t XF.o.n XF.o.gx.n XF.o.gy.n XF.o.gx.f XF.o.gy.f W (hK.o _ Mm14) (hK.o _ Mm7) (hK.o _ Mm2) (hK.o _ Mm1)) XF.o.e9;refine hq.run.mono ?_;rintro e V ⟨⟨v6,rfl,ev⟩,g⟩;have hK:=(hK.kp g).ad (kEl v6 eab) (ev);have hB:=hB.tr g;clear hq g
  rename World=>W
  clear ev;clear cx0;have cx0:=En.Qaa (hK.o _ Mm7) 0 rfl;go_wp2_with fail;have hq:=AnsA.sayE (QoR XF.o.t XF.o.n XF.o.gab.n XF.o.gab.f W (hK.o _ Mm15) (hK.o _ Mm8) (hK.o _ Mm1)) XF.o.e10;refine hq.run.mono ?_;rintro e V ⟨⟨v7,rfl,ev⟩,g⟩;have hK:=(hK.kp g).ad (kEl v7 eab) (ev);have hB:=hB.tr g;clear hq g
  rename World=>W
  clear ev;clear cx0;have cx0:=En.Qaa (hK.o _ Mm10) 0 rfl;go_wp2_with fail;have hq:=AnsA.sayI (QeV NF.o.t NF.o.n XF.o.ga.n XF.o.ga.f W (hK.o _ Mm16) (hK.o _ Mm14) (hK.o _ Mm11)) XF.o.s11;refine hq.run.mono ?_;rintro e V ⟨rfl,g⟩;have hK:=hK.kp g;have hB:=hB.tr g;clear hq g
  rename World=>W
  clear cx0;have cx0:=En.Qaa (hK.o _ Mm8) 0 rfl;go_wp2_with fail;have hq:=AnsA.sayI (QeV XF.o.t XF.o.n XF.o.gx.n XF.o.gx.f W (hK.o _ Mm16) (hK.o _ Mm9) (hK.o _ Mm4)) XF.o.s12;refine hq.run.mono ?_;rintro e V ⟨rfl,g⟩;have hK:=hK.kp g;have hB:=hB.tr g;clear hq g
  rename World=>W
  clear cx0;go_wp2_with fail;refine (Qfa (hK.o _ Mm1) (hK.o _ Mm0) XF.o.geab.n).run.mono ?_;rintro e V ⟨rfl,g⟩;have hK:=hK.kp g;have hB:=hB.tr g;clear g
  rename World=>W
  go_wp2_with fail
  all_goals (go_ret;exact ⟨by first | rfl | simp,hB.o⟩)
 ·have hq:=AnsA.sayN (Qlk NF.o.t NF.o.n NF.o.gd.n NF.o.gd.f W (hK.o _ Mm6) (hK.o _ Mm4) (hK.o _ Mm3)) (NF.o.no hs);refine hq.run.mono ?_;rintro e V ⟨rfl,g⟩;have hK:=hK.kp g;have hB:=hB.tr g;clear hq g
  rename World=>W
  clear cx0;go_upto_region 6 with fail
  have n_bU:(W.alloc (Jc #[.slice none 0 0] 28)).heap[W.heap.size]? = some (Jc #[.slice none 0 0] 28 (0,0)):=by first | exact World.alloc_heap_new W (Jc #[.slice none 0 0] 28) | (have:=World.alloc_heap_new W (Jc #[.slice none 0 0] 28);simpa using this)
  have u_:Below W.heap.size W (W.alloc (Jc #[.slice none 0 0] 28)):=((Below.refl W.heap.size W).alloc (by first | exact Nat.le_refl _ | (simp;done) | (simp;omega)) (Jc #[.slice none 0 0] 28));have hK:=hK.kp u_;have hB:=hB.tr u_;clear u_;generalize (W.alloc (Jc #[.slice none 0 0] 28))=Wn at *
  generalize W.heap.size=bU at *
  rename World=>W
  have hK:=hK.ad (kBx bU (Jc #[.slice none 0 0] 28 (0,0))) (n_bU);clear n_bU;have cx0:=En.Qaa (hK.o _ Mm0) 0 rfl;go_wp2_with fail
  all_goals first | (go_ret;exact ⟨rfl,hB.o⟩) | (exact absurd (by assumption) hs)
end Tw
end
end Go.Proofs.YtihlgifojjeoaaaGreatDoor
