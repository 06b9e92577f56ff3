import Derived.Test.YtihlgifojjeoaaaGreatDoorZ8F7
import Derived.Maps.AppendAt
set_option maxRecDepth 1000000
set_option maxHeartbeats 40000000
open Go.Value renaming string→J
open Go.Obj renaming cells→Jc
namespace Go.Proofs.YtihlgifojjeoaaaGreatDoor
section
namespace Tw
open Go.RowKit Go.Extern.Stop Go.Stop Go.Extern
open En Go.Proofs.YtihlgifojjeoaaaGreatDoor.Nm Go.Proofs.YtihlgifojjeoaaaGreatDoor.Rt
theorem QuL {l m:List Rat} {vx vy:Value} (hl:l.length=m.length) (hn:l.length≤1000) (fl:FitL l) (fm:FitL m) (w:World) (hx:El w vx l) (hy:El w vy m) :
  Calls Tryz.prog 94 #[.func (.func 103) #[] #[],vx,vy] w (AnsO (Qaj divQ l m) w):=by
 obtain ⟨b,o,cap,rfl,h1,h2⟩:=hx.ex;obtain ⟨b',o',cap',rfl,h1',h2'⟩:=hy.ex;rw [←hl] at h1' h2' ⊢;exact (QcY 103 (enters_of Tryz.func103 (by kernel_rfl) rfl) l.length b o cap b' o' cap' hn h1 h1' (pqs l) (pqs m) (fun j=>(sn (divQ (l.getD j 0) (m.getD j 0)),sd (divQ (l.getD j 0) (m.getD j 0)))) (fun j=>cd (divQ (l.getD j 0) (m.getD j 0))) (fun j hj W=>Rt.divO (.some (fl.getD j hj)) (.some (fm.getD j (hl▸hj))) W) w h2 h2').mono (fun e w' h=>ansO hl h)
theorem Qqy {rs:List (List Rat)} {d x z:List Rat} (h:nrmO rs d x=some z):FitL z:=by
 rw [nrmO] at h;obtain ⟨_,_,h⟩:=Option.bind_eq_some_iff.1 h;obtain ⟨_,_,h⟩:=Option.bind_eq_some_iff.1 h;obtain ⟨_,_,h⟩:=Option.bind_eq_some_iff.1 h;exact .pair (fun _ _ _ h=>FitQ.subQ h) h
theorem Qli {rs:List (List Rat)} {d x z:List Rat} (hr:Qdz (d :: rs)) (hx:x.length=2^(rs.length+1)) (h:nrmO rs d x=some z):z.length=2^rs.length:=by
 obtain ⟨a,b,rfl,ha,hb⟩:=QcB hx;rw [QfO (by omega)] at h;obtain ⟨aa,h1,h⟩:=Option.bind_eq_some_iff.1 h;obtain ⟨bbd,h2,h⟩:=Option.bind_eq_some_iff.1 h;obtain ⟨bb,h3,h2⟩:=Option.bind_eq_some_iff.1 h2;have k1:=QaN hr.2 ha ha h1;have k2:=QaN hr.2 (QaN hr.2 hb hb h3) hr.1 h2;rw [Qbv (by rw [k1,k2]) h,k1]
theorem Qlj {rs:List (List Rat)} {d a b:List Rat} (h:a.length=b.length):invO (d :: rs) (a++b)=(nrmO rs d (a++b)).bind fun n=>(Qaw rs n).bind fun s=>if s=0 then (Qaj addQ a a).bind fun aa=>(invO rs aa).map fun u=>u++Tw.zeros d.length
  else (invO rs n).bind fun m=>(mulO rs a m).bind fun p=>(Qaj subQ (Tw.zeros b.length) b).bind fun nb=>(mulO rs nb m).map fun q=>p++q:=by
 rw [invO,(QaB h).1,(QaB h).2]
theorem Qkg:∀ {rs:List (List Rat)} {x z:List Rat},Qdz rs→x.length=2^rs.length→invO rs x=some z→FitL z∧z.length=2^rs.length
 | [],x,z,_,hx,h=>by
  have h:Qaj divQ [1] x=some z:=h;exact ⟨.pair (fun _ _ _ h=>FitQ.divQ h) h,Qbv (by rw [hx];rfl) h⟩
 | d :: rs,x,z,hr,hx,h=>by
  obtain ⟨a,b,rfl,ha,hb⟩:=QcB hx;rw [Qlj (by omega)] at h;obtain ⟨n,h1,h⟩:=Option.bind_eq_some_iff.1 h;obtain ⟨s,h2,h⟩:=Option.bind_eq_some_iff.1 h;have ln:=Qli hr hx h1;split at h
  ·obtain ⟨aa,h3,h⟩:=Option.bind_eq_some_iff.1 h;obtain ⟨u,h4,rfl⟩:=Option.map_eq_some_iff.1 h;have k:=Qkg hr.2 ((Qbv rfl h3).trans ha) h4;exact ⟨.both k.1 (.zeros _),by rw [List.length_append,QaR,k.2,hr.1,List.length_cons,Nat.pow_succ];omega⟩
  ·obtain ⟨m,h3,h⟩:=Option.bind_eq_some_iff.1 h;obtain ⟨p,h4,h⟩:=Option.bind_eq_some_iff.1 h;obtain ⟨nb,h5,h⟩:=Option.bind_eq_some_iff.1 h;obtain ⟨q,h6,rfl⟩:=Option.map_eq_some_iff.1 h;have k:=Qkg hr.2 ln h3;have l1:=QaN hr.2 ha k.2 h4;have l2:=QaN hr.2 ((Qbv (QaR _) h5).trans ((QaR _).trans hb)) k.2 h6;exact ⟨.both (QbL h4) (QbL h6),by rw [List.length_append,l1,l2,List.length_cons,Nat.pow_succ];omega⟩
theorem Qqz {rs:List (List Rat)} {d u:List Rat} (hr:Qdz (d :: rs)) (hu:u.length=2^rs.length):embO (d :: rs) u=some (u++Tw.zeros d.length):=by
 rw [embO,if_neg (by rw [hu,Nat.pow_succ];have:=Nat.pow_pos (n:=rs.length) (show 0<2 by decide);omega)]
 have:embO rs u=some u:=by
  match rs,hu with
  | [],hu=>exact if_pos hu
  | _ :: _,hu=>exact if_pos hu
 rw [this];rfl
def InvC (rs:List (List Rat)):Prop:=∀ {x:List Rat} {f vx:Value},x.length=2^rs.length→FitL x→∀ w,Gl w→Fd w f rs→El w vx x→Calls Tryz.prog 50 #[f,vx] w (AnsO (invO rs x) w)
theorem fit1:FitQ 1:=⟨Qas (by decide),Qas (by decide)⟩
theorem pq1:pq 1=(⟨#[49]⟩,⟨#[49]⟩):=by rw [pq];exact Prod.ext txt1 txt1
theorem Qth:InvC []:=by
 intro x f vx hx fx w hg hf ex;obtain rfl:f = .pointer none:=hf;have hs:invO [] x=Qaj divQ [1] x:=rfl;rw [hs];have u:=(Below.refl w.heap.size w).alloc Lr (Jc #[J ⟨#[49]⟩,J ⟨#[49]⟩] 42);have n_x:(w.alloc (Jc #[J ⟨#[49]⟩,J ⟨#[49]⟩] 42)).heap[w.heap.size]? = _:=World.alloc_heap_new w _
 have e1:El (w.alloc (Jc #[J ⟨#[49]⟩,J ⟨#[49]⟩] 42)) (.slice (some ⟨w.heap.size,0,none⟩) 1 1) [1]:=⟨_,0,1,rfl,Nat.le_refl _,⟨fun i hi=>by
  obtain rfl:i=0:=by simpa using hi
  have:pqs [1] 0=(⟨#[49]⟩,⟨#[49]⟩):=pq1;rw [this];exact ⟨En.Qaa n_x 0 rfl,En.Qaa n_x 1 rfl⟩⟩⟩
 have cD:=QuL (l := [1]) (m:=x) (by rw [hx];rfl) (by decide) (fun q hq=>by rw [List.mem_singleton.1 hq];exact fit1) fx _ e1 (ex.keep u);have o0:=hg.o0;have o1:=hg.o1;clear hs e1 ex fx hx hg n_x;go_enter Tryz.func50, Tryz.ntmps50;go_wp2_with fail;refine cD.mono ?_;intro e w1 h;rcases hD:Qaj divQ [1] x with _ | z
 ·obtain rfl:=h.bad hD;exact ⟨rfl,u.trans (h.below.mono u.size),fun z hz=>(by cases hz),fun _=>rfl⟩
 ·obtain ⟨v,rfl,hv⟩:=h.good _ hD;go_wp2_with fail;go_ret;exact ⟨u.trans (h.below.mono u.size),fun z' hz=>(by rw [hD] at hz;cases hz;exact ⟨_,rfl,hv⟩),fun h=>(by rw [hD] at h;cases h)⟩
theorem QqA {rs:List (List Rat)} (hk:rs.length≤3) (d:List Rat) (ih:InvC rs):InvC (d :: rs):=by
 intro x f vx hx fx w hg hf ex;have hp:=QbG (show rs.length≤4 by omega);have hrad:=hf.rad;have cN:=fun (W:World) (u:Below w.heap.size w W)=>Qrx hk hx fx W (hg.keep u) (Fd.keep u hf) (ex.keep u);have NP:Sh (∀ n,nrmO rs d x=some n→FitL n∧n.length=2^rs.length):=⟨fun n h=>⟨Qqy h,Qli hrad hx h⟩⟩;obtain ⟨a,b,rfl,ha,hb⟩:=QcB hx;have ch1:=Qeg (a:=a) (b:=b) (by omega) (by omega) w ex;have tm:QgN rs:=Qdd (by omega);have sg:QoI rs:=QeU (by omega);have em:EmbC (d :: rs):=Qij (by simp;omega);have hf0:=hf;obtain ⟨fb,lv,rv,rfl,n_f,hl,er,hd,fd⟩:=hf;have CS:Sh (∀ W n vn,Below w.heap.size w W→El W vn n→FitL n∧n.length=2^rs.length→Calls Tryz.prog 47 #[lv,vn] W (AnsS (Qaw rs n) W)):=⟨fun W n vn u h k=>sg k.2 k.1 W (hg.keep u) (Fd.keep u hl) h⟩;have CI:Sh (∀ W n vn,Below w.heap.size w W→El W vn n→FitL n∧n.length=2^rs.length→Calls Tryz.prog 50 #[lv,vn] W (AnsO (invO rs n) W)):=⟨fun W n vn u h k=>ih k.2 k.1 W (hg.keep u) (Fd.keep u hl) h⟩;have CT:Sh (∀ W x y vx vy,Below w.heap.size w W→El W vx x→El W vy y→FitL x∧x.length=2^rs.length→FitL y∧y.length=2^rs.length→Calls Tryz.prog 38 #[lv,vx,vy] W (AnsO (mulO rs x y) W)):=⟨fun W x y vx vy u h h' k k'=>tm k.2 k'.2 k.1 k'.1 W (hg.keep u) (Fd.keep u hl) h h'⟩
 have CE:Sh (∀ W u vu,Below w.heap.size w W→El W vu u→FitL u∧u.length=2^rs.length→Calls Tryz.prog 52 #[.pointer (some ⟨fb,0,none⟩),vu] W (AnsO (some (u++Tw.zeros d.length)) W)):=⟨fun W v vu u h k=>by
  have:=em (x:=v) (by have:=k.2;omega) k.1 W (hg.keep u) (Fd.keep u hf0) h
  rwa [Qqz hrad k.2] at this⟩
 have CZ:Sh (∀ W,Below w.heap.size w W→Calls Tryz.prog 93 #[.int .i64 (b.length:Int)] W (AnsO (some (Tw.zeros b.length)) W)):=⟨fun W u=>Qke b.length (by omega) W (hg.keep u)⟩;have PI:Sh (∀ n z,n.length=2^rs.length→invO rs n=some z→FitL z∧z.length=2^rs.length):=⟨fun n z l h=>Qkg hrad.2 l h⟩;have PT:Sh (∀ x y z,x.length=2^rs.length→y.length=2^rs.length→mulO rs x y=some z→FitL z∧z.length=2^rs.length):=⟨fun x y z l l' h=>⟨QbL h,QaN hrad.2 l l' h⟩⟩;have HP:Sh (1≤2^rs.length∧2^rs.length≤16):=⟨hp⟩;have PAB:Sh ((FitL a∧a.length=2^rs.length)∧(FitL b∧b.length=2^rs.length)):=⟨⟨fx.app.1,ha⟩,⟨fx.app.2,hb⟩⟩;obtain ⟨O,hO⟩:∃ O,O=invO (d :: rs) (a++b):=⟨_,rfl⟩;rw [←hO];rw [Qlj (by omega)] at hO;have HE:Sh _:=⟨hO⟩;have CN:Sh _:=⟨cN⟩;clear hO cN ex hg hl er hx hrad ha hb hd fx fd hk hp ih hf0 tm sg em;generalize 2^rs.length=k at *
 go_enter Tryz.func50, Tryz.ntmps50;go_wp2_with fail;refine ch1.mono ?_;rintro e w4 ⟨⟨va,vb,rfl,ea,eb⟩,u4⟩;clear ch1;have f0:=Qae (En.Qaa n_f 0 (v:=lv) rfl) u4;go_wp2_with fail;have TN:=CN.o w4.drew (QaS u4);have EA:Sh _:=⟨ea⟩;have EB:Sh _:=⟨eb⟩;clear CN ea eb
 go_region_held (fun X=>X.cell? ⟨fb,0,none⟩=some lv) (go_keep) (first | (go_at_call 102; (with_reducible refine TN.mono ?_);intro e v3 h3;have u3:Below w4.heap.size w4 v3:=Qah h3.below;rcases hN:nrmO rs d (a++b) with _ | n;(obtain rfl:=h3.bad hN;dsimp +zetaDelta only [Exit.then,Exit.inBlock];exact ⟨rfl,u4.trans (u3.mono u4.size),fun z hz=>(by rw [HE.o,hN] at hz;cases hz),fun _=>rfl⟩);obtain ⟨vn,rfl,en⟩:=h3.good n hN;clear h3;replace f0:=Qae f0 u3))
 have k3:=u4.trans (u3.mono u4.size);have EA3:Sh _:=⟨EA.o.keep u3⟩;have EB3:Sh _:=⟨EB.o.keep u3⟩;have EN:Sh _:=⟨en⟩;have np:=NP.o n hN;have NN:Sh _:=⟨np⟩;have cS:=CS.o v3 n vn k3 en np;clear TN EA EB NP u3 u4 en np;go_wp2_with fail;refine cS.mono ?_;intro e v5 h5;have k5:=k3.trans (h5.below.mono k3.size);rcases hS:Qaw rs n with _ | s
 ·obtain rfl:=h5.bad hS;exact ⟨rfl,k5,fun z hz=>(by rw [HE.o,hN,Option.bind_some,hS] at hz;cases hz),fun _=>rfl⟩
 obtain rfl:=h5.good s hS;have EA5:Sh _:=⟨EA3.o.keep h5.below⟩;have EB5:Sh _:=⟨EB3.o.keep h5.below⟩;have EN5:Sh _:=⟨EN.o.keep h5.below⟩;clear h5 cS EA3 EB3 EN k3;by_cases h0:s=0
 ·have hb:(s == 0)=true:=by simp [h0]
  have H0:Sh _:=⟨h0⟩;clear h0;have cP:=Qjj (l:=a) (m:=a) rfl (by have:=PAB.o.1.2;have:=HP.o;omega) PAB.o.1.1 PAB.o.1.1 v5 EA5.o EA5.o;go_wp2_with fail;refine cP.mono ?_;intro e v6 h6;have k6:=k5.trans (h6.below.mono k5.size);rcases hA:Qaj addQ a a with _ | aa
  ·obtain rfl:=h6.bad hA;exact ⟨rfl,k6,fun z hz=>(by rw [HE.o,hN,Option.bind_some,hS,Option.bind_some,if_pos H0.o,hA] at hz;cases hz),fun _=>rfl⟩
  obtain ⟨v6a,rfl,e6⟩:=h6.good aa hA;have q6:FitL aa∧aa.length=k:=⟨.pair (fun _ _ _ h=>FitQ.addQ h) hA,(Qbv rfl hA).trans PAB.o.1.2⟩;have Q6:Sh _:=⟨q6⟩;have cI:=CI.o v6 aa v6a k6 e6 q6;clear h6 cP k5 q6 e6;go_wp2_with fail;refine cI.mono ?_;intro e v7 h7;have k7:=k6.trans (h7.below.mono k6.size);rcases hI:invO rs aa with _ | z
  ·obtain rfl:=h7.bad hI;exact ⟨rfl,k7,fun z hz=>(by rw [HE.o,hN,Option.bind_some,hS,Option.bind_some,if_pos H0.o,hA,Option.bind_some,hI] at hz;cases hz),fun _=>rfl⟩
  obtain ⟨v7a,rfl,e7⟩:=h7.good z hI;have cE:=CE.o v7 z v7a k7 e7 (PI.o aa z Q6.o.2 hI);clear h7 cI k6 e7;go_wp2_with fail;refine cE.mono ?_;intro e v8 h8;obtain ⟨v8a,rfl,e8⟩:=h8.good _ rfl;go_wp2_with fail;go_ret;refine ⟨k7.trans (h8.below.mono k7.size),fun z' hz => ?_,fun hn => ?_⟩
  ·rw [HE.o,hN,Option.bind_some,hS,Option.bind_some,if_pos H0.o,hA,Option.bind_some,hI] at hz;cases hz;exact ⟨_,rfl,e8⟩
  ·rw [HE.o,hN,Option.bind_some,hS,Option.bind_some,if_pos H0.o,hA,Option.bind_some,hI] at hn;cases hn
 ·have hb:(s == 0)=false:=by rw [beq_eq_false_iff_ne];exact h0
  have H0:Sh _:=⟨h0⟩;clear h0;have cI:=CI.o v5 n vn k5 EN5.o NN.o;go_wp2_with fail;refine cI.mono ?_;intro e v6 h6;have k6:=k5.trans (h6.below.mono k5.size);rcases hI:invO rs n with _ | m
  ·obtain rfl:=h6.bad hI;exact ⟨rfl,k6,fun z hz=>(by rw [HE.o,hN,Option.bind_some,hS,Option.bind_some,if_neg H0.o,hI] at hz;cases hz),fun _=>rfl⟩
  obtain ⟨vm,rfl,em⟩:=h6.good m hI;have QM:Sh _:=⟨PI.o n m NN.o.2 hI⟩;have EM6:Sh _:=⟨em⟩;have EB6:Sh _:=⟨EB5.o.keep h6.below⟩;have cT:=CT.o v6 a m va vm k6 (EA5.o.keep h6.below) em PAB.o.1 QM.o;clear h6 cI k5 em EA5 EB5 EN5 hb;go_wp2_with fail;refine cT.mono ?_;intro e v7 h7;have k7:=k6.trans (h7.below.mono k6.size);rcases hP:mulO rs a m with _ | p
  ·obtain rfl:=h7.bad hP;exact ⟨rfl,k7,fun z hz=>(by rw [HE.o,hN,Option.bind_some,hS,Option.bind_some,if_neg H0.o,hI,Option.bind_some,hP] at hz;cases hz),fun _=>rfl⟩
  obtain ⟨vp,rfl,ep⟩:=h7.good p hP;have EP7:Sh _:=⟨ep⟩;have EM7:Sh _:=⟨EM6.o.keep h7.below⟩;have EB7:Sh _:=⟨EB6.o.keep h7.below⟩;obtain ⟨bb,ob,cb,rfl,_,_⟩:=EB7.o.ex;have cZ:=CZ.o v7 k7;clear h7 cT k6 ep EM6 EB6;go_wp2_with fail;refine cZ.mono ?_;intro e v8 h8;have k8:=k7.trans (h8.below.mono k7.size);obtain ⟨vz,rfl,ez⟩:=h8.good _ rfl;have EP8:Sh _:=⟨EP7.o.keep h8.below⟩;have EM8:Sh _:=⟨EM7.o.keep h8.below⟩;have cM:=Qih (l:=Tw.zeros b.length) (m:=b) (QaR _) (by rw [QaR];have:=PAB.o.2.2;have:=HP.o;omega) (.zeros _) PAB.o.2.1 v8 ez (EB7.o.keep h8.below);clear h8 cZ k7 ez EP7 EM7 EB7;go_wp2_with fail;refine cM.mono ?_;intro e v9 h9;have k9:=k8.trans (h9.below.mono k8.size);rcases hB:Qaj subQ (Tw.zeros b.length) b with _ | nb
  ·obtain rfl:=h9.bad hB;exact ⟨rfl,k9,fun z hz=>(by rw [HE.o,hN,Option.bind_some,hS,Option.bind_some,if_neg H0.o,hI,Option.bind_some,hP,Option.bind_some,hB] at hz;cases hz),fun _=>rfl⟩
  obtain ⟨v9a,rfl,e9⟩:=h9.good nb hB;have q9:FitL nb∧nb.length=k:=⟨.pair (fun _ _ _ h=>FitQ.subQ h) hB,(Qbv (QaR _) hB).trans ((QaR _).trans PAB.o.2.2)⟩;have Q9:Sh _:=⟨q9⟩;have EP9:Sh _:=⟨EP8.o.keep h9.below⟩;have cT:=CT.o v9 nb m v9a vm k9 e9 (EM8.o.keep h9.below) q9 QM.o;clear h9 cM k8 e9 EP8 EM8 q9;go_wp2_with fail;refine cT.mono ?_;intro e v10 h10;have k10:=k9.trans (h10.below.mono k9.size);rcases hQ:mulO rs nb m with _ | q
  ·obtain rfl:=h10.bad hQ;exact ⟨rfl,k10,fun z hz=>(by rw [HE.o,hN,Option.bind_some,hS,Option.bind_some,if_neg H0.o,hI,Option.bind_some,hP,Option.bind_some,hB,Option.bind_some,hQ] at hz;cases hz),fun _=>rfl⟩
  obtain ⟨v10a,rfl,e10⟩:=h10.good q hQ;have EP10:=EP9.o.keep h10.below;have lp:=(PT.o a m p PAB.o.1.2 QM.o.2 hP).2;have lq:=(PT.o nb m q Q9.o.2 QM.o.2 hQ).2;have hp:=HP.o;obtain ⟨bp,op,cp,rfl,_,_⟩:=EP10.ex;obtain ⟨bq,oq,cq,rfl,_,_⟩:=e10.ex;have ua:=(Below.refl v10.heap.size v10).alloc Lr (Jc #[.slice (some ⟨bp,op,none⟩) p.length cp,.slice (some ⟨bq,oq,none⟩) q.length cq] 67);have c5:=Qii (a:=p) (b:=q) (by omega) (by omega) v10.heap.size 2 _ (World.alloc_heap_new v10 _) (EP10.keep ua) (e10.keep ua);have KU:Sh _:=⟨k10.trans (ua.mono k10.size)⟩;clear h10 cT k9 k10 EP9 EP10 e10 ua lp lq hp;go_wp2_with fail;refine c5.mono ?_;intro e v11 h11;obtain ⟨v11a,rfl,e11⟩:=h11.good _ rfl;go_wp2_with fail;go_ret;refine ⟨KU.o.trans (h11.below.mono KU.o.size),fun z' hz => ?_,fun hn => ?_⟩
  ·rw [HE.o,hN,Option.bind_some,hS,Option.bind_some,if_neg H0.o,hI,Option.bind_some,hP,Option.bind_some,hB,Option.bind_some,hQ] at hz;cases hz;exact ⟨_,rfl,e11⟩
  ·rw [HE.o,hN,Option.bind_some,hS,Option.bind_some,if_neg H0.o,hI,Option.bind_some,hP,Option.bind_some,hB,Option.bind_some,hQ] at hn;cases hn
theorem QoM:∀ {rs:List (List Rat)},rs.length≤4→InvC rs
 | [],_=>Qth
 | d :: rs,h=>QqA (by simpa using h) d (QoM (by simp at h;omega))
def Adj (rs:List (List Rat)) (x:List Rat):Prop:=rs.length<4∧x.length=2^rs.length∧Qaw rs x=some 1
structure AnsF (ok:Prop) (rs:List (List Rat)) (w:World) (e:Ending) (w':World):Prop where
 below:Below w.heap.size w w'
 good:ok→∃ f,e = .returned f∧Fd w' f rs
 bad:¬ ok→e = .panicked twP
theorem Fd.ptr {W:World}:∀ {rs:List (List Rat)} {v:Value},Fd W v rs→∃ p,v = .pointer p
 | [],_,h=>⟨_,h⟩
 | _ :: _,_,⟨_,_,_,e,_⟩=>⟨_,e⟩
theorem Qhw {rs:List (List Rat)} (hk:rs.length≤4) {x:List Rat} {f vx:Value} (hn:x.length≤1000) (fx:FitL x) (w:World) (hg:Gl w) (hf:Fd w f rs) (ex:El w vx x) :
  Calls Tryz.prog 57 #[f,vx] w (AnsF (Adj rs x) (x :: rs) w):=by
 have hp:=QbG hk;have cS:=QoK w hk hf;have cC:=Qbw hk hn fx w hf ex;have cG:=fun (W:World) (u:Below w.heap.size w W) (h:x.length=2^rs.length)=>QeU hk h fx W (hg.keep u) (Fd.keep u hf) (ex.keep u)
 have hF:∀ W,Below w.heap.size w W→x.length=2^rs.length→Fd (W.alloc (Jc #[f,vx] 117)) (.pointer (some ⟨W.heap.size,0,none⟩)) (x :: rs):=fun W u h =>
  have ua:=(Below.refl W.heap.size W).alloc Lr (Jc #[f,vx] 117)
  ⟨W.heap.size,f,vx,rfl,World.alloc_heap_new W _,Fd.keep ua (Fd.keep u hf),(ex.keep u).keep ua,h,fx⟩
 have HF:Sh _:=⟨hF⟩;have CG:Sh _:=⟨cG⟩;obtain ⟨A,hA⟩:∃ A,A=Adj rs x:=⟨_,rfl⟩;have HA:Sh (A=(rs.length<4∧x.length=2^rs.length∧Qaw rs x=some 1)):=⟨hA⟩;rw [←hA]
 have hm:(2^rs.length=16↔¬ rs.length<4):=by
  rcases (by omega:rs.length=0∨rs.length=1∨rs.length=2∨rs.length=3∨rs.length=4) with h | h | h | h | h <;> rw [h] <;> decide
 have HM:Sh _:=⟨hm⟩;obtain ⟨bx,ox,cx,rfl,_,_⟩:=ex.ex;obtain ⟨pf,rfl⟩:=hf.ptr;clear hA hF cG hg hf ex fx hn hk hm;generalize 2^rs.length=m at *
 by_cases h16:m=16
 ·have hb:((m:Int) == (16:Int))=true:=by simp [h16]
  have H16:Sh _:=⟨h16⟩;clear h16 cC;go_enter Tryz.func57, Tryz.ntmps57;go_wp2_with fail;refine cS.mono ?_;rintro e w1 ⟨rfl,hw⟩;rw [hw];clear hw cS;have hr:=QaV w;go_wp2_with fail;refine hr.mono ?_;rintro e w1 ⟨rfl,hw⟩;rw [hw];exact ⟨rfl,Below.refl _ _,fun h=>absurd (HA.o▸h).1 (HM.o.1 H16.o),fun _=>rfl⟩
 ·have hb:((m:Int) == (16:Int))=false:=by rw [beq_eq_false_iff_ne];omega
  have H16:Sh _:=⟨h16⟩;clear h16;go_enter Tryz.func57, Tryz.ntmps57;go_wp2_with fail;refine cS.mono ?_;rintro e w1 ⟨rfl,hw⟩;rw [hw];clear hw cS;have hr:=Qbb w;go_wp2_with fail;refine hr.mono ?_;rintro e w1 ⟨rfl,hw⟩;rw [hw];clear hw hr hb;go_wp2_with fail;refine cC.mono ?_;intro e w1 h1;have u1:=h1.below;by_cases hl:x.length=m
  ·obtain rfl:=h1.good hl;have cg:=CG.o w1 u1 hl;have HL:Sh _:=⟨hl⟩;clear hl h1 cC;go_wp2_with fail;refine cg.mono ?_;intro e w2 h2;have u2:=u1.trans (h2.below.mono u1.size);rcases hs:Qaw rs x with _ | s
   ·obtain rfl:=h2.bad hs;exact ⟨rfl,u2,fun h=>absurd ((HA.o▸h).2.2.symm.trans hs) (by simp),fun _=>rfl⟩
   obtain rfl:=h2.good s hs;clear h2 cg u1;have HS:Sh _:=⟨hs⟩;by_cases h1:s=1
   ·have hb:(s != 1)=false:=by simp [h1]
    have H1:Sh _:=⟨h1⟩;have hr:=Qbb w2;clear h1 hs;go_wp2_with fail;refine hr.mono ?_;rintro e w3 ⟨rfl,hw⟩;rw [hw];clear hw hr hb;go_wp2_with fail;go_ret;have ua:=(Below.refl w2.heap.size w2).alloc Lr (Jc #[.pointer pf,.slice (some ⟨bx,ox,none⟩) x.length cx] 117);exact ⟨u2.trans (ua.mono u2.size),fun _=>⟨_,rfl,HF.o w2 u2 HL.o⟩,fun h=>(h (HA.o▸⟨Decidable.byContradiction fun k=>H16.o (HM.o.2 k),HL.o,HS.o.trans (congrArg some H1.o)⟩)).elim⟩
   ·have hb:(s != 1)=true:=by simp [h1]
    have H1:Sh _:=⟨h1⟩;have hr:=QaV w2;clear h1 hs;go_wp2_with fail;refine hr.mono ?_;rintro e w3 ⟨rfl,hw⟩;rw [hw];exact ⟨rfl,u2,fun h=>absurd (Option.some.inj (HS.o.symm.trans (HA.o▸h).2.2)) H1.o,fun _=>rfl⟩
  ·obtain rfl:=h1.bad hl;exact ⟨rfl,u1,fun h=>absurd (HA.o▸h).2.1 hl,fun _=>rfl⟩
open Classical in
noncomputable def Qam:List (List Rat)→List (List Rat)→Option (List (List Rat))
 | acc, []=>some acc
 | acc,x :: xs=>if Adj acc x then Qam (x :: acc) xs else none
theorem QcG:∀ (acc xs ys:List (List Rat)),Qam acc (xs++ys)=(Qam acc xs).bind fun rs=>Qam rs ys
 | acc, [],ys=>rfl
 | acc,x :: xs,ys=>by
  rw [List.cons_append,Qam,Qam];split
  ·exact QcG _ xs ys
  ·rfl
theorem Qeh:∀ {acc xs rs:List (List Rat)},Qam acc xs=some rs→rs.length=acc.length+xs.length∧(xs ≠ []→rs.length≤4)
 | acc, [],rs,h=>by cases h;exact ⟨rfl,fun h=>absurd rfl h⟩
 | acc,x :: xs,rs,h=>by
  rw [Qam] at h;split at h
  ·rename_i ha;obtain ⟨h1,h2⟩:=Qeh h;refine ⟨by rw [h1];simp;omega,fun _ => ?_⟩;cases xs with
   | nil=>rw [h1];have:=ha.1;simp;omega
   | cons y ys=>exact h2 (by simp)
  ·cases h
structure TwAt (W:World) (v:Value) (L:List (List Rat)):Prop where
 ex:∃ p cap,v = .agg #[.slice p L.length cap]∧(L = []∨∃ bt ot,p=some ⟨bt,ot,none⟩∧∀ i x,L[i]? = some x→∃ vi,W.cell? ⟨bt,ot+i,none⟩=some vi∧El W vi x)
theorem TwAt.keep {W W':World} {v:Value} {L:List (List Rat)} (h:TwAt W v L) (hB:Below W.heap.size W W'):TwAt W' v L:=by
 obtain ⟨p,cap,e,h⟩:=h.ex;refine ⟨p,cap,e, ?_⟩;rcases h with h | ⟨bt,ot,e,h⟩
 ·exact .inl h
 ·exact .inr ⟨bt,ot,e,fun i x hx=>by
   obtain ⟨vi,h1,h2⟩:=h i x hx;exact ⟨vi,Qae h1 hB,h2.keep hB⟩⟩
structure AnsG (o:Option (List (List Rat))) (w:World) (e:Ending) (w':World):Prop where
 below:Below w.heap.size w w'
 good:∀ rs,o=some rs→∃ f,e = .returned f∧Fd w' f rs
 bad:o=none→e = .panicked twP
def FitT (L:List (List Rat)):Prop:=∀ x∈L,FitL x∧x.length≤1000
theorem Qkh (p:Option Addr) (cap:Nat) (w:World):Calls Tryz.prog 92 #[.agg #[.slice p 0 cap]] w (AnsG (Qam [] []) w):=by
 have u:=(Below.refl w.heap.size w).alloc Lr (Jc #[.slice p 0 cap] 28);have n_x:(w.alloc (Jc #[.slice p 0 cap] 28)).heap[w.heap.size]? = _:=World.alloc_heap_new w _;have x0:=En.Qaa n_x 0 (v:=.slice p 0 cap) rfl;have hs:Qam [] []=some []:=rfl;rw [hs];clear hs;go_enter Tryz.func92, Tryz.ntmps92;go_wp2_with fail;refine wp_loop_rounds 1 ?_;rw [rounds_succ];go_wp2_with fail;go_ret;exact ⟨u,fun rs h=>(by cases h;exact ⟨_,rfl,rfl⟩),fun h=>(by cases h)⟩
theorem Qdl {L:List (List Rat)} (hL:FitT L) (hn:L.length≤1000) {t:Value} (w:World) (hg:Gl w) (ht:TwAt w t L) :
  Calls Tryz.prog 92 #[t] w (AnsG (Qam [] L) w):=by
 obtain ⟨p,cap,rfl,h⟩:=ht.ex;rcases h with rfl | ⟨bt,ot,rfl,h⟩
 ·exact Qkh p cap w
 have u:=(Below.refl w.heap.size w).alloc Lr (Jc #[.slice (some ⟨bt,ot,none⟩) L.length cap] 28);have n_x:(w.alloc (Jc #[.slice (some ⟨bt,ot,none⟩) L.length cap] 28)).heap[w.heap.size]? = _:=World.alloc_heap_new w _;have x0:=En.Qaa n_x 0 (v:=.slice (some ⟨bt,ot,none⟩) L.length cap) rfl;obtain ⟨O,hO⟩:∃ O,O=Qam [] L:=⟨_,rfl⟩;rw [←hO];have HO:Sh _:=⟨hO⟩;have HL:Sh _:=⟨hL⟩;have HG:Sh _:=⟨hg⟩;have HH:Sh _:=⟨h⟩;have U0:Sh _:=⟨u⟩;clear hO hL hg h ht u;obtain ⟨n,hnn⟩:∃ n,n=L.length:=⟨_,rfl⟩;rw [←hnn] at hn x0 n_x ⊢;have HN:Sh _:=⟨hnn⟩;rw [←hnn] at U0;clear hnn;go_enter Tryz.func92, Tryz.ntmps92;go_wp2_with fail;clear x0 n_x;generalize (w.alloc (Jc #[.slice (some ⟨bt,ot,none⟩) n cap] 28))=W0 at *
 go_loopw [3,5,9] (fun fv _ jv wr=>∃ (j:Nat) (rs:List (List Rat)),j≤n∧jv = .int .i64 (j:Int)∧Sh (Fd wr fv rs∧Below w.heap.size w wr)∧Sh (Qam [] (L.take j)=some rs)) (fun _ _ jv _=>n-(intOf jv).toNat)
 case atStart=>exact ⟨0, [],Nat.zero_le _,rfl,⟨rfl,U0.o⟩,⟨by rw [List.take_zero];rfl⟩⟩
 case round =>
  obtain ⟨j,rs,hj,rfl,HF,HC⟩:=hrel;clear U0;obtain ⟨hf,u⟩:=HF.o;clear HF;by_cases hjn:j=n
  ·subst hjn;go_wp2_with fail;go_ret
   exact ⟨u,fun rs' h=>by
    have:=HC.o;rw [HN.o,List.take_length,←HO.o,h] at this;cases this;exact ⟨_,rfl,hf⟩,fun h=>by
    have:=HC.o;rw [HN.o,List.take_length,←HO.o,h] at this;cases this⟩
  ·have hjl:j<n:=by omega
   have hj2:(j:Int)<(n:Int):=by omega
   have hj3:(0:Int)≤(j:Int):=by omega
   have hjL:j<L.length:=by rw [←HN.o];exact hjl
   obtain ⟨vi,x0,ei⟩:=HH.o j L[j] (List.getElem?_eq_getElem hjL);replace x0:=Qae x0 u;have hfit:=HL.o L[j] (List.getElem_mem hjL);have hlen:=Qeh HC.o
   have hk:rs.length≤4:=by
    by_cases h0:L.take j = []
    ·rw [h0] at hlen;rw [hlen.1];simp
    ·exact hlen.2 h0
   have cE:=Qhw hk hfit.2 hfit.1 wr (HG.o.keep u) hf (ei.keep u)
   have hap:Qam [] (L.take (j+1))=(Qam [] (L.take j)).bind fun r=>Qam r [L[j]]:=by
    rw [List.take_succ_eq_append_getElem hjL,QcG]
   have hall:Qam [] L=(Qam [] (L.take (j+1))).bind fun r=>Qam r (L.drop (j+1)):=by
    rw [←QcG,List.take_append_drop]
   have HAP:Sh _:=⟨hap⟩;have HALL:Sh _:=⟨hall⟩;have hw1:IntKind.i64.wrap ((j:Int)+1)=(j:Int)+1:=by simp [IntKind.wrap,IntKind.signed,IntKind.bits];omega
   clear hap hall hlen hfit ei hf hk;generalize L[j]=xj at *
   go_wp2_with fail;refine cE.mono ?_;intro e v1 h1;have u1:=u.trans (h1.below.mono u.size);by_cases ha:Adj rs xj
   ·obtain ⟨f2,rfl,hf2⟩:=h1.good ha;have HA:Sh _:=⟨ha⟩;clear h1 cE ha x0;go_wp2_with fail
    go_roundw
    case rel=>exact ⟨j+1,xj :: rs,by omega,by first | rfl | go_num | simp,⟨hf2,u1⟩,⟨by rw [HAP.o,HC.o,Option.bind_some,Qam,if_pos HA.o];rfl⟩⟩
    case measure=>simp [intOf];omega
   ·obtain rfl:=h1.bad ha;have hnone:O=none:=by rw [HO.o,HALL.o,HAP.o,HC.o,Option.bind_some,Qam,if_neg ha];rfl
    exact ⟨rfl,u1,fun rs' h=>(by rw [hnone] at h;cases h),fun _=>rfl⟩
end Tw
end
section
namespace En
open Go.RowKit Go.Extern.Stop Go.Stop Go.Extern
open Go.Proofs.YtihlgifojjeoaaaGreatDoor.Nm Go.Proofs.YtihlgifojjeoaaaGreatDoor.Rt
def Qdy (R:Nat→List Value):Nat→List Value
 | 0 => []
 | t+1=>Qdy R t++R t
theorem Qhx {s:Nat} (R:Nat→List Value):∀ t,(∀ i,i<t→(R i).length=s)→(Qdy R t).length=t*s
 | 0,_=>by rw [Nat.zero_mul];rfl
 | t+1,h=>by rw [Qdy,List.length_append,Qhx R t (fun i hi=>h i (by omega)),h t (by omega),Nat.succ_mul]
theorem Qjk {s:Nat} (R:Nat→List Value):∀ t,(∀ i,i<t→(R i).length=s)→∀ j i,j<t→i<s→(Qdy R t)[j*s+i]? = (R j)[i]?
 | 0,_,_,_,h,_=>absurd h (by omega)
 | t+1,hl,j,i,h,hi=>by
  have hlen:=Qhx R t (fun i hi=>hl i (by omega));rw [Qdy];rcases Nat.lt_or_ge j t with h1 | h1
  ·have:j*s+i<t*s:=by
    have:=Nat.mul_le_mul_right s (show j+1≤t by omega);rw [Nat.succ_mul] at this;omega
   rw [List.getElem?_append_left (by omega)];exact Qjk R t (fun i hi=>hl i (by omega)) j i h1 hi
  ·obtain rfl:j=t:=by omega
   rw [List.getElem?_append_right (by omega),hlen,Nat.add_sub_cancel_left]
def OwnG (e:TypeId) (s:Nat) (W:World) (base:Nat) (v:Value) (t:Nat) (R:Nat→List Value):Prop:=W.ownsRow base e s v t (Qdy R t)
theorem OwnG.nil (e:TypeId) (s:Nat) (W:World) (base:Nat) (R:Nat→List Value):OwnG e s W base (.slice none 0 0) 0 R:=World.ownsRow_nil W base _ _
theorem OwnG.below {e:TypeId} {s:Nat} {W W':World} {base t:Nat} {v:Value} {R:Nat→List Value} (h:OwnG e s W base v t R) (hb:Below W.heap.size W W'):OwnG e s W' base v t R:=by
 refine ⟨h.1, ?_⟩;rcases h.2 with hn | ⟨g,cap,cur,e,hg,hgg,rest⟩
 ·exact .inl hn
 ·exact .inr ⟨g,cap,cur,e,hg,by rw [hb.block g (Array.getElem?_eq_some_iff.1 hgg).1];exact hgg,rest⟩
theorem OwnG.new {e:TypeId} {s:Nat} {W:World} {base t:Nat} {v:Value} {R:Nat→List Value} (h:OwnG e s W base v t R) (b:Nat) (hb:W.heap.size≤b):v.ownBlock≠some b:=by
 rcases h.2 with ⟨rfl,_⟩ | ⟨g,cap,cur,rfl,hg,hgg,rest⟩
 ·simp [Value.ownBlock]
 ·have:=(Array.getElem?_eq_some_iff.1 hgg).1;simp [Value.ownBlock];omega
theorem OwnG.low {e:TypeId} {s:Nat} {W:World} {base t:Nat} {v:Value} {R:Nat→List Value} (h:OwnG e s W base v t R) (b:Nat) (hb:b<base):v.ownBlock≠some b:=by
 rcases h.2 with ⟨rfl,_⟩ | ⟨g,cap,cur,rfl,hg,hgg,rest⟩
 ·simp [Value.ownBlock]
 ·simp [Value.ownBlock];omega
theorem OwnG.beside {e:TypeId} {s:Nat} {W W':World} {base t:Nat} {v u:Value} {R:Nat→List Value} (h:OwnG e s W base v t R) (hg:W.grownBy W' u.ownBlock) (hn:v.ownBlock=none∨v.ownBlock≠u.ownBlock):OwnG e s W' base v t R:=World.ownsRow.kept h hg hn
theorem OwnG.shape {e:TypeId} {s:Nat} {W:World} {base t:Nat} {v:Value} {R:Nat→List Value} (h:OwnG e s W base v (t+1) R) (hl:∀ i,i<t+1→(R i).length=s):∃ g cap,v = .slice (some ⟨g,0,none⟩) (t+1) cap∧base≤g∧t+1≤cap∧cap≤maxLen∧∃ cur,W.heap[g]? = some (.cells cur e (0,0))∧∀ j i,j<t+1→i<s→cur[j*s+i]? = (R j)[i]? := by
 rcases h.2 with ⟨_,hn⟩ | ⟨g,cap,cur,rfl,hg,hgg,h1,h2,h3,h4⟩
 ·cases hn
 ·refine ⟨g,cap,rfl,hg,h1,h2,cur,hgg,fun j i hj hi => ?_⟩;have hc:=Qjk R (t+1) hl j i hj hi
  have hlt:j*s+i<(t+1)*s:=by
   have:=Nat.mul_le_mul_right s (show j+1≤t+1 by omega);rw [Nat.succ_mul] at this;omega
  rw [←h4,List.getElem?_take_of_lt hlt,Array.getElem?_toList] at hc;exact hc
theorem QbT {e:TypeId} {s B t base:Nat} {R:Nat→List Value} {w w1 w3:World} {v:Value} (hb:Below B w w1) (hB:B≤w.heap.size) (hBb:B≤base) (hO:OwnG e s w1 base v t R) (hg:w1.grownBy w3 v.ownBlock):Below B w w3 :=
 hb.trans ⟨hg.os,hg.tape,hg.output,hg.size,fun k hk=>hg.block k (Nat.lt_of_lt_of_le (Nat.lt_of_lt_of_le hk hB) hb.size) (fun e=>by
  rcases hO.2 with ⟨rfl,_⟩ | ⟨g,cap,cur,rfl,h1,_⟩
  ·simp [Value.ownBlock] at e
  ·simp [Value.ownBlock] at e;omega)⟩
theorem Qry:(Tryz.prog.info? 29).map (fun i=>(i.zero,i.size,i.bytes))=some (some (.slice none 0 0),1,24):=by kernel_rfl
theorem QuM {w:World} {ops:Array Oper} {rest:List Oper} {o:Oper} {a:Act} {Q:Exit→Act→World→Prop} (hgd:o.guard=none) (s x:Operand)
  (ho:o.op = .call {callee:=.builtin .append,args:=#[s,x],argTypes:=#[26, 26]}) (base:Nat) (v:Value) (t:Nat) (R:Nat→List Value) (hs:a.eval s=v) (hown:OwnG 29 1 w base v t R)
  (Bx c:Nat) (hx:a.eval x = .slice (some ⟨Bx,0,none⟩) 1 c) (p:Option Addr) (n cp:Nat) (hR:R t = [.slice p n cp]) (hB:w.heap[Bx]? = some (Jc #[.slice p n cp] 29 (0,0))) (ht:t≤1000) (hb:base≤w.heap.size)
  (h:∀ v' w',OwnG 29 1 w' base v' (t+1) R→w.grownBy w' v.ownBlock→(v'.ownBlock=v.ownBlock∨v'.ownBlock=some w.heap.size)→wpList Tryz.prog ops Q rest (a.put o.dst v') w'):wpList Tryz.prog ops Q (o :: rest) a w:=by
 obtain ⟨i0,hinf,hz⟩:=Option.map_eq_some_iff.1 Qry;have hz0:i0.zero=some (.slice none 0 0):=congrArg (fun q=>q.1) hz;have hz1:i0.size=1:=congrArg (fun q=>q.2.1) hz;have hz2:i0.bytes=24:=congrArg (fun q=>q.2.2) hz;refine wpList_append_own_at w hgd s x 26 ho base 29 i0 _ 1 24 Tryz.underlying26 hinf hz0 hz1 hz2 rfl (by decide) v t _ hs hown ⟨Bx,0,none⟩ 1 c [.slice p n cp] hx rfl ?_ ?_ (by unfold maxLen;omega) (by omega) hb ?_
 ·intro j u hj;rw [Addr.add_lit,Nat.zero_add]
  match j,hj with
  | 0,hj=>exact Qaa hB 0 hj
 ·intro u hu;simp at hu;subst hu;rfl
 ·intro v' w' hown' hgrow _ hat;refine h v' w' ?_ hgrow hat;unfold OwnG;rw [Qdy,hR];exact hown'
theorem Qha {w:World} {ops:Array Oper} {o:Oper} {a:Act} {K:Act→World→Prop} {Q:Exit→Act→World→Prop} {E:Prop} (hgd:o.guard=none) (s x:Operand)
  (ho:o.op = .call {callee:=.builtin .append,args:=#[s,x],argTypes:=#[26, 26]}) (base:Nat) (v:Value) (t:Nat) (R:Nat→List Value) (hs:a.eval s=v) (hown:OwnG 29 1 w base v t R)
  (Bx c:Nat) (hx:a.eval x = .slice (some ⟨Bx,0,none⟩) 1 c) (p:Option Addr) (n cp:Nat) (hR:R t = [.slice p n cp]) (hB:w.heap[Bx]? = some (Jc #[.slice p n cp] 29 (0,0))) (ht:t≤1000) (hb:base≤w.heap.size)
  (hK:∀ v' w',OwnG 29 1 w' base v' (t+1) R→w.grownBy w' v.ownBlock→K (a.put o.dst v') w'):if Region.wanted o (yielded ops a.tmps)=true then Oper.wp Tryz.prog o a w K Q else E:=by
 obtain ⟨i0,hinf,hz⟩:=Option.map_eq_some_iff.1 Qry;have hz0:i0.zero=some (.slice none 0 0):=congrArg (fun q=>q.1) hz;have hz1:i0.size=1:=congrArg (fun q=>q.2.1) hz;have hz2:i0.bytes=24:=congrArg (fun q=>q.2.2) hz;refine Rt.QcP hgd s x 26 ho base 29 i0 _ 1 24 Tryz.underlying26 hinf hz0 hz1 hz2 rfl (by decide) v t _ hs hown ⟨Bx,0,none⟩ 1 c [.slice p n cp] hx rfl ?_ ?_ (by unfold maxLen;omega) (by omega) hb ?_
 ·intro j u hj;rw [Addr.add_lit,Nat.zero_add]
  match j,hj with
  | 0,hj=>exact Qaa hB 0 hj
 ·intro u hu;simp at hu;subst hu;rfl
 ·intro v' w' hown' hgrow;refine hK v' w' ?_ hgrow;unfold OwnG;rw [Qdy,hR];exact hown'
theorem Qci {w:World} {ops:Array Oper} {a:Act} {K:Act→World→Prop} {Q:Exit→Act→World→Prop} {E:Prop} {ty:TypeId} {pos:String} {after:Array Edge}
  (d s x:Nat) (base:Nat) (t:Nat) (R:Nat→List Value) (hown:OwnG 29 1 w base (a.eval (.tmp s)) t R)
  (Bx c:Nat) (hx:a.eval (.tmp x) = .slice (some ⟨Bx,0,none⟩) 1 c) (p:Option Addr) (n cp:Nat) (hR:R t = [.slice p n cp]) (hB:w.heap[Bx]? = some (Jc #[.slice p n cp] 29 (0,0))) (ht:t≤1000) (hb:base≤w.heap.size)
  (hK:∀ v' w',OwnG 29 1 w' base v' (t+1) R→w.grownBy w' (a.eval (.tmp s)).ownBlock→K (a.put (some d) v') w'):if Region.wanted {dst:=some d,op:=.call {callee:=.builtin .append,args:=#[.tmp s,.tmp x],argTypes:=#[26, 26]},type:=ty,pos:=pos,after:=after,guard:=none} (yielded ops a.tmps)=true then Oper.wp Tryz.prog {dst:=some d,op:=.call {callee:=.builtin .append,args:=#[.tmp s,.tmp x],argTypes:=#[26, 26]},type:=ty,pos:=pos,after:=after,guard:=none} a w K Q else E :=
 Qha rfl (.tmp s) (.tmp x) rfl base _ t R rfl hown Bx c hx p n cp hR hB ht hb hK
end En
end
end Go.Proofs.YtihlgifojjeoaaaGreatDoor
