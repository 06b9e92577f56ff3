import Derived.Test.YtadcmepaniiciaaGreatDoorZj
set_option maxRecDepth 1000000
set_option maxHeartbeats 40000000
open Go.Value renaming string→J
open Go.Obj renaming cells→Jc
namespace Go.Proofs.YtadcmepaniiciaaGreatDoor
section
namespace Tw
open Go.RowKit Go.Extern.Stop Go.Stop Go.Extern
open En Go.Proofs.YtadcmepaniiciaaGreatDoor.Nm Go.Proofs.YtadcmepaniiciaaGreatDoor.Rt
theorem QuL {l m:List Rat} {vx vy:Value} (hl:l.length=m.length) (hn:l.length≤1000) (fl:FitL l) (fm:FitL m) (w:World) (hx:El w vx l) (hy:El w vy m) :
  Calls Tryz.prog 94 #[.func (.func 103) #[] #[],vx,vy] w (AnsO (Qaj divQ l m) w):=by
 obtain ⟨b,o,cap,rfl,h1,h2⟩:=hx.ex;obtain ⟨b',o',cap',rfl,h1',h2'⟩:=hy.ex;rw [←hl] at h1' h2' ⊢;exact (QcY 103 (enters_of Tryz.func103 (by kernel_rfl) rfl) l.length b o cap b' o' cap' hn h1 h1' (pqs l) (pqs m) (fun j=>(sn (divQ (l.getD j 0) (m.getD j 0)),sd (divQ (l.getD j 0) (m.getD j 0)))) (fun j=>cd (divQ (l.getD j 0) (m.getD j 0))) (fun j hj W=>Rt.divO (.some (fl.getD j hj)) (.some (fm.getD j (hl▸hj))) W) w h2 h2').mono (fun e w' h=>ansO hl h)
theorem Qqy {rs:List (List Rat)} {d x z:List Rat} (h:nrmO rs d x=some z):FitL z:=by
 rw [nrmO] at h;obtain ⟨_,_,h⟩:=Option.bind_eq_some_iff.1 h;obtain ⟨_,_,h⟩:=Option.bind_eq_some_iff.1 h;obtain ⟨_,_,h⟩:=Option.bind_eq_some_iff.1 h;exact .pair (fun _ _ _ h=>FitQ.subQ h) h
theorem Qli {rs:List (List Rat)} {d x z:List Rat} (hr:Qdz (d :: rs)) (hx:x.length=2^(rs.length+1)) (h:nrmO rs d x=some z):z.length=2^rs.length:=by
 obtain ⟨a,b,rfl,ha,hb⟩:=QcB hx;rw [QfO (by omega)] at h;obtain ⟨aa,h1,h⟩:=Option.bind_eq_some_iff.1 h;obtain ⟨bbd,h2,h⟩:=Option.bind_eq_some_iff.1 h;obtain ⟨bb,h3,h2⟩:=Option.bind_eq_some_iff.1 h2;have k1:=QaN hr.2 ha ha h1;have k2:=QaN hr.2 (QaN hr.2 hb hb h3) hr.1 h2;rw [Qbv (by rw [k1,k2]) h,k1]
theorem Qlj {rs:List (List Rat)} {d a b:List Rat} (h:a.length=b.length):invO (d :: rs) (a++b)=(nrmO rs d (a++b)).bind fun n=>(Qaw rs n).bind fun s=>if s=0 then (Qaj addQ a a).bind fun aa=>(invO rs aa).map fun u=>u++Tw.zeros d.length
  else (invO rs n).bind fun m=>(mulO rs a m).bind fun p=>(Qaj subQ (Tw.zeros b.length) b).bind fun nb=>(mulO rs nb m).map fun q=>p++q:=by
 rw [invO,(QaB h).1,(QaB h).2]
theorem Qkg:∀ {rs:List (List Rat)} {x z:List Rat},Qdz rs→x.length=2^rs.length→invO rs x=some z→FitL z∧z.length=2^rs.length
 | [],x,z,_,hx,h=>by
  have h:Qaj divQ [1] x=some z:=h;exact ⟨.pair (fun _ _ _ h=>FitQ.divQ h) h,Qbv (by rw [hx];rfl) h⟩
 | d :: rs,x,z,hr,hx,h=>by
  obtain ⟨a,b,rfl,ha,hb⟩:=QcB hx;rw [Qlj (by omega)] at h;obtain ⟨n,h1,h⟩:=Option.bind_eq_some_iff.1 h;obtain ⟨s,h2,h⟩:=Option.bind_eq_some_iff.1 h;have ln:=Qli hr hx h1;split at h
  ·obtain ⟨aa,h3,h⟩:=Option.bind_eq_some_iff.1 h;obtain ⟨u,h4,rfl⟩:=Option.map_eq_some_iff.1 h;have k:=Qkg hr.2 ((Qbv rfl h3).trans ha) h4;exact ⟨.both k.1 (.zeros _),by rw [List.length_append,QaR,k.2,hr.1,List.length_cons,Nat.pow_succ];omega⟩
  ·obtain ⟨m,h3,h⟩:=Option.bind_eq_some_iff.1 h;obtain ⟨p,h4,h⟩:=Option.bind_eq_some_iff.1 h;obtain ⟨nb,h5,h⟩:=Option.bind_eq_some_iff.1 h;obtain ⟨q,h6,rfl⟩:=Option.map_eq_some_iff.1 h;have k:=Qkg hr.2 ln h3;have l1:=QaN hr.2 ha k.2 h4;have l2:=QaN hr.2 ((Qbv (QaR _) h5).trans ((QaR _).trans hb)) k.2 h6;exact ⟨.both (QbL h4) (QbL h6),by rw [List.length_append,l1,l2,List.length_cons,Nat.pow_succ];omega⟩
theorem Qqz {rs:List (List Rat)} {d u:List Rat} (hr:Qdz (d :: rs)) (hu:u.length=2^rs.length):embO (d :: rs) u=some (u++Tw.zeros d.length):=by
 rw [embO,if_neg (by rw [hu,Nat.pow_succ];have:=Nat.pow_pos (n:=rs.length) (show 0<2 by decide);omega)]
 have:embO rs u=some u:=by
  match rs,hu with
  | [],hu=>exact if_pos hu
  | _ :: _,hu=>exact if_pos hu
 rw [this];rfl
def InvC (rs:List (List Rat)):Prop:=∀ {x:List Rat} {f vx:Value},x.length=2^rs.length→FitL x→∀ w,Gl w→Fd w f rs→El w vx x→Calls Tryz.prog 50 #[f,vx] w (AnsO (invO rs x) w)
theorem fit1:FitQ 1:=⟨Qas (by decide),Qas (by decide)⟩
theorem pq1:pq 1=(⟨#[49]⟩,⟨#[49]⟩):=by rw [pq];exact Prod.ext txt1 txt1
theorem Qth:InvC []:=by
 intro x f vx hx fx w hg hf ex;obtain rfl:f = .pointer none:=hf;have hs:invO [] x=Qaj divQ [1] x:=rfl;rw [hs];have u:=(Below.refl w.heap.size w).alloc Lr (Jc #[J ⟨#[49]⟩,J ⟨#[49]⟩] 42);have n_x:(w.alloc (Jc #[J ⟨#[49]⟩,J ⟨#[49]⟩] 42)).heap[w.heap.size]? = _:=World.alloc_heap_new w _
 have e1:El (w.alloc (Jc #[J ⟨#[49]⟩,J ⟨#[49]⟩] 42)) (.slice (some ⟨w.heap.size,0,none⟩) 1 1) [1]:=⟨_,0,1,rfl,Nat.le_refl _,⟨fun i hi=>by
  obtain rfl:i=0:=by simpa using hi
  have:pqs [1] 0=(⟨#[49]⟩,⟨#[49]⟩):=pq1;rw [this];exact ⟨En.Qaa n_x 0 rfl,En.Qaa n_x 1 rfl⟩⟩⟩
 have cD:=QuL (l := [1]) (m:=x) (by rw [hx];rfl) (by decide) (fun q hq=>by rw [List.mem_singleton.1 hq];exact fit1) fx _ e1 (ex.keep u);have o0:=hg.o0;have o1:=hg.o1;clear hs e1 ex fx hx hg n_x;go_enter Tryz.func50, Tryz.ntmps50;go_wp2_with fail;refine cD.mono ?_;intro e w1 h;rcases hD:Qaj divQ [1] x with _ | z
 ·obtain rfl:=h.bad hD;exact ⟨rfl,u.trans (h.below.mono u.size),fun z hz=>(by cases hz),fun _=>rfl⟩
 ·obtain ⟨v,rfl,hv⟩:=h.good _ hD;go_wp2_with fail;go_ret;exact ⟨u.trans (h.below.mono u.size),fun z' hz=>(by rw [hD] at hz;cases hz;exact ⟨_,rfl,hv⟩),fun h=>(by rw [hD] at h;cases h)⟩
theorem QqA {rs:List (List Rat)} (hk:rs.length≤3) (d:List Rat) (ih:InvC rs):InvC (d :: rs):=by
 intro x f vx hx fx w hg hf ex;have hp:=QbG (show rs.length≤4 by omega);have hrad:=hf.rad;have cN:=fun (W:World) (u:Below w.heap.size w W)=>Qrx hk hx fx W (hg.keep u) (Fd.keep u hf) (ex.keep u);have NP:Sh (∀ n,nrmO rs d x=some n→FitL n∧n.length=2^rs.length):=⟨fun n h=>⟨Qqy h,Qli hrad hx h⟩⟩;obtain ⟨a,b,rfl,ha,hb⟩:=QcB hx;have ch1:=Qeg (a:=a) (b:=b) (by omega) (by omega) w ex;have tm:QgN rs:=Qdd (by omega);have sg:QoI rs:=QeU (by omega);have em:EmbC (d :: rs):=Qij (by simp;omega);have hf0:=hf;obtain ⟨fb,lv,rv,rfl,n_f,hl,er,hd,fd⟩:=hf;have CS:Sh (∀ W n vn,Below w.heap.size w W→El W vn n→FitL n∧n.length=2^rs.length→Calls Tryz.prog 47 #[lv,vn] W (AnsS (Qaw rs n) W)):=⟨fun W n vn u h k=>sg k.2 k.1 W (hg.keep u) (Fd.keep u hl) h⟩;have CI:Sh (∀ W n vn,Below w.heap.size w W→El W vn n→FitL n∧n.length=2^rs.length→Calls Tryz.prog 50 #[lv,vn] W (AnsO (invO rs n) W)):=⟨fun W n vn u h k=>ih k.2 k.1 W (hg.keep u) (Fd.keep u hl) h⟩;have CT:Sh (∀ W x y vx vy,Below w.heap.size w W→El W vx x→El W vy y→FitL x∧x.length=2^rs.length→FitL y∧y.length=2^rs.length→Calls Tryz.prog 38 #[lv,vx,vy] W (AnsO (mulO rs x y) W)):=⟨fun W x y vx vy u h h' k k'=>tm k.2 k'.2 k.1 k'.1 W (hg.keep u) (Fd.keep u hl) h h'⟩
 have CE:Sh (∀ W u vu,Below w.heap.size w W→El W vu u→FitL u∧u.length=2^rs.length→Calls Tryz.prog 52 #[.pointer (some ⟨fb,0,none⟩),vu] W (AnsO (some (u++Tw.zeros d.length)) W)):=⟨fun W v vu u h k=>by
  have:=em (x:=v) (by have:=k.2;omega) k.1 W (hg.keep u) (Fd.keep u hf0) h
  rwa [Qqz hrad k.2] at this⟩
 have CZ:Sh (∀ W,Below w.heap.size w W→Calls Tryz.prog 93 #[.int .i64 (b.length:Int)] W (AnsO (some (Tw.zeros b.length)) W)):=⟨fun W u=>Qke b.length (by omega) W (hg.keep u)⟩;have PI:Sh (∀ n z,n.length=2^rs.length→invO rs n=some z→FitL z∧z.length=2^rs.length):=⟨fun n z l h=>Qkg hrad.2 l h⟩;have PT:Sh (∀ x y z,x.length=2^rs.length→y.length=2^rs.length→mulO rs x y=some z→FitL z∧z.length=2^rs.length):=⟨fun x y z l l' h=>⟨QbL h,QaN hrad.2 l l' h⟩⟩;have HP:Sh (1≤2^rs.length∧2^rs.length≤16):=⟨hp⟩;have PAB:Sh ((FitL a∧a.length=2^rs.length)∧(FitL b∧b.length=2^rs.length)):=⟨⟨fx.app.1,ha⟩,⟨fx.app.2,hb⟩⟩;obtain ⟨O,hO⟩:∃ O,O=invO (d :: rs) (a++b):=⟨_,rfl⟩;rw [←hO];rw [Qlj (by omega)] at hO;have HE:Sh _:=⟨hO⟩;have CN:Sh _:=⟨cN⟩;clear hO cN ex hg hl er hx hrad ha hb hd fx fd hk hp ih hf0 tm sg em;generalize 2^rs.length=k at *
 go_enter Tryz.func50, Tryz.ntmps50;go_wp2_with fail;refine ch1.mono ?_;rintro e w4 ⟨⟨va,vb,rfl,ea,eb⟩,u4⟩;clear ch1;have f0:=Qae (En.Qaa n_f 0 (v:=lv) rfl) u4;go_wp2_with fail;have TN:=CN.o w4.drew (QaS u4);have EA:Sh _:=⟨ea⟩;have EB:Sh _:=⟨eb⟩;clear CN ea eb
 go_region_held (fun X=>X.cell? ⟨fb,0,none⟩=some lv) (go_keep) (first | (go_at_call 102; (with_reducible refine TN.mono ?_);intro e v3 h3;have u3:Below w4.heap.size w4 v3:=Qah h3.below;rcases hN:nrmO rs d (a++b) with _ | n;(obtain rfl:=h3.bad hN;dsimp +zetaDelta only [Exit.then,Exit.inBlock];exact ⟨rfl,u4.trans (u3.mono u4.size),fun z hz=>(by rw [HE.o,hN] at hz;cases hz),fun _=>rfl⟩);obtain ⟨vn,rfl,en⟩:=h3.good n hN;clear h3;replace f0:=Qae f0 u3))
 have k3:=u4.trans (u3.mono u4.size);have EA3:Sh _:=⟨EA.o.keep u3⟩;have EB3:Sh _:=⟨EB.o.keep u3⟩;have EN:Sh _:=⟨en⟩;have np:=NP.o n hN;have NN:Sh _:=⟨np⟩;have cS:=CS.o v3 n vn k3 en np;clear TN EA EB NP u3 u4 en np;go_wp2_with fail;refine cS.mono ?_;intro e v5 h5;have k5:=k3.trans (h5.below.mono k3.size);rcases hS:Qaw rs n with _ | s
 ·obtain rfl:=h5.bad hS;exact ⟨rfl,k5,fun z hz=>(by rw [HE.o,hN,Option.bind_some,hS] at hz;cases hz),fun _=>rfl⟩
 obtain rfl:=h5.good s hS;have EA5:Sh _:=⟨EA3.o.keep h5.below⟩;have EB5:Sh _:=⟨EB3.o.keep h5.below⟩;have EN5:Sh _:=⟨EN.o.keep h5.below⟩;clear h5 cS EA3 EB3 EN k3;by_cases h0:s=0
 ·have hb:(s == 0)=true:=by simp [h0]
  have H0:Sh _:=⟨h0⟩;clear h0;have cP:=Qjj (l:=a) (m:=a) rfl (by have:=PAB.o.1.2;have:=HP.o;omega) PAB.o.1.1 PAB.o.1.1 v5 EA5.o EA5.o;go_wp2_with fail;refine cP.mono ?_;intro e v6 h6;have k6:=k5.trans (h6.below.mono k5.size);rcases hA:Qaj addQ a a with _ | aa
  ·obtain rfl:=h6.bad hA;exact ⟨rfl,k6,fun z hz=>(by rw [HE.o,hN,Option.bind_some,hS,Option.bind_some,if_pos H0.o,hA] at hz;cases hz),fun _=>rfl⟩
  obtain ⟨v6a,rfl,e6⟩:=h6.good aa hA;have q6:FitL aa∧aa.length=k:=⟨.pair (fun _ _ _ h=>FitQ.addQ h) hA,(Qbv rfl hA).trans PAB.o.1.2⟩;have Q6:Sh _:=⟨q6⟩;have cI:=CI.o v6 aa v6a k6 e6 q6;clear h6 cP k5 q6 e6;go_wp2_with fail;refine cI.mono ?_;intro e v7 h7;have k7:=k6.trans (h7.below.mono k6.size);rcases hI:invO rs aa with _ | z
  ·obtain rfl:=h7.bad hI;exact ⟨rfl,k7,fun z hz=>(by rw [HE.o,hN,Option.bind_some,hS,Option.bind_some,if_pos H0.o,hA,Option.bind_some,hI] at hz;cases hz),fun _=>rfl⟩
  obtain ⟨v7a,rfl,e7⟩:=h7.good z hI;have cE:=CE.o v7 z v7a k7 e7 (PI.o aa z Q6.o.2 hI);clear h7 cI k6 e7;go_wp2_with fail;refine cE.mono ?_;intro e v8 h8;obtain ⟨v8a,rfl,e8⟩:=h8.good _ rfl;go_wp2_with fail;go_ret;refine ⟨k7.trans (h8.below.mono k7.size),fun z' hz => ?_,fun hn => ?_⟩
  ·rw [HE.o,hN,Option.bind_some,hS,Option.bind_some,if_pos H0.o,hA,Option.bind_some,hI] at hz;cases hz;exact ⟨_,rfl,e8⟩
  ·rw [HE.o,hN,Option.bind_some,hS,Option.bind_some,if_pos H0.o,hA,Option.bind_some,hI] at hn;cases hn
 ·have hb:(s == 0)=false:=by rw [beq_eq_false_iff_ne];exact h0
  have H0:Sh _:=⟨h0⟩;clear h0;have cI:=CI.o v5 n vn k5 EN5.o NN.o;go_wp2_with fail;refine cI.mono ?_;intro e v6 h6;have k6:=k5.trans (h6.below.mono k5.size);rcases hI:invO rs n with _ | m
  ·obtain rfl:=h6.bad hI;exact ⟨rfl,k6,fun z hz=>(by rw [HE.o,hN,Option.bind_some,hS,Option.bind_some,if_neg H0.o,hI] at hz;cases hz),fun _=>rfl⟩
  obtain ⟨vm,rfl,em⟩:=h6.good m hI;have QM:Sh _:=⟨PI.o n m NN.o.2 hI⟩;have EM6:Sh _:=⟨em⟩;have EB6:Sh _:=⟨EB5.o.keep h6.below⟩;have cT:=CT.o v6 a m va vm k6 (EA5.o.keep h6.below) em PAB.o.1 QM.o;clear h6 cI k5 em EA5 EB5 EN5 hb;go_wp2_with fail;refine cT.mono ?_;intro e v7 h7;have k7:=k6.trans (h7.below.mono k6.size);rcases hP:mulO rs a m with _ | p
  ·obtain rfl:=h7.bad hP;exact ⟨rfl,k7,fun z hz=>(by rw [HE.o,hN,Option.bind_some,hS,Option.bind_some,if_neg H0.o,hI,Option.bind_some,hP] at hz;cases hz),fun _=>rfl⟩
  obtain ⟨vp,rfl,ep⟩:=h7.good p hP;have EP7:Sh _:=⟨ep⟩;have EM7:Sh _:=⟨EM6.o.keep h7.below⟩;have EB7:Sh _:=⟨EB6.o.keep h7.below⟩;obtain ⟨bb,ob,cb,rfl,_,_⟩:=EB7.o.ex;have cZ:=CZ.o v7 k7;clear h7 cT k6 ep EM6 EB6;go_wp2_with fail;refine cZ.mono ?_;intro e v8 h8;have k8:=k7.trans (h8.below.mono k7.size);obtain ⟨vz,rfl,ez⟩:=h8.good _ rfl;have EP8:Sh _:=⟨EP7.o.keep h8.below⟩;have EM8:Sh _:=⟨EM7.o.keep h8.below⟩;have cM:=Qih (l:=Tw.zeros b.length) (m:=b) (QaR _) (by rw [QaR];have:=PAB.o.2.2;have:=HP.o;omega) (.zeros _) PAB.o.2.1 v8 ez (EB7.o.keep h8.below);clear h8 cZ k7 ez EP7 EM7 EB7;go_wp2_with fail;refine cM.mono ?_;intro e v9 h9;have k9:=k8.trans (h9.below.mono k8.size);rcases hB:Qaj subQ (Tw.zeros b.length) b with _ | nb
  ·obtain rfl:=h9.bad hB;exact ⟨rfl,k9,fun z hz=>(by rw [HE.o,hN,Option.bind_some,hS,Option.bind_some,if_neg H0.o,hI,Option.bind_some,hP,Option.bind_some,hB] at hz;cases hz),fun _=>rfl⟩
  obtain ⟨v9a,rfl,e9⟩:=h9.good nb hB;have q9:FitL nb∧nb.length=k:=⟨.pair (fun _ _ _ h=>FitQ.subQ h) hB,(Qbv (QaR _) hB).trans ((QaR _).trans PAB.o.2.2)⟩;have Q9:Sh _:=⟨q9⟩;have EP9:Sh _:=⟨EP8.o.keep h9.below⟩;have cT:=CT.o v9 nb m v9a vm k9 e9 (EM8.o.keep h9.below) q9 QM.o;clear h9 cM k8 e9 EP8 EM8 q9;go_wp2_with fail;refine cT.mono ?_;intro e v10 h10;have k10:=k9.trans (h10.below.mono k9.size);rcases hQ:mulO rs nb m with _ | q
  ·obtain rfl:=h10.bad hQ;exact ⟨rfl,k10,fun z hz=>(by rw [HE.o,hN,Option.bind_some,hS,Option.bind_some,if_neg H0.o,hI,Option.bind_some,hP,Option.bind_some,hB,Option.bind_some,hQ] at hz;cases hz),fun _=>rfl⟩
  obtain ⟨v10a,rfl,e10⟩:=h10.good q hQ;have EP10:=EP9.o.keep h10.below;have lp:=(PT.o a m p PAB.o.1.2 QM.o.2 hP).2;have lq:=(PT.o nb m q Q9.o.2 QM.o.2 hQ).2;have hp:=HP.o;obtain ⟨bp,op,cp,rfl,_,_⟩:=EP10.ex;obtain ⟨bq,oq,cq,rfl,_,_⟩:=e10.ex;have ua:=(Below.refl v10.heap.size v10).alloc Lr (Jc #[.slice (some ⟨bp,op,none⟩) p.length cp,.slice (some ⟨bq,oq,none⟩) q.length cq] 67);have c5:=Qii (a:=p) (b:=q) (by omega) (by omega) v10.heap.size 2 _ (World.alloc_heap_new v10 _) (EP10.keep ua) (e10.keep ua);have KU:Sh _:=⟨k10.trans (ua.mono k10.size)⟩;clear h10 cT k9 k10 EP9 EP10 e10 ua lp lq hp;go_wp2_with fail;refine c5.mono ?_;intro e v11 h11;obtain ⟨v11a,rfl,e11⟩:=h11.good _ rfl;go_wp2_with fail;go_ret;refine ⟨KU.o.trans (h11.below.mono KU.o.size),fun z' hz => ?_,fun hn => ?_⟩
  ·rw [HE.o,hN,Option.bind_some,hS,Option.bind_some,if_neg H0.o,hI,Option.bind_some,hP,Option.bind_some,hB,Option.bind_some,hQ] at hz;cases hz;exact ⟨_,rfl,e11⟩
  ·rw [HE.o,hN,Option.bind_some,hS,Option.bind_some,if_neg H0.o,hI,Option.bind_some,hP,Option.bind_some,hB,Option.bind_some,hQ] at hn;cases hn
theorem QoM:∀ {rs:List (List Rat)},rs.length≤4→InvC rs
 | [],_=>Qth
 | d :: rs,h=>QqA (by simpa using h) d (QoM (by simp at h;omega))
def Adj (rs:List (List Rat)) (x:List Rat):Prop:=rs.length<4∧x.length=2^rs.length∧Qaw rs x=some 1
structure AnsF (ok:Prop) (rs:List (List Rat)) (w:World) (e:Ending) (w':World):Prop where
 below:Below w.heap.size w w'
 good:ok→∃ f,e = .returned f∧Fd w' f rs
 bad:¬ ok→e = .panicked twP
theorem Fd.ptr {W:World}:∀ {rs:List (List Rat)} {v:Value},Fd W v rs→∃ p,v = .pointer p
 | [],_,h=>⟨_,h⟩
 | _ :: _,_,⟨_,_,_,e,_⟩=>⟨_,e⟩
theorem Qhw {rs:List (List Rat)} (hk:rs.length≤4) {x:List Rat} {f vx:Value} (hn:x.length≤1000) (fx:FitL x) (w:World) (hg:Gl w) (hf:Fd w f rs) (ex:El w vx x) :
  Calls Tryz.prog 57 #[f,vx] w (AnsF (Adj rs x) (x :: rs) w):=by
 have hp:=QbG hk;have cS:=QoK w hk hf;have cC:=Qbw hk hn fx w hf ex;have cG:=fun (W:World) (u:Below w.heap.size w W) (h:x.length=2^rs.length)=>QeU hk h fx W (hg.keep u) (Fd.keep u hf) (ex.keep u)
 have hF:∀ W,Below w.heap.size w W→x.length=2^rs.length→Fd (W.alloc (Jc #[f,vx] 117)) (.pointer (some ⟨W.heap.size,0,none⟩)) (x :: rs):=fun W u h =>
  have ua:=(Below.refl W.heap.size W).alloc Lr (Jc #[f,vx] 117)
  ⟨W.heap.size,f,vx,rfl,World.alloc_heap_new W _,Fd.keep ua (Fd.keep u hf),(ex.keep u).keep ua,h,fx⟩
 have HF:Sh _:=⟨hF⟩;have CG:Sh _:=⟨cG⟩;obtain ⟨A,hA⟩:∃ A,A=Adj rs x:=⟨_,rfl⟩;have HA:Sh (A=(rs.length<4∧x.length=2^rs.length∧Qaw rs x=some 1)):=⟨hA⟩;rw [←hA]
 have hm:(2^rs.length=16↔¬ rs.length<4):=by
  rcases (by omega:rs.length=0∨rs.length=1∨rs.length=2∨rs.length=3∨rs.length=4) with h | h | h | h | h <;> rw [h] <;> decide
 have HM:Sh _:=⟨hm⟩;obtain ⟨bx,ox,cx,rfl,_,_⟩:=ex.ex;obtain ⟨pf,rfl⟩:=hf.ptr;clear hA hF cG hg hf ex fx hn hk hm;generalize 2^rs.length=m at *
 by_cases h16:m=16
 ·have hb:((m:Int) == (16:Int))=true:=by simp [h16]
  have H16:Sh _:=⟨h16⟩;clear h16 cC;go_enter Tryz.func57, Tryz.ntmps57;go_wp2_with fail;refine cS.mono ?_;rintro e w1 ⟨rfl,hw⟩;rw [hw];clear hw cS;have hr:=QaV w;go_wp2_with fail;refine hr.mono ?_;rintro e w1 ⟨rfl,hw⟩;rw [hw];exact ⟨rfl,Below.refl _ _,fun h=>absurd (HA.o▸h).1 (HM.o.1 H16.o),fun _=>rfl⟩
 ·have hb:((m:Int) == (16:Int))=false:=by rw [beq_eq_false_iff_ne];omega
  have H16:Sh _:=⟨h16⟩;clear h16;go_enter Tryz.func57, Tryz.ntmps57;go_wp2_with fail;refine cS.mono ?_;rintro e w1 ⟨rfl,hw⟩;rw [hw];clear hw cS;have hr:=Qbb w;go_wp2_with fail;refine hr.mono ?_;rintro e w1 ⟨rfl,hw⟩;rw [hw];clear hw hr hb;go_wp2_with fail;refine cC.mono ?_;intro e w1 h1;have u1:=h1.below;by_cases hl:x.length=m
  ·obtain rfl:=h1.good hl;have cg:=CG.o w1 u1 hl;have HL:Sh _:=⟨hl⟩;clear hl h1 cC;go_wp2_with fail;refine cg.mono ?_;intro e w2 h2;have u2:=u1.trans (h2.below.mono u1.size);rcases hs:Qaw rs x with _ | s
   ·obtain rfl:=h2.bad hs;exact ⟨rfl,u2,fun h=>absurd ((HA.o▸h).2.2.symm.trans hs) (by simp),fun _=>rfl⟩
   obtain rfl:=h2.good s hs;clear h2 cg u1;have HS:Sh _:=⟨hs⟩;by_cases h1:s=1
   ·have hb:(s != 1)=false:=by simp [h1]
    have H1:Sh _:=⟨h1⟩;have hr:=Qbb w2;clear h1 hs;go_wp2_with fail;refine hr.mono ?_;rintro e w3 ⟨rfl,hw⟩;rw [hw];clear hw hr hb;go_wp2_with fail;go_ret;have ua:=(Below.refl w2.heap.size w2).alloc Lr (Jc #[.pointer pf,.slice (some ⟨bx,ox,none⟩) x.length cx] 117);exact ⟨u2.trans (ua.mono u2.size),fun _=>⟨_,rfl,HF.o w2 u2 HL.o⟩,fun h=>(h (HA.o▸⟨Decidable.byContradiction fun k=>H16.o (HM.o.2 k),HL.o,HS.o.trans (congrArg some H1.o)⟩)).elim⟩
   ·have hb:(s != 1)=true:=by simp [h1]
    have H1:Sh _:=⟨h1⟩;have hr:=QaV w2;clear h1 hs;go_wp2_with fail;refine hr.mono ?_;rintro e w3 ⟨rfl,hw⟩;rw [hw];exact ⟨rfl,u2,fun h=>absurd (Option.some.inj (HS.o.symm.trans (HA.o▸h).2.2)) H1.o,fun _=>rfl⟩
  ·obtain rfl:=h1.bad hl;exact ⟨rfl,u1,fun h=>absurd (HA.o▸h).2.1 hl,fun _=>rfl⟩
open Classical in
noncomputable def Qam:List (List Rat)→List (List Rat)→Option (List (List Rat))
 | acc, []=>some acc
 | acc,x :: xs=>if Adj acc x then Qam (x :: acc) xs else none
theorem QcG:∀ (acc xs ys:List (List Rat)),Qam acc (xs++ys)=(Qam acc xs).bind fun rs=>Qam rs ys
 | acc, [],ys=>rfl
 | acc,x :: xs,ys=>by
  rw [List.cons_append,Qam,Qam];split
  ·exact QcG _ xs ys
  ·rfl
theorem Qeh:∀ {acc xs rs:List (List Rat)},Qam acc xs=some rs→rs.length=acc.length+xs.length∧(xs ≠ []→rs.length≤4)
 | acc, [],rs,h=>by cases h;exact ⟨rfl,fun h=>absurd rfl h⟩
 | acc,x :: xs,rs,h=>by
  rw [Qam] at h;split at h
  ·rename_i ha;obtain ⟨h1,h2⟩:=Qeh h;refine ⟨by rw [h1];simp;omega,fun _ => ?_⟩;cases xs with
   | nil=>rw [h1];have:=ha.1;simp;omega
   | cons y ys=>exact h2 (by simp)
  ·cases h
structure TwAt (W:World) (v:Value) (L:List (List Rat)):Prop where
 ex:∃ p cap,v = .agg #[.slice p L.length cap]∧(L = []∨∃ bt ot,p=some ⟨bt,ot,none⟩∧∀ i x,L[i]? = some x→∃ vi,W.cell? ⟨bt,ot+i,none⟩=some vi∧El W vi x)
theorem TwAt.keep {W W':World} {v:Value} {L:List (List Rat)} (h:TwAt W v L) (hB:Below W.heap.size W W'):TwAt W' v L:=by
 obtain ⟨p,cap,e,h⟩:=h.ex;refine ⟨p,cap,e, ?_⟩;rcases h with h | ⟨bt,ot,e,h⟩
 ·exact .inl h
 ·exact .inr ⟨bt,ot,e,fun i x hx=>by
   obtain ⟨vi,h1,h2⟩:=h i x hx;exact ⟨vi,Qae h1 hB,h2.keep hB⟩⟩
structure AnsG (o:Option (List (List Rat))) (w:World) (e:Ending) (w':World):Prop where
 below:Below w.heap.size w w'
 good:∀ rs,o=some rs→∃ f,e = .returned f∧Fd w' f rs
 bad:o=none→e = .panicked twP
def FitT (L:List (List Rat)):Prop:=∀ x∈L,FitL x∧x.length≤1000
theorem Qkh (p:Option Addr) (cap:Nat) (w:World):Calls Tryz.prog 92 #[.agg #[.slice p 0 cap]] w (AnsG (Qam [] []) w):=by
 have u:=(Below.refl w.heap.size w).alloc Lr (Jc #[.slice p 0 cap] 28);have n_x:(w.alloc (Jc #[.slice p 0 cap] 28)).heap[w.heap.size]? = _:=World.alloc_heap_new w _;have x0:=En.Qaa n_x 0 (v:=.slice p 0 cap) rfl;have hs:Qam [] []=some []:=rfl;rw [hs];clear hs;go_enter Tryz.func92, Tryz.ntmps92;go_wp2_with fail;refine wp_loop_rounds 1 ?_;rw [rounds_succ];go_wp2_with fail;go_ret;exact ⟨u,fun rs h=>(by cases h;exact ⟨_,rfl,rfl⟩),fun h=>(by cases h)⟩
theorem Qdl {L:List (List Rat)} (hL:FitT L) (hn:L.length≤1000) {t:Value} (w:World) (hg:Gl w) (ht:TwAt w t L) :
  Calls Tryz.prog 92 #[t] w (AnsG (Qam [] L) w):=by
 obtain ⟨p,cap,rfl,h⟩:=ht.ex;rcases h with rfl | ⟨bt,ot,rfl,h⟩
 ·exact Qkh p cap w
 have u:=(Below.refl w.heap.size w).alloc Lr (Jc #[.slice (some ⟨bt,ot,none⟩) L.length cap] 28);have n_x:(w.alloc (Jc #[.slice (some ⟨bt,ot,none⟩) L.length cap] 28)).heap[w.heap.size]? = _:=World.alloc_heap_new w _;have x0:=En.Qaa n_x 0 (v:=.slice (some ⟨bt,ot,none⟩) L.length cap) rfl;obtain ⟨O,hO⟩:∃ O,O=Qam [] L:=⟨_,rfl⟩;rw [←hO];have HO:Sh _:=⟨hO⟩;have HL:Sh _:=⟨hL⟩;have HG:Sh _:=⟨hg⟩;have HH:Sh _:=⟨h⟩;have U0:Sh _:=⟨u⟩;clear hO hL hg h ht u;obtain ⟨n,hnn⟩:∃ n,n=L.length:=⟨_,rfl⟩;rw [←hnn] at hn x0 n_x ⊢;have HN:Sh _:=⟨hnn⟩;rw [←hnn] at U0;clear hnn;go_enter Tryz.func92, Tryz.ntmps92;go_wp2_with fail;clear x0 n_x;generalize (w.alloc (Jc #[.slice (some ⟨bt,ot,none⟩) n cap] 28))=W0 at *
 go_loopw [3,5,9] (fun fv _ jv wr=>∃ (j:Nat) (rs:List (List Rat)),j≤n∧jv = .int .i64 (j:Int)∧Sh (Fd wr fv rs∧Below w.heap.size w wr)∧Sh (Qam [] (L.take j)=some rs)) (fun _ _ jv _=>n-(intOf jv).toNat)
 case atStart=>exact ⟨0, [],Nat.zero_le _,rfl,⟨rfl,U0.o⟩,⟨by rw [List.take_zero];rfl⟩⟩
 case round =>
  obtain ⟨j,rs,hj,rfl,HF,HC⟩:=hrel;clear U0;obtain ⟨hf,u⟩:=HF.o;clear HF;by_cases hjn:j=n
  ·subst hjn;go_wp2_with fail;go_ret
   exact ⟨u,fun rs' h=>by
    have:=HC.o;rw [HN.o,List.take_length,←HO.o,h] at this;cases this;exact ⟨_,rfl,hf⟩,fun h=>by
    have:=HC.o;rw [HN.o,List.take_length,←HO.o,h] at this;cases this⟩
  ·have hjl:j<n:=by omega
   have hj2:(j:Int)<(n:Int):=by omega
   have hj3:(0:Int)≤(j:Int):=by omega
   have hjL:j<L.length:=by rw [←HN.o];exact hjl
   obtain ⟨vi,x0,ei⟩:=HH.o j L[j] (List.getElem?_eq_getElem hjL);replace x0:=Qae x0 u;have hfit:=HL.o L[j] (List.getElem_mem hjL);have hlen:=Qeh HC.o
   have hk:rs.length≤4:=by
    by_cases h0:L.take j = []
    ·rw [h0] at hlen;rw [hlen.1];simp
    ·exact hlen.2 h0
   have cE:=Qhw hk hfit.2 hfit.1 wr (HG.o.keep u) hf (ei.keep u)
   have hap:Qam [] (L.take (j+1))=(Qam [] (L.take j)).bind fun r=>Qam r [L[j]]:=by
    rw [List.take_succ_eq_append_getElem hjL,QcG]
   have hall:Qam [] L=(Qam [] (L.take (j+1))).bind fun r=>Qam r (L.drop (j+1)):=by
    rw [←QcG,List.take_append_drop]
   have HAP:Sh _:=⟨hap⟩;have HALL:Sh _:=⟨hall⟩;have hw1:IntKind.i64.wrap ((j:Int)+1)=(j:Int)+1:=by simp [IntKind.wrap,IntKind.signed,IntKind.bits];omega
   clear hap hall hlen hfit ei hf hk;generalize L[j]=xj at *
   go_wp2_with fail;refine cE.mono ?_;intro e v1 h1;have u1:=u.trans (h1.below.mono u.size);by_cases ha:Adj rs xj
   ·obtain ⟨f2,rfl,hf2⟩:=h1.good ha;have HA:Sh _:=⟨ha⟩;clear h1 cE ha x0;go_wp2_with fail
    go_roundw
    case rel=>exact ⟨j+1,xj :: rs,by omega,by first | rfl | go_num | simp,⟨hf2,u1⟩,⟨by rw [HAP.o,HC.o,Option.bind_some,Qam,if_pos HA.o];rfl⟩⟩
    case measure=>simp [intOf];omega
   ·obtain rfl:=h1.bad ha;have hnone:O=none:=by rw [HO.o,HALL.o,HAP.o,HC.o,Option.bind_some,Qam,if_neg ha];rfl
    exact ⟨rfl,u1,fun rs' h=>(by rw [hnone] at h;cases h),fun _=>rfl⟩
end Tw
end
section
namespace En
open Go.RowKit Go.Extern.Stop Go.Stop Go.Extern
open Go.Proofs.YtadcmepaniiciaaGreatDoor.Nm Go.Proofs.YtadcmepaniiciaaGreatDoor.Rt
def Qdy (R:Nat→List Value):Nat→List Value
 | 0 => []
 | t+1=>Qdy R t++R t
theorem Qhx {s:Nat} (R:Nat→List Value):∀ t,(∀ i,i<t→(R i).length=s)→(Qdy R t).length=t*s
 | 0,_=>by rw [Nat.zero_mul];rfl
 | t+1,h=>by rw [Qdy,List.length_append,Qhx R t (fun i hi=>h i (by omega)),h t (by omega),Nat.succ_mul]
theorem Qjk {s:Nat} (R:Nat→List Value):∀ t,(∀ i,i<t→(R i).length=s)→∀ j i,j<t→i<s→(Qdy R t)[j*s+i]? = (R j)[i]?
 | 0,_,_,_,h,_=>absurd h (by omega)
 | t+1,hl,j,i,h,hi=>by
  have hlen:=Qhx R t (fun i hi=>hl i (by omega));rw [Qdy];rcases Nat.lt_or_ge j t with h1 | h1
  ·have:j*s+i<t*s:=by
    have:=Nat.mul_le_mul_right s (show j+1≤t by omega);rw [Nat.succ_mul] at this;omega
   rw [List.getElem?_append_left (by omega)];exact Qjk R t (fun i hi=>hl i (by omega)) j i h1 hi
  ·obtain rfl:j=t:=by omega
   rw [List.getElem?_append_right (by omega),hlen,Nat.add_sub_cancel_left]
def OwnG (e:TypeId) (s:Nat) (W:World) (base:Nat) (v:Value) (t:Nat) (R:Nat→List Value):Prop:=W.ownsRow base e s v t (Qdy R t)
theorem OwnG.nil (e:TypeId) (s:Nat) (W:World) (base:Nat) (R:Nat→List Value):OwnG e s W base (.slice none 0 0) 0 R:=World.ownsRow_nil W base _ _
theorem OwnG.below {e:TypeId} {s:Nat} {W W':World} {base t:Nat} {v:Value} {R:Nat→List Value} (h:OwnG e s W base v t R) (hb:Below W.heap.size W W'):OwnG e s W' base v t R:=by
 refine ⟨h.1, ?_⟩;rcases h.2 with hn | ⟨g,cap,cur,e,hg,hgg,rest⟩
 ·exact .inl hn
 ·exact .inr ⟨g,cap,cur,e,hg,by rw [hb.block g (Array.getElem?_eq_some_iff.1 hgg).1];exact hgg,rest⟩
theorem OwnG.new {e:TypeId} {s:Nat} {W:World} {base t:Nat} {v:Value} {R:Nat→List Value} (h:OwnG e s W base v t R) (b:Nat) (hb:W.heap.size≤b):v.ownBlock≠some b:=by
 rcases h.2 with ⟨rfl,_⟩ | ⟨g,cap,cur,rfl,hg,hgg,rest⟩
 ·simp [Value.ownBlock]
 ·have:=(Array.getElem?_eq_some_iff.1 hgg).1;simp [Value.ownBlock];omega
theorem OwnG.low {e:TypeId} {s:Nat} {W:World} {base t:Nat} {v:Value} {R:Nat→List Value} (h:OwnG e s W base v t R) (b:Nat) (hb:b<base):v.ownBlock≠some b:=by
 rcases h.2 with ⟨rfl,_⟩ | ⟨g,cap,cur,rfl,hg,hgg,rest⟩
 ·simp [Value.ownBlock]
 ·simp [Value.ownBlock];omega
theorem OwnG.beside {e:TypeId} {s:Nat} {W W':World} {base t:Nat} {v u:Value} {R:Nat→List Value} (h:OwnG e s W base v t R) (hg:W.grownBy W' u.ownBlock) (hn:v.ownBlock=none∨v.ownBlock≠u.ownBlock):OwnG e s W' base v t R:=World.ownsRow.kept h hg hn
theorem OwnG.shape {e:TypeId} {s:Nat} {W:World} {base t:Nat} {v:Value} {R:Nat→List Value} (h:OwnG e s W base v (t+1) R) (hl:∀ i,i<t+1→(R i).length=s):∃ g cap,v = .slice (some ⟨g,0,none⟩) (t+1) cap∧base≤g∧t+1≤cap∧cap≤maxLen∧∃ cur,W.heap[g]? = some (.cells cur e (0,0))∧∀ j i,j<t+1→i<s→cur[j*s+i]? = (R j)[i]? := by
 rcases h.2 with ⟨_,hn⟩ | ⟨g,cap,cur,rfl,hg,hgg,h1,h2,h3,h4⟩
 ·cases hn
 ·refine ⟨g,cap,rfl,hg,h1,h2,cur,hgg,fun j i hj hi => ?_⟩;have hc:=Qjk R (t+1) hl j i hj hi
  have hlt:j*s+i<(t+1)*s:=by
   have:=Nat.mul_le_mul_right s (show j+1≤t+1 by omega);rw [Nat.succ_mul] at this;omega
  rw [←h4,List.getElem?_take_of_lt hlt,Array.getElem?_toList] at hc;exact hc
theorem QbT {e:TypeId} {s B t base:Nat} {R:Nat→List Value} {w w1 w3:World} {v:Value} (hb:Below B w w1) (hB:B≤w.heap.size) (hBb:B≤base) (hO:OwnG e s w1 base v t R) (hg:w1.grownBy w3 v.ownBlock):Below B w w3 :=
 hb.trans ⟨hg.os,hg.tape,hg.output,hg.size,fun k hk=>hg.block k (Nat.lt_of_lt_of_le (Nat.lt_of_lt_of_le hk hB) hb.size) (fun e=>by
  rcases hO.2 with ⟨rfl,_⟩ | ⟨g,cap,cur,rfl,h1,_⟩
  ·simp [Value.ownBlock] at e
  ·simp [Value.ownBlock] at e;omega)⟩
theorem Qry:(Tryz.prog.info? 29).map (fun i=>(i.zero,i.size,i.bytes))=some (some (.slice none 0 0),1,24):=by kernel_rfl
theorem QuM {w:World} {ops:Array Oper} {rest:List Oper} {o:Oper} {a:Act} {Q:Exit→Act→World→Prop} (hgd:o.guard=none) (s x:Operand)
  (ho:o.op = .call {callee:=.builtin .append,args:=#[s,x],argTypes:=#[26, 26]}) (base:Nat) (v:Value) (t:Nat) (R:Nat→List Value) (hs:a.eval s=v) (hown:OwnG 29 1 w base v t R)
  (Bx c:Nat) (hx:a.eval x = .slice (some ⟨Bx,0,none⟩) 1 c) (p:Option Addr) (n cp:Nat) (hR:R t = [.slice p n cp]) (hB:w.heap[Bx]? = some (Jc #[.slice p n cp] 29 (0,0))) (ht:t≤1000) (hb:base≤w.heap.size)
  (h:∀ v' w',OwnG 29 1 w' base v' (t+1) R→w.grownBy w' v.ownBlock→(v'.ownBlock=v.ownBlock∨v'.ownBlock=some w.heap.size)→wpList Tryz.prog ops Q rest (a.put o.dst v') w'):wpList Tryz.prog ops Q (o :: rest) a w:=by
 obtain ⟨i0,hinf,hz⟩:=Option.map_eq_some_iff.1 Qry;have hz0:i0.zero=some (.slice none 0 0):=congrArg (fun q=>q.1) hz;have hz1:i0.size=1:=congrArg (fun q=>q.2.1) hz;have hz2:i0.bytes=24:=congrArg (fun q=>q.2.2) hz;refine wpList_append_own_at w hgd s x 26 ho base 29 i0 _ 1 24 Tryz.underlying26 hinf hz0 hz1 hz2 rfl (by decide) v t _ hs hown ⟨Bx,0,none⟩ 1 c [.slice p n cp] hx rfl ?_ ?_ (by unfold maxLen;omega) (by omega) hb ?_
 ·intro j u hj;rw [Addr.add_lit,Nat.zero_add]
  match j,hj with
  | 0,hj=>exact Qaa hB 0 hj
 ·intro u hu;simp at hu;subst hu;rfl
 ·intro v' w' hown' hgrow _ hat;refine h v' w' ?_ hgrow hat;unfold OwnG;rw [Qdy,hR];exact hown'
theorem Qha {w:World} {ops:Array Oper} {o:Oper} {a:Act} {K:Act→World→Prop} {Q:Exit→Act→World→Prop} {E:Prop} (hgd:o.guard=none) (s x:Operand)
  (ho:o.op = .call {callee:=.builtin .append,args:=#[s,x],argTypes:=#[26, 26]}) (base:Nat) (v:Value) (t:Nat) (R:Nat→List Value) (hs:a.eval s=v) (hown:OwnG 29 1 w base v t R)
  (Bx c:Nat) (hx:a.eval x = .slice (some ⟨Bx,0,none⟩) 1 c) (p:Option Addr) (n cp:Nat) (hR:R t = [.slice p n cp]) (hB:w.heap[Bx]? = some (Jc #[.slice p n cp] 29 (0,0))) (ht:t≤1000) (hb:base≤w.heap.size)
  (hK:∀ v' w',OwnG 29 1 w' base v' (t+1) R→w.grownBy w' v.ownBlock→K (a.put o.dst v') w'):if Region.wanted o (yielded ops a.tmps)=true then Oper.wp Tryz.prog o a w K Q else E:=by
 obtain ⟨i0,hinf,hz⟩:=Option.map_eq_some_iff.1 Qry;have hz0:i0.zero=some (.slice none 0 0):=congrArg (fun q=>q.1) hz;have hz1:i0.size=1:=congrArg (fun q=>q.2.1) hz;have hz2:i0.bytes=24:=congrArg (fun q=>q.2.2) hz;refine Rt.QcP hgd s x 26 ho base 29 i0 _ 1 24 Tryz.underlying26 hinf hz0 hz1 hz2 rfl (by decide) v t _ hs hown ⟨Bx,0,none⟩ 1 c [.slice p n cp] hx rfl ?_ ?_ (by unfold maxLen;omega) (by omega) hb ?_
 ·intro j u hj;rw [Addr.add_lit,Nat.zero_add]
  match j,hj with
  | 0,hj=>exact Qaa hB 0 hj
 ·intro u hu;simp at hu;subst hu;rfl
 ·intro v' w' hown' hgrow;refine hK v' w' ?_ hgrow;unfold OwnG;rw [Qdy,hR];exact hown'
theorem Qci {w:World} {ops:Array Oper} {a:Act} {K:Act→World→Prop} {Q:Exit→Act→World→Prop} {E:Prop} {ty:TypeId} {pos:String} {after:Array Edge}
  (d s x:Nat) (base:Nat) (t:Nat) (R:Nat→List Value) (hown:OwnG 29 1 w base (a.eval (.tmp s)) t R)
  (Bx c:Nat) (hx:a.eval (.tmp x) = .slice (some ⟨Bx,0,none⟩) 1 c) (p:Option Addr) (n cp:Nat) (hR:R t = [.slice p n cp]) (hB:w.heap[Bx]? = some (Jc #[.slice p n cp] 29 (0,0))) (ht:t≤1000) (hb:base≤w.heap.size)
  (hK:∀ v' w',OwnG 29 1 w' base v' (t+1) R→w.grownBy w' (a.eval (.tmp s)).ownBlock→K (a.put (some d) v') w'):if Region.wanted {dst:=some d,op:=.call {callee:=.builtin .append,args:=#[.tmp s,.tmp x],argTypes:=#[26, 26]},type:=ty,pos:=pos,after:=after,guard:=none} (yielded ops a.tmps)=true then Oper.wp Tryz.prog {dst:=some d,op:=.call {callee:=.builtin .append,args:=#[.tmp s,.tmp x],argTypes:=#[26, 26]},type:=ty,pos:=pos,after:=after,guard:=none} a w K Q else E :=
 Qha rfl (.tmp s) (.tmp x) rfl base _ t R rfl hown Bx c hx p n cp hR hB ht hb hK
end En
end
section
namespace Tw
open Go.RowKit Go.Extern.Stop Go.Stop Go.Extern
open En Go.Proofs.YtadcmepaniiciaaGreatDoor.Nm Go.Proofs.YtadcmepaniiciaaGreatDoor.Rt
theorem Qfu {R R':Nat→List Value}:∀ t,(∀ i,i<t→R i=R' i)→Qdy R t=Qdy R' t
 | 0,_=>rfl
 | t+1,h=>by rw [Qdy,Qdy,Qfu t (fun i hi=>h i (by omega)),h t (by omega)]
theorem QmF {e:TypeId} {s:Nat} {W:World} {base t:Nat} {v:Value} {R R':Nat→List Value} (h:OwnG e s W base v t R) (hR:∀ i,i<t→R i=R' i):OwnG e s W base v t R':=by
 unfold OwnG at h ⊢;rw [←Qfu t hR];exact h
def Yng (base:Nat) (W:World) (v:Value) (l:List Rat):Prop:=∃ b cp,v = .slice (some ⟨b,0,none⟩) l.length cp∧l.length≤cp∧base≤b∧Cl W b 0 l.length (pqs l)
theorem Yng.keep {base:Nat} {W W':World} {v:Value} {l:List Rat} (h:Yng base W v l) (hB:Below W.heap.size W W'):Yng base W' v l:=by
 obtain ⟨b,cp,e,h1,h2,h3⟩:=h;exact ⟨b,cp,e,h1,h2,h3.keep hB⟩
theorem Yng.el {base:Nat} {W:World} {v:Value} {l:List Rat} (h:Yng base W v l):El W v l:=by
 obtain ⟨b,cp,e,h1,h2,h3⟩:=h;exact ⟨b,0,cp,e,h1,h3⟩
structure Rds (base:Nat) (W:World) (v:Value) (L:List (List Rat)) (V:Nat→Value):Prop where
 own:OwnG 29 1 W base v L.length (fun i => [V i])
 el:∀ i d,L[i]? = some d→Yng base W (V i) d
 pos:∀ d∈L,1≤d.length
structure AnsD (L:List (List Rat)) (w:World) (e:Ending) (w':World):Prop where
 below:Below w.heap.size w w'
 good:∃ v V,e = .returned v∧Rds w.heap.size w' v L V
theorem QuN {W:World} {base t:Nat} {v:Value} {V:Nat→Value} (h:OwnG 29 1 W base v t (fun i => [V i])) (ht:0<t) {p:Option Addr} {n c:Nat} (hV:V 0 = .slice p n c) {b:Nat} {s:ByteArray} (hc:W.cell? ⟨b,0,none⟩=some (J s)):v.ownBlock≠some b:=by
 obtain ⟨k,rfl⟩:∃ k,t=k+1:=⟨t-1,by omega⟩;obtain ⟨g,cap,rfl,_,_,_,cur,hg,h0⟩:=h.shape (fun i _=>rfl);intro e;simp [Value.ownBlock] at e;subst e;have:=h0 0 0 (by omega) (by omega);rw [hV] at this;have h2:=En.Qaa hg 0 (v:=.slice p n c) this;rw [h2] at hc;cases hc
theorem QgP {e:TypeId} {W:World} {base m:Nat} {v:Value} {V:Nat→Value} (h:OwnG e 1 W base v m (fun i => [V i])) (x:Value):OwnG e 1 W base v m (fun i => [if i=m then x else V i]) :=
 QmF h fun i hi=>by show [V i] = [if i=m then x else V i];rw [if_neg (by omega)]
theorem Rds.snoc {base:Nat} {W W':World} {v v':Value} {L:List (List Rat)} {V:Nat→Value} {d:List Rat} {x:Value} (h:Rds base W v L V) (hx:Yng base W x d) (hd:1≤d.length) (hnew:∀ b cp,x = .slice (some ⟨b,0,none⟩) d.length cp→v.ownBlock≠some b) (hg:W.grownBy W' v.ownBlock)
  (ho:OwnG 29 1 W' base v' (L.length+1) (fun i => [if i=L.length then x else V i])):Rds base W' v' (L ++ [d]) (fun i=>if i=L.length then x else V i):=by
 refine ⟨by rw [List.length_append];exact ho,fun i y hy => ?_,fun y hy => ?_⟩
 ·by_cases hi:i=L.length
  ·subst hi;rw [List.getElem?_append_right Lr,Nat.sub_self] at hy;cases hy;show Yng base W' (if L.length=L.length then x else V L.length) d;rw [if_pos rfl];obtain ⟨b,cp,e,h1,h2,h3⟩:=hx;exact ⟨b,cp,e,h1,h2,h3.grown hg (hnew b cp e)⟩
  ·have hlt:i<L.length:=by
    rcases Nat.lt_or_ge i L.length with k | k
    ·exact k
    ·rw [List.getElem?_append_right k] at hy;rw [List.getElem?_eq_none (by simp;omega)] at hy;cases hy
   rw [List.getElem?_append_left hlt] at hy;show Yng base W' (if i=L.length then x else V i) y;rw [if_neg hi];obtain ⟨b,cp,e,h1,h2,h3⟩:=h.el i y hy;have hp:=h.pos y (List.mem_of_getElem? hy);obtain ⟨y0,hy0⟩:∃ y0,L[0]? = some y0:=⟨_,List.getElem?_eq_getElem (by omega)⟩;obtain ⟨b0,cp0,e0,_⟩:=h.el 0 y0 hy0;have hne:=QuN h.own (by omega) e0 (b:=b) (s:=(pqs y 0).1) (by have:=(h3.at_ 0 hp).1;rwa [Nat.zero_add] at this);exact ⟨b,cp,e,h1,h2,h3.grown hg hne⟩
 ·rcases List.mem_append.1 hy with k | k
  ·exact h.pos y k
  ·rw [List.mem_singleton.1 k];exact hd
theorem Rds.keep {base:Nat} {W W':World} {v:Value} {L:List (List Rat)} {V:Nat→Value} (h:Rds base W v L V) (hB:Below W.heap.size W W'):Rds base W' v L V:=⟨h.own.below hB,fun i d hd=>(h.el i d hd).keep hB,h.pos⟩
theorem QgQ:∀ {rs:List (List Rat)},rs.length≤4→∀ {f:Value} (w:World),Fd w f rs→Calls Tryz.prog 58 #[f] w (AnsD rs.reverse w)
 | [],_,f,w,hf=>by
  obtain rfl:f = .pointer none:=hf;go_enter Tryz.func58, Tryz.ntmps58;go_wp2_with fail;go_ret;exact ⟨Below.refl _ _,_,fun _ => .slice none 0 0,rfl,OwnG.nil _ _ _ _ _,fun i d h=>(by cases h),fun d h=>(by cases h)⟩
 | d :: rs,hk,f,w,hf=>by
  have hk':rs.length≤4:=by simp at hk;omega
  have hp:=QbG hk';obtain ⟨fb,lv,rv,rfl,n_f,hl,er,hd,fd⟩:=hf;have cR:Sh _:=⟨QgQ hk' w.drew (Fd.keep (QaS (Below.refl _ _)) hl)⟩;obtain ⟨br,orr,cr,hrv,_,hcl⟩:=er.ex;subst hrv;have cK:Sh (∀ W:World,Below w.heap.size w W→Calls Tryz.prog 104 #[.slice (some ⟨br,orr,none⟩) d.length cr] W (AnsE True d.length (pqs d) W)):=⟨fun W u=>Qjg br orr d.length cr (by omega) (pqs d) W (hcl.keep u)⟩;obtain ⟨pl,rfl⟩:=hl.ptr;have HR:Sh ((d :: rs).reverse=rs.reverse ++ [d]):=⟨List.reverse_cons ..⟩;have HD:Sh (1≤d.length):=⟨by omega⟩;obtain ⟨m,hm⟩:∃ m,m=rs.reverse.length:=⟨_,rfl⟩;have HM:Sh (rs.reverse.length=m∧m≤4):=⟨⟨hm.symm,by rw [hm,List.length_reverse];exact hk'⟩⟩;have f0:=En.Qaa n_f 0 (v:=.pointer pl) rfl;have f1:=En.Qaa n_f 1 (v:=.slice (some ⟨br,orr,none⟩) d.length cr) rfl;rw [HR.o];clear hl er hd fd hk hk' hp hm hcl;go_enter Tryz.func58, Tryz.ntmps58;go_wp2_with fail
  go_region_held3 (fun X=>X.cell? ⟨fb,0,none⟩=some (.pointer pl)∧X.cell? ⟨fb,1,none⟩=some (.slice (some ⟨br,orr,none⟩) d.length cr)) (go_keep) (first | (go_at_call 58; (with_reducible refine cR.o.mono ?_);intro e v1 h1;have u1:Below w.heap.size w v1:=Qah h1.below;obtain ⟨lst,V,rfl,hV⟩:=h1.good;have HV:Sh (Rds w.heap.size v1 lst rs.reverse V):=⟨hV⟩;clear h1 hV;replace f0:=Qae f0 u1;replace f1:=Qae f1 u1) | (go_at_call 104; (with_reducible refine (cK.o v1 u1).mono ?_);intro e v2 h2;have u2:=u1.trans (h2.below.mono u1.size);obtain ⟨bq,cq,rfl,h21,h22,h23,h24⟩:=h2.good trivial;have UA:=(Below.refl v2.heap.size v2).alloc Lr (Jc #[.slice (some ⟨bq,0,none⟩) d.length cq] 29);have n_n:=World.alloc_heap_new v2 (Jc #[.slice (some ⟨bq,0,none⟩) d.length cq] 29);have U3:=u2.trans (UA.mono u2.size);have HV2:=(HV.o.keep h2.below).keep UA;have HN:Sh _:=⟨fun (k:Nat) (hk:v1.heap.size≤k)=>HV.o.own.new k hk⟩;have hy:Yng w.heap.size _ (.slice (some ⟨bq,0,none⟩) d.length cq) d:=(⟨bq,cq,rfl,h22,Nat.le_trans u1.size h21,h24.keep UA⟩:Yng w.heap.size (v2.alloc (Jc #[.slice (some ⟨bq,0,none⟩) d.length cq] 29)) _ d);have HM4:Sh (m≤1000):=⟨by have:=HM.o.2;omega⟩;have hown:=HM.o.1▸QgP HV2.own (.slice (some ⟨bq,0,none⟩) d.length cq);have f0:v2.cell? ⟨fb,0,none⟩=_:=Qae (En.Qaa n_f 0 rfl) u2;have f1:v2.cell? ⟨fb,1,none⟩=_:=Qae (En.Qaa n_f 1 rfl) u2;clear h2) | ((refine Qci 16 9 15 w.heap.size m (fun i => [if i=m then .slice (some ⟨bq,0,none⟩) d.length cq else V i]) ?_ v2.heap.size 1 ?_ (some ⟨bq,0,none⟩) d.length cq ?_ ?_ ?_ ?_ ?_);(next=>go_must (exact hown));(next=>go_must (rfl));(next=>go_must (show [_] = [_];rw [if_pos rfl]));(next=>go_must (exact n_n));(next=>go_must (exact HM4.o));(next=>go_must (exact U3.size));intro v3 w3 hO3 hgr;go_must (have u3:=En.QbT U3 Lr Lr hown hgr);go_must (have RF:Sh (AnsD (rs.reverse ++ [d]) w (.returned v3) w3):=⟨⟨u3,v3,_,rfl,Rds.snoc HV2 hy HD.o (fun b cp e=>by injection e with e;injection e with e;injection e with e;rw [←e];exact HN.o bq h21) hgr (by rw [HM.o.1];exact hO3)⟩⟩);go_must (have f0:w3.cell? ⟨fb,0,none⟩=_:=Qae (En.Qaa n_f 0 rfl) u3);have f1:w3.cell? ⟨fb,1,none⟩=_:=Qae (En.Qaa n_f 1 rfl) u3) | fail)
  all_goals (go_wp2_with fail;go_ret;exact RF.o)
end Tw
end
section
namespace Tw
open Go.RowKit Go.Extern.Stop Go.Stop Go.Extern
open En
theorem QcH (c:Int) (w:World):(Instr.typeAssert (.iface 32 (.int .i64 c)) 20 32 true).run Tryz.prog w = .ok (.tuple #[.int .i64 c,.bool true]) w:=by
 simp [Instr.typeAssert,run_underlying Tryz.underlying32, go_sem]
theorem QqB (p:Addr) (w:World) :
  CallsD Tryz.prog 91 #[.pointer (some p)] .returning w fun e u' w'=>e = .returned (.tuple #[])∧u' = .returning∧w'=w:=by
 refine callsD_of_wpS Tryz.func91 rfl fun c₀ cs hu => ?_;apply wpS_seq;apply wpS_region;simp [wpOpsS,go_sem,recoverD,hu,Tryz.ntmps91, Exit.thenS];refine wpS_of_wp ?_;go_wp2;cases c₀
 simp_all [go_sem,bodyPostS,results,Tryz.results91]
theorem Qhy (p:Addr) (x:Value) (older:List PanicEntry) (w:World) (hc:w.cell? p=some x) (hz:w.frozen? p=false) :
  CallsD Tryz.prog 91 #[.pointer (some p)] (.panicking ({v:=twV,recovered:=false} :: older)) w fun e u' w'=>e = .returned (.tuple #[])∧u' = .panicking ({v:=twV,recovered:=true} :: older)∧w'=w.setCell p (.int .i64 60):=by
 refine callsD_of_wpS Tryz.func91 rfl fun c₀ cs hu => ?_;apply wpS_seq;apply wpS_region;simp [wpOpsS,go_sem,recoverD,hu,Tryz.ntmps91, Exit.thenS];refine wpS_of_wp ?_;have ha:=QcH 60 w;go_wp2;cases c₀
 simp_all [go_sem,bodyPostS,results,Tryz.results91]
theorem QqC (p:Addr) (w:World) :
  CallsD Tryz.prog 101 #[.pointer (some p)] .returning w fun e u' w'=>e = .returned (.tuple #[])∧u' = .returning∧w'=w:=by
 refine callsD_of_wpS Tryz.func101 rfl fun c₀ cs hu => ?_;apply wpS_seq;apply wpS_region;simp [wpOpsS,go_sem,recoverD,hu,Tryz.ntmps101, Exit.thenS];refine wpS_of_wp ?_;go_wp2;cases c₀
 simp_all [go_sem,bodyPostS,results,Tryz.results101]
theorem Qhz (p:Addr) (x:Value) (older:List PanicEntry) (w:World) (hc:w.cell? p=some x) (hz:w.frozen? p=false) :
  CallsD Tryz.prog 101 #[.pointer (some p)] (.panicking ({v:=twV,recovered:=false} :: older)) w fun e u' w'=>e = .returned (.tuple #[])∧u' = .panicking ({v:=twV,recovered:=true} :: older)∧w'=w.setCell p (.int .i64 60):=by
 refine callsD_of_wpS Tryz.func101 rfl fun c₀ cs hu => ?_;apply wpS_seq;apply wpS_region;simp [wpOpsS,go_sem,recoverD,hu,Tryz.ntmps101, Exit.thenS];refine wpS_of_wp ?_;have ha:=QcH 60 w;go_wp2;cases c₀
 simp_all [go_sem,bodyPostS,results,Tryz.results101]
theorem QqD (p:Addr) (w:World) :
  CallsD Tryz.prog 134 #[.pointer (some p)] .returning w fun e u' w'=>e = .returned (.tuple #[])∧u' = .returning∧w'=w:=by
 refine callsD_of_wpS Tryz.func134 rfl fun c₀ cs hu => ?_;apply wpS_seq;apply wpS_region;simp [wpOpsS,go_sem,recoverD,hu,Tryz.ntmps134, Exit.thenS];refine wpS_of_wp ?_;go_wp2;cases c₀
 simp_all [go_sem,bodyPostS,results,Tryz.results134]
theorem QhA (p:Addr) (x:Value) (older:List PanicEntry) (w:World) (hc:w.cell? p=some x) (hz:w.frozen? p=false) :
  CallsD Tryz.prog 134 #[.pointer (some p)] (.panicking ({v:=twV,recovered:=false} :: older)) w fun e u' w'=>e = .returned (.tuple #[])∧u' = .panicking ({v:=twV,recovered:=true} :: older)∧w'=w.setCell p (.int .i64 60):=by
 refine callsD_of_wpS Tryz.func134 rfl fun c₀ cs hu => ?_;apply wpS_seq;apply wpS_region;simp [wpOpsS,go_sem,recoverD,hu,Tryz.ntmps134, Exit.thenS];refine wpS_of_wp ?_;have ha:=QcH 60 w;go_wp2;cases c₀
 simp_all [go_sem,bodyPostS,results,Tryz.results134]
theorem QqE (p:Addr) (w:World) :
  CallsD Tryz.prog 107 #[.pointer (some p)] .returning w fun e u' w'=>e = .returned (.tuple #[])∧u' = .returning∧w'=w:=by
 refine callsD_of_wpS Tryz.func107 rfl fun c₀ cs hu => ?_;apply wpS_seq;apply wpS_region;simp [wpOpsS,go_sem,recoverD,hu,Tryz.ntmps107, Exit.thenS];refine wpS_of_wp ?_;go_wp2;cases c₀
 simp_all [go_sem,bodyPostS,results,Tryz.results107]
theorem QhB (p:Addr) (x:Value) (older:List PanicEntry) (w:World) (hc:w.cell? p=some x) (hz:w.frozen? p=false) :
  CallsD Tryz.prog 107 #[.pointer (some p)] (.panicking ({v:=twV,recovered:=false} :: older)) w fun e u' w'=>e = .returned (.tuple #[])∧u' = .panicking ({v:=twV,recovered:=true} :: older)∧w'=w.setCell p (.int .i64 60):=by
 refine callsD_of_wpS Tryz.func107 rfl fun c₀ cs hu => ?_;apply wpS_seq;apply wpS_region;simp [wpOpsS,go_sem,recoverD,hu,Tryz.ntmps107, Exit.thenS];refine wpS_of_wp ?_;have ha:=QcH 60 w;go_wp2;cases c₀
 simp_all [go_sem,bodyPostS,results,Tryz.results107]
theorem QqF (p:Addr) (w:World) :
  CallsD Tryz.prog 108 #[.pointer (some p)] .returning w fun e u' w'=>e = .returned (.tuple #[])∧u' = .returning∧w'=w:=by
 refine callsD_of_wpS Tryz.func108 rfl fun c₀ cs hu => ?_;apply wpS_seq;apply wpS_region;simp [wpOpsS,go_sem,recoverD,hu,Tryz.ntmps108, Exit.thenS];refine wpS_of_wp ?_;go_wp2;cases c₀
 simp_all [go_sem,bodyPostS,results,Tryz.results108]
theorem QhC (p:Addr) (x:Value) (older:List PanicEntry) (w:World) (hc:w.cell? p=some x) (hz:w.frozen? p=false) :
  CallsD Tryz.prog 108 #[.pointer (some p)] (.panicking ({v:=twV,recovered:=false} :: older)) w fun e u' w'=>e = .returned (.tuple #[])∧u' = .panicking ({v:=twV,recovered:=true} :: older)∧w'=w.setCell p (.int .i64 60):=by
 refine callsD_of_wpS Tryz.func108 rfl fun c₀ cs hu => ?_;apply wpS_seq;apply wpS_region;simp [wpOpsS,go_sem,recoverD,hu,Tryz.ntmps108, Exit.thenS];refine wpS_of_wp ?_;have ha:=QcH 60 w;go_wp2;cases c₀
 simp_all [go_sem,bodyPostS,results,Tryz.results108]
theorem QqG (p:Addr) (w:World) :
  CallsD Tryz.prog 119 #[.pointer (some p)] .returning w fun e u' w'=>e = .returned (.tuple #[])∧u' = .returning∧w'=w:=by
 refine callsD_of_wpS Tryz.func119 rfl fun c₀ cs hu => ?_;apply wpS_seq;apply wpS_region;simp [wpOpsS,go_sem,recoverD,hu,Tryz.ntmps119, Exit.thenS];refine wpS_of_wp ?_;go_wp2;cases c₀
 simp_all [go_sem,bodyPostS,results,Tryz.results119]
theorem QhD (p:Addr) (x:Value) (older:List PanicEntry) (w:World) (hc:w.cell? p=some x) (hz:w.frozen? p=false) :
  CallsD Tryz.prog 119 #[.pointer (some p)] (.panicking ({v:=twV,recovered:=false} :: older)) w fun e u' w'=>e = .returned (.tuple #[])∧u' = .panicking ({v:=twV,recovered:=true} :: older)∧w'=w.setCell p (.int .i64 60):=by
 refine callsD_of_wpS Tryz.func119 rfl fun c₀ cs hu => ?_;apply wpS_seq;apply wpS_region;simp [wpOpsS,go_sem,recoverD,hu,Tryz.ntmps119, Exit.thenS];refine wpS_of_wp ?_;have ha:=QcH 60 w;go_wp2;cases c₀
 simp_all [go_sem,bodyPostS,results,Tryz.results119]
end Tw
end
section
namespace Tw
open Go.RowKit Go.Extern.Stop Go.Stop Go.Extern
open En Go.Proofs.YtadcmepaniiciaaGreatDoor.Nm Go.Proofs.YtadcmepaniiciaaGreatDoor.Rt
structure AnsC (ok:Prop) (R:World→Value→Prop) (w:World) (e:Ending) (w':World):Prop where
 below:Below w.heap.size w w'
 good:ok→∃ v,e = .returned v∧R w' v
 bad:¬ ok→e = .panicked twP
structure AnsA (ok:Prop) (R:World→Value→Prop) (z:Value) (w:World) (e:Ending) (w':World):Prop where
 below:Below w.heap.size w w'
 good:ok→∃ v,e = .returned (.tuple #[v,.int .i64 0])∧R w' v
 bad:¬ ok→e = .returned (.tuple #[z,.int .i64 60])
theorem set_same {W:World} {b:Nat} {x:Value} {T:TypeId} (h:W.heap[b]? = some (Jc #[x] T (0,0))):W.setCell ⟨b,0,none⟩ x=W:=by
 obtain ⟨hl,hg⟩:=Array.getElem?_eq_some_iff.1 h;cases W with
 | mk heap _ _ _ _ =>
  simp only [World.setCell,World.mk.injEq,and_true] at *
  apply Array.ext
  ·simp
  ·intro i h1 h2;rw [Array.getElem_modify];split
   ·rename_i e;subst e;rw [hg];simp
   ·rfl
theorem Qcj (k:Nat) (caps:Array Value) (hk:Enters Tryz.prog k) {L:List (List Rat)} (hL:FitT L) (hn:L.length≤1000) {t:Value} (ok:Prop) (R:World→Value→Prop)
  (w:World) (hg:Gl w) (ht:TwAt w t L) (hno:Qam [] L=none→¬ ok)
  (hC:∀ rs,Qam [] L=some rs→∀ W f,Below w.heap.size w W→Fd W f rs→Calls Tryz.prog k (#[f]++caps) W (AnsC ok R W)) :
  Calls Tryz.prog 36 #[t,.func (.func k) #[] caps] w (AnsA ok R (.slice none 0 0) w):=by
 have hmf:=mkf;have HK:=fun W (u:Below w.heap.size w W)=>Qdl hL hn W (hg.keep u) (ht.keep u);obtain ⟨p,cap,rfl,h⟩:=ht.ex;clear h ht hL hn hg;generalize L.length=n at *
 generalize Qam [] L=O at *
 have CF:Sh _:=⟨HK⟩;have CC:Sh _:=⟨hC⟩;have HN:Sh _:=⟨hno⟩;clear HK hC hno
 go_enter_defers Tryz.func36, Tryz.ntmps36
 go_wp2_with fail;have n_e:=En.QaP w (Jc #[.slice p n cap] 28) (Jc #[.int .i64 0] 32);have u:=((Below.refl w.heap.size w).alloc Lr (Jc #[.slice p n cap] 28)).alloc (by simp) (Jc #[.int .i64 0] 32);generalize ((w.alloc (Jc #[.slice p n cap] 28)).alloc (Jc #[.int .i64 0] 32))=W0 at *
 refine (CF.o W0 u).mono ?_;intro e v1 h1;replace u:=u.trans (h1.below.mono u.size);replace n_e:=En.Qac n_e h1.below;cases O with
 | none =>
  obtain rfl:=h1.bad rfl;have hok:=HN.o rfl;clear h1 CF CC HN;have c0:=En.Qaa n_e 0 (v:=.int .i64 0) rfl;have f0:=En.Qad n_e 0;dsimp +zetaDelta only [Exit.then,Exit.inBlock];refine leaves_cons (f := 91) (args:=#[.pointer (some ⟨w.heap.size+1,0,none⟩)]) (by simp) (by simp [go_sem]) ?_;refine (Qhy ⟨w.heap.size+1,0,none⟩ (.int .i64 0) [] _ c0 f0).mono ?_;rintro e u' w'' ⟨rfl,rfl,rfl⟩;have r4:=World.cell?_setCell_same v1 ⟨w.heap.size+1,0,none⟩ (.int .i64 60) c0;show ∃ v,(results _ _).run _ _ = .ok v _∧AnsA _ _ _ _ _ _;exact ⟨.tuple #[.slice none 0 0,.int .i64 60],by simp [results,Tryz.results36, go_sem,r4],u.setCell (show w.heap.size≤(⟨w.heap.size+1,0,none⟩:Addr).block from Nat.le_succ _) _,fun h=>absurd h hok,fun _=>rfl⟩
 | some rs =>
  obtain ⟨f,rfl,hf⟩:=h1.good rs rfl;have cC:=CC.o rs rfl v1 f u hf;clear h1 CF CC hf;have hen:=fun a w=>hk a w;go_wp2_with fail;refine cC.mono ?_;intro e v2 h2;replace u:=u.trans (h2.below.mono u.size);replace n_e:=En.Qac n_e h2.below;have c0:=En.Qaa n_e 0 (v:=.int .i64 0) rfl;have f0:=En.Qad n_e 0;by_cases hok:ok
  ·obtain ⟨v,rfl,hv⟩:=h2.good hok;have hs:=set_same n_e;clear h2 cC;dsimp only
   go_wp
   refine leaves_cons (f := 91) (args:=#[.pointer (some ⟨w.heap.size+1,0,none⟩)]) (by simp) (by simp [go_sem]) ?_;refine (QqB ⟨w.heap.size+1,0,none⟩ _).mono ?_;rintro e u' w'' ⟨rfl,rfl,rfl⟩;show ∃ v,(results _ _).run _ _ = .ok v _∧AnsA _ _ _ _ _ _;exact ⟨.tuple #[v,.int .i64 0],by simp [results,Tryz.results36, go_sem,c0],u,fun _=>⟨v,rfl,hv⟩,fun h=>absurd hok h⟩
  ·obtain rfl:=h2.bad hok;clear h2 cC;dsimp +zetaDelta only [Exit.then,Exit.inBlock];refine leaves_cons (f := 91) (args:=#[.pointer (some ⟨w.heap.size+1,0,none⟩)]) (by simp) (by simp [go_sem]) ?_;refine (Qhy ⟨w.heap.size+1,0,none⟩ (.int .i64 0) [] _ c0 f0).mono ?_;rintro e u' w'' ⟨rfl,rfl,rfl⟩;have r4:=World.cell?_setCell_same v2 ⟨w.heap.size+1,0,none⟩ (.int .i64 60) c0;show ∃ v,(results _ _).run _ _ = .ok v _∧AnsA _ _ _ _ _ _;exact ⟨.tuple #[.slice none 0 0,.int .i64 60],by simp [results,Tryz.results36, go_sem,r4],u.setCell (show w.heap.size≤(⟨w.heap.size+1,0,none⟩:Addr).block from Nat.le_succ _) _,fun h=>absurd h hok,fun _=>rfl⟩
theorem Qki (k:Nat) (caps:Array Value) (hk:Enters Tryz.prog k) {L:List (List Rat)} (hL:FitT L) (hn:L.length≤1000) {t:Value} (ok:Prop) (R:World→Value→Prop)
  (w:World) (hg:Gl w) (ht:TwAt w t L) (hno:Qam [] L=none→¬ ok)
  (hC:∀ rs,Qam [] L=some rs→∀ W f,Below w.heap.size w W→Fd W f rs→Calls Tryz.prog k (#[f]++caps) W (AnsC ok R W)) :
  Calls Tryz.prog 45 #[t,.func (.func k) #[] caps] w (AnsA ok R (.int .i64 0) w):=by
 have hmf:=mkf;have HK:=fun W (u:Below w.heap.size w W)=>Qdl hL hn W (hg.keep u) (ht.keep u);obtain ⟨p,cap,rfl,h⟩:=ht.ex;clear h ht hL hn hg;generalize L.length=n at *
 generalize Qam [] L=O at *
 have CF:Sh _:=⟨HK⟩;have CC:Sh _:=⟨hC⟩;have HN:Sh _:=⟨hno⟩;clear HK hC hno
 go_enter_defers Tryz.func45, Tryz.ntmps45
 go_wp2_with fail;have n_e:=En.QaP w (Jc #[.slice p n cap] 28) (Jc #[.int .i64 0] 32);have u:=((Below.refl w.heap.size w).alloc Lr (Jc #[.slice p n cap] 28)).alloc (by simp) (Jc #[.int .i64 0] 32);generalize ((w.alloc (Jc #[.slice p n cap] 28)).alloc (Jc #[.int .i64 0] 32))=W0 at *
 refine (CF.o W0 u).mono ?_;intro e v1 h1;replace u:=u.trans (h1.below.mono u.size);replace n_e:=En.Qac n_e h1.below;cases O with
 | none =>
  obtain rfl:=h1.bad rfl;have hok:=HN.o rfl;clear h1 CF CC HN;have c0:=En.Qaa n_e 0 (v:=.int .i64 0) rfl;have f0:=En.Qad n_e 0;dsimp +zetaDelta only [Exit.then,Exit.inBlock];refine leaves_cons (f := 101) (args:=#[.pointer (some ⟨w.heap.size+1,0,none⟩)]) (by simp) (by simp [go_sem]) ?_;refine (Qhz ⟨w.heap.size+1,0,none⟩ (.int .i64 0) [] _ c0 f0).mono ?_;rintro e u' w'' ⟨rfl,rfl,rfl⟩;have r4:=World.cell?_setCell_same v1 ⟨w.heap.size+1,0,none⟩ (.int .i64 60) c0;show ∃ v,(results _ _).run _ _ = .ok v _∧AnsA _ _ _ _ _ _;exact ⟨.tuple #[.int .i64 0,.int .i64 60],by simp [results,Tryz.results45, go_sem,r4],u.setCell (show w.heap.size≤(⟨w.heap.size+1,0,none⟩:Addr).block from Nat.le_succ _) _,fun h=>absurd h hok,fun _=>rfl⟩
 | some rs =>
  obtain ⟨f,rfl,hf⟩:=h1.good rs rfl;have cC:=CC.o rs rfl v1 f u hf;clear h1 CF CC hf;have hen:=fun a w=>hk a w;go_wp2_with fail;refine cC.mono ?_;intro e v2 h2;replace u:=u.trans (h2.below.mono u.size);replace n_e:=En.Qac n_e h2.below;have c0:=En.Qaa n_e 0 (v:=.int .i64 0) rfl;have f0:=En.Qad n_e 0;by_cases hok:ok
  ·obtain ⟨v,rfl,hv⟩:=h2.good hok;have hs:=set_same n_e;clear h2 cC;dsimp only
   go_wp
   refine leaves_cons (f := 101) (args:=#[.pointer (some ⟨w.heap.size+1,0,none⟩)]) (by simp) (by simp [go_sem]) ?_;refine (QqC ⟨w.heap.size+1,0,none⟩ _).mono ?_;rintro e u' w'' ⟨rfl,rfl,rfl⟩;show ∃ v,(results _ _).run _ _ = .ok v _∧AnsA _ _ _ _ _ _;exact ⟨.tuple #[v,.int .i64 0],by simp [results,Tryz.results45, go_sem,c0],u,fun _=>⟨v,rfl,hv⟩,fun h=>absurd hok h⟩
  ·obtain rfl:=h2.bad hok;clear h2 cC;dsimp +zetaDelta only [Exit.then,Exit.inBlock];refine leaves_cons (f := 101) (args:=#[.pointer (some ⟨w.heap.size+1,0,none⟩)]) (by simp) (by simp [go_sem]) ?_;refine (Qhz ⟨w.heap.size+1,0,none⟩ (.int .i64 0) [] _ c0 f0).mono ?_;rintro e u' w'' ⟨rfl,rfl,rfl⟩;have r4:=World.cell?_setCell_same v2 ⟨w.heap.size+1,0,none⟩ (.int .i64 60) c0;show ∃ v,(results _ _).run _ _ = .ok v _∧AnsA _ _ _ _ _ _;exact ⟨.tuple #[.int .i64 0,.int .i64 60],by simp [results,Tryz.results45, go_sem,r4],u.setCell (show w.heap.size≤(⟨w.heap.size+1,0,none⟩:Addr).block from Nat.le_succ _) _,fun h=>absurd h hok,fun _=>rfl⟩
theorem Qkj (k:Nat) (caps:Array Value) (hk:Enters Tryz.prog k) {L:List (List Rat)} (hL:FitT L) (hn:L.length≤1000) {t:Value} (ok:Prop) (R:World→Value→Prop)
  (w:World) (hg:Gl w) (ht:TwAt w t L) (hno:Qam [] L=none→¬ ok)
  (hC:∀ rs,Qam [] L=some rs→∀ W f,Below w.heap.size w W→Fd W f rs→Calls Tryz.prog k (#[f]++caps) W (AnsC ok R W)) :
  Calls Tryz.prog 85 #[t,.func (.func k) #[] caps] w (AnsA ok R (.bool false) w):=by
 have hmf:=mkf;have HK:=fun W (u:Below w.heap.size w W)=>Qdl hL hn W (hg.keep u) (ht.keep u);obtain ⟨p,cap,rfl,h⟩:=ht.ex;clear h ht hL hn hg;generalize L.length=n at *
 generalize Qam [] L=O at *
 have CF:Sh _:=⟨HK⟩;have CC:Sh _:=⟨hC⟩;have HN:Sh _:=⟨hno⟩;clear HK hC hno
 go_enter_defers Tryz.func85, Tryz.ntmps85
 go_wp2_with fail;have n_e:=En.QaP w (Jc #[.slice p n cap] 28) (Jc #[.int .i64 0] 32);have u:=((Below.refl w.heap.size w).alloc Lr (Jc #[.slice p n cap] 28)).alloc (by simp) (Jc #[.int .i64 0] 32);generalize ((w.alloc (Jc #[.slice p n cap] 28)).alloc (Jc #[.int .i64 0] 32))=W0 at *
 refine (CF.o W0 u).mono ?_;intro e v1 h1;replace u:=u.trans (h1.below.mono u.size);replace n_e:=En.Qac n_e h1.below;cases O with
 | none =>
  obtain rfl:=h1.bad rfl;have hok:=HN.o rfl;clear h1 CF CC HN;have c0:=En.Qaa n_e 0 (v:=.int .i64 0) rfl;have f0:=En.Qad n_e 0;dsimp +zetaDelta only [Exit.then,Exit.inBlock];refine leaves_cons (f := 134) (args:=#[.pointer (some ⟨w.heap.size+1,0,none⟩)]) (by simp) (by simp [go_sem]) ?_;refine (QhA ⟨w.heap.size+1,0,none⟩ (.int .i64 0) [] _ c0 f0).mono ?_;rintro e u' w'' ⟨rfl,rfl,rfl⟩;have r4:=World.cell?_setCell_same v1 ⟨w.heap.size+1,0,none⟩ (.int .i64 60) c0;show ∃ v,(results _ _).run _ _ = .ok v _∧AnsA _ _ _ _ _ _;exact ⟨.tuple #[.bool false,.int .i64 60],by simp [results,Tryz.results85, go_sem,r4],u.setCell (show w.heap.size≤(⟨w.heap.size+1,0,none⟩:Addr).block from Nat.le_succ _) _,fun h=>absurd h hok,fun _=>rfl⟩
 | some rs =>
  obtain ⟨f,rfl,hf⟩:=h1.good rs rfl;have cC:=CC.o rs rfl v1 f u hf;clear h1 CF CC hf;have hen:=fun a w=>hk a w;go_wp2_with fail;refine cC.mono ?_;intro e v2 h2;replace u:=u.trans (h2.below.mono u.size);replace n_e:=En.Qac n_e h2.below;have c0:=En.Qaa n_e 0 (v:=.int .i64 0) rfl;have f0:=En.Qad n_e 0;by_cases hok:ok
  ·obtain ⟨v,rfl,hv⟩:=h2.good hok;have hs:=set_same n_e;clear h2 cC;dsimp only
   go_wp
   refine leaves_cons (f := 134) (args:=#[.pointer (some ⟨w.heap.size+1,0,none⟩)]) (by simp) (by simp [go_sem]) ?_;refine (QqD ⟨w.heap.size+1,0,none⟩ _).mono ?_;rintro e u' w'' ⟨rfl,rfl,rfl⟩;show ∃ v,(results _ _).run _ _ = .ok v _∧AnsA _ _ _ _ _ _;exact ⟨.tuple #[v,.int .i64 0],by simp [results,Tryz.results85, go_sem,c0],u,fun _=>⟨v,rfl,hv⟩,fun h=>absurd hok h⟩
  ·obtain rfl:=h2.bad hok;clear h2 cC;dsimp +zetaDelta only [Exit.then,Exit.inBlock];refine leaves_cons (f := 134) (args:=#[.pointer (some ⟨w.heap.size+1,0,none⟩)]) (by simp) (by simp [go_sem]) ?_;refine (QhA ⟨w.heap.size+1,0,none⟩ (.int .i64 0) [] _ c0 f0).mono ?_;rintro e u' w'' ⟨rfl,rfl,rfl⟩;have r4:=World.cell?_setCell_same v2 ⟨w.heap.size+1,0,none⟩ (.int .i64 60) c0;show ∃ v,(results _ _).run _ _ = .ok v _∧AnsA _ _ _ _ _ _;exact ⟨.tuple #[.bool false,.int .i64 60],by simp [results,Tryz.results85, go_sem,r4],u.setCell (show w.heap.size≤(⟨w.heap.size+1,0,none⟩:Addr).block from Nat.le_succ _) _,fun h=>absurd h hok,fun _=>rfl⟩
theorem Qkk (k:Nat) (caps:Array Value) (hk:Enters Tryz.prog k) {L:List (List Rat)} (hL:FitT L) (hn:L.length≤1000) {t:Value} (ok:Prop)
  (w:World) (R:World→World→Value→Prop) (hset:∀ W W' v b y,w.heap.size≤b→b<W.heap.size→R W W' v→R W (W'.setCell ⟨b,0,none⟩ y) v) (hform:∀ W W' v,R W W' v→∃ p n cap,v = .agg #[.slice p n cap]) (hg:Gl w) (ht:TwAt w t L) (hno:Qam [] L=none→¬ ok)
  (hC:∀ rs,Qam [] L=some rs→∀ W f,Below w.heap.size w W→Fd W f rs→Calls Tryz.prog k (#[f]++caps) W (AnsC ok (R W) W)) :
  Calls Tryz.prog 55 #[t,.func (.func k) #[] caps] w (AnsA ok (fun W' v=>∃ W,Below w.heap.size w W∧R W W' v) (.agg #[.slice none 0 0]) w):=by
 have hmf:=mkf;have HK:=fun W (u:Below w.heap.size w W)=>Qdl hL hn W (hg.keep u) (ht.keep u);obtain ⟨p,cap,rfl,h⟩:=ht.ex;clear h ht hL hn hg;generalize L.length=n at *
 generalize Qam [] L=O at *
 have CF:Sh _:=⟨HK⟩;have CC:Sh _:=⟨hC⟩;have HN:Sh _:=⟨hno⟩;clear HK hC hno
 go_enter_defers Tryz.func55, Tryz.ntmps55
 go_wp2_with fail;obtain ⟨_,n_r,n_e⟩:=En.new3 w (Jc #[.slice p n cap] 28) (Jc #[.slice none 0 0] 28) (Jc #[.int .i64 0] 32);have u:=(((Below.refl w.heap.size w).alloc Lr (Jc #[.slice p n cap] 28)).alloc (by simp) (Jc #[.slice none 0 0] 28)).alloc (by simp;omega) (Jc #[.int .i64 0] 32);generalize (((w.alloc (Jc #[.slice p n cap] 28)).alloc (Jc #[.slice none 0 0] 28)).alloc (Jc #[.int .i64 0] 32))=W0 at *
 refine (CF.o W0 u).mono ?_;intro e v1 h1;replace u:=u.trans (h1.below.mono u.size);replace n_e:=En.Qac n_e h1.below;replace n_r:=En.Qac n_r h1.below;cases O with
 | none =>
  obtain rfl:=h1.bad rfl;have hok:=HN.o rfl;clear h1 CF CC HN;have c0:=En.Qaa n_e 0 (v:=.int .i64 0) rfl;have f0:=En.Qad n_e 0;dsimp +zetaDelta only [Exit.then,Exit.inBlock];refine leaves_cons (f := 107) (args:=#[.pointer (some ⟨w.heap.size+1+1,0,none⟩)]) (by simp) (by simp [go_sem]) ?_;refine (QhB ⟨w.heap.size+1+1,0,none⟩ (.int .i64 0) [] _ c0 f0).mono ?_;rintro e u' w'' ⟨rfl,rfl,rfl⟩;have r0:(v1.setCell ⟨w.heap.size+1+1,0,none⟩ (.int .i64 60)).cell? ⟨w.heap.size+1,0,none⟩=some (.slice none 0 0):=(World.cell?_setCell_other v1 ⟨w.heap.size+1+1,0,none⟩ ⟨w.heap.size+1,0,none⟩ _ (by simp)).trans (En.Qaa n_r 0 rfl);have r4:=World.cell?_setCell_same v1 ⟨w.heap.size+1+1,0,none⟩ (.int .i64 60) c0;show ∃ v,(results _ _).run _ _ = .ok v _∧AnsA _ _ _ _ _ _;exact ⟨.tuple #[.agg #[.slice none 0 0],.int .i64 60],by simp [results,Tryz.results55, go_sem,r0,r4],u.setCell (show w.heap.size≤(⟨w.heap.size+1+1,0,none⟩:Addr).block from by simp only;omega) _,fun h=>absurd h hok,fun _=>rfl⟩
 | some rs =>
  obtain ⟨f,rfl,hf⟩:=h1.good rs rfl;have cC:=CC.o rs rfl v1 f u hf;have hb1:w.heap.size+1<v1.heap.size:=(Array.getElem?_eq_some_iff.1 n_r).1;have u1:=u;clear h1 CF CC hf;have hen:=fun a w=>hk a w;go_wp2_with fail;refine cC.mono ?_;intro e v2 h2;replace u:=u.trans (h2.below.mono u.size);replace n_e:=En.Qac n_e h2.below;replace n_r:=En.Qac n_r h2.below;have c0:=En.Qaa n_e 0 (v:=.int .i64 0) rfl;have f0:=En.Qad n_e 0;by_cases hok:ok
  ·obtain ⟨v,rfl,hv⟩:=h2.good hok;obtain ⟨q,m,cp,rfl⟩:=hform _ _ _ hv;clear h2 cC;have d0:=En.Qaa n_r 0 (v:=.slice none 0 0) rfl;have g0:=En.Qad n_r 0;have hR:=hset _ _ _ (w.heap.size+1) (.slice q m cp) (Nat.le_succ _) hb1 hv;have HR:Sh _:=⟨hR⟩;clear hR hv hset hform;dsimp only
   go_wp
   have s_r:(v2.setCell ⟨w.heap.size+1,0,none⟩ (.slice q m cp)).heap[w.heap.size+1]? = some (Jc #[.slice q m cp] 28 (0,0)):=by
    have:=Qbo n_r 0 (.slice q m cp);simpa using this
   have s_e:(v2.setCell ⟨w.heap.size+1,0,none⟩ (.slice q m cp)).heap[w.heap.size+1+1]? = some (Jc #[.int .i64 0] 32 (0,0)):=(Below.heap_setCell _ _ _ _ (by simp)).trans n_e;replace u:=u.setCell (show w.heap.size≤(⟨w.heap.size+1,0,none⟩:Addr).block from Nat.le_succ _) (.slice q m cp);clear d0 g0 n_r n_e c0 f0;generalize (v2.setCell ⟨w.heap.size+1,0,none⟩ (.slice q m cp))=W5 at *
   rw [set_same s_e];have c0:=En.Qaa s_e 0 (v:=.int .i64 0) rfl;have r0:=En.Qaa s_r 0 (v:=.slice q m cp) rfl;refine leaves_cons (f := 107) (args:=#[.pointer (some ⟨w.heap.size+1+1,0,none⟩)]) (by simp) (by simp [go_sem]) ?_;refine (QqE ⟨w.heap.size+1+1,0,none⟩ _).mono ?_;rintro e u' w'' ⟨rfl,rfl,rfl⟩;show ∃ v,(results _ _).run _ _ = .ok v _∧AnsA _ _ _ _ _ _;exact ⟨.tuple #[.agg #[.slice q m cp],.int .i64 0],by simp [results,Tryz.results55, go_sem,r0,c0],u,fun _=>⟨_,rfl,v1,u1,HR.o⟩,fun h=>absurd hok h⟩
  ·obtain rfl:=h2.bad hok;clear h2 cC;dsimp +zetaDelta only [Exit.then,Exit.inBlock];refine leaves_cons (f := 107) (args:=#[.pointer (some ⟨w.heap.size+1+1,0,none⟩)]) (by simp) (by simp [go_sem]) ?_;refine (QhB ⟨w.heap.size+1+1,0,none⟩ (.int .i64 0) [] _ c0 f0).mono ?_;rintro e u' w'' ⟨rfl,rfl,rfl⟩;have r0:(v2.setCell ⟨w.heap.size+1+1,0,none⟩ (.int .i64 60)).cell? ⟨w.heap.size+1,0,none⟩=some (.slice none 0 0):=(World.cell?_setCell_other v2 ⟨w.heap.size+1+1,0,none⟩ ⟨w.heap.size+1,0,none⟩ _ (by simp)).trans (En.Qaa n_r 0 rfl);have r4:=World.cell?_setCell_same v2 ⟨w.heap.size+1+1,0,none⟩ (.int .i64 60) c0;show ∃ v,(results _ _).run _ _ = .ok v _∧AnsA _ _ _ _ _ _;exact ⟨.tuple #[.agg #[.slice none 0 0],.int .i64 60],by simp [results,Tryz.results55, go_sem,r0,r4],u.setCell (show w.heap.size≤(⟨w.heap.size+1+1,0,none⟩:Addr).block from by simp only;omega) _,fun h=>absurd h hok,fun _=>rfl⟩
def chk {T:Type} (rs:List (List Rat)) (x:List Rat) (o:Option T):Option T:=if x.length=2^rs.length then o else none
abbrev IsI (o:Option Int) (_:World) (v:Value):Prop:=∃ s,o=some s∧v = .int .i64 s
abbrev IsE (o:Option (List Rat)) (W:World) (v:Value):Prop:=∃ z,o=some z∧El W v z
theorem Qti {rs:List (List Rat)} (hk:rs.length≤4) {x:List Rat} (hn:x.length≤1000) (fx:FitL x) {f vx:Value} (pa:Addr) (w:World) (hg:Gl w) (hf:Fd w f rs) (ha:w.cell? pa=some vx) (ex:El w vx x) :
  Calls Tryz.prog 46 #[f,.pointer (some pa)] w (AnsC (chk rs x (Qaw rs x)≠none) (IsI (chk rs x (Qaw rs x))) w):=by
 have cC:=Qbw hk hn fx w hf ex;have cS:=fun (W:World) (u:Below w.heap.size w W) (h:x.length=2^rs.length)=>QeU hk h fx W (hg.keep u) (Fd.keep u hf) (ex.keep u);have CS:Sh _:=⟨cS⟩;clear cS hg hf ex;obtain ⟨O,hO⟩:∃ O,O=chk rs x (Qaw rs x):=⟨_,rfl⟩;rw [←hO];have HO:Sh _:=⟨hO⟩;clear hO;go_enter Tryz.func46, Tryz.ntmps46;go_wp2_with fail;refine cC.mono ?_;intro e v1 h1;have u:=h1.below;by_cases hl:x.length=2^rs.length
 ·obtain rfl:=h1.good hl;have cG:=CS.o v1 u hl;have ho:O=Qaw rs x:=by rw [HO.o,chk,if_pos hl]
  rw [←ho] at cG;clear h1 cC CS ho HO hl;go_wp2_with fail;refine cG.mono ?_;intro e v2 h2;replace u:=u.trans (h2.below.mono u.size);cases O with
  | none =>
   obtain rfl:=h2.bad rfl;exact ⟨rfl,u,fun h=>absurd rfl h,fun _=>rfl⟩
  | some s =>
   obtain rfl:=h2.good s rfl;clear h2 cG;go_wp2_with fail;go_ret;exact ⟨u,fun _=>⟨_,rfl,s,rfl,rfl⟩,fun h=>absurd (fun q=>by cases q) h⟩
 ·obtain rfl:=h1.bad hl;have ho:O=none:=by rw [HO.o,chk,if_neg hl]
  exact ⟨rfl,u,fun h=>absurd ho h,fun _=>rfl⟩
noncomputable def ovr {T:Type} (L:List (List Rat)) (o:List (List Rat)→Option T):Option T:=(Qam [] L).bind o
theorem Qco {T:Type} {L:List (List Rat)} {o:List (List Rat)→Option T} (h:Qam [] L=none):¬(ovr L o≠none):=fun q=>q (by rw [ovr,h];rfl)
theorem QaA {T:Type} {L rs:List (List Rat)} {o:List (List Rat)→Option T} (h:Qam [] L=some rs):ovr L o=o rs:=by rw [ovr,h];rfl
theorem QbB {L rs:List (List Rat)} (h:Qam [] L=some rs):rs.length≤4:=by
 obtain ⟨h1,h2⟩:=Qeh h;by_cases h0:L = []
 ·subst h0;rw [h1];simp
 ·exact h2 h0
theorem QeV {L:List (List Rat)} (hL:FitT L) (hn:L.length≤1000) {x:List Rat} (hx:x.length≤1000) (fx:FitL x) {t vx:Value} (w:World) (hg:Gl w) (ht:TwAt w t L) (ex:El w vx x) :
  Calls Tryz.prog 16 #[t,vx] w (AnsA (ovr L (fun rs=>chk rs x (Qaw rs x))≠none) (IsI (ovr L fun rs=>chk rs x (Qaw rs x))) (.int .i64 0) w):=by
 have hmf:=mkf;have HT:Sh _:=⟨ht⟩;obtain ⟨p,cap,rfl,h⟩:=ht.ex;clear h ht;have HX:Sh _:=⟨ex⟩;obtain ⟨b,o,c,rfl,h1,h2⟩:=ex.ex;clear h1 h2 ex;have u:=((Below.refl w.heap.size w).alloc Lr (Jc #[.slice p L.length cap] 28)).alloc (by simp) (Jc #[.slice (some ⟨b,o,none⟩) x.length c] 29);have n_t:((w.alloc (Jc #[.slice p L.length cap] 28)).alloc (Jc #[.slice (some ⟨b,o,none⟩) x.length c] 29)).heap[w.heap.size]? = _:=(Below.heap_alloc (w.alloc (Jc #[.slice p L.length cap] 28)) _ w.heap.size (by simp)).trans (World.alloc_heap_new w _);have n_x:=En.QaP w (Jc #[.slice p L.length cap] 28) (Jc #[.slice (some ⟨b,o,none⟩) x.length c] 29);have t0:=En.Qaa n_t 0 (v:=.slice p L.length cap) rfl;obtain ⟨O,hO⟩:∃ O,O=ovr L (fun rs=>chk rs x (Qaw rs x)):=⟨_,rfl⟩;rw [←hO];have HO:Sh _:=⟨hO⟩;clear hO;go_enter Tryz.func16, Tryz.ntmps16;go_wp2_with fail;generalize ((w.alloc (Jc #[.slice p L.length cap] 28)).alloc (Jc #[.slice (some ⟨b,o,none⟩) x.length c] 29))=W0 at *
 have cA:=Qki 46 #[.pointer (some ⟨w.heap.size+1,0,none⟩)] (enters_of Tryz.func46 (by kernel_rfl) rfl) hL hn (O≠none) (IsI O) W0 (hg.keep u) (HT.o.keep u) (by rw [HO.o];exact Qco)
  (fun rs hrs W f hB hf=>by
   rw [HO.o,QaA hrs];exact Qti (QbB hrs) hx fx ⟨w.heap.size+1,0,none⟩ W ((hg.keep u).keep hB) hf (En.Qaa (En.Qac n_x hB) 0 rfl) ((HX.o.keep u).keep hB))
 refine cA.mono ?_;intro e v1 h1;replace u:=u.trans (h1.below.mono u.size);clear HX HT HO n_t n_x t0 cA;cases O with
 | none =>
  obtain rfl:=h1.bad (fun h=>h rfl);clear h1;go_wp2_with fail;exact bodyPost_ret (v:=.tuple #[.int .i64 0,.int .i64 60]) (by simp [results,Tryz.results16, go_sem]) rfl ⟨u,fun h=>absurd rfl h,fun _=>rfl⟩
 | some s =>
  obtain ⟨v,rfl,hv⟩:=h1.good (fun q=>by cases q);clear h1;go_wp2_with fail;exact bodyPost_ret (v:=.tuple #[v,.int .i64 0]) (by simp [results,Tryz.results16, go_sem]) rfl ⟨u,fun _=>⟨v,rfl,hv⟩,fun h=>absurd (fun q=>by cases q) h⟩
def TwN (base:Nat) (W:World) (v:Value) (L:List (List Rat)):Prop:=∃ p cap,v = .agg #[.slice p L.length cap]∧(L = []∨∃ bt,p=some ⟨bt,0,none⟩∧base≤bt∧∀ i x,L[i]? = some x→∃ vi,W.cell? ⟨bt,i,none⟩=some vi∧Yng base W vi x)
theorem TwN.at_ {base:Nat} {W:World} {v:Value} {L:List (List Rat)} (h:TwN base W v L):TwAt W v L:=by
 obtain ⟨p,cap,e,h⟩:=h;refine ⟨p,cap,e, ?_⟩;rcases h with h | ⟨bt,e,_,h⟩
 ·exact .inl h
 ·exact .inr ⟨bt,0,e,fun i x hx=>by
   obtain ⟨vi,h1,h2⟩:=h i x hx;exact ⟨vi,by rw [Nat.zero_add];exact h1,h2.el⟩⟩
theorem TwN.set {base:Nat} {W:World} {v:Value} {L:List (List Rat)} (h:TwN base W v L) {b:Nat} (hb:b<base) (y:Value):TwN base (W.setCell ⟨b,0,none⟩ y) v L:=by
 obtain ⟨p,cap,e,h⟩:=h;refine ⟨p,cap,e, ?_⟩
 have hc:∀ g i x,base≤g→W.cell? ⟨g,i,none⟩=some x→(W.setCell ⟨b,0,none⟩ y).cell? ⟨g,i,none⟩=some x:=fun g i x hg hx =>
  (World.cell?_setCell_other W ⟨b,0,none⟩ ⟨g,i,none⟩ y (by intro e;injection e with e1 _ _;omega)).trans hx
 rcases h with h | ⟨bt,e,hbt,h⟩
 ·exact .inl h
 ·refine .inr ⟨bt,e,hbt,fun i x hx => ?_⟩;obtain ⟨vi,h1,b',cp,h2,h3,h4,h5⟩:=h i x hx;exact ⟨vi,hc _ _ _ hbt h1,b',cp,h2,h3,h4,⟨fun j hj=>⟨hc _ _ _ h4 (h5.at_ j hj).1,hc _ _ _ h4 (h5.at_ j hj).2⟩⟩⟩
theorem Rds.tw {base:Nat} {W:World} {v:Value} {L:List (List Rat)} {V:Nat→Value} (h:Rds base W v L V):TwN base W (.agg #[v]) L:=by
 cases L with
 | nil =>
  rcases h.own.2 with ⟨rfl,_⟩ | ⟨g,cap,cur,rfl,_⟩
  ·exact ⟨none,0,rfl,.inl rfl⟩
  ·exact ⟨_,cap,rfl,.inl rfl⟩
 | cons d ds =>
  obtain ⟨g,cap,rfl,hg,_,_,cur,hgg,h0⟩:=h.own.shape (fun i _=>rfl);refine ⟨_,cap,rfl,.inr ⟨g,rfl,hg,fun i x hx => ?_⟩⟩
  have hi:i<(d :: ds).length:=by
   rcases Nat.lt_or_ge i (d :: ds).length with h | h
   ·exact h
   ·rw [List.getElem?_eq_none h] at hx;cases hx
  have:=h0 i 0 hi (by omega);rw [Nat.mul_one,Nat.add_zero] at this;exact ⟨V i,En.Qaa hgg i this,h.el i x hx⟩
open Classical in
noncomputable def extO (rs:List (List Rat)) (x:List Rat):Option (List (List Rat)):=if Adj rs x then some (x :: rs).reverse else none
theorem QoN {rs:List (List Rat)} (hk:rs.length≤4) {x:List Rat} (hn:x.length≤1000) (fx:FitL x) {f vx:Value} (pa:Addr) (w:World) (hg:Gl w) (hf:Fd w f rs) (ha:w.cell? pa=some vx) (ex:El w vx x) :
  Calls Tryz.prog 56 #[f,.pointer (some pa)] w (AnsC (Adj rs x) (fun W v=>TwN w.heap.size W v (x :: rs).reverse) w):=by
 have u:=(Below.refl w.heap.size w).alloc Lr (Jc #[.slice none 0 0] 28);have n_r:(w.alloc (Jc #[.slice none 0 0] 28)).heap[w.heap.size]? = _:=World.alloc_heap_new w _;have cE:=Qhw hk hn fx (w.alloc (Jc #[.slice none 0 0] 28)) (hg.keep u) (Fd.keep u hf) (ex.keep u);have ha':=Qae ha u;have HA:Sh (Adj rs x→rs.length<4):=⟨fun h=>h.1⟩;clear hg hf ex fx hn hk ha;obtain ⟨A,hA⟩:∃ A,A=Adj rs x:=⟨_,rfl⟩;rw [←hA] at cE HA ⊢;clear hA;go_enter Tryz.func56, Tryz.ntmps56;go_wp2_with fail;refine cE.mono ?_;intro e v1 h1;replace u:=u.trans (h1.below.mono u.size);replace n_r:=En.Qac n_r h1.below;by_cases hok:A
 ·obtain ⟨f2,rfl,hf2⟩:=h1.good hok;have hl:=HA.o hok;have cR:=QgQ (rs:=x :: rs) (by simp;omega) v1 hf2;have hsz:w.heap.size+1≤v1.heap.size:=by have:=h1.below.size;simpa using this
  clear h1 cE ha' hf2;go_wp2_with fail;refine cR.mono ?_;intro e v2 h2;replace u:=u.trans (h2.below.mono u.size);replace n_r:=En.Qac n_r h2.below;obtain ⟨v,V,rfl,hV⟩:=h2.good;have hT:=hV.tw;have k0:=En.Qaa n_r 0 (v:=.slice none 0 0) rfl;have k1:=En.Qad n_r 0;clear h2 cR
  have hT2:TwN w.heap.size v2 (.agg #[v]) (x :: rs).reverse:=by
   obtain ⟨p,cap,e,h⟩:=hT;refine ⟨p,cap,e, ?_⟩;rcases h with h | ⟨bt,e,hbt,h⟩
   ·exact .inl h
   ·exact .inr ⟨bt,e,by omega,fun i x hx=>by
     obtain ⟨vi,h1,b',cp,h2,h3,h4,h5⟩:=h i x hx;exact ⟨vi,h1,b',cp,h2,h3,by omega,h5⟩⟩
  obtain ⟨p,n,cp,rfl⟩:∃ p n cp,v = .slice p n cp:=by
   obtain ⟨p,cap,e,_⟩:=hT2;injection e with e;exact ⟨p,_,cap,by simpa using e⟩
  have HT:Sh (TwN (w.heap.size+1) v2 (.agg #[.slice p n cp]) (x :: rs).reverse):=⟨by
   obtain ⟨p,cap,e,h⟩:=hT;refine ⟨p,cap,e, ?_⟩;rcases h with h | ⟨bt,e,hbt,h⟩
   ·exact .inl h
   ·exact .inr ⟨bt,e,by omega,fun i x hx=>by
     obtain ⟨vi,h1,b',cp,h2,h3,h4,h5⟩:=h i x hx;exact ⟨vi,h1,b',cp,h2,h3,by omega,h5⟩⟩⟩
  clear hT hT2 hV;go_wp2_with fail;have s_r:=World.cell?_setCell_same v2 ⟨w.heap.size,0,none⟩ (.slice p n cp) k0;have HT2:=HT.o.set (b:=w.heap.size) (by omega) (.slice p n cp)
  exact bodyPost_ret (v:=.agg #[.slice p n cp]) (by simp [results,Tryz.results56, go_sem,s_r]) rfl ⟨u.setCell Lr _,fun _=>⟨_,rfl,by
   obtain ⟨p,cap,e,h⟩:=HT2;refine ⟨p,cap,e, ?_⟩;rcases h with h | ⟨bt,e,hbt,h⟩
   ·exact .inl h
   ·exact .inr ⟨bt,e,by omega,fun i x hx=>by
     obtain ⟨vi,h1,b',cp,h2,h3,h4,h5⟩:=h i x hx;exact ⟨vi,h1,b',cp,h2,h3,by omega,h5⟩⟩⟩,fun h=>absurd hok h⟩
 ·obtain rfl:=h1.bad hok;exact ⟨rfl,u,fun h=>absurd h hok,fun _=>rfl⟩
theorem Qlk {L:List (List Rat)} (hL:FitT L) (hn:L.length≤1000) {x:List Rat} (hx:x.length≤1000) (fx:FitL x) {t vx:Value} (w:World) (hg:Gl w) (ht:TwAt w t L) (ex:El w vx x) :
  Calls Tryz.prog 23 #[t,vx] w (AnsA (ovr L (fun rs=>extO rs x)≠none) (fun W v=>∃ l,ovr L (fun rs=>extO rs x)=some l∧TwAt W v l) (.agg #[.slice none 0 0]) w):=by
 have hmf:=mkf;have HT:Sh _:=⟨ht⟩;have HX:Sh _:=⟨ex⟩;obtain ⟨p,cap,rfl,h⟩:=ht.ex;obtain ⟨bx,ox,cx,rfl,_,_⟩:=ex.ex;clear h ht ex;have u:=(((Below.refl w.heap.size w).alloc Lr (Jc #[.slice p L.length cap] 28)).alloc (by simp) (Jc #[.slice (some ⟨bx,ox,none⟩) x.length cx] 29)).alloc (by simp;omega) (Jc #[.slice none 0 0] 28);obtain ⟨n_t,n_x,n_r⟩:=En.new3 w (Jc #[.slice p L.length cap] 28) (Jc #[.slice (some ⟨bx,ox,none⟩) x.length cx] 29) (Jc #[.slice none 0 0] 28);have t0:=En.Qaa n_t 0 (v:=.slice p L.length cap) rfl;obtain ⟨O,hO⟩:∃ O,O=ovr L (fun rs=>extO rs x):=⟨_,rfl⟩;rw [←hO];have HO:Sh _:=⟨hO⟩;clear hO;go_enter Tryz.func23, Tryz.ntmps23;go_wp2_with fail;generalize (((w.alloc (Jc #[.slice p L.length cap] 28)).alloc (Jc #[.slice (some ⟨bx,ox,none⟩) x.length cx] 29)).alloc (Jc #[.slice none 0 0] 28))=W0 at *
 have cA:=Qkk 56 #[.pointer (some ⟨w.heap.size+1,0,none⟩)] (enters_of Tryz.func56 (by kernel_rfl) rfl) hL hn (O≠none) W0
  (fun W W' v=>∃ l,O=some l∧TwN W.heap.size W' v l)
  (fun W W' v b y _ hb h=>by obtain ⟨l,e,h⟩:=h;exact ⟨l,e,h.set hb y⟩)
  (fun W W' v h=>by obtain ⟨l,e,p,cap,e2,_⟩:=h;exact ⟨_,_,_,e2⟩)
  (hg.keep u) (HT.o.keep u) (by rw [HO.o];exact Qco)
  (fun rs hrs W f hB hf=>by
   have c:=QoN (QbB hrs) hx fx ⟨w.heap.size+1,0,none⟩ W ((hg.keep u).keep hB) hf (En.Qaa (En.Qac n_x hB) 0 rfl) ((HX.o.keep u).keep hB);have e:O=extO rs x:=by rw [HO.o,QaA hrs]
   by_cases ha:Adj rs x
   ·have e1:O=some (x :: rs).reverse:=by rw [e,extO,if_pos ha]
    refine c.mono fun e' w' h=>⟨h.below,fun _ => ?_,fun k=>absurd (by rw [e1];simp) k⟩;obtain ⟨v,h1,h2⟩:=h.good ha;exact ⟨v,h1,_,e1,h2⟩
   ·have e1:O=none:=by rw [e,extO,if_neg ha]
    refine c.mono fun e' w' h=>⟨h.below,fun k=>absurd e1 k,fun _=>h.bad ha⟩)
 have hb0:w.heap.size+1+1<W0.heap.size:=(Array.getElem?_eq_some_iff.1 n_r).1;refine cA.mono ?_;intro e v1 h1;replace u:=u.trans (h1.below.mono u.size);replace n_r:=En.Qac n_r h1.below;clear HT HO HX n_t n_x t0 cA;have k0:=En.Qaa n_r 0 (v:=.slice none 0 0) rfl;have k1:=En.Qad n_r 0;cases O with
 | none =>
  obtain rfl:=h1.bad (fun h=>h rfl);clear h1;go_wp2_with fail;have s_r:=World.cell?_setCell_same v1 ⟨w.heap.size+1+1,0,none⟩ (.slice none 0 0) k0;exact bodyPost_ret (v:=.tuple #[.agg #[.slice none 0 0],.int .i64 60]) (by simp [results,Tryz.results23, go_sem,s_r]) rfl ⟨u.setCell (by show w.heap.size≤w.heap.size+1+1;omega) _,fun h=>absurd rfl h,fun _=>rfl⟩
 | some s =>
  obtain ⟨v,rfl,W,hW,l,hl,hv⟩:=h1.good (fun q=>by cases q);cases hl;clear h1;obtain ⟨p',n',c',rfl⟩:∃ p n cp,v = .agg #[.slice p n cp]:=by obtain ⟨p,cap,e,_⟩:=hv;exact ⟨_,_,_,e⟩
  have hbig:w.heap.size+1+1<W.heap.size:=Nat.lt_of_lt_of_le hb0 hW.size;have HV:Sh _:=⟨hv.set hbig (.slice p' n' c')⟩;clear hv;go_wp2_with fail;have s_r:=World.cell?_setCell_same v1 ⟨w.heap.size+1+1,0,none⟩ (.slice p' n' c') k0;exact bodyPost_ret (v:=.tuple #[.agg #[.slice p' n' c'],.int .i64 0]) (by simp [results,Tryz.results23, go_sem,s_r]) rfl ⟨u.setCell (by show w.heap.size≤w.heap.size+1+1;omega) _,fun _=>⟨_,rfl,_,rfl,HV.o.at_⟩,fun h=>absurd (fun q=>by cases q) h⟩
def OkI (P:Rat×Rat):Prop:=FitQ P.1∧FitQ P.2∧P.1≤P.2
abbrev ivS (P:Rat×Rat):Value:=.agg #[J (txt P.1.num),J (txt (P.1.den:Int)),J (txt P.2.num),J (txt (P.2.den:Int))]
def ivO:Option (Rat×Rat)→Value
 | some P=>ivS P
 | none=>ivl0
def cI:Option (Rat×Rat)→Int
 | some _=>0
 | none=>50
theorem Qtj (o:Option (Rat×Rat)):resI o = .tuple #[ivO o,.int .i64 (cI o)]:=by cases o <;> rfl
structure AnsI (o:Option (Rat×Rat)) (w:World) (e:Ending) (w':World):Prop where
 below:Below w.heap.size w w'
 good:∀ P,o=some P→e = .returned (ivS P)
 bad:o=none→e = .panicked twP
theorem QqH (x0 x1 x2 x3:ByteArray) (w:World):Calls Tryz.prog 72 #[ivl x0 x1 x2 x3,.int .i64 0] w fun e w'=>e = .returned (ivl x0 x1 x2 x3)∧Below w.heap.size w w':=by
 have hr:=Qbb;unfold ivl;go_enter Tryz.func72, Tryz.ntmps72;go_wp2_with (go_at_call 49; refine (hr _).mono ?_;rintro e w' ⟨rfl,rfl⟩);have n_r:=En.QaP w (Jc #[J x0,J x1,J x2,J x3] 55) (Jc #[J x0,J x1,J x2,J x3] 55);have u:=((Below.refl w.heap.size w).alloc Lr (Jc #[J x0,J x1,J x2,J x3] 55)).alloc (by simp) (Jc #[J x0,J x1,J x2,J x3] 55);have z0:=En.Qaa n_r 0 (v:=J x0) rfl;have z1:=En.Qaa n_r 1 (v:=J x1) rfl;have z2:=En.Qaa n_r 2 (v:=J x2) rfl;have z3:=En.Qaa n_r 3 (v:=J x3) rfl;exact bodyPost_ret (v:=.agg #[J x0,J x1,J x2,J x3]) (by simp [results,Tryz.results72, go_sem]) rfl ⟨rfl,u⟩
theorem QqI (x0 x1 x2 x3:ByteArray) (c:Int) (hc:c≠0) (w:World):Calls Tryz.prog 72 #[ivl x0 x1 x2 x3,.int .i64 c] w fun e w'=>e = .panicked twP∧Below w.heap.size w w':=by
 have hb:(c != 0)=true:=by simp [hc]
 unfold ivl;go_enter Tryz.func72, Tryz.ntmps72;have u:=((Below.refl w.heap.size w).alloc Lr (Jc #[J x0,J x1,J x2,J x3] 55)).alloc (by simp) (Jc #[J ⟨#[]⟩,J ⟨#[]⟩,J ⟨#[]⟩,J ⟨#[]⟩] 55);have hr:=QaV ((w.alloc (Jc #[J x0,J x1,J x2,J x3] 55)).alloc (Jc #[J ⟨#[]⟩,J ⟨#[]⟩,J ⟨#[]⟩,J ⟨#[]⟩] 55));go_wp2_with (go_at_call 49; refine hr.mono ?_;rintro e w' ⟨rfl,rfl⟩);exact ⟨rfl,rfl,u⟩
theorem Qet (o:Option (Rat×Rat)) (w:World):Calls Tryz.prog 72 #[ivO o,.int .i64 (cI o)] w (AnsI o w):=by
 cases o with
 | some P=>exact (QqH _ _ _ _ w).mono fun e w' h=>⟨h.2,fun Q hQ=>by cases hQ;exact h.1,fun h=>by cases h⟩
 | none=>exact (QqI _ _ _ _ 50 (by decide) w).mono fun e w' h=>⟨h.2,fun Q hQ=>(by cases hQ),fun _=>h.1⟩
noncomputable def encO:List (List Rat)→Nat→List Rat→Option (Rat×Rat)
 | [],_,x=>some (x.headD 0,x.headD 0)
 | d :: rs,p,x=>(encO rs p d).bind fun D=>(sqO p D).bind fun s=>(encO rs p (hr x)).bind fun b=>(muO b s).bind fun m=>(encO rs p (hl x)).bind fun a=>(adO a m).bind fun t=>rdO p t
end Tw
namespace En
open Go.Proofs.YtadcmepaniiciaaGreatDoor.Nm Go.Proofs.YtadcmepaniiciaaGreatDoor.Rt
theorem QhE {n d m c:Int} (hd:0<d) (hc:0<c) (h:n*c<m*d):Rat.divInt n d<Rat.divInt m c:=by
 have e:=QkQ (n:=n) (m:=m) hd hc;rw [cmpZ,if_pos h] at e;rcases Qcs (Rat.divInt n d) (Rat.divInt m c) with ⟨_,h1⟩ | ⟨h1,_⟩ | ⟨h1,_⟩
 ·exact h1
 ·rw [h1] at e;exact absurd e (by decide)
 ·rw [h1] at e;exact absurd e (by decide)
theorem Qfn {n d m c:Int} (hd:0<d) (hc:0<c) (h:n*c≤m*d):Rat.divInt n d≤Rat.divInt m c:=by
 rcases Int.lt_or_eq_of_le h with h1 | h1
 ·exact Rat.le_of_lt (QhE hd hc h1)
 ·have e:=QkQ (n:=n) (m:=m) hd hc;rw [cmpZ,if_neg (by omega),if_pos h1] at e;rcases Qcs (Rat.divInt n d) (Rat.divInt m c) with ⟨h2,_⟩ | ⟨_,h2⟩ | ⟨h2,_⟩
  ·rw [h2] at e;exact absurd e (by decide)
  ·rw [h2];exact Rat.le_refl
  ·rw [h2] at e;exact absurd e (by decide)
theorem QoO {r:Rat} (h:0≤r.num) (c:Nat):0≤xN r c:=Int.mul_nonneg (Int.mul_nonneg h (Int.le_of_lt (Int.pow_pos (by decide)))) (Int.le_of_lt (Int.pow_pos (by decide)))
theorem Qik {x d k:Int} (hd:0<d) (h:x / d<k):x<k*d:=by
 have h1:=Int.mul_ediv_add_emod x d;have h2:=Int.emod_lt_of_pos x hd;have h3:=Int.mul_le_mul_of_nonneg_right (show x / d+1≤k by omega) (Int.le_of_lt hd);rw [Int.add_mul,Int.one_mul,Int.mul_comm (x / d)] at h3;omega
theorem QeW {x d k:Int} (hd:0<d) (h:k≤x / d):k*d≤x:=by
 have h1:=Int.mul_ediv_add_emod x d;have h2:=Int.emod_nonneg x (show d≠0 by omega);have h3:=Int.mul_le_mul_of_nonneg_right h (Int.le_of_lt hd);rw [Int.mul_comm (x / d)] at h3;omega
theorem QoP {r : Rat} (h : 0 ≤ r.num) (c : Nat) : ((rtN r c : Nat) : Int) * ((rtN r c : Nat) : Int) * (r.den : Int) ≤ xN r c ∧ xN r c < (((rtN r c : Nat) : Int) + 1) * (((rtN r c : Nat) : Int) + 1) * (r.den : Int) := by
  have hD : 0 < (r.den : Int) := by have := r.den_pos; omega
  have h0 : 0 ≤ sqN r c := Int.ediv_nonneg (QoO h c) (Int.le_of_lt hD);obtain ⟨s1, s2⟩ := QbJ (sqN r c).natAbs;have e : ((sqN r c).natAbs : Int) = sqN r c := by omega
  have t1 : ((rtN r c : Nat) : Int) * ((rtN r c : Nat) : Int) ≤ sqN r c := by rw [← e]; exact_mod_cast s1
  have t2 : sqN r c < (((rtN r c : Nat) : Int) + 1) * (((rtN r c : Nat) : Int) + 1) := by conv => lhs; rw [← e]
                                                                                          exact_mod_cast s2
  exact ⟨QeW hD t1, Qik hD t2⟩
theorem Qtk {r:Rat} (h:0≤r.num) (c:Nat):0≤upN r c∧xN r c≤upN r c*upN r c*(r.den:Int)∧(upN r c=0∨(upN r c-1)*(upN r c-1)*(r.den:Int)<xN r c):=by
 have hD:0<(r.den:Int):=by have:=r.den_pos;omega
 obtain ⟨s1,s2⟩:=QoP h c;have n0:(0:Int)≤((rtN r c:Nat):Int):=by omega
 have hx:=Int.mul_ediv_add_emod (xN r c) (r.den:Int)
 have hex:exN r c=true↔((rtN r c:Nat):Int)*((rtN r c:Nat):Int)*(r.den:Int)=xN r c:=by
  rw [exN,Bool.and_eq_true,decide_eq_true_eq,decide_eq_true_eq];constructor
  ·rintro ⟨h1,h2⟩;have h3:xN r c % (r.den:Int)=0:=h1;have h4:((rtN r c:Nat):Int)*((rtN r c:Nat):Int)=xN r c / (r.den:Int):=h2;rw [h4,Int.mul_comm];omega
  ·intro h1;have h2:xN r c % (r.den:Int)=0:=by rw [←h1];exact Int.mul_emod_left _ _
   refine ⟨h2, ?_⟩;show _=xN r c / (r.den:Int);rw [←h1,Int.mul_ediv_cancel _ (by omega)]
 rw [upN];by_cases hc:exN r c=true
 ·rw [if_pos hc];have h1:=hex.1 hc;refine ⟨n0,by omega, ?_⟩;by_cases hz:((rtN r c:Nat):Int)=0
  ·exact .inl hz
  ·right;rw [←h1]
   have h2:(((rtN r c:Nat):Int)-1)*(((rtN r c:Nat):Int)-1)<((rtN r c:Nat):Int)*((rtN r c:Nat):Int):=by
    generalize ((rtN r c:Nat):Int)=k at *
    rw [Int.sub_mul,Int.mul_sub];omega
   exact Int.mul_lt_mul_of_pos_right h2 hD
 ·rw [if_neg hc];refine ⟨by omega,Int.le_of_lt s2,.inr ?_⟩;rw [Int.add_sub_cancel];exact Int.lt_iff_le_and_ne.2 ⟨s1,fun h2=>hc (hex.2 h2)⟩
theorem Qtl {p q:Rat} (h:p≤q) (c:Nat):xN p c*q.den≤xN q c*p.den:=by
 have h1:=(Rat.le_iff p q).1 h;have hP:0≤(10:Int)^c:=Int.le_of_lt (Int.pow_pos (by decide));have h2:=Int.mul_le_mul_of_nonneg_right (Int.mul_le_mul_of_nonneg_right h1 hP) hP;unfold xN;rw [show p.num*10^c*10^c*(q.den:Int)=p.num*q.den*10^c*10^c by ac_rfl,show q.num*10^c*10^c*(p.den:Int)=q.num*p.den*10^c*10^c by ac_rfl];exact h2
theorem QvP {a b:Int} (h:a*a<b*b) (hb:0≤b):a<b:=by
 refine Int.not_le.1 (fun h1 => ?_);exact absurd (Int.mul_le_mul h1 h1 hb (Int.le_trans hb h1)) (Int.not_le.2 h)
theorem QqJ {a b x y d e:Int} (hd:0<d) (he:0<e) (hb:0≤b) (h1:a*a*d≤x) (h2:x*e≤y*d) (h3:y<b*b*e):a<b:=by
 refine QvP ?_ hb;have g1:=Int.mul_le_mul_of_nonneg_right h1 (Int.le_of_lt he);have g2:=Int.mul_lt_mul_of_pos_right h3 hd;have g3:a*a*d*e<b*b*e*d:=Int.lt_of_le_of_lt (Int.le_trans g1 h2) g2;rw [show a*a*d*e=a*a*(d*e) by ac_rfl,show b*b*e*d=b*b*(d*e) by ac_rfl] at g3;exact Int.lt_of_mul_lt_mul_right g3 (Int.le_of_lt (Int.mul_pos hd he))
theorem Qdw (r:Rat):0<(r.den:Int):=by have:=r.den_pos;omega
theorem QvQ {p q:Rat} (hp:0≤p.num) (h:p≤q) (c:Nat):((rtN p c:Nat):Int)≤upN q c:=by
 have hq:0≤q.num:=Rat.num_nonneg.2 (Rat.le_trans (Rat.num_nonneg.1 hp) h);obtain ⟨b1,b2,b3⟩:=Qtk hq c;have:=QqJ (b:=upN q c+1) (Qdw p) (Qdw q) (by omega) (QoP hp c).1 (Qtl h c) (Int.lt_of_le_of_lt b2 (Int.mul_lt_mul_of_pos_right (by rw [Int.add_mul,Int.mul_add];omega) (Qdw q)));omega
theorem Qtm {k m:Int} (h:k≤m) (c:Nat):Rat.divInt k (10^c)≤Rat.divInt m (10^c) :=
 Qfn (Int.pow_pos (by decide)) (Int.pow_pos (by decide)) (Int.mul_le_mul_of_nonneg_right h (Int.le_of_lt (Int.pow_pos (by decide))))
theorem QmG {p r:Rat} {c:Nat} (hc:c≤30) (h:QjP p c=some r):FitQ r∧r≤p:=by
 rw [QjP] at h;split at h
 ·rename_i f;injection h with h;subst h;refine ⟨FitQ.div (QaX f) (Qcm c hc) (Int.ne_of_gt (QgC c hc).2), ?_⟩
  conv=>rhs;rw [←Rat.num_divInt_den p]
  exact Qfn (Int.pow_pos (by decide)) (Qdw p) (QeW (Qdw p) (Int.le_refl _))
 ·cases h
theorem QqK {p r:Rat} {c:Nat} (hc:c≤30) (h:upQ p c=some r):FitQ r∧p≤r:=by
 rw [upQ] at h;split at h
 ·rename_i f;injection h with h;subst h;refine ⟨FitQ.div f.2 (Qcm c hc) (Int.ne_of_gt (QgC c hc).2), ?_⟩
  conv=>lhs;rw [←Rat.num_divInt_den p]
  refine Qfn (Qdw p) (Int.pow_pos (by decide)) ?_;have h1:=Int.mul_ediv_add_emod (p.num*10^c) (p.den:Int);have h2:=Int.emod_lt_of_pos (p.num*10^c) (Qdw p);rw [upI];split
  ·rename_i h3;rw [h3] at h1;rw [Int.mul_comm (p.num*10^c / (p.den:Int))];omega
  ·rw [Int.add_mul,Int.one_mul,Int.mul_comm (p.num*10^c / (p.den:Int))];omega
 ·cases h
end En
namespace Tw
open Go.RowKit Go.Extern.Stop Go.Stop Go.Extern
open En Go.Proofs.YtadcmepaniiciaaGreatDoor.Nm Go.Proofs.YtadcmepaniiciaaGreatDoor.Rt
theorem QuO {c:Nat} (hc:c≤30) {P Q:Rat×Rat} (hP:OkI P) (h:sqO c P=some Q):OkI Q∧0≤P.1.num∧0≤P.2.num:=by
 rw [sqO] at h;split at h
 ·cases h
 ·rename_i k;injection h with h;subst h;have np:¬ P.1.num<0:=fun q=>k (.inl (.inl q));have nq:¬ P.2.num<0:=fun q=>k (.inr (.inl q));have fp:Fits (xN P.1 c):=Decidable.byContradiction fun q=>k (.inl (.inr q));have fq:Fits (xN P.2 c):=Decidable.byContradiction fun q=>k (.inr (.inr q));have hne:((10:Int)^c)≠0:=Int.ne_of_gt (QgC c hc).2
  have hup:Fits (upN P.2 c):=by
   rw [upN];split
   ·exact (Qfi (by omega) fq).1
   ·exact QjZ (by omega) fq
  exact ⟨⟨FitQ.div (Qfi (by omega) fp).1 (Qcm c hc) hne,FitQ.div hup (Qcm c hc) hne,Qtm (QvQ (by omega) hP.2.2 c) c⟩,by omega,by omega⟩
theorem QvR {c:Nat} (hc:c≤30) {P Q:Rat×Rat} (hP:OkI P) (h:rdO c P=some Q):OkI Q∧Q.1≤P.1∧P.2≤Q.2:=by
 rw [rdO,Qjc] at h;obtain ⟨r,h1,h⟩:=Option.bind_eq_some_iff.1 h;obtain ⟨s,h2,h⟩:=Option.bind_eq_some_iff.1 h;injection h with h;subst h;have a:=QmG hc h1;have b:=QqK hc h2;exact ⟨⟨a.1,b.1,Rat.le_trans a.2 (Rat.le_trans hP.2.2 b.2)⟩,a.2,b.2⟩
theorem QuP {P Q T:Rat×Rat} (hP:OkI P) (hQ:OkI Q) (h:adO P Q=some T):OkI T∧T=(P.1+Q.1,P.2+Q.2):=by
 rw [adO,Qjc] at h;obtain ⟨r,h1,h⟩:=Option.bind_eq_some_iff.1 h;obtain ⟨s,h2,h⟩:=Option.bind_eq_some_iff.1 h;injection h with h;subst h;have e1:=QjW h1;have e2:=QjW h2;refine ⟨⟨FitQ.addQ h1,FitQ.addQ h2, ?_⟩,by rw [e1,e2]⟩;show r≤s;rw [e1,e2];exact Rat.le_trans (Rat.add_le_add_right.2 hP.2.2) (Rat.add_le_add_left.2 hQ.2.2)
theorem QuQ {P Q T:Rat×Rat} (hF:FourR mulQ P.1 P.2 Q.1 Q.2 (some T)):OkI T∧∀ u v,(u=P.1∨u=P.2)→(v=Q.1∨v=Q.2)→T.1≤u*v∧u*v≤T.2:=by
 rcases hF with ⟨_,h⟩ | ⟨x,y,x',y',lo,hi,hx,hy,hx',hy',e1,e2,hall,h⟩
 ·cases h
 ·injection h with h;subst h;obtain ⟨r,er,h1,h2⟩:=hall x y hx hy;refine ⟨⟨FitQ.mulQ e1,FitQ.mulQ e2,Rat.le_trans h1 h2⟩,fun u v hu hv => ?_⟩;obtain ⟨r,er,h1,h2⟩:=hall u v hu hv;rw [←QjX er];exact ⟨h1,h2⟩
theorem Qeu {p:Nat} (hp:p≤30):∀ {rs:List (List Rat)},(∀ d∈rs,FitL d)→∀ {x:List Rat} {P:Rat×Rat},FitL x→encO rs p x=some P→OkI P
 | [],_,x,P,fx,h=>by
  rw [encO] at h;injection h with h;subst h
  have:FitQ (x.headD 0):=by
   cases x with
   | nil=>exact fit0
   | cons a l=>exact fx a List.mem_cons_self
  exact ⟨this,this,Rat.le_refl⟩
 | d :: rs,hr_,x,P,fx,h=>by
  rw [encO] at h;have h1:∀ d∈rs,FitL d:=fun y hy=>hr_ y (List.mem_cons_of_mem _ hy);obtain ⟨D,eD,h⟩:=Option.bind_eq_some_iff.1 h;obtain ⟨s,es,h⟩:=Option.bind_eq_some_iff.1 h;obtain ⟨b,eb,h⟩:=Option.bind_eq_some_iff.1 h;obtain ⟨m,em,h⟩:=Option.bind_eq_some_iff.1 h;obtain ⟨a,ea,h⟩:=Option.bind_eq_some_iff.1 h;obtain ⟨t,et,h⟩:=Option.bind_eq_some_iff.1 h;have oD:=Qeu hp h1 (hr_ d List.mem_cons_self) eD;have os:=(QuO hp oD es).1;have ob:=Qeu hp h1 (x:=hr x) (fun q hq=>fx q (List.mem_of_mem_drop hq)) eb;have oa:=Qeu hp h1 (x:=hl x) (fun q hq=>fx q (List.mem_of_mem_take hq)) ea;have om:=(QsY ⟨0,0,none⟩ ob.1 ob.2.1 os.1 os.2.1 ob.2.2 os.2.2).1;rw [em] at om;exact (QvR hp (QuP oa (QuQ om).1 et).1 h).1
theorem enc1 {x:List Rat} {vx:Value} (hx:x.length=1) (fx:FitL x) (w:World) (ex:El w vx x):Calls Tryz.prog 120 #[vx] w (AnsI (some (x.headD 0,x.headD 0)) w):=by
 obtain ⟨r,rfl⟩:∃ r,x = [r]:=by
  match x,hx with
  | [r],_=>exact ⟨r,rfl⟩
 have fr:FitQ r:=fx r List.mem_cons_self;obtain ⟨b,o,c,rfl,h1,h2⟩:=ex.ex;have u:=(Below.refl w.heap.size w).alloc Lr (Jc #[J ⟨#[]⟩,J ⟨#[]⟩,J ⟨#[]⟩,J ⟨#[]⟩] 55);have n_r:(w.alloc (Jc #[J ⟨#[]⟩,J ⟨#[]⟩,J ⟨#[]⟩,J ⟨#[]⟩] 55)).heap[w.heap.size]? = _:=World.alloc_heap_new w _;obtain ⟨k0,k1⟩:=(h2.keep u).at_ 0 (by simp);have e:pqs [r] 0=(txt r.num,txt (r.den:Int)):=rfl;rw [e] at k0 k1;rw [Nat.zero_mul,Nat.add_zero] at k0 k1;have cP:=QsO fr;unfold iq at cP;show Calls _ _ _ _ (AnsI (some (r,r)) w);have HR:Sh (∀ (w':World),Below w.heap.size w w'→AnsI (some (r,r)) w (.returned (.agg #[J (txt r.num),J (txt (r.den:Int)),J (txt r.num),J (txt (r.den:Int))])) w'):=⟨fun w' u=>⟨u,fun P h=>(by cases h;rfl),fun h=>(by cases h)⟩⟩;clear h1 h2 ex fr fx hx e;generalize txt r.num=s at *
 generalize txt (r.den:Int)=t at *
 go_enter Tryz.func120, Tryz.ntmps120;go_wp2_with fail;refine (cP _).mono ?_;rintro e v1 ⟨rfl,g⟩;replace u:=u.trans (g.mono u.size);replace n_r:=En.Qac n_r g;have z0:=En.Qaa n_r 0 (v:=J ⟨#[]⟩) rfl;have z1:=En.Qaa n_r 1 (v:=J ⟨#[]⟩) rfl;have z2:=En.Qaa n_r 2 (v:=J ⟨#[]⟩) rfl;have z3:=En.Qaa n_r 3 (v:=J ⟨#[]⟩) rfl;have g0:=En.Qad n_r 0;have g1:=En.Qad n_r 1;have g2:=En.Qad n_r 2;have g3:=En.Qad n_r 3;have s_r:=QaL (x:=J s) (y:=J t) (z:=J s) (t:=J t) n_r;have y0:=En.Qaa s_r 0 (v:=J s) rfl;have y1:=En.Qaa s_r 1 (v:=J t) rfl;have y2:=En.Qaa s_r 2 (v:=J s) rfl;have y3:=En.Qaa s_r 3 (v:=J t) rfl;clear g k0 k1 cP;go_wp2_with fail;exact bodyPost_ret (v:=.agg #[J s,J t,J s,J t]) (by simp [results,Tryz.results120, go_sem,y0,y1,y2,y3]) rfl (HR.o _ ((((u.setCell Lr _).setCell Lr _).setCell Lr _).setCell Lr _))
end Tw
end
end Go.Proofs.YtadcmepaniiciaaGreatDoor
