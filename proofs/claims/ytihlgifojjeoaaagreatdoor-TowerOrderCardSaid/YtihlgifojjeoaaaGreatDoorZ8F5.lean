import Derived.Test.YtihlgifojjeoaaaGreatDoorZ8F4
import Derived.Deep.CutRange
set_option maxRecDepth 1000000
set_option maxHeartbeats 40000000
open Go.Value renaming string→J
open Go.Obj renaming cells→Jc
namespace Go.Proofs.YtihlgifojjeoaaaGreatDoor
section
namespace Tw
open Go.RowKit Go.Extern.Stop Go.Stop Go.Extern
open En Go.Proofs.YtihlgifojjeoaaaGreatDoor.Nm Go.Proofs.YtihlgifojjeoaaaGreatDoor.Rt
theorem txt0:txt 0=⟨#[48]⟩:=by decide +kernel
theorem txt1:txt 1=⟨#[49]⟩:=by decide +kernel
theorem pq0:pq 0=(⟨#[48]⟩,⟨#[49]⟩):=by rw [pq];exact Prod.ext txt0 txt1
theorem fit0:FitQ 0:=⟨Qas (by decide),Qas (by decide)⟩
theorem QoG {a:ByteArray} {b:List UInt8} (h:a.toList=b) (c:ByteArray) (hc:c.toList=b):a=c:=by
 have:(a.toList == c.toList)=true:=by rw [h,hc];exact beq_self_eq_true _
 rw [QcU] at this;exact of_decide_eq_true this
theorem nz_q (q:Rat):nz (pq q) = !decide (q=0):=by
 rw [nz];by_cases h:q=0
 ·subst h;rw [pq0];decide +kernel
 ·rw [decide_eq_false h];cases hd:(decide ((pq q).1.toList = [48]) && decide ((pq q).2.toList = [49])) with
  | false=>rfl
  | true =>
   rw [Bool.and_eq_true] at hd;have h1:=QoG (of_decide_eq_true hd.1) ⟨#[48]⟩ (by decide +kernel);have h2:=QoG (of_decide_eq_true hd.2) ⟨#[49]⟩ (by decide +kernel);exact absurd (QfJ (show txtQ q=txtQ 0 from (Prod.ext h1 h2:pq q=(⟨#[48]⟩,⟨#[49]⟩)).trans pq0.symm)) h
theorem Qld:∀ (l:List Rat) (n:Nat),n≤l.length→allZ (pqs l) n=(l.take n).all fun r=>decide (r=0)
 | l,0,_=>by rw [List.take_zero];rfl
 | l,n+1,h=>by
  rw [allZ,Qld l n (by omega),List.take_succ_eq_append_getElem (by omega),List.all_append,pqs,nz_q,List.getD_eq_getElem?_getD,List.getElem?_eq_getElem (by omega)];simp
theorem Qef {l:List Rat} {vx:Value} (hn:l.length≤1000) (w:World) (hg:Gl w) (hx:El w vx l) :
  Calls Tryz.prog 64 #[vx] w fun e w'=>e = .returned (.bool (QbQ l))∧Below w.heap.size w w':=by
 obtain ⟨b,o,cap,rfl,h1,h2⟩:=hx.ex;have:=Qcg l.length b o cap hn (pqs l) w hg h2;rw [Qld l l.length Lr,List.take_length] at this;exact this
theorem QaR (n:Nat):(Tw.zeros n).length=n:=by rw [Tw.zeros,List.length_replicate]
theorem QgM (n i:Nat):pqs (Tw.zeros n) i=(⟨#[48]⟩,⟨#[49]⟩):=by
 rw [pqs,Tw.zeros,←pq0];congr 1;rw [List.getD_eq_getElem?_getD,List.getElem?_replicate];split <;> rfl
theorem Qke (n:Nat) (hn:1≤n∧n≤1000) (w:World) (hg:Gl w) :
  Calls Tryz.prog 93 #[.int .i64 (n:Int)] w (AnsO (some (Tw.zeros n)) w) :=
 (QoE n hn w hg).mono fun e w' h=>by
  obtain ⟨b,cap,rfl,_,k1,_,k3⟩:=h.good trivial;refine ⟨h.below,fun z hz => ?_,fun hn=>by cases hn⟩;cases hz;refine ⟨_,rfl,b,0,cap,by rw [QaR],by rw [QaR];exact k1, ?_⟩;rw [QaR];exact ⟨fun i hi=>by rw [QgM];exact k3.at_ i hi⟩
theorem Qle (a b:List Rat) (i:Nat) (h:i<a.length):pqs (a++b) i=pqs a i:=by
 rw [pqs,pqs,List.getD_eq_getElem?_getD,List.getD_eq_getElem?_getD,List.getElem?_append_left h]
theorem Qlf (a b:List Rat) (i:Nat):pqs (a++b) (a.length+i)=pqs b i:=by
 rw [pqs,pqs,List.getD_eq_getElem?_getD,List.getD_eq_getElem?_getD,List.getElem?_append_right (by omega),Nat.add_sub_cancel_left]
theorem Qeg {a b:List Rat} {vx:Value} (hl:a.length=b.length) (hn:1≤a.length∧a.length≤500) (w:World) (hx:El w vx (a++b)) :
  Calls Tryz.prog 96 #[vx] w fun e w'=>(∃ va vb,e = .returned (.tuple #[va,vb])∧El w' va a∧El w' vb b)∧Below w.heap.size w w':=by
 obtain ⟨bk,o,cap,rfl,h1,h2⟩:=hx.ex;rw [List.length_append,←hl] at h1 h2 ⊢;refine (QmA bk o a.length cap hn h1 w).mono ?_;rintro e w' ⟨rfl,u⟩;have k2:=h2.keep u;refine ⟨⟨_,_,rfl,⟨bk,o,cap,rfl,by omega,⟨fun i hi => ?_⟩⟩,⟨bk,o+a.length*2,cap-a.length,by rw [hl],by omega,⟨fun i hi => ?_⟩⟩⟩,u⟩
 ·have:=k2.at_ i (by omega);rw [Qle a b i hi] at this;exact this
 ·have:=k2.at_ (a.length+i) (by omega);rw [Qlf,show o+(a.length+i)*2=o+a.length*2+i*2 by omega] at this;exact this
theorem Qii {a b:List Rat} {va vb:Value} (h1:1≤a.length∧a.length≤500) (h2:1≤b.length∧b.length≤500) (bo co:Nat) (w:World) (hb:w.heap[bo]? = some (Jc #[va,vb] 67 (0,0))) (hx:El w va a) (hy:El w vb b) :
  Calls Tryz.prog 98 #[.slice (some ⟨bo,0,none⟩) 2 co] w (AnsO (some (a++b)) w):=by
 obtain ⟨b1,o1,c1,rfl,_,x1⟩:=hx.ex;obtain ⟨b2,o2,c2,rfl,_,y1⟩:=hy.ex;refine (QmB b1 o1 a.length c1 b2 o2 b.length c2 bo co h1 h2 (pqs a) (pqs b) (pqs (a++b)) (fun i hi=>Qle a b i hi) (fun i _=>Qlf a b i) w hb x1 y1).mono fun e w' h => ?_;obtain ⟨b,cap,rfl,_,k1,_,k3⟩:=h.good trivial;refine ⟨h.below,fun z hz => ?_,fun hn=>by cases hn⟩;cases hz;rw [←List.length_append] at k1 k3 ⊢;exact ⟨_,rfl,_,0,cap,rfl,k1,k3⟩
def Fd (W:World):Value→List (List Rat)→Prop
 | v, []=>v = .pointer none
 | v,d :: rs=>∃ fb lv rv,v = .pointer (some ⟨fb,0,none⟩)∧W.heap[fb]? = some (Jc #[lv,rv] 117 (0,0))∧Fd W lv rs∧El W rv d∧d.length=2^rs.length∧FitL d
theorem Fd.keep {W W':World} (hB:Below W.heap.size W W'):∀ {rs:List (List Rat)} {v:Value},Fd W v rs→Fd W' v rs
 | [],_,h=>h
 | _ :: _,_,⟨fb,lv,rv,e,h1,h2,h3,h4,h5⟩=>⟨fb,lv,rv,e,En.Qac h1 hB,Fd.keep hB h2,h3.keep hB,h4,h5⟩
theorem FitL.app {a b:List Rat} (h:FitL (a++b)):FitL a∧FitL b:=⟨fun q hq=>h q (List.mem_append_left _ hq),fun q hq=>h q (List.mem_append_right _ hq)⟩
theorem FitL.both {a b:List Rat} (h:FitL a) (h':FitL b):FitL (a++b):=fun q hq=>(List.mem_append.1 hq).elim (h q) (h' q)
theorem FitL.zeros (n:Nat):FitL (Tw.zeros n):=fun q hq=>by rw [List.eq_of_mem_replicate hq];exact fit0
theorem QcB {l:List Rat} {k:Nat} (h:l.length=2^(k+1)):∃ a b,l=a++b∧a.length=2^k∧b.length=2^k:=by
 obtain ⟨h1,h2⟩:=Qdv h;exact ⟨hl l,hr l,(List.take_append_drop _ _).symm,h1,h2⟩
theorem QbL:∀ {rs:List (List Rat)} {x y z:List Rat},mulO rs x y=some z→FitL z
 | [],x,y,z,h=>by
  rw [mulO] at h;split at h
  ·cases h;exact .zeros _
  ·exact .pair (fun _ _ _ h=>FitQ.mulQ h) h
 | d :: rs,x,y,z,h=>by
  rw [mulO] at h;split at h
  ·cases h;exact .zeros _
  ·obtain ⟨ac,h1,h⟩:=Option.bind_eq_some_iff.1 h;obtain ⟨be,h2,h⟩:=Option.bind_eq_some_iff.1 h;obtain ⟨bed,h3,h⟩:=Option.bind_eq_some_iff.1 h;obtain ⟨p,h4,h⟩:=Option.bind_eq_some_iff.1 h;obtain ⟨ae,h5,h⟩:=Option.bind_eq_some_iff.1 h;obtain ⟨bc,h6,h⟩:=Option.bind_eq_some_iff.1 h;obtain ⟨q,h7,rfl⟩:=Option.map_eq_some_iff.1 h;exact .both (.pair (fun _ _ _ h=>FitQ.addQ h) h4) (.pair (fun _ _ _ h=>FitQ.addQ h) h7)
def Qdz:List (List Rat)→Prop
 | []=>True
 | d :: rs=>d.length=2^rs.length∧Qdz rs
theorem QaN:∀ {rs:List (List Rat)} {x y z:List Rat},Qdz rs→x.length=2^rs.length→y.length=2^rs.length→mulO rs x y=some z→z.length=2^rs.length
 | [],x,y,z,_,hx,hy,h=>by
  rw [mulO] at h;split at h
  ·cases h;rw [QaR,hx]
  ·rw [Qbv (by rw [hx,hy]) h,hx]
 | d :: rs,x,y,z,hd,hx,hy,h=>by
  rw [mulO] at h;split at h
  ·cases h;rw [QaR,hx]
  ·obtain ⟨a1,a2⟩:=Qdv hx;obtain ⟨c1,c2⟩:=Qdv hy;obtain ⟨ac,h1,h⟩:=Option.bind_eq_some_iff.1 h;obtain ⟨be,h2,h⟩:=Option.bind_eq_some_iff.1 h;obtain ⟨bed,h3,h⟩:=Option.bind_eq_some_iff.1 h;obtain ⟨p,h4,h⟩:=Option.bind_eq_some_iff.1 h;obtain ⟨ae,h5,h⟩:=Option.bind_eq_some_iff.1 h;obtain ⟨bc,h6,h⟩:=Option.bind_eq_some_iff.1 h;obtain ⟨q,h7,rfl⟩:=Option.map_eq_some_iff.1 h;have l1:=QaN hd.2 a1 c1 h1;have l2:=QaN hd.2 (QaN hd.2 a2 c2 h2) hd.1 h3;have l5:=QaN hd.2 a1 c2 h5;have l6:=QaN hd.2 a2 c1 h6;rw [List.length_append,Qbv (by rw [l1,l2]) h4,Qbv (by rw [l5,l6]) h7,l1,l5,List.length_cons,Nat.pow_succ];omega
theorem Fd.rad {W:World}:∀ {rs:List (List Rat)} {v:Value},Fd W v rs→Qdz rs
 | [],_,_=>trivial
 | _ :: _,_,⟨_,_,_,_,_,h2,_,h4,_⟩=>⟨h4,Fd.rad h2⟩
def QgN (rs:List (List Rat)):Prop:=∀ {x y:List Rat} {f vx vy:Value},x.length=2^rs.length→y.length=2^rs.length→FitL x→FitL y→∀ w,Gl w→Fd w f rs→El w vx x→El w vy y→Calls Tryz.prog 38 #[f,vx,vy] w (AnsO (mulO rs x y) w)
theorem QbG {k:Nat} (h:k≤4):1≤2^k∧2^k≤16:=by
 rcases (by omega:k=0∨k=1∨k=2∨k=3∨k=4) with rfl | rfl | rfl | rfl | rfl <;> decide
theorem Qhv {rs:List (List Rat)} (hk:rs.length≤4) {x y:List Rat} {f vx vy:Value} (hx:x.length=2^rs.length) (hy:y.length=2^rs.length) (w:World) (hg:Gl w) (ex:El w vx x) (ey:El w vy y) (hz:(QbQ x || QbQ y)=true) :
  Calls Tryz.prog 38 #[f,vx,vy] w (AnsO (some (Tw.zeros x.length)) w):=by
 have hp:=QbG hk;rw [←hx] at hp hy;have c1:=Qef (l:=x) (by omega) w hg ex;have c2:=fun (W:World) (u:Below w.heap.size w W)=>Qef (l:=y) (by omega) W (hg.keep u) (ey.keep u);have c3:=fun (W:World) (u:Below w.heap.size w W)=>Qke x.length (by omega) W (hg.keep u);obtain ⟨b,o,cap,rfl,_,_⟩:=ex.ex;clear ex ey hg hx hy hk;generalize x.length=n at *
 rcases Bool.or_eq_true_iff.1 hz with h | h
 ·rw [h] at c1;clear c2 hz h;go_enter Tryz.func38, Tryz.ntmps38;go_wp2_with fail;refine c1.mono ?_;rintro e w1 ⟨rfl,u1⟩;clear c1;go_wp2_with fail;refine (c3 w1 u1).mono ?_;intro e w2 h2;obtain ⟨v,rfl,hv⟩:=h2.good _ rfl;go_wp2_with fail;go_ret;exact ⟨u1.trans (h2.below.mono u1.size),fun z hz=>by cases hz;exact ⟨_,rfl,hv⟩,fun h=>by cases h⟩
 ·cases h0:QbQ x with
  | true =>
   rw [h0] at c1;clear c2 hz h;go_enter Tryz.func38, Tryz.ntmps38;go_wp2_with fail;refine c1.mono ?_;rintro e w1 ⟨rfl,u1⟩;clear c1;go_wp2_with fail;refine (c3 w1 u1).mono ?_;intro e w2 h2;obtain ⟨v,rfl,hv⟩:=h2.good _ rfl;go_wp2_with fail;go_ret;exact ⟨u1.trans (h2.below.mono u1.size),fun z hz=>by cases hz;exact ⟨_,rfl,hv⟩,fun h=>by cases h⟩
  | false =>
   rw [h0] at c1;rw [h] at c2;clear hz h h0;go_enter Tryz.func38, Tryz.ntmps38;go_wp2_with fail;refine c1.mono ?_;rintro e w1 ⟨rfl,u1⟩;clear c1;go_wp2_with fail;refine (c2 w1 u1).mono ?_;rintro e w2 ⟨rfl,u2⟩;have u3:=u1.trans (u2.mono u1.size);clear c2 u1 u2;go_wp2_with fail;refine (c3 w2 u3).mono ?_;intro e w3 h2;obtain ⟨v,rfl,hv⟩:=h2.good _ rfl;go_wp2_with fail;go_ret;exact ⟨u3.trans (h2.below.mono u3.size),fun z hz=>by cases hz;exact ⟨_,rfl,hv⟩,fun h=>by cases h⟩
theorem QoH:QgN []:=by
 intro x y f vx vy hx hy fx fy w hg hf ex ey;rw [mulO];by_cases hz:(QbQ x || QbQ y)=true
 ·rw [if_pos hz];exact Qhv (rs := []) (by decide) hx hy w hg ex ey hz
 ·rw [if_neg hz];obtain rfl:f = .pointer none:=hf;rw [Bool.or_eq_true_iff,not_or,Bool.not_eq_true,Bool.not_eq_true] at hz;have hx1:x.length=1:=hx;have hy1:y.length=1:=hy;have c1:=Qef (l:=x) (by omega) w hg ex;have c2:=fun (W:World) (u:Below w.heap.size w W)=>Qef (l:=y) (by omega) W (hg.keep u) (ey.keep u);have c3:=fun (W:World) (u:Below w.heap.size w W)=>QuK (l:=x) (m:=y) (by omega) (by omega) fx fy W (ex.keep u) (ey.keep u);rw [hz.1] at c1;rw [hz.2] at c2;clear ex ey hg hz;go_enter Tryz.func38, Tryz.ntmps38;go_wp2_with fail;refine c1.mono ?_;rintro e w1 ⟨rfl,u1⟩;clear c1;go_wp2_with fail;refine (c2 w1 u1).mono ?_;rintro e w2 ⟨rfl,u2⟩;have u3:=u1.trans (u2.mono u1.size);clear c2 u1 u2;go_wp2_with fail;refine (c3 w2 u3).mono ?_;intro e w3 h2;rcases ho:Qaj mulQ x y with _ | z
  ·obtain rfl:=h2.bad ho;exact ⟨rfl,u3.trans (h2.below.mono u3.size),fun z hz=>(by cases hz),fun _=>rfl⟩
  ·obtain ⟨v,rfl,hv⟩:=h2.good _ ho;go_wp2_with fail;go_ret;exact ⟨u3.trans (h2.below.mono u3.size),fun z' hz=>(by rw [ho] at hz;cases hz;exact ⟨_,rfl,hv⟩),fun h=>(by rw [ho] at h;cases h)⟩
theorem Qrw {rs:List (List Rat)} (ih:QgN rs) {b g d:List Rat} {lv vb ve rv:Value} (lb:b.length=2^rs.length) (lg:g.length=2^rs.length) (ld:d.length=2^rs.length) (fb:FitL b) (fg:FitL g) (fd:FitL d)
  (bo co:Nat) (w:World) (hg:Gl w) (hl:Fd w lv rs) (eb:El w vb b) (ee:El w ve g) (ed:El w rv d) (hb:w.heap[bo]? = some (Jc #[ve,rv] 67 (0,0))) :
  Calls Tryz.prog 97 #[.func (.func 38) #[lv] #[],vb,.slice (some ⟨bo,0,none⟩) 2 co] w (AnsO ((mulO rs b g).bind fun be=>mulO rs be d) w):=by
 refine (Qqq 38 (enters_of Tryz.func38 (by kernel_rfl) rfl) lv vb ve rv bo co w hb (fun v W=>∃ be,mulO rs b g=some be∧El W v be)
  (fun e W=>(∀ z,((mulO rs b g).bind fun be=>mulO rs be d)=some z→∃ v,e = .returned v∧El W v z)∧(((mulO rs b g).bind fun be=>mulO rs be d)=none→e = .panicked twP)) ?_ ?_).mono (fun e w' h=>⟨h.1,h.2.1,h.2.2⟩)
 ·refine (ih lb lg fb fg w hg hl eb ee).mono fun e w1 h=>⟨h.below, ?_⟩;rcases ho:mulO rs b g with _ | be
  ·exact .inr ⟨h.bad ho,fun z hz=>(by rw [Option.bind_none] at hz;cases hz),fun _=>h.bad ho⟩
  ·obtain ⟨v,rfl,hv⟩:=h.good _ ho;exact .inl ⟨v,rfl,be,rfl,hv⟩
 ·rintro v w1 u ⟨be,ho,hv⟩;rw [ho];refine (ih (QaN hl.rad lb lg ho) ld (QbL ho) fd w1 (hg.keep u) (Fd.keep u hl) hv (ed.keep u)).mono fun e w2 h=>⟨h.below, ?_⟩;rcases hq:mulO rs be d with _ | z
  ·exact .inr ⟨h.bad hq,fun z hz=>(by rw [Option.bind_some,hq] at hz;cases hz),fun _=>h.bad hq⟩
  ·obtain ⟨v2,rfl,hv2⟩:=h.good _ hq;exact .inl ⟨v2,rfl,fun z' hz=>(by rw [Option.bind_some,hq] at hz;cases hz;exact ⟨_,rfl,hv2⟩),fun hn=>(by rw [Option.bind_some,hq] at hn;cases hn)⟩
theorem Qlg {rs:List (List Rat)} {d a b c g:List Rat} (h1:a.length=b.length) (h2:c.length=g.length) (hz:¬(QbQ (a++b) || QbQ (c++g))=true) :
  mulO (d :: rs) (a++b) (c++g)=(mulO rs a c).bind fun ac=>((mulO rs b g).bind fun be=>mulO rs be d).bind fun bed=>(Qaj addQ ac bed).bind fun p=>(mulO rs a g).bind fun ae=>(mulO rs b c).bind fun bc=>(Qaj addQ ae bc).map fun q=>p++q:=by
 rw [mulO,if_neg hz,(QaB h1).1,(QaB h1).2,(QaB h2).1,(QaB h2).2];rcases mulO rs a c with _ | ac
 ·rfl
 ·rcases mulO rs b g with _ | be <;> rfl
theorem QmD {rs:List (List Rat)} (hk:rs.length≤3) (d:List Rat) (ih:QgN rs):QgN (d :: rs):=by
 intro x y f vx vy hx hy fx fy w hg hf ex ey;by_cases hz:(QbQ x || QbQ y)=true
 ·rw [mulO,if_pos hz];exact Qhv (rs:=d :: rs) (by simp;omega) hx hy w hg ex ey hz
 ·have hz':=hz;rw [Bool.or_eq_true_iff,not_or,Bool.not_eq_true,Bool.not_eq_true] at hz';have hp:=QbG (show rs.length≤4 by omega);have hxn:x.length≤1000:=by rw [hx,List.length_cons,Nat.pow_succ];omega
  have hyn:y.length≤1000:=by rw [hy,List.length_cons,Nat.pow_succ];omega
  have c1:=Qef hxn w hg ex;have c2:=fun (W:World) (u:Below w.heap.size w W)=>Qef hyn W (hg.keep u) (ey.keep u);rw [hz'.1] at c1;rw [hz'.2] at c2;obtain ⟨a,b,rfl,ha,hb⟩:=QcB hx;obtain ⟨c,g,rfl,hc,he⟩:=QcB hy;have ch1:=fun (W:World) (u:Below w.heap.size w W)=>Qeg (a:=a) (b:=b) (by omega) (by omega) W (ex.keep u);have ch2:=fun (W:World) (u:Below w.heap.size w W)=>Qeg (a:=c) (b:=g) (by omega) (by omega) W (ey.keep u);rw [Qlg (by omega) (by omega) hz];obtain ⟨fb,lv,rv,rfl,n_f,hl,er,hd,fd⟩:=hf;have hrad:=hl.rad;have TT:Sh (∀ W va vc,Below w.heap.size w W→El W va a→El W vc c→Calls Tryz.prog 38 #[lv,va,vc] W (AnsO (mulO rs a c) W)):=⟨fun W va vc u h h'=>ih ha hc fx.app.1 fy.app.1 W (hg.keep u) (Fd.keep u hl) h h'⟩;have T2:Sh (∀ W va vc,Below w.heap.size w W→El W va a→El W vc g→Calls Tryz.prog 38 #[lv,va,vc] W (AnsO (mulO rs a g) W)):=⟨fun W va vc u h h'=>ih ha he fx.app.1 fy.app.2 W (hg.keep u) (Fd.keep u hl) h h'⟩;have T3:Sh (∀ W va vc,Below w.heap.size w W→El W va b→El W vc c→Calls Tryz.prog 38 #[lv,va,vc] W (AnsO (mulO rs b c) W)):=⟨fun W va vc u h h'=>ih hb hc fx.app.2 fy.app.1 W (hg.keep u) (Fd.keep u hl) h h'⟩
  have FF:Sh (∀ W vb ve bo,Below w.heap.size w W→El W vb b→El W ve g→W.heap[bo]? = some (Jc #[ve,rv] 67 (0,0))→Calls Tryz.prog 97 #[.func (.func 38) #[lv] #[],vb,.slice (some ⟨bo,0,none⟩) 2 2] W (AnsO ((mulO rs b g).bind fun be=>mulO rs be d) W)) :=
   ⟨fun W vb ve bo u h h' hq=>Qrw ih hb he hd fx.app.2 fy.app.2 fd bo 2 W (hg.keep u) (Fd.keep u hl) h h' (er.keep u) hq⟩
  have PA:Sh (∀ z,mulO rs a c=some z→FitL z∧z.length=2^rs.length):=⟨fun z h=>⟨QbL h,QaN hrad ha hc h⟩⟩;have P2_:Sh (∀ z,mulO rs a g=some z→FitL z∧z.length=2^rs.length):=⟨fun z h=>⟨QbL h,QaN hrad ha he h⟩⟩;have P3_:Sh (∀ z,mulO rs b c=some z→FitL z∧z.length=2^rs.length):=⟨fun z h=>⟨QbL h,QaN hrad hb hc h⟩⟩
  have PF:Sh (∀ z,((mulO rs b g).bind fun be=>mulO rs be d)=some z→FitL z∧z.length=2^rs.length):=⟨fun z h=>by
   obtain ⟨be,h1,h2⟩:=Option.bind_eq_some_iff.1 h;exact ⟨QbL h2,QaN hrad (QaN hrad hb he h1) hd h2⟩⟩
  have HP:Sh (1≤2^rs.length∧2^rs.length≤16):=⟨hp⟩;have ER:Sh _:=⟨er⟩;clear ex ey hz hz' hg hl er hx hy hxn hyn hrad ha hb hc he hd fx fy fd hk hp;clear ih;generalize mulO rs a c=A at *
  generalize ((mulO rs b g).bind fun be=>mulO rs be d)=F at *
  generalize mulO rs a g=AE at *
  generalize mulO rs b c=BC at *
  generalize 2^rs.length=n at *
  go_enter Tryz.func38, Tryz.ntmps38;go_wp2_with fail;refine c1.mono ?_;rintro e w1 ⟨rfl,u1⟩;clear c1;go_wp2_with fail;refine (c2 w1 u1).mono ?_;rintro e w2 ⟨rfl,u2⟩;replace u2:=u1.trans (u2.mono u1.size);clear c2 u1;go_wp2_with fail;refine (ch1 w2 u2).mono ?_;rintro e w3 ⟨⟨va,vb,rfl,ea,eb⟩,u3⟩;replace u3:=u2.trans (u3.mono u2.size);clear ch1 u2;go_wp2_with fail;refine (ch2 w3 u3).mono ?_;rintro e w4 ⟨⟨vc,ve,rfl,ec,ee⟩,u4⟩;replace ea:=ea.keep u4;replace eb:=eb.keep u4;replace u4:=u3.trans (u4.mono u3.size);clear ch2 u3;have n4:=En.Qac n_f u4;have f0:=En.Qaa n4 0 (v:=lv) rfl;have f1:=En.Qaa n4 1 (v:=rv) rfl;go_wp2_with fail;have ed:=ER.o.keep u4;have u5:=QaS (Below.refl w4.heap.size w4);obtain ⟨br,orr,cr,rfl,_,_⟩:=ed.ex;obtain ⟨be,oe,cee,rfl,_,_⟩:=ee.ex;have T4:Sh (∀ W,Below w4.heap.size w4 W→Calls Tryz.prog 38 #[lv,va,vc] W (AnsO A W)):=⟨fun W h=>TT.o W va vc (u4.trans (h.mono u4.size)) (ea.keep h) (ec.keep h)⟩;have E4:Sh (El w4 va a∧El w4 vb b∧El w4 vc c∧El w4 _ g):=⟨ea,eb,ec,ee⟩;clear TT ER ea eb ec ee ed u5 f0
  go_cut [12] from 43 to 57 (fun s wx=>∃ ac bed p,A=some ac∧F=some bed∧Qaj addQ ac bed=some p∧El wx s p∧Below w4.heap.size w4 wx)
  case first =>
   go_region_held (fun X=>X.cell? ⟨fb,1,none⟩=some (.slice (some ⟨br,orr,none⟩) d.length cr)) (go_keep) (first | (go_at_call 38; (with_reducible refine (T4.o _ (by first | exact QaS (Below.refl _ _) | exact QaS ((Below.refl _ _).alloc Lr _))).mono ?_);intro e v1 h1;have k1:Below w4.heap.size w4 v1:=(by first | exact Qah h1.below | exact ((Below.refl w4.heap.size w4).alloc Lr _).trans ((Qah h1.below).mono (by simp)));rcases A with _ | ac;(obtain rfl:=h1.bad rfl;dsimp +zetaDelta only [Exit.then,Exit.inBlock];exact ⟨rfl,u4.trans (k1.mono u4.size),fun z hz=>(by cases hz),fun _=>rfl⟩);obtain ⟨va1,rfl,ea1⟩:=h1.good ac rfl;have hb1:=h1.below;clear h1;have f1:=Qae f1 k1) | (go_at_call 97; (with_reducible refine (FF.o _ vb _ _ (u4.trans ((k1.alloc k1.size _).mono u4.size)) (E4.o.2.1.keep (k1.alloc k1.size _)) (E4.o.2.2.2.keep (k1.alloc k1.size _)) (World.alloc_heap_new v1 _)).mono ?_);intro e v2 h2;have k2:Below w4.heap.size w4 v2:=(k1.alloc k1.size _).trans (h2.below.mono (k1.alloc k1.size _).size);rcases F with _ | bed;(obtain rfl:=h2.bad rfl;dsimp +zetaDelta only [Exit.then,Exit.inBlock];exact ⟨rfl,u4.trans (k2.mono u4.size),fun z hz=>(by cases hz),fun _=>rfl⟩);obtain ⟨vf,rfl,ef⟩:=h2.good bed rfl;have ea2:=ea1.keep (((Below.refl v1.heap.size v1).alloc Lr _).trans (h2.below.mono (by simp)));have tp:=Qjj (l:=ac) (m:=bed) (by rw [(PA.o ac rfl).2,(PF.o bed rfl).2]) (by rw [(PA.o ac rfl).2];have:=HP.o;omega) (PA.o ac rfl).1 (PF.o bed rfl).1 v2 ea2 ef;have TP:Sh _:=⟨tp⟩;clear h2 tp ea2 ef k1 ea1 hb1;have f1:v2.cell? ⟨fb,1,none⟩=_:=Qae (En.Qaa n4 1 rfl) k2) | (go_at_call 97; have hq:=En.Qac (show (w4.alloc (Jc #[.slice (some ⟨be,oe,none⟩) g.length cee,.slice (some ⟨br,orr,none⟩) d.length cr] 67)).drew.heap[w4.heap.size]? = some _ from World.alloc_heap_new w4 _) hb1;(with_reducible refine (FF.o v1 vb _ w4.heap.size (u4.trans (k1.mono u4.size)) (E4.o.2.1.keep k1) (E4.o.2.2.2.keep k1) hq).mono ?_);intro e v2 h2;have k2:Below w4.heap.size w4 v2:=k1.trans (h2.below.mono k1.size);rcases F with _ | bed;(obtain rfl:=h2.bad rfl;dsimp +zetaDelta only [Exit.then,Exit.inBlock];exact ⟨rfl,u4.trans (k2.mono u4.size),fun z hz=>(by cases hz),fun _=>rfl⟩);obtain ⟨vf,rfl,ef⟩:=h2.good bed rfl;have ea2:=ea1.keep h2.below;have tp:=Qjj (l:=ac) (m:=bed) (by rw [(PA.o ac rfl).2,(PF.o bed rfl).2]) (by rw [(PA.o ac rfl).2];have:=HP.o;omega) (PA.o ac rfl).1 (PF.o bed rfl).1 v2 ea2 ef;have TP:Sh _:=⟨tp⟩;clear h2 tp ea2 ef k1 ea1 hb1;have f1:v2.cell? ⟨fb,1,none⟩=_:=Qae (En.Qaa n4 1 rfl) k2) | (go_at_call 41; (with_reducible refine TP.o.mono ?_);intro e v3 h3;have k3:=k2.trans (h3.below.mono k2.size);rcases hP:Qaj addQ ac bed with _ | p;(obtain rfl:=h3.bad hP;dsimp +zetaDelta only [Exit.then,Exit.inBlock];exact ⟨rfl,u4.trans (k3.mono u4.size),fun z hz=>(by rw [Option.bind_some,Option.bind_some,hP] at hz;cases hz),fun _=>rfl⟩);obtain ⟨vp,rfl,ep⟩:=h3.good p hP;have f1:v3.cell? ⟨fb,1,none⟩=_:=Qae (En.Qaa n4 1 rfl) k3))
   all_goals (go_wp2_with fail;go_meet;exact ⟨ac,bed,p,rfl,rfl,hP,ep,k3⟩)
  case rest =>
   obtain ⟨ac,bed,p,rfl,rfl,hP,ep,k3⟩:=hcut;have k4:=u4.trans (k3.mono u4.size);have EW:Sh (El wc va a∧El wc vb b∧El wc vc c∧El wc _ g):=⟨E4.o.1.keep k3,E4.o.2.1.keep k3,E4.o.2.2.1.keep k3,E4.o.2.2.2.keep k3⟩;obtain ⟨bp,op,cp,rfl,_,_⟩:=ep.ex;have EP:Sh _:=⟨ep⟩;clear k3 ep n4 f1 n_f u4 E4 FF T4;have c2:=T2.o wc va _ k4 EW.o.1 EW.o.2.2.2;go_wp2_with fail;refine c2.mono ?_;intro e v5 h5;have k5:=k4.trans (h5.below.mono k4.size);rcases AE with _ | ae
   ·obtain rfl:=h5.bad rfl;exact ⟨rfl,k5,fun z hz=>(by rw [Option.bind_some,Option.bind_some,hP] at hz;cases hz),fun _=>rfl⟩
   obtain ⟨v5a,rfl,e5⟩:=h5.good ae rfl;have c3:=T3.o v5 vb vc k5 (EW.o.2.1.keep h5.below) (EW.o.2.2.1.keep h5.below);have EP5:Sh _:=⟨EP.o.keep h5.below⟩;clear h5 c2 k4 T2 EW EP;go_wp2_with fail;refine c3.mono ?_;intro e v6 h6;have k6:=k5.trans (h6.below.mono k5.size);rcases BC with _ | bc
   ·obtain rfl:=h6.bad rfl;exact ⟨rfl,k6,fun z hz=>(by rw [Option.bind_some,Option.bind_some,hP] at hz;cases hz),fun _=>rfl⟩
   obtain ⟨v6a,rfl,e6⟩:=h6.good bc rfl;have c4:=Qjj (l:=ae) (m:=bc) (by rw [(P2_.o ae rfl).2,(P3_.o bc rfl).2]) (by rw [(P2_.o ae rfl).2];have:=HP.o;omega) (P2_.o ae rfl).1 (P3_.o bc rfl).1 v6 (e5.keep h6.below) e6;have EP6:Sh _:=⟨EP5.o.keep h6.below⟩;clear h6 c3 k5 T3 EP5 e5 e6;go_wp2_with fail;refine c4.mono ?_;intro e v7 h7;have k7:=k6.trans (h7.below.mono k6.size);rcases hQ:Qaj addQ ae bc with _ | q
   ·obtain rfl:=h7.bad hQ;exact ⟨rfl,k7,fun z hz=>(by rw [Option.bind_some,Option.bind_some,hP,Option.bind_some,Option.bind_some,Option.bind_some,hQ] at hz;cases hz),fun _=>rfl⟩
   obtain ⟨v7a,rfl,e7⟩:=h7.good q hQ;have EP7:=EP6.o.keep h7.below;have lp:p.length=_:=(Qbv (by rw [(PA.o ac rfl).2,(PF.o bed rfl).2]) hP).trans (PA.o ac rfl).2;have lq:q.length=_:=(Qbv (by rw [(P2_.o ae rfl).2,(P3_.o bc rfl).2]) hQ).trans (P2_.o ae rfl).2;obtain ⟨bq,oq,cq,rfl,_,_⟩:=e7.ex;have ua:=(Below.refl v7.heap.size v7).alloc Lr (Jc #[.slice (some ⟨bp,op,none⟩) p.length cp,.slice (some ⟨bq,oq,none⟩) q.length cq] 67);have hp:=HP.o;have c5:=Qii (a:=p) (b:=q) (by omega) (by omega) v7.heap.size 2 _ (World.alloc_heap_new v7 _) (EP7.keep ua) (e7.keep ua);have KU:Sh _:=⟨k7.trans (ua.mono k7.size)⟩;clear h7 c4 k6 k7 EP6 EP7 e7 ua lp lq hp;go_wp2_with fail;refine c5.mono ?_;intro e v8 h8;obtain ⟨v8a,rfl,e8⟩:=h8.good _ rfl;go_wp2_with fail;go_ret;refine ⟨KU.o.trans (h8.below.mono KU.o.size),fun z hz => ?_,fun hn => ?_⟩
   ·rw [Option.bind_some,Option.bind_some,hP,Option.bind_some,Option.bind_some,Option.bind_some,hQ] at hz;cases hz;exact ⟨_,rfl,e8⟩
   ·rw [Option.bind_some,Option.bind_some,hP,Option.bind_some,Option.bind_some,Option.bind_some,hQ] at hn;cases hn
theorem Qdd:∀ {rs:List (List Rat)},rs.length≤4→QgN rs
 | [],_=>QoH
 | d :: rs,h=>QmD (by simpa using h) d (Qdd (by simp at h;omega))
end Tw
end
end Go.Proofs.YtihlgifojjeoaaaGreatDoor
