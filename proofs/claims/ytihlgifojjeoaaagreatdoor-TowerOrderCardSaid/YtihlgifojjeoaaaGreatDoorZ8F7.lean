import Derived.Test.YtihlgifojjeoaaaGreatDoorZ8F5
set_option maxRecDepth 1000000
set_option maxHeartbeats 40000000
open Go.Value renaming string→J
open Go.Obj renaming cells→Jc
namespace Go.Proofs.YtihlgifojjeoaaaGreatDoor
section
namespace Tw
open Go.RowKit Go.Extern.Stop Go.Stop Go.Extern
open En Go.Proofs.YtihlgifojjeoaaaGreatDoor.Nm Go.Proofs.YtihlgifojjeoaaaGreatDoor.Rt
theorem QfO {rs:List (List Rat)} {d a b:List Rat} (h:a.length=b.length):nrmO rs d (a++b)=(mulO rs a a).bind fun aa=>((mulO rs b b).bind fun bb=>mulO rs bb d).bind fun bbd=>Qaj subQ aa bbd:=by
 rw [nrmO,(QaB h).1,(QaB h).2];rcases mulO rs a a with _ | aa
 ·rfl
 ·rcases mulO rs b b with _ | bb <;> rfl
theorem Qrx {rs:List (List Rat)} (hk:rs.length≤3) {d x:List Rat} {f vx:Value} (hx:x.length=2^(rs.length+1)) (fx:FitL x) (w:World) (hg:Gl w) (hf:Fd w f (d :: rs)) (ex:El w vx x) :
  Calls Tryz.prog 102 #[f,vx] w (AnsO (nrmO rs d x) w):=by
 have hp:=QbG (show rs.length≤4 by omega);have ih:QgN rs:=Qdd (by omega);obtain ⟨a,b,rfl,ha,hb⟩:=QcB hx;have ch1:=Qeg (a:=a) (b:=b) (by omega) (by omega) w ex;rw [QfO (by omega)];obtain ⟨fb,lv,rv,rfl,n_f,hl,er,hd,fd⟩:=hf;have hrad:=hl.rad;have TT:Sh (∀ W va vc,Below w.heap.size w W→El W va a→El W vc a→Calls Tryz.prog 38 #[lv,va,vc] W (AnsO (mulO rs a a) W)):=⟨fun W va vc u h h'=>ih ha ha fx.app.1 fx.app.1 W (hg.keep u) (Fd.keep u hl) h h'⟩
 have FF:Sh (∀ W vb ve bo,Below w.heap.size w W→El W vb b→El W ve b→W.heap[bo]? = some (Jc #[ve,rv] 67 (0,0))→Calls Tryz.prog 97 #[.func (.func 38) #[lv] #[],vb,.slice (some ⟨bo,0,none⟩) 2 2] W (AnsO ((mulO rs b b).bind fun be=>mulO rs be d) W)) :=
  ⟨fun W vb ve bo u h h' hq=>Qrw ih hb hb hd fx.app.2 fx.app.2 fd bo 2 W (hg.keep u) (Fd.keep u hl) h h' (er.keep u) hq⟩
 have PA:Sh (∀ z,mulO rs a a=some z→FitL z∧z.length=2^rs.length):=⟨fun z h=>⟨QbL h,QaN hrad ha ha h⟩⟩
 have PF:Sh (∀ z,((mulO rs b b).bind fun be=>mulO rs be d)=some z→FitL z∧z.length=2^rs.length):=⟨fun z h=>by
  obtain ⟨be,h1,h2⟩:=Option.bind_eq_some_iff.1 h;exact ⟨QbL h2,QaN hrad (QaN hrad hb hb h1) hd h2⟩⟩
 have HP:Sh (1≤2^rs.length∧2^rs.length≤16):=⟨hp⟩;have ER:Sh _:=⟨er⟩;clear ex hg hl er hx hrad ha hb hd fx fd hk hp ih;generalize mulO rs a a=A at *
 generalize ((mulO rs b b).bind fun be=>mulO rs be d)=F at *
 generalize 2^rs.length=n at *
 go_enter Tryz.func102, Tryz.ntmps102;go_wp2_with fail;refine ch1.mono ?_;rintro e w4 ⟨⟨va,vb,rfl,ea,eb⟩,u4⟩;clear ch1;have n4:=En.Qac n_f u4;have f0:=En.Qaa n4 0 (v:=lv) rfl;have f1:=En.Qaa n4 1 (v:=rv) rfl;go_wp2_with fail;have ed:=ER.o.keep u4;obtain ⟨br,orr,cr,rfl,_,_⟩:=ed.ex;obtain ⟨b2,o2,c2,rfl,_,_⟩:=eb.ex;have T4:Sh (∀ W,Below w4.heap.size w4 W→Calls Tryz.prog 38 #[lv,va,va] W (AnsO A W)):=⟨fun W h=>TT.o W va va (u4.trans (h.mono u4.size)) (ea.keep h) (ea.keep h)⟩;have E4:Sh (El w4 va a∧El w4 _ b):=⟨ea,eb⟩;clear TT ER ea eb ed f0
 go_region_held (fun X=>X.cell? ⟨fb,1,none⟩=some (.slice (some ⟨br,orr,none⟩) d.length cr)) (go_keep) (first | (go_at_call 38; (with_reducible refine (T4.o _ (by first | exact QaS (Below.refl _ _) | exact QaS ((Below.refl _ _).alloc Lr _))).mono ?_);intro e v1 h1;have k1:Below w4.heap.size w4 v1:=(by first | exact Qah h1.below | exact ((Below.refl w4.heap.size w4).alloc Lr _).trans ((Qah h1.below).mono (by simp)));rcases A with _ | ac;(obtain rfl:=h1.bad rfl;dsimp +zetaDelta only [Exit.then,Exit.inBlock];exact ⟨rfl,u4.trans (k1.mono u4.size),fun z hz=>(by cases hz),fun _=>rfl⟩);obtain ⟨va1,rfl,ea1⟩:=h1.good ac rfl;have hb1:=h1.below;clear h1;have f1:=Qae f1 k1) | (go_at_call 97; (with_reducible refine (FF.o _ (.slice (some ⟨b2,o2,none⟩) b.length c2) _ _ (u4.trans ((k1.alloc k1.size _).mono u4.size)) (E4.o.2.keep (k1.alloc k1.size _)) (E4.o.2.keep (k1.alloc k1.size _)) (World.alloc_heap_new v1 _)).mono ?_);intro e v2 h2;have k2:Below w4.heap.size w4 v2:=(k1.alloc k1.size _).trans (h2.below.mono (k1.alloc k1.size _).size);rcases F with _ | bed;(obtain rfl:=h2.bad rfl;dsimp +zetaDelta only [Exit.then,Exit.inBlock];exact ⟨rfl,u4.trans (k2.mono u4.size),fun z hz=>(by cases hz),fun _=>rfl⟩);obtain ⟨vf,rfl,ef⟩:=h2.good bed rfl;have ea2:=ea1.keep (((Below.refl v1.heap.size v1).alloc Lr _).trans (h2.below.mono (by simp)));have tp:=Qih (l:=ac) (m:=bed) (by rw [(PA.o ac rfl).2,(PF.o bed rfl).2]) (by rw [(PA.o ac rfl).2];have:=HP.o;omega) (PA.o ac rfl).1 (PF.o bed rfl).1 v2 ea2 ef;have TP:Sh _:=⟨tp⟩;clear h2 tp ea2 ef k1 ea1 hb1;have f1:v2.cell? ⟨fb,1,none⟩=_:=Qae (En.Qaa n4 1 rfl) k2) | (go_at_call 97; have hq:=En.Qac (show (w4.alloc (Jc #[.slice (some ⟨b2,o2,none⟩) b.length c2,.slice (some ⟨br,orr,none⟩) d.length cr] 67)).drew.heap[w4.heap.size]? = some _ from World.alloc_heap_new w4 _) hb1;(with_reducible refine (FF.o v1 (.slice (some ⟨b2,o2,none⟩) b.length c2) _ w4.heap.size (u4.trans (k1.mono u4.size)) (E4.o.2.keep k1) (E4.o.2.keep k1) hq).mono ?_);intro e v2 h2;have k2:Below w4.heap.size w4 v2:=k1.trans (h2.below.mono k1.size);rcases F with _ | bed;(obtain rfl:=h2.bad rfl;dsimp +zetaDelta only [Exit.then,Exit.inBlock];exact ⟨rfl,u4.trans (k2.mono u4.size),fun z hz=>(by cases hz),fun _=>rfl⟩);obtain ⟨vf,rfl,ef⟩:=h2.good bed rfl;have ea2:=ea1.keep h2.below;have tp:=Qih (l:=ac) (m:=bed) (by rw [(PA.o ac rfl).2,(PF.o bed rfl).2]) (by rw [(PA.o ac rfl).2];have:=HP.o;omega) (PA.o ac rfl).1 (PF.o bed rfl).1 v2 ea2 ef;have TP:Sh _:=⟨tp⟩;clear h2 tp ea2 ef k1 ea1 hb1;have f1:v2.cell? ⟨fb,1,none⟩=_:=Qae (En.Qaa n4 1 rfl) k2) | (go_at_call 43; (with_reducible refine TP.o.mono ?_);intro e v3 h3;have k3:=k2.trans (h3.below.mono k2.size);rcases hP:Qaj subQ ac bed with _ | p;(obtain rfl:=h3.bad hP;dsimp +zetaDelta only [Exit.then,Exit.inBlock];exact ⟨rfl,u4.trans (k3.mono u4.size),fun z hz=>(by rw [Option.bind_some,Option.bind_some,hP] at hz;cases hz),fun _=>rfl⟩);obtain ⟨vp,rfl,ep⟩:=h3.good p hP;have f1:v3.cell? ⟨fb,1,none⟩=_:=Qae (En.Qaa n4 1 rfl) k3))
 all_goals (go_wp2_with fail;go_ret;exact ⟨u4.trans (k3.mono u4.size),fun z hz=>(by rw [Option.bind_some,Option.bind_some,hP] at hz;cases hz;exact ⟨_,rfl,ep⟩),fun hn=>(by rw [Option.bind_some,Option.bind_some,hP] at hn;cases hn)⟩)
structure AnsS (o:Option Int) (w:World) (e:Ending) (w':World):Prop where
 below:Below w.heap.size w w'
 good:∀ z,o=some z→e = .returned (.int .i64 z)
 bad:o=none→e = .panicked twP
def QoI (rs:List (List Rat)):Prop:=∀ {x:List Rat} {f vx:Value},x.length=2^rs.length→FitL x→∀ w,Gl w→Fd w f rs→El w vx x→Calls Tryz.prog 47 #[f,vx] w (AnsS (Qaw rs x) w)
theorem Qqw:QoI []:=by
 intro x f vx hx fx w hg hf ex;obtain rfl:f = .pointer none:=hf
 obtain ⟨q,rfl⟩:∃ q,x = [q]:=by
  match x,hx with
  | [q],_=>exact ⟨q,rfl⟩
 have cC:=fun W=>QgB (p:=q) (q:=0) (fx q (by simp)) fit0 W;obtain ⟨b,o,cap,rfl,h1,h2⟩:=ex.ex;obtain ⟨x0,x1⟩:=h2.at_ 0 (by simp);have z0:=hg.z0;have z1:=hg.z1;have e0:(⟨#[48]⟩:ByteArray)=txt (0:Rat).num:=txt0.symm;have e1:(⟨#[49]⟩:ByteArray)=txt ((0:Rat).den:Int):=txt1.symm;have hsign:Qaw [] [q]=some (cmpQ q 0):=rfl;rw [hsign]
 replace cC:∀ W,Calls Tryz.prog 27 #[.agg #[J (pq q).1,J (pq q).2],.agg #[J ⟨#[48]⟩,J ⟨#[49]⟩]] W fun e w'=>e = .returned (.int .i64 (cmpQ q 0))∧Below W.heap.size W w':=by
  rw [e0,e1];exact cC
 replace x0:w.cell? ⟨b,o,none⟩=some (J (pq q).1):=x0;replace x1:w.cell? ⟨b,o+1,none⟩=some (J (pq q).2):=x1;generalize cmpQ q 0=c at *
 generalize pq q=s at *
 clear e0 e1 hsign fx h2 hg ex;go_enter Tryz.func47, Tryz.ntmps47;go_wp2_with fail
 go_region_held (fun X=>X.cell? ⟨b,o,none⟩=some (J s.1)∧X.cell? ⟨b,o+1,none⟩=some (J s.2)∧X.cell? ⟨0, 0,none⟩=some (J ⟨#[48]⟩)∧X.cell? ⟨0, 1,none⟩=some (J ⟨#[49]⟩)) (go_keep) (first | (go_at_call 27; (with_reducible refine (cC _).mono ?_);rintro e v1 ⟨rfl,g⟩;have u:=Qah g;replace x0:=Qae x0 u;replace x1:=Qae x1 u;replace z0:=Qae z0 u;replace z1:=Qae z1 u))
 all_goals (go_wp2_with fail;go_ret;exact ⟨u,fun z hz=>(by cases hz;rfl),fun hn=>(by cases hn)⟩)
theorem Qcu:∀ {rs:List (List Rat)} {x:List Rat} {s:Int},Qaw rs x=some s→s = -1∨s=0∨s=1
 | [],x,s,h=>by
  injection h with h;rcases Qcs (x.headD 0) 0 with ⟨e,_⟩ | ⟨e,_⟩ | ⟨e,_⟩ <;> omega
 | d :: rs,x,s,h=>by
  rw [Qaw] at h;obtain ⟨p,h1,h⟩:=Option.bind_eq_some_iff.1 h;obtain ⟨q,h2,h⟩:=Option.bind_eq_some_iff.1 h;have e1:=Qcu h1;have e2:=Qcu h2;split at h
  ·injection h with h;omega
  ·split at h
   ·injection h with h;omega
   ·obtain ⟨n,h3,h⟩:=Option.bind_eq_some_iff.1 h;obtain ⟨u,h4,rfl⟩:=Option.map_eq_some_iff.1 h;have e4:=Qcu h4;rcases e1 with rfl | rfl | rfl <;> rcases e4 with rfl | rfl | rfl <;> decide
theorem QgO {rs:List (List Rat)} {d a b:List Rat} (h:a.length=b.length):Qaw (d :: rs) (a++b)=(Qaw rs a).bind fun s=>(Qaw rs b).bind fun t=>if t=0 then some s else if s=0∨s=t then some t else ((nrmO rs d (a++b)).bind fun n=>Qaw rs n).map fun u=>s*u:=by
 rw [Qaw,(QaB h).1,(QaB h).2];rcases nrmO rs d (a++b) with _ | n <;> rfl
theorem QoJ {rs : List (List Rat)} (hk : rs.length ≤ 3) (d : List Rat) (ih : QoI rs) : QoI (d :: rs) := by
  intro x f vx hx fx w hg hf ex;have hp := QbG (show rs.length ≤ 4 by omega);have cN := fun (W : World) (u : Below w.heap.size w W) => Qrx hk hx fx W (hg.keep u) (Fd.keep u hf) (ex.keep u);obtain ⟨a, b, rfl, ha, hb⟩ := QcB hx;have ch1 := Qeg (a := a) (b := b) (by omega) (by omega) w ex;rw [QgO (by omega)];have hf0 := hf;obtain ⟨fb, lv, rv, rfl, n_f, hl, er, hd, fd⟩ := hf;have hrad := hl.rad;have TA : Sh (∀ W va, Below w.heap.size w W → El W va a → Calls Tryz.prog 47 #[lv, va] W (AnsS (Qaw rs a) W)) := ⟨fun W va u h => ih ha fx.app.1 W (hg.keep u) (Fd.keep u hl) h⟩;have TB : Sh (∀ W va, Below w.heap.size w W → El W va b → Calls Tryz.prog 47 #[lv, va] W (AnsS (Qaw rs b) W)) := ⟨fun W va u h => ih hb fx.app.2 W (hg.keep u) (Fd.keep u hl) h⟩
  have TS : Sh (∀ z, nrmO rs d (a ++ b) = some z → ∀ W vz, Below w.heap.size w W → El W vz z → Calls Tryz.prog 47 #[lv, vz] W (AnsS ((nrmO rs d (a ++ b)).bind fun n => Qaw rs n) W)) := ⟨fun z hz W vz u h => by
    have l1 : z.length = 2 ^ rs.length := by
      rw [QfO (by omega)] at hz;obtain ⟨aa, h1, hz⟩ := Option.bind_eq_some_iff.1 hz;obtain ⟨bbd, h2, hz⟩ := Option.bind_eq_some_iff.1 hz;obtain ⟨bb, h3, h2⟩ := Option.bind_eq_some_iff.1 h2;have k1 := QaN hrad ha ha h1;have k2 := QaN hrad (QaN hrad hb hb h3) hd h2;rw [Qbv (by rw [k1, k2]) hz, k1]
    have f1 : FitL z := by
      rw [QfO (by omega)] at hz;obtain ⟨aa, h1, hz⟩ := Option.bind_eq_some_iff.1 hz;obtain ⟨bbd, h2, hz⟩ := Option.bind_eq_some_iff.1 hz;exact .pair (fun _ _ _ h => FitQ.subQ h) hz
    rw [hz];exact ih l1 f1 W (hg.keep u) (Fd.keep u hl) h⟩
  have NZ : Sh (nrmO rs d (a ++ b) = none → ((nrmO rs d (a ++ b)).bind fun n => Qaw rs n) = none) := ⟨fun h => by rw [h]; rfl⟩;have RA : Sh (∀ s, Qaw rs a = some s → s = -1 ∨ s = 0 ∨ s = 1) := ⟨fun s h => Qcu h⟩;have RB : Sh (∀ s, Qaw rs b = some s → s = -1 ∨ s = 0 ∨ s = 1) := ⟨fun s h => Qcu h⟩
  have RN : Sh (∀ s, ((nrmO rs d (a ++ b)).bind fun n => Qaw rs n) = some s → s = -1 ∨ s = 0 ∨ s = 1) := ⟨fun s h => by
    obtain ⟨n, _, h⟩ := Option.bind_eq_some_iff.1 h;exact Qcu h⟩
  have CN : Sh _ := ⟨cN⟩;clear cN ex hg hl er hx hrad ha hb hd fx fd hk hp ih hf0;generalize ((nrmO rs d (a ++ b)).bind fun n => Qaw rs n) = NS at *
  generalize nrmO rs d (a ++ b) = NN at *
  generalize Qaw rs a = SA at *
  generalize Qaw rs b = SB at *
  go_enter Tryz.func47, Tryz.ntmps47;go_wp2_with fail;refine ch1.mono ?_;rintro e w4 ⟨⟨va, vb, rfl, ea, eb⟩, u4⟩;clear ch1;have n4 := En.Qac n_f u4;have f0 := En.Qaa n4 0 (v := lv) rfl;have T4 : Sh (∀ W, Below w4.heap.size w4 W → Calls Tryz.prog 47 #[lv, va] W (AnsS SA W)) := ⟨fun W h => TA.o W va (u4.trans (h.mono u4.size)) (ea.keep h)⟩;have T5 : Sh (∀ W, Below w4.heap.size w4 W → Calls Tryz.prog 47 #[lv, vb] W (AnsS SB W)) := ⟨fun W h => TB.o W vb (u4.trans (h.mono u4.size)) (eb.keep h)⟩;clear TA TB ea eb;go_wp2_with fail
  go_region_held (fun X => X.cell? ⟨fb, 0, none⟩ = some lv) (go_keep) (first | (go_at_call 47; (with_reducible refine (T4.o _ (QaS (Below.refl _ _))).mono ?_); intro e v1 h1; have k1 : Below w4.heap.size w4 v1 := Qah h1.below; rcases SA with _ | p; (obtain rfl := h1.bad rfl; dsimp +zetaDelta only [Exit.then, Exit.inBlock]; exact ⟨rfl, u4.trans (k1.mono u4.size), fun z hz => (by cases hz), fun _ => rfl⟩); obtain rfl := h1.good p rfl; clear h1; have f0 := Qae f0 k1) | (go_at_call 47; (with_reducible refine (T5.o v1 k1).mono ?_); intro e v2 h2; have k2 := k1.trans (h2.below.mono k1.size); rcases SB with _ | q; (obtain rfl := h2.bad rfl; dsimp +zetaDelta only [Exit.then, Exit.inBlock]; exact ⟨rfl, u4.trans (k2.mono u4.size), fun z hz => (by cases hz), fun _ => rfl⟩); obtain rfl := h2.good q rfl; clear h2; have f0 : v2.cell? ⟨fb, 0, none⟩ = _ := Qae (En.Qaa n4 0 rfl) k2))
  have hp3 := RA.o p rfl;have hq3 := RB.o q rfl;have k3 := u4.trans (k2.mono u4.size);have f0 := Qae (En.Qaa n_f 0 (v := lv) rfl) k3;have TN := CN.o v2.drew (QaS k3);have hw : Sh (∀ u : Int, (u = -1 ∨ u = 0 ∨ u = 1) → IntKind.i64.wrap u = u ∧ IntKind.i64.wrap (-u) = -u) := ⟨fun u h => by rcases h with rfl | rfl | rfl <;> decide⟩;clear T4 T5 CN RA RB k1;rcases hq3 with rfl | rfl | rfl <;> rcases hp3 with rfl | rfl | rfl
  all_goals go_wp2_with fail
  all_goals first
    | (go_ret; exact ⟨k3, fun z hz => (by simp at hz; subst hz; rfl), fun hn => (by simp at hn)⟩)
    | (go_region_held (fun X => X.cell? ⟨fb, 0, none⟩ = some lv) (go_keep) (first | (go_at_call 102; (with_reducible refine TN.mono ?_); intro e v3 h3; clear TN; have k4 := k3.trans ((Qah h3.below).mono k3.size); rcases NN with _ | z; (obtain rfl := h3.bad rfl; dsimp +zetaDelta only [Exit.then, Exit.inBlock]; exact ⟨rfl, k4, fun z hz => (by rw [NZ.o rfl] at hz; simp at hz), fun _ => rfl⟩); obtain ⟨vn, rfl, en⟩ := h3.good z rfl; have TZ := TS.o z rfl v3 vn k4 en; clear h3 en; have f0 : v3.cell? ⟨fb, 0, none⟩ = _ := Qae (En.Qaa n_f 0 (v := lv) rfl) k4) | (go_at_call 47; (with_reducible refine TZ.mono ?_); intro e v5 h5; have k5 := k4.trans (h5.below.mono k4.size); rcases NS with _ | u; (obtain rfl := h5.bad rfl; dsimp +zetaDelta only [Exit.then, Exit.inBlock]; exact ⟨rfl, k5, fun z hz => (by simp at hz), fun _ => rfl⟩); obtain rfl := h5.good u rfl; obtain ⟨w1, w2⟩ := hw.o u (RN.o u rfl); clear h5; have f0 : v5.cell? ⟨fb, 0, none⟩ = _ := Qae (En.Qaa n_f 0 (v := lv) rfl) k5))
       go_wp2_with fail;go_ret;exact ⟨k5, fun z hz => (by simp at hz; subst hz; simp), fun hn => (by simp at hn)⟩)
theorem QeU:∀ {rs:List (List Rat)},rs.length≤4→QoI rs
 | [],_=>Qqw
 | d :: rs,h=>QoJ (by simpa using h) d (QeU (by simp at h;omega))
structure AnsV (ok:Prop) (v:Value) (w:World) (e:Ending) (w':World):Prop where
 below:Below w.heap.size w w'
 good:ok→e = .returned v
 bad:¬ ok→e = .panicked twP
theorem QoK {rs:List (List Rat)} {f:Value} (w:World) (hk:rs.length≤4) (hf:Fd w f rs):Calls Tryz.prog 99 #[f] w fun e w'=>e = .returned (.int .i64 ((2^rs.length:Nat):Int))∧w'=w:=by
 match rs,hf,hk with
 | [],hf,_ =>
  obtain rfl:f = .pointer none:=hf;exact Qqp w
 | d :: rs,hf,hk =>
  obtain ⟨fb,lv,rv,rfl,n_f,hl,er,hd,fd⟩:=hf;obtain ⟨br,orr,cr,rfl,_,_⟩:=er.ex;have hp:=QbG (show rs.length≤4 by simp at hk;omega);have:=QoC fb lv (some ⟨br,orr,none⟩) d.length cr (by omega) w n_f;rw [List.length_cons,Nat.pow_succ,←hd,Nat.mul_comm];exact this
theorem Qkf {rs:List (List Rat)} (hk:rs.length≤4) {f:Value} (n b o cap:Nat) (hn:n≤1000) (G:Nat→P2) (ok:Nat→Bool) (hV:∀ j,j<n→Ret 65 #[frc (G j).1 (G j).2] (.bool (ok j))) (w:World) (hf:Fd w f rs) (hx:Cl w b o n G) :
  Calls Tryz.prog 39 #[f,.slice (some ⟨b,o,none⟩) n cap] w (AnsV (n=2^rs.length∧∀ j,j<n→ok j=true) (.slice (some ⟨b,o,none⟩) n cap) w):=by
 have cS:=QoK w hk hf;have hp:=QbG hk;generalize 2^rs.length=m at *
 unfold frc at hV;have CV:Sh _:=⟨hV⟩;have HX:Sh _:=⟨hx⟩;clear hV hx hf;by_cases hnm:n=m
 ·subst hnm;have hr:=Qbb w;have hb:((n:Int) != (n:Int))=false:=by simp
  go_enter Tryz.func39, Tryz.ntmps39;go_wp2_with fail;refine cS.mono ?_;rintro e w1 ⟨rfl,hw⟩;rw [hw];clear hw cS;go_wp2_with fail;refine hr.mono ?_;rintro e w1 ⟨rfl,hw⟩;rw [hw];clear hw hr;go_wp2_with fail
  go_loopw [15] (fun jv wr=>∃ j:Nat,j≤n∧jv = .int .i64 (j:Int)∧Sh (Below w.heap.size w wr)∧Sh (∀ i,i<j→ok i=true)) (fun jv _=>n-(intOf jv).toNat)
  case atStart=>exact ⟨0,Nat.zero_le _,rfl,⟨Below.refl _ _⟩,⟨fun i h=>by omega⟩⟩
  case round =>
   obtain ⟨j,hj,rfl,HU,HC⟩:=hrel;have u:=HU.o;clear HU;by_cases hjn:j=n
   ·subst hjn;go_wp2_with fail;go_ret;exact ⟨u,fun _=>rfl,fun h=>(h (by first | exact ⟨rfl,HC.o⟩ | exact ⟨trivial,HC.o⟩)).elim⟩
   ·have hjl:j<n:=by omega
    have hj2:(j:Int)<(n:Int):=by omega
    have hj3:(0:Int)≤(j:Int):=by omega
    obtain ⟨x0,x1⟩:=(HX.o.keep u).at_ j hjl;have cO:=CV.o j hjl;have hw1:IntKind.i64.wrap ((j:Int)+1)=(j:Int)+1:=by simp [IntKind.wrap,IntKind.signed,IntKind.bits];omega
    obtain ⟨t,ht⟩:∃ t,t=ok j:=⟨_,rfl⟩;rw [←ht] at cO;have HT:Sh _:=⟨ht⟩;clear ht;obtain ⟨g0,hg0⟩:∃ v,v=G j:=⟨_,rfl⟩;rw [←hg0] at x0 x1 cO;clear hg0;have cO:∀ W:World,_:=cO;have m_o:(wr.alloc (Jc #[J g0.1,J g0.2] 42)).heap[wr.heap.size]? = _:=World.alloc_heap_new wr _;have o0:=En.Qaa m_o 0 (v:=J g0.1) rfl;have o1:=En.Qaa m_o 1 (v:=J g0.2) rfl;go_wp2_with fail;refine (cO _).mono ?_;rintro e v1 ⟨rfl,g⟩;have u2:=u.trans (((Below.refl wr.heap.size wr).alloc Lr (Jc #[J g0.1,J g0.2] 42)).trans (g.mono (by simp)) |>.mono u.size);clear g x0 x1 cO m_o o0 o1;cases t with
    | true =>
     have hr:=Qbb v1;go_wp2_with fail;refine hr.mono ?_;rintro e v2 ⟨rfl,rfl⟩;go_wp2_with fail
     go_roundw
     case rel=>exact ⟨j+1,by omega,by first | rfl | go_num | simp,⟨u2⟩,⟨fun i hi=>by
      rcases Nat.lt_or_ge i j with h | h
      ·exact HC.o i h
      ·obtain rfl:i=j:=by omega
       exact HT.o.symm⟩⟩
     case measure=>simp [intOf];omega
    | false =>
     have hr:=QaV v1;go_wp2_with fail;refine hr.mono ?_;rintro e v2 ⟨rfl,rfl⟩;exact ⟨rfl,u2,fun h=>absurd (HT.o.trans (h.2 j hjl)) (by decide),fun _=>rfl⟩
 ·have hr:=QaV w;have hb:((n:Int) != (m:Int))=true:=by simp;omega
  go_enter Tryz.func39, Tryz.ntmps39;go_wp2_with fail;refine cS.mono ?_;rintro e w1 ⟨rfl,hw⟩;rw [hw];clear hw cS;go_wp2_with fail;refine hr.mono ?_;rintro e w1 ⟨rfl,rfl⟩;exact ⟨rfl,Below.refl _ _,fun h=>absurd h.1 hnm,fun _=>rfl⟩
theorem QmE {q:Rat} (h:FitQ q):Ret 65 #[frc (pq q).1 (pq q).2] (.bool true):=Qia h
theorem Qbw {rs:List (List Rat)} (hk:rs.length≤4) {x:List Rat} {f vx:Value} (hn:x.length≤1000) (fx:FitL x) (w:World) (hf:Fd w f rs) (ex:El w vx x) :
  Calls Tryz.prog 39 #[f,vx] w (AnsV (x.length=2^rs.length) vx w):=by
 obtain ⟨b,o,cap,rfl,h1,h2⟩:=ex.ex;exact (Qkf hk x.length b o cap hn (pqs x) (fun _=>true) (fun j hj=>QmE (fx.getD j hj)) w hf h2).mono fun e w' h=>⟨h.below,fun k=>h.good ⟨k,fun _ _=>rfl⟩,fun k=>h.bad (fun q=>k q.1)⟩
theorem QoL {x:List Rat} {vx:Value} (hn:1≤x.length∧x.length≤1000) (w:World) (ex:El w vx x) :
  Calls Tryz.prog 104 #[vx] w (AnsO (some x) w):=by
 obtain ⟨b,o,cap,rfl,h1,h2⟩:=ex.ex;refine (Qjg b o x.length cap hn (pqs x) w h2).mono fun e w' h => ?_;obtain ⟨b',cap',rfl,_,k1,_,k3⟩:=h.good trivial;exact ⟨h.below,fun z hz=>by cases hz;exact ⟨_,rfl,_,0,cap',rfl,k1,k3⟩,fun hn=>by cases hn⟩
def embO:List (List Rat)→List Rat→Option (List Rat)
 | [],x=>if x.length=1 then some x else none
 | d :: rs,x=>if x.length=2^(rs.length+1) then some x else (embO rs x).map fun z=>z++Tw.zeros d.length
theorem Qlh:∀ {rs:List (List Rat)} {x z:List Rat},Qdz rs→embO rs x=some z→z.length=2^rs.length
 | [],x,z,_,h=>by
  rw [embO] at h;split at h
  ·injection h with h;rw [←h];assumption
  ·cases h
 | d :: rs,x,z,hd,h=>by
  rw [embO] at h;split at h
  ·injection h with h;rw [←h];assumption
  ·obtain ⟨t,ht,rfl⟩:=Option.map_eq_some_iff.1 h;rw [List.length_append,QaR,Qlh hd.2 ht,hd.1,List.length_cons,Nat.pow_succ];omega
def EmbC (rs:List (List Rat)):Prop:=∀ {x:List Rat} {f vx:Value},x.length≤1000→FitL x→∀ w,Gl w→Fd w f rs→El w vx x→Calls Tryz.prog 52 #[f,vx] w (AnsO (embO rs x) w)
theorem Qtg:EmbC []:=by
 intro x f vx hn fx w hg hf ex;have cC:=Qbw (rs := []) (by decide) hn fx w hf ex;have cK:=fun (W:World) (u:Below w.heap.size w W) (h:1≤x.length∧x.length≤1000)=>QoL h W (ex.keep u);obtain rfl:f = .pointer none:=hf;have hs:embO [] x=if x.length=1 then some x else none:=rfl
 rw [hs];have cK:Sh _:=⟨cK⟩;clear hs;by_cases h1:x.length=1
 ·rw [if_pos h1];have HL:Sh _:=⟨h1⟩;clear h1 ex hg fx;go_enter Tryz.func52, Tryz.ntmps52;go_wp2_with fail;refine cC.mono ?_;intro e w1 h;obtain rfl:=h.good HL.o;have c2:=cK.o w1 h.below (by have:=HL.o;omega);have u:=h.below;clear h cC;go_wp2_with fail;refine c2.mono ?_;intro e w2 h2;obtain ⟨v,rfl,hv⟩:=h2.good _ rfl;go_wp2_with fail;go_ret;exact ⟨u.trans (h2.below.mono u.size),fun z hz=>(by cases hz;exact ⟨_,rfl,hv⟩),fun hn=>(by cases hn)⟩
 ·rw [if_neg h1];have HL:Sh _:=⟨h1⟩;clear h1 ex hg fx;go_enter Tryz.func52, Tryz.ntmps52;go_wp2_with fail;refine cC.mono ?_;intro e w1 h;obtain rfl:=h.bad HL.o;exact ⟨rfl,h.below,fun z hz=>(by cases hz),fun _=>rfl⟩
theorem Qqx {rs:List (List Rat)} (hk:rs.length≤3) (d:List Rat) (ih:EmbC rs):EmbC (d :: rs):=by
 intro x f vx hn fx w hg hf ex;have hp:=QbG (show rs.length≤4 by omega);have hp2:=QbG (show (d :: rs).length≤4 by simp;omega);have cS:=QoK w (by simp;omega) hf;have cC:=fun (W:World) (u:Below w.heap.size w W)=>Qbw (by simp;omega) hn fx W (Fd.keep u hf) (ex.keep u);have cK:=fun (W:World) (u:Below w.heap.size w W) (h:1≤x.length∧x.length≤1000)=>QoL h W (ex.keep u);have hrad:=hf.rad;obtain ⟨fb,lv,rv,rfl,n_f,hl,er,hd,fd⟩:=hf;have cI:=fun (W:World) (u:Below w.heap.size w W)=>ih hn fx W (hg.keep u) (Fd.keep u hl) (ex.keep u);have cZ:=fun (W:World) (u:Below w.heap.size w W)=>Qke d.length (by omega) W (hg.keep u);have hs:embO (d :: rs) x=if x.length=2^(d :: rs).length then some x else (embO rs x).map fun z=>z++Tw.zeros d.length:=rfl
 rw [hs];have LE:Sh (∀ z,embO rs x=some z→z.length=2^rs.length):=⟨fun z h=>Qlh hrad.2 h⟩;have HP:Sh (1≤2^rs.length∧2^rs.length≤16∧d.length=2^rs.length∧1≤2^(d :: rs).length):=⟨⟨hp.1,hp.2,hd,hp2.1⟩⟩;have CC:Sh _:=⟨cC⟩;have CK:Sh _:=⟨cK⟩;have CI:Sh _:=⟨cI⟩;have CZ:Sh _:=⟨cZ⟩;obtain ⟨br,orr,cr,rfl,_,_⟩:=er.ex;obtain ⟨bx,ox,cx,rfl,_,_⟩:=ex.ex;have HN:Sh _:=⟨hn⟩;clear hs cC cK cI cZ hrad hg hl er ex fx fd hk hp hp2 ih hn hd;generalize embO rs x=E at *
 generalize 2^rs.length=n at *
 generalize 2^(d :: rs).length=m at *
 by_cases hxm:x.length=m
 ·rw [if_pos hxm];have HL:Sh _:=⟨hxm⟩;have hb:((x.length:Int) == (m:Int))=true:=by simp [hxm]
  clear hxm;go_enter Tryz.func52, Tryz.ntmps52;go_wp2_with fail;refine cS.mono ?_;rintro e w1 ⟨rfl,hw⟩;rw [hw];clear hw cS;have cC:=CC.o w (Below.refl _ _);go_wp2_with fail;refine cC.mono ?_;intro e w1 h;obtain rfl:=h.good HL.o;have c2:=CK.o w1 h.below (by have:=HL.o;have:=HP.o;have:=HN.o;omega);have u:=h.below;clear h cC;go_wp2_with fail;refine c2.mono ?_;intro e w2 h2;obtain ⟨v,rfl,hv⟩:=h2.good _ rfl;go_wp2_with fail;go_ret;exact ⟨u.trans (h2.below.mono u.size),fun z hz=>(by cases hz;exact ⟨_,rfl,hv⟩),fun hn=>(by cases hn)⟩
 ·rw [if_neg hxm];have hb:((x.length:Int) == (m:Int))=false:=by rw [beq_eq_false_iff_ne];omega
  clear hxm;go_enter Tryz.func52, Tryz.ntmps52;go_wp2_with fail;refine cS.mono ?_;rintro e w1 ⟨rfl,hw⟩;rw [hw];clear hw cS;have f0:=En.Qaa n_f 0 (v:=lv) rfl;have f1:=En.Qaa n_f 1 (v:=.slice (some ⟨br,orr,none⟩) d.length cr) rfl;go_wp2_with fail
  go_region_held (fun X=>X.cell? ⟨fb,0,none⟩=some lv∧X.cell? ⟨fb,1,none⟩=some (.slice (some ⟨br,orr,none⟩) d.length cr)) (go_keep) (first | (go_at_call 52; (with_reducible refine (CI.o w.drew (QaS (Below.refl _ _))).mono ?_);intro e v1 h1;have u1:Below w.heap.size w v1:=Qah h1.below;rcases E with _ | z;(obtain rfl:=h1.bad rfl;dsimp +zetaDelta only [Exit.then,Exit.inBlock];exact ⟨rfl,u1,fun z hz=>(by cases hz),fun _=>rfl⟩);obtain ⟨vz,rfl,ez⟩:=h1.good z rfl;obtain ⟨bz,oz,cz,rfl,_,_⟩:=ez.ex;clear h1;replace f0:=Qae f0 u1;replace f1:=Qae f1 u1) | (go_at_call 93; (with_reducible refine (CZ.o v1 u1).mono ?_);intro e v2 h2;have u2:=u1.trans (h2.below.mono u1.size);obtain ⟨vq,rfl,eq⟩:=h2.good _ rfl;obtain ⟨bq,oq,cq,rfl,_,_⟩:=eq.ex;have UA:=(Below.refl v2.heap.size v2).alloc Lr (Jc #[.slice (some ⟨bz,oz,none⟩) z.length cz,.slice (some ⟨bq,oq,none⟩) (Tw.zeros d.length).length cq] 67);have CT:=Qii (a:=z) (b:=Tw.zeros d.length) (by have:=LE.o z rfl;have:=HP.o;omega) (by rw [QaR];have:=HP.o;omega) v2.heap.size 2 _ (World.alloc_heap_new v2 _) ((ez.keep h2.below).keep UA) (eq.keep UA);have U3:Sh _:=⟨u2.trans (UA.mono u2.size)⟩;have f0:v2.cell? ⟨fb,0,none⟩=_:=Qae (En.Qaa n_f 0 rfl) u2;have f1:v2.cell? ⟨fb,1,none⟩=_:=Qae (En.Qaa n_f 1 rfl) u2;clear h2 ez eq UA) | (go_at_call 98; (with_reducible refine CT.mono ?_);intro e v3 h3;have u3:=U3.o.trans (h3.below.mono U3.o.size);obtain ⟨vt,rfl,et⟩:=h3.good _ rfl;clear h3;have f0:v3.cell? ⟨fb,0,none⟩=_:=Qae (En.Qaa n_f 0 rfl) u3;have f1:v3.cell? ⟨fb,1,none⟩=_:=Qae (En.Qaa n_f 1 rfl) u3))
  all_goals (go_wp2_with fail;go_ret;exact ⟨u3,fun z hz=>(by cases hz;exact ⟨_,rfl,et⟩),fun hn=>(by cases hn)⟩)
theorem Qij:∀ {rs:List (List Rat)},rs.length≤4→EmbC rs
 | [],_=>Qtg
 | d :: rs,h=>Qqx (by simpa using h) d (Qij (by simp at h;omega))
end Tw
end
end Go.Proofs.YtihlgifojjeoaaaGreatDoor
