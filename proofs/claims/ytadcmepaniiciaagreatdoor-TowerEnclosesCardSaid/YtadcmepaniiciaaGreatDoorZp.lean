import Derived.Test.YtadcmepaniiciaaGreatDoorZo
set_option maxRecDepth 1000000
set_option maxHeartbeats 40000000
open Go.Value renaming string→J
open Go.Obj renaming cells→Jc
namespace Go.Proofs.YtadcmepaniiciaaGreatDoor
section
namespace Tw
open Go.RowKit Go.Extern.Stop Go.Stop Go.Extern
open En Go.Proofs.YtadcmepaniiciaaGreatDoor.Nm Go.Proofs.YtadcmepaniiciaaGreatDoor.Rt
structure AnsSg (fb:Nat) (p:Option Addr) (rs:List (List Rat)) (fl:Bool) (o:Option Int) (w:World) (e:Ending) (w':World):Prop where
 grown:w.grownBy w' (some fb)
 ex:∃ s:Int,e = .returned (.int .i64 s)∧(-1≤s∧s≤1)∧FB w' fb p rs (fl || o.isNone)∧((fl || o.isNone)=false→o=some s)
def SgnC (rs:List (List Rat)):Prop:=∀ {X:List (Option Rat)} {fb:Nat} {p:Option Addr} {fl:Bool} {ox:Option (List Rat)} {vx:Value},X.length=2^rs.length→Val X fl ox→∀ w,FB w fb p rs fl→Eo w vx X →
 Calls Tryz.prog 138 #[.pointer (some ⟨fb,0,none⟩),vx] w (AnsSg fb p rs fl (ox.bind fun x=>Qaw rs x) w)
theorem QgU {rs:List (List Rat)} {fb:Nat} {p:Option Addr} {vx:Value} (o:Option Int) (w:World) (hf:FB w fb p rs true) :
  Calls Tryz.prog 138 #[.pointer (some ⟨fb,0,none⟩),vx] w (AnsSg fb p rs true o w):=by
 obtain ⟨cap,hb,hc⟩:=hf.box;have x1:=En.Qaa hb 1 (v:=.bool true) rfl;have HF:Sh (∀ W',Below w.heap.size w W'→FB W' fb p rs true):=⟨fun W' u=>hf.keep u⟩;clear hf hb;go_enter Tryz.func138, Tryz.ntmps138;go_wp2_with fail;go_ret;exact ⟨World.grownBy.refl _ _,0,rfl,⟨by decide,by decide⟩,by rw [Bool.true_or];exact HF.o _ (Below.refl _ _),fun h=>by rw [Bool.true_or] at h;cases h⟩
theorem QmL (p q:Rat) : -1≤cmpQ p q∧cmpQ p q≤1:=by
 rcases Qcs p q with ⟨e,_⟩ | ⟨e,_⟩ | ⟨e,_⟩ <;> rw [e] <;> decide
theorem QqU:SgnC []:=by
 intro X fb p fl ox vx hX kx w hf ex;cases fl with
 | true=>exact QgU _ w hf
 | false =>
  obtain ⟨x,rfl,rfl⟩:=kx rfl;obtain ⟨x,rfl⟩:∃ a,x = [a]:=List.length_eq_one_iff.1 (by simpa using hX);have fx:FitQ x:=ex.fitL x (by simp);obtain ⟨cap,hb,hc⟩:=hf.box;have x1:=En.Qaa hb 1 (v:=.bool false) rfl;have x0:=En.Qaa hb 0 (v:=.slice p 0 cap) rfl;obtain ⟨b,o,c,rfl,h1,h2⟩:=ex.ex;obtain ⟨k0,k1⟩:=h2.at_ 0 (by simp);rw [show pqo ([x].map some) 0=pq x from rfl,Nat.zero_mul,Nat.add_zero] at k0 k1
  have cM:∀ W:World,Calls Tryz.prog 177 #[.agg #[J (pq x).1,J (pq x).2],.agg #[J ⟨#[48]⟩,J ⟨#[49]⟩]] W fun e w'=>e = .returned (.int .i64 (cmpQ x 0))∧Below W.heap.size W w':=by
   have:=Qmz fx fit0;rw [show rq 0 = .agg #[J ⟨#[48]⟩,J ⟨#[49]⟩] by show Value.agg #[J (pq 0).1,J (pq 0).2]=_;rw [pq0]] at this;exact this
  have hr:=QmL x 0;have ho:Sh (((some [x]).bind fun x=>Qaw [] x)=some (cmpQ x 0)):=⟨rfl⟩;rw [ho.o];have HF:Sh (∀ W',Below w.heap.size w W'→FB W' fb p [] false):=⟨fun W' u=>hf.keep u⟩;clear hf hb ex h2 kx hX fx ho;generalize cmpQ x 0=s at *
  generalize pq x=g at *
  rw [List.length_map,List.length_singleton] at h1 ⊢;show Calls Tryz.prog 138 #[.pointer (some ⟨fb,0,none⟩),.slice (some ⟨b,o,none⟩) 1 c] w _;replace cM:=Sh.mk cM;go_enter Tryz.func138, Tryz.ntmps138;go_wp2_with fail;have hq:=cM.o w;refine hq.mono ?_;rintro e V ⟨rfl,g⟩;clear hq;go_wp2_with fail;go_ret;exact ⟨of_below g _,s,rfl,hr,HF.o _ g,fun _=>rfl⟩
theorem Qjt {w W W':World} {fb gb:Nat} (h:w.grownBy W (some fb)) (g:W.grownBy W' (some gb)) (hb:w.heap.size≤gb):w.grownBy W' (some fb) :=
 ⟨g.os.trans h.os,g.tape.trans h.tape,g.output.trans h.output,Nat.le_trans h.size g.size,fun k hk hne=>(g.block k (Nat.lt_of_lt_of_le hk h.size) (fun e=>by injection e with e;omega)).trans (h.block k hk hne)⟩
theorem Qju {o1 o2 O:Option Int} {f0:Bool} {s t r:Int} {F:Int→Int→Option Int} (hO:f0=false→O=o1.bind fun s=>o2.bind fun t=>F s t)
  (h1:(f0 || o1.isNone)=false→o1=some s) (h2:((f0 || o1.isNone) || o2.isNone)=false→o2=some t) (hF:F s t=some r) :
  ((f0 || o1.isNone) || o2.isNone)=(f0 || O.isNone)∧((f0 || O.isNone)=false→O=some r):=by
 cases f0 with
 | true=>exact ⟨rfl,fun h=>by cases h⟩
 | false =>
  rw [hO rfl];cases o1 with
  | none=>exact ⟨rfl,fun h=>by cases h⟩
  | some a =>
   cases o2 with
   | none=>exact ⟨rfl,fun h=>by cases h⟩
   | some b =>
    have e1:=h1 rfl;have e2:=h2 rfl;injection e1 with e1;injection e2 with e2;subst e1 e2;rw [Option.bind_some,Option.bind_some,hF];exact ⟨rfl,fun _=>rfl⟩
theorem QqV {o1 o2 O o4:Option Int} {on:Option (List Rat)} {f0:Bool} {s t u:Int} {F:Int→Int→Option Int} {G:List Rat→Option Int} (hO:f0=false→O=o1.bind fun s=>o2.bind fun t=>F s t)
  (h1:(f0 || o1.isNone)=false→o1=some s) (h2:((f0 || o1.isNone) || o2.isNone)=false→o2=some t) (h4:((((f0 || o1.isNone) || o2.isNone) || on.isNone) || o4.isNone)=false→o4=some u)
  (e4:o4=on.bind G) (hF:f0=false→F s t=on.bind fun n=>(G n).map fun u=>s*u) :
  ((((f0 || o1.isNone) || o2.isNone) || on.isNone) || o4.isNone)=(f0 || O.isNone)∧((f0 || O.isNone)=false→O=some (s*u)):=by
 cases f0 with
 | true=>exact ⟨rfl,fun h=>by cases h⟩
 | false =>
  rw [hO rfl];cases o1 with
  | none=>exact ⟨rfl,fun h=>by cases h⟩
  | some a =>
   cases o2 with
   | none=>exact ⟨rfl,fun h=>by cases h⟩
   | some b =>
    have e1:=h1 rfl;have e2:=h2 rfl;injection e1 with e1;injection e2 with e2;subst e1 e2;rw [Option.bind_some,Option.bind_some,hF rfl];cases on with
    | none=>exact ⟨rfl,fun h=>by cases h⟩
    | some n =>
     rw [Option.bind_some] at e4 ⊢;rw [←e4];cases o4 with
     | none=>exact ⟨rfl,fun h=>by cases h⟩
     | some v =>
      have e5:=h4 rfl;injection e5 with e5;subst e5;exact ⟨rfl,fun _=>rfl⟩
theorem Qpf {rs:List (List Rat)} (hk:rs.length≤3) (d:List Rat) (ih:SgnC rs):SgnC (d :: rs):=by
 intro X fb p fl ox vx hX kx w hf ex;cases hfl:fl with
 | true=>rw [hfl] at hf;exact QgU _ w hf
 | false =>
 rw [hfl] at hf kx;obtain ⟨x,rfl,rfl⟩:=kx rfl;rw [List.length_map] at hX;have fx:FitL x:=ex.fitL;obtain ⟨a,b,rfl,la,lb⟩:=QcB hX;have hp:=QbG (show rs.length≤4 by omega);have lt:∀ {z:List Rat},z.length=2^rs.length→(z.map some).length=2^rs.length:=fun h=>by rw [List.length_map,h]
 have hN:Sh (nrmR rs d (a++b)=nrmO rs d (a++b)):=⟨by
  rw [nrmR,(QaB (by rw [la,lb])).1,(QaB (by rw [la,lb])).2];exact QtI hf.rad.2 (fun z hz=>hf.fits z (by simp [hz])) hf.rad.1 (hf.fits d (by simp)) la lb fx.app.1 fx.app.2⟩
 have hS:Sh (Qaw (d :: rs) (a++b)=(Qaw rs a).bind fun s=>(Qaw rs b).bind fun t=>if t=0 then some s else if s=0∨s=t then some t else (nrmR rs d (a++b)).bind fun n=>(Qaw rs n).map fun u=>s*u):=⟨by
  rw [hN.o,Qaw,(QaB (by rw [la,lb])).1,(QaB (by rw [la,lb])).2]⟩
 obtain ⟨cap,hb,hc⟩:=hf.box;have hfb:fb<w.heap.size:=(Array.getElem?_eq_some_iff.1 hb).1;have x1:=En.Qaa hb 1 (v:=.bool false) rfl;have x0:=En.Qaa hb 0 (v:=.slice p (d :: rs).length cap) rfl;have lX:Sh (((a++b).map some).length=2^(rs.length+1)):=⟨by rw [List.length_map];exact hX⟩;have EX:Sh (Eo w vx ((a++b).map some)):=⟨ex⟩;rw [Option.bind_some];have HW:Sh (FB w fb p (d :: rs) false):=⟨hf⟩;rw [show (d :: rs).length=rs.length+1 from rfl] at x0;have hm:((rs.length+1:Nat) == 0)=false:=rfl;have hm2:¬((rs.length:Int)+1=0):=by omega
 clear hf ex kx hX hb fx hc;go_enter Tryz.func138, Tryz.ntmps138;go_wp2_with fail;have hq:=Qko (by omega) w HW.o;refine hq.mono ?_;rintro e W ⟨⟨gb,rfl,hgb,hG⟩,u⟩;have hB:Sh (Below w.heap.size w W):=⟨u⟩;have hG:Sh (FB W gb p rs false):=⟨hG⟩;have HW:Sh (FB W fb p (d :: rs) false):=⟨HW.o.keep u⟩;have EX:Sh (Eo W vx ((a++b).map some)):=⟨EX.o.keep u⟩;clear hq u x0 x1;go_wp2_with fail;have hq:=QfR (a:=a.map some) (b:=b.map some) (by rw [lt la,lt lb]) ⟨by rw [lt la];omega,by rw [lt la];omega⟩ W (by have:=EX.o;rw [List.map_append] at this;exact this);refine hq.mono ?_;rintro e V ⟨⟨va,vb,rfl,ea,eb⟩,u⟩;have hB:=hB.tr u;have hG:Sh (FB V gb p rs false):=⟨hG.o.keep u⟩;have HW:Sh (FB V fb p (d :: rs) false):=⟨HW.o.keep u⟩;have EX:Sh (Eo V vx ((a++b).map some)):=⟨EX.o.keep u⟩;replace ea:Sh _:=⟨ea⟩;replace eb:Sh _:=⟨eb⟩;clear hq u
 rename World=>W
 have hlt:fb<gb:=by omega
 have hpg:∀ a,p=some a→a.block≠gb:=fun a e=>Nat.ne_of_lt (Nat.lt_trans (HW.o.low a e) hlt);have hpf:∀ a,p=some a→a.block≠fb:=fun a e=>Nat.ne_of_lt (HW.o.low a e);go_wp2_with fail;have hq:=ih (fb:=gb) (ox:=some a) (lt la) (Val.some a _) W hG.o ea.o;refine hq.mono ?_;rintro e V ⟨gr,s,rfl,hs,hG',ks⟩;have hB:=hB.gn gr hgb;have eb:Sh (Eo V vb (b.map some)):=⟨eb.o.grown hG.o.fc gr⟩;have EX:Sh (Eo V vx ((a++b).map some)):=⟨EX.o.grown hG.o.fc gr⟩;have HW:Sh (FB V fb p (d :: rs) false):=⟨HW.o.grown hG.o.fc (Nat.ne_of_lt hlt) hpg gr⟩;obtain ⟨o1,ho1⟩:∃ o,o=Qaw rs a:=⟨_,rfl⟩;obtain ⟨f1,hf1⟩:∃ f,f=(false || o1.isNone):=⟨_,rfl⟩;rw [Option.bind_some,←ho1,←hf1] at hG' ks;have hG:Sh (FB V gb p rs f1):=⟨hG'⟩;replace ho1:Sh _:=⟨ho1⟩;replace hf1:Sh _:=⟨hf1⟩;replace ks:Sh _:=⟨ks⟩;clear hq gr hG' ea
 rename World=>W
 go_wp2_with fail;have hq:=ih (fb:=gb) (ox:=some b) (lt lb) (Val.some b _) W hG.o eb.o;refine hq.mono ?_;rintro e V ⟨gr,t,rfl,ht,hG',kt⟩;have hB:=hB.gn gr hgb;have EX:Sh (Eo V vx ((a++b).map some)):=⟨EX.o.grown hG.o.fc gr⟩;have HW:Sh (FB V fb p (d :: rs) false):=⟨HW.o.grown hG.o.fc (Nat.ne_of_lt hlt) hpg gr⟩;obtain ⟨o2,ho2⟩:∃ o,o=Qaw rs b:=⟨_,rfl⟩;obtain ⟨f2,hf2⟩:∃ f,f=(f1 || o2.isNone):=⟨_,rfl⟩;rw [Option.bind_some,←ho2,←hf2] at hG' kt;have hG:Sh (FB V gb p rs f2):=⟨hG'⟩;replace ho2:Sh _:=⟨ho2⟩;replace hf2:Sh _:=⟨hf2⟩;replace kt:Sh _:=⟨kt⟩;clear hq gr hG' eb
 rename World=>W
 have hS:Sh (Qaw (d :: rs) (a++b)=o1.bind fun s=>o2.bind fun t=>if t=0 then some s else if s=0∨s=t then some t else (nrmR rs d (a++b)).bind fun n=>(Qaw rs n).map fun u=>s*u):=⟨by rw [ho1.o,ho2.o];exact hS.o⟩;clear hN ho1 ho2;generalize Qaw (d :: rs) (a++b)=O at *
 obtain ⟨cg,bg,_⟩:=hG.o.box;obtain ⟨cf,bf,_⟩:=HW.o.box;have xg:=En.Qaa bg 1 (v:=.bool f2) rfl;have xf:=En.Qaa bf 1 (v:=.bool false) rfl;have yf:=En.Qad bf 1;have HF:Sh (FB (W.setCell ⟨fb,1,none⟩ (.bool f2)) fb p (d :: rs) f2):=⟨HW.o.set f2⟩;have HG:Sh (FB (W.setCell ⟨fb,1,none⟩ (.bool f2)) gb p rs f2):=⟨hG.o.grown HW.o.fc (fun e=>by omega) hpf (Qar 1 _)⟩;have EX:Sh (Eo (W.setCell ⟨fb,1,none⟩ (.bool f2)) vx ((a++b).map some)):=⟨EX.o.grown HW.o.fc (Qar 1 _)⟩;have HR:Sh (w.grownBy (W.setCell ⟨fb,1,none⟩ (.bool f2)) (some fb)):=⟨World.grownBy.trans (of_below hB.o (some fb)) (Qar 1 _)⟩;clear bg bf HW hG hB;by_cases t0:t=0
 ·subst t0;have hz:((0:Int) == 0)=true:=rfl;have H:=Qju (O:=O) (f0:=false) (r:=s) (fun _=>hS.o) (by rw [←hf1.o];exact ks.o) (by rw [←hf1.o,←hf2.o];exact kt.o) (if_pos rfl);rw [←hf1.o,←hf2.o] at H;replace H:Sh _:=⟨H⟩;go_wp2_with fail;go_ret;exact ⟨HR.o,s,rfl,hs,by rw [←H.o.1];exact HF.o,H.o.2⟩
 ·have hz:(t == 0)=false:=beq_eq_false_iff_ne.2 t0;by_cases c1:s=0∨s=t
  ·have H:=Qju (O:=O) (f0:=false) (r:=t) (fun _=>hS.o) (by rw [←hf1.o];exact ks.o) (by rw [←hf1.o,←hf2.o];exact kt.o) (by rw [if_neg t0,if_pos c1]);rw [←hf1.o,←hf2.o] at H;replace H:Sh _:=⟨H⟩;by_cases c2:s=0
   ·have hz2:(s == 0)=true:=beq_iff_eq.2 c2;clear c1;go_wp2_with fail;go_ret;exact ⟨HR.o,t,rfl,ht,by rw [←H.o.1];exact HF.o,H.o.2⟩
   ·have hz2:(s == 0)=false:=beq_eq_false_iff_ne.2 c2;have c3:s=t:=c1.resolve_left c2;have hz3:(s == t)=true:=beq_iff_eq.2 c3;clear c1 c3;go_wp2_with fail;go_ret;exact ⟨HR.o,t,rfl,ht,by rw [←H.o.1];exact HF.o,H.o.2⟩
  ·have hz2:(s == 0)=false:=beq_eq_false_iff_ne.2 (fun h=>c1 (.inl h));have hz3:(s == t)=false:=beq_eq_false_iff_ne.2 (fun h=>c1 (.inr h));have C0:Sh _:=⟨t0⟩;have C1:Sh _:=⟨c1⟩;clear c1 t0;go_wp2_with fail;have hq:=Qvu hk (ox:=some (a++b)) lX.o (Val.some _ _) (W.setCell ⟨fb,1,none⟩ (.bool f2)) HF.o EX.o;refine hq.mono ?_;rintro e V ⟨gr,vn,Zn,rfl,en,ln,HF',kn⟩;rw [Option.bind_some] at HF' kn;obtain ⟨on,hon⟩:∃ o,o=nrmR rs d (a++b):=⟨_,rfl⟩;obtain ⟨f3,hf3⟩:∃ f,f=(f2 || on.isNone):=⟨_,rfl⟩;rw [←hon,←hf3] at HF' kn;have HG:Sh (FB V gb p rs f2):=⟨HG.o.grown HF.o.fc (fun e=>by omega) hpf gr⟩;have HF:Sh (FB V fb p (d :: rs) f3):=⟨HF'⟩;have HR:Sh (w.grownBy V (some fb)):=⟨World.grownBy.trans HR.o gr⟩;obtain ⟨cg,bg,_⟩:=HG.o.box;obtain ⟨cf,bf,_⟩:=HF.o.box;have xg:=En.Qaa bg 1 (v:=.bool f2) rfl;have yg:=En.Qad bg 1;have xf:=En.Qaa bf 1 (v:=.bool f3) rfl;have HF2:Sh (FB (V.setCell ⟨gb,1,none⟩ (.bool f3)) fb p (d :: rs) f3):=⟨HF.o.grown HG.o.fc (Nat.ne_of_lt hlt) hpg (Qar 1 _)⟩;have HG2:Sh (FB (V.setCell ⟨gb,1,none⟩ (.bool f3)) gb p rs f3):=⟨HG.o.set f3⟩;have en:Sh (Eo (V.setCell ⟨gb,1,none⟩ (.bool f3)) vn Zn):=⟨en.grown HG.o.fc (Qar 1 _)⟩;have HR:Sh (w.grownBy (V.setCell ⟨gb,1,none⟩ (.bool f3)) (some fb)):=⟨Qjt HR.o (Qar 1 _) hgb⟩;replace hon:Sh _:=⟨hon⟩;replace hf3:Sh _:=⟨hf3⟩;replace kn:Sh _:=⟨kn⟩;clear hq gr HF' HF HG bg bf EX;go_wp2_with fail;have hq:=ih (fb:=gb) (ox:=on) ln kn.o (V.setCell ⟨gb,1,none⟩ (.bool f3)) HG2.o en.o;refine hq.mono ?_;rintro e V2 ⟨gr,u,rfl,hu,hG',ku⟩;obtain ⟨o4,ho4⟩:∃ o,o=on.bind fun x=>Qaw rs x:=⟨_,rfl⟩;obtain ⟨f4,hf4⟩:∃ f,f=(f3 || o4.isNone):=⟨_,rfl⟩;rw [←ho4,←hf4] at hG' ku;have HF2:Sh (FB V2 fb p (d :: rs) f3):=⟨HF2.o.grown HG2.o.fc (Nat.ne_of_lt hlt) hpg gr⟩;have HR:Sh (w.grownBy V2 (some fb)):=⟨Qjt HR.o gr hgb⟩;obtain ⟨cg,bg,_⟩:=hG'.box;obtain ⟨cf,bf,_⟩:=HF2.o.box;have xg:=En.Qaa bg 1 (v:=.bool f4) rfl;have xf:=En.Qaa bf 1 (v:=.bool f3) rfl;have yf:=En.Qad bf 1;have HF3:Sh (FB (V2.setCell ⟨fb,1,none⟩ (.bool f4)) fb p (d :: rs) f4):=⟨HF2.o.set f4⟩;have HR:Sh (w.grownBy (V2.setCell ⟨fb,1,none⟩ (.bool f4)) (some fb)):=⟨World.grownBy.trans HR.o (Qar 1 _)⟩;have H:=QqV (O:=O) (f0:=false) (on:=on) (o4:=o4) (u:=u) (G:=fun n=>Qaw rs n) (fun _=>hS.o) (by rw [←hf1.o];exact ks.o) (by rw [←hf1.o,←hf2.o];exact kt.o) (by rw [←hf1.o,←hf2.o,←hf3.o,←hf4];exact ku) ho4 (fun _=>by rw [if_neg C0.o,if_neg C1.o,←hon.o]);rw [←hf1.o,←hf2.o,←hf3.o,←hf4] at H;replace H:Sh _:=⟨H⟩
   have hsu : -1≤s*u∧s*u≤1:=by
    rcases (by omega:s = -1∨s=0∨s=1) with rfl | rfl | rfl <;> omega
   have hwr:IntKind.i64.wrap (s*u)=s*u:=by simp [IntKind.wrap,IntKind.signed,IntKind.bits];omega
   clear hq gr hG' bg bf ku hf4 ho4;go_wp2_with fail;go_ret;exact ⟨HR.o,s*u,rfl,hsu,by rw [←H.o.1];exact HF3.o,H.o.2⟩
theorem Qit:∀ {rs:List (List Rat)},rs.length≤4→SgnC rs
 | [],_=>QqU
 | d :: _,h=>by
  rw [List.length_cons] at h;exact Qpf (by omega) d (Qit (by omega))
theorem Qjv (b o n cap:Nat) (hn:n≤1000) (G:Nat→P2) (k:Int) (B:Bool) (hB:((n:Int) == k)=B) (hV:∀ i,i<n→Ret 214 #[frc (G i).1 (G i).2] (.bool true)) (w:World) (hx:Cl w b o n G) :
  Calls Tryz.prog 176 #[.slice (some ⟨b,o,none⟩) n cap,.int .i64 k] w fun e w'=>e = .returned (.tuple #[.bool B,.bool B])∧Below w.heap.size w w':=by
 have HX:Sh _:=⟨hx⟩;have CO:Sh _:=⟨hV⟩;clear hx hV;go_enter Tryz.func176, Tryz.ntmps176;go_wp2_with fail
 go_loopw [6] (fun iv wr=>∃ i:Nat,i≤n∧iv = .int .i64 (i:Int)∧Sh (Below w.heap.size w wr)) (fun iv _=>n-(intOf iv).toNat)
 case atStart=>exact ⟨0,Nat.zero_le _,rfl,⟨Below.refl _ _⟩⟩
 case round =>
  obtain ⟨i,hi,rfl,HF⟩:=hrel;have u:=HF.o;clear HF;by_cases hin:i=n
  ·subst hin;go_wp2_with fail;exact bodyPost_ret (v:=.tuple #[.bool B,.bool B]) (by simp [results,Tryz.results176, go_sem]) rfl ⟨rfl,u⟩
  ·have hil:i<n:=by omega
   have hi2:(i:Int)<(n:Int):=by omega
   have hi3:(0:Int)≤(i:Int):=by omega
   obtain ⟨x0,x1⟩:=(HX.o.keep (u.mono Lr)).at_ i hil;have cO:=CO.o i hil;have hw1:IntKind.i64.wrap ((i:Int)+1)=(i:Int)+1:=by simp [IntKind.wrap,IntKind.signed,IntKind.bits];omega
   generalize G i=g at *
   have cO:Sh _:=⟨cO⟩;go_wp2_with fail;refine (cO.o _).mono ?_;rintro e v1 ⟨rfl,g1⟩;have u2:=u.trans (g1.mono u.size);clear g1;go_wp2_with fail
   go_roundw
   case rel=>exact ⟨i+1,by omega,by first | rfl | go_num | simp,⟨u2⟩⟩
   case measure=>simp [intOf];omega
theorem Qfx {x:List Rat} (hx:x.length≤1000) (fx:FitL x) {vx:Value} (k:Int) (B:Bool) (hB:((x.length:Int) == k)=B) (w:World) (ex:El w vx x) :
  Calls Tryz.prog 176 #[vx,.int .i64 k] w fun e w'=>e = .returned (.tuple #[.bool B,.bool B])∧Below w.heap.size w w':=by
 obtain ⟨b,o,cap,rfl,h1,h2⟩:=ex;exact Qjv b o x.length cap hx (pqs x) k B hB (fun i hi=>QbF (fx.getD i hi)) w h2
theorem QmM {L:List (List Rat)} {i:Nat} {R:List (List Rat)} {d:List Rat} (hd:L[i]? = some d) (h:Qam [] (L.take i)=some R) :
  (¬ Adj R d→(Qam [] L).isSome=false)∧(Adj R d→Qam [] (L.take (i+1))=some (d :: R)):=by
 obtain ⟨hl,hg⟩:=List.getElem?_eq_some_iff.1 hd;have e1:L.take (i+1)=L.take i ++ [d]:=by rw [List.take_add_one,hd];rfl
 refine ⟨fun hn => ?_,fun ha => ?_⟩
 ·have e2:L=L.take i++d :: L.drop (i+1):=by
   rw [←hg,List.getElem_cons_drop hl,List.take_append_drop]
  rw [e2,QcG,h,Option.bind_some,Qam,if_neg hn];rfl
 ·rw [e1,QcG,h,Option.bind_some,Qam,if_pos ha];rfl
theorem Qiu {i:Nat} (hi:i≤4):IntKind.i64.wrap ((2:Int)^i)=((2^i:Nat):Int):=by
 rcases (by omega:i=0∨i=1∨i=2∨i=3∨i=4) with rfl | rfl | rfl | rfl | rfl <;> decide
theorem QgV {n i:Nat}:((n:Int) == ((2^i:Nat):Int))=decide (n=2^i):=by
 rw [Bool.eq_iff_iff,beq_iff_eq,decide_eq_true_iff];omega
theorem Qjw {w:World} {p:Option Addr} {L R:List (List Rat)} {i gb cap:Nat} (hi:i≤L.length) (hL:FitT L) (hR:Qam [] (L.take i)=some R)
  (hm:L = []∨∃ bt ot,p=some ⟨bt,ot,none⟩∧∀ i x,L[i]? = some x→∃ vi,w.cell? ⟨bt,ot+i,none⟩=some vi∧El w vi x) (hp:∀ a,p=some a→a.block<gb) (hc:i≤cap) (hb:w.heap[gb]? = some (Jc #[.slice p i cap,.bool false] 150 (0,0))) :
  FB w gb p R false∧R.length=i:=by
 have hr:=Qcc hR;rw [List.append_nil] at hr;have hl:R.length=i:=by rw [hr,List.length_reverse,List.length_take];omega
 refine ⟨⟨⟨cap,by rw [hl];exact hb,by rw [hl];exact hc⟩,hp,⟨fun hn => ?_⟩,Qei (acc := []) trivial hR,fun d hd => ?_⟩,hl⟩
 ·rcases hm with rfl | ⟨bt,ot,rfl,hm⟩
  ·rw [hr] at hn;exact absurd (by simp) hn
  ·refine ⟨bt,ot,rfl,fun j d hd=>hm j d ?_⟩;rw [hr,List.reverse_reverse] at hd;rcases Nat.lt_or_ge j i with h | h
   ·rwa [List.getElem?_take_of_lt h] at hd
   ·rw [List.getElem?_eq_none (by rw [List.length_take];omega)] at hd;cases hd
 ·rw [hr,List.mem_reverse] at hd;exact (hL d (List.mem_of_mem_take hd)).1
structure TwC (W:World) (v:Value) (L:List (List Rat)):Prop where
 at_:TwAt W v L
 cap:∃ p cap,v = .agg #[.slice p L.length cap]∧L.length≤cap∧∀ a,p=some a→a.block<W.heap.size
theorem TwC.keep {W W':World} {v:Value} {L:List (List Rat)} (h:TwC W v L) (hB:Below W.heap.size W W'):TwC W' v L:=⟨h.at_.keep hB,by obtain ⟨p,cap,e,h1,h2⟩:=h.cap;exact ⟨p,cap,e,h1,fun a ha=>Nat.lt_of_lt_of_le (h2 a ha) hB.size⟩⟩
theorem QqW {L:List (List Rat)} (hL:FitT L) (hn:L.length≤1000) {t:Value} (w:World) (ht:TwC w t L) :
  Calls Tryz.prog 175 #[t] w fun e w'=>e = .returned (.bool (Qam [] L).isSome)∧Below w.heap.size w w':=by
 obtain ⟨p,cap,rfl,hm⟩:=ht.at_.ex
 have hcap:L.length≤cap:=by
  obtain ⟨p',c',e,h,_⟩:=ht.cap;injection e with e;injection e with e;injection e with e;injection e with _ _ e;omega
 have u0:=(Below.refl w.heap.size w).alloc Lr (Jc #[.slice p L.length cap] 28);have n0:(w.alloc (Jc #[.slice p L.length cap] 28)).heap[w.heap.size]? = _:=World.alloc_heap_new w _;have x0:=En.Qaa n0 0 (v:=.slice p L.length cap) rfl;by_cases h4:L.length≤4
 ·have HM:Sh (∀ W,Below w.heap.size w W→(L = []∨∃ bt ot,p=some ⟨bt,ot,none⟩∧∀ i x,L[i]? = some x→∃ vi,W.cell? ⟨bt,ot+i,none⟩=some vi∧El W vi x)):=⟨fun W u=>by
   rcases hm with h | ⟨bt,ot,e,h⟩
   ·exact .inl h
   ·exact .inr ⟨bt,ot,e,fun i x hx=>by
     obtain ⟨vi,k1,k2⟩:=h i x hx;exact ⟨vi,Qae k1 u,k2.keep u⟩⟩⟩
  have HP:Sh (∀ i,i<L.length→∀ a,p=some a→a.block<w.heap.size):=⟨fun i hi a ha=>by
   rcases hm with rfl | ⟨bt,ot,rfl,h⟩
   ·simp at hi
   ·obtain ⟨vi,k1,_⟩:=h i _ (List.getElem?_eq_getElem hi);injection ha with ha;subst ha;exact World.block_lt_of_cell? w ⟨bt,ot+i,none⟩ k1⟩
  have HL:Sh (FitT L):=⟨hL⟩;obtain ⟨n,hnn⟩:∃ n,n=L.length:=⟨_,rfl⟩;rw [←hnn] at hcap h4 n0 x0 u0 ⊢;have HN:Sh (n=L.length):=⟨hnn⟩;have h5:¬(4:Int)<(n:Int):=by omega
  have U0:Sh (Below w.heap.size w (w.alloc (Jc #[.slice p n cap] 28))∧(w.alloc (Jc #[.slice p n cap] 28)).heap[w.heap.size]? = some (Jc #[.slice p n cap] 28 (0,0))):=⟨u0,n0⟩;clear hm hL hn ht hnn u0 n0;obtain ⟨B,hB⟩:∃ B,(Qam [] L).isSome=B:=⟨_,rfl⟩;rw [hB];replace hB:Sh _:=⟨hB⟩;go_enter Tryz.func175, Tryz.ntmps175;go_wp2_with fail;clear x0
  go_loopw [3] (fun iv wr=>∃ i:Nat,i≤n∧iv = .int .i64 (i:Int)∧Sh (Below w.heap.size w wr∧wr.heap[w.heap.size]? = some (Jc #[.slice p n cap] 28 (0,0)))∧Sh (∃ R,Qam [] (L.take i)=some R)) (fun iv _=>n-(intOf iv).toNat)
  case atStart=>exact ⟨0,Nat.zero_le _,rfl,U0,⟨⟨[],rfl⟩⟩⟩
  case round =>
   obtain ⟨i,hi,rfl,HF,HR⟩:=hrel;obtain ⟨u,nb⟩:=HF.o;clear HF U0;have x0:=En.Qaa nb 0 (v:=.slice p n cap) rfl;by_cases hin:i=n
   ·have HB:B=true:=by
     rw [←hB.o];obtain ⟨R,h⟩:=HR.o;rw [hin,HN.o,List.take_length] at h;rw [h];rfl
    subst hin;subst HB;go_wp2_with fail;go_ret;exact ⟨rfl,u⟩
   ·have hil:i<n:=by omega
    have hi2:(i:Int)<(n:Int):=by omega
    have hi3:(0:Int)≤(i:Int):=by omega
    have hic:(i:Int)≤(cap:Int):=by omega
    have hw1:IntKind.i64.wrap ((i:Int)+1)=(i:Int)+1:=by simp [IntKind.wrap,IntKind.signed,IntKind.bits];omega
    have s1:=Qiu (i:=i) (by omega);obtain ⟨d,hd⟩:∃ d,L[i]? = some d:=⟨_,List.getElem?_eq_getElem (by rw [←HN.o];exact hil)⟩;obtain ⟨bt,ot,hpe,hall⟩:=(HM.o wr u).resolve_left (fun h=>by rw [h] at hd;cases hd);obtain ⟨vi,hv,he⟩:=hall i d hd;obtain ⟨R,hR⟩:=HR.o;have fd:=HL.o d (List.mem_of_getElem? hd);have FS:Sh _:=⟨QmM hd hR⟩;have HR:Sh (Qam [] (L.take i)=some R):=⟨hR⟩
    have hRl:R.length=i:=by
     have:=Qcc hR;rw [this,List.append_nil,List.length_reverse,List.length_take,←HN.o];omega
    have HP':Sh (∀ a,p=some a→a.block<w.heap.size):=⟨HP.o i (by rw [←HN.o];exact hil)⟩;have hlt:w.heap.size<wr.heap.size:=(Array.getElem?_eq_some_iff.1 nb).1;have cF:Sh (∀ W,Below wr.heap.size wr W→Calls Tryz.prog 176 #[vi,.int .i64 ((2^i:Nat):Int)] W fun e w'=>e = .returned (.tuple #[.bool (decide (d.length=2^i)),.bool (decide (d.length=2^i))])∧Below W.heap.size W w'):=⟨fun W g=>Qfx fd.2 fd.1 _ _ QgV W (he.keep g)⟩;have HE:Sh (El wr vi d):=⟨he⟩;have FD:Sh (FitL d):=⟨fd.1⟩;obtain ⟨K,hK⟩:∃ K:Int,K=((2^i:Nat):Int):=⟨_,rfl⟩;rw [←hK] at s1 cF;subst hpe;clear hall he hR fd hd hK;by_cases hdl:d.length=2^i
    ·have HD:Sh (d.length=2^i):=⟨hdl⟩;rw [decide_eq_true hdl] at cF;clear hdl;go_wp2_with fail
     go_region_held3 (fun X=>X.cell? ⟨w.heap.size,0,none⟩=some (.slice (some ⟨bt,ot,none⟩) n cap)∧X.cell? ⟨bt,ot+i,none⟩=some vi) (go_keep) (first | (go_at_call 176; (with_reducible refine (cF.o wr.drew (QaS (Below.refl _ _))).mono ?_);rintro e v1 ⟨rfl,g1⟩;have u1:Below wr.heap.size wr v1:=Qah g1;replace x0:=Qae x0 u1;replace hv:=Qae hv u1;clear g1) | fail)
     all_goals
      clear cF s1;have nb1:=En.Qac nb u1;have he1:Sh (El v1 vi d):=⟨HE.o.keep u1⟩;have ub:Below w.heap.size w v1:=u.trans (u1.mono (Nat.le_of_lt hlt));have hz1:=u1.size;have uG:=(Below.refl v1.heap.size v1).alloc Lr (Jc #[.slice (some ⟨bt,ot,none⟩) i cap,.bool false] 150);have nG:(v1.alloc (Jc #[.slice (some ⟨bt,ot,none⟩) i cap,.bool false] 150)).heap[v1.heap.size]? = _:=World.alloc_heap_new v1 _;have x2:=Qae x0 uG;have hv2:=Qae hv uG;have hF:Sh (FB (v1.alloc (Jc #[.slice (some ⟨bt,ot,none⟩) i cap,.bool false] 150)) v1.heap.size (some ⟨bt,ot,none⟩) R false):=⟨(Qjw (L:=L) (i:=i) (by rw [←HN.o];exact hi) HL.o HR.o (HM.o _ (ub.trans (uG.mono ub.size))) (fun a ha=>Nat.lt_of_lt_of_le (HP'.o a ha) ub.size) (by omega) nG).1⟩;have hE2:Sh (Eo (v1.alloc (Jc #[.slice (some ⟨bt,ot,none⟩) i cap,.bool false] 150)) vi (d.map some)):=⟨(he1.o.keep uG).eo FD.o⟩;have uW:Sh (Below w.heap.size w (v1.alloc (Jc #[.slice (some ⟨bt,ot,none⟩) i cap,.bool false] 150))):=⟨ub.trans (uG.mono ub.size)⟩;have nb2:=En.Qac nb1 uG;clear uG nG;go_wp2_with fail;have hq:=Qit (rs:=R) (by omega) (X:=d.map some) (ox:=some d) (by rw [List.length_map,HD.o,hRl]) (Val.some d _) _ hF.o hE2.o;refine hq.mono ?_;rintro e V ⟨gr,s,rfl,hs,hF',ks⟩;have uV:Below w.heap.size w V:=uW.o.grown gr uW.o.size (fun k e=>by cases e;exact ub.size);have nbV:V.heap[w.heap.size]? = _:=(gr.block _ (Array.getElem?_eq_some_iff.1 nb2).1 (fun e=>by injection e with e;omega)).trans nb2;obtain ⟨o,ho⟩:∃ o,o=Qaw R d:=⟨_,rfl⟩;rw [Option.bind_some,←ho] at hF' ks;obtain ⟨cf,bf,_⟩:=hF'.box;have AD:Sh (o=some 1→Adj R d):=⟨fun h=>⟨by rw [hRl];omega,by rw [HD.o,hRl],by rw [←ho,h]⟩⟩;have ND:Sh (o≠some 1→B=false):=⟨fun h=>by rw [←hB.o];exact FS.o.1 (fun a=>h (by rw [ho];exact a.2.2))⟩;clear hq gr hF' ho x2 hv2 hF hE2 uW nb2;cases hoo:o with
      | none =>
       rw [hoo] at bf;have xf:=En.Qaa bf 1 (v:=.bool true) rfl;obtain rfl:B=false:=ND.o (by rw [hoo];intro h;cases h);clear bf ks AD ND;go_wp2_with fail;go_ret;exact ⟨rfl,uV⟩
      | some q =>
       rw [hoo] at bf ks;obtain rfl:q=s:=by injection ks rfl
       have xf:=En.Qaa bf 1 (v:=.bool false) rfl;clear bf ks;by_cases h1:q=1
       ·have hA:Sh (Qam [] (L.take (i+1))=some (d :: R)):=⟨FS.o.2 (AD.o (by rw [hoo,h1]))⟩;have hz:(q != 1)=false:=by rw [h1];rfl
        clear AD ND h1 hoo;go_wp2_with fail
        go_roundw
        case rel=>exact ⟨i+1,by omega,by first | rfl | go_num | simp,⟨uV,nbV⟩,⟨⟨_,hA.o⟩⟩⟩
        case measure=>simp [intOf];omega
       ·obtain rfl:B=false:=ND.o (by rw [hoo];intro h;injection h with h;exact h1 h);have hz:(q != 1)=true:=bne_iff_ne.2 h1;clear AD ND h1 hoo;go_wp2_with fail;go_ret;exact ⟨rfl,uV⟩
    ·have hBf:B=false:=by rw [←hB.o];exact FS.o.1 (fun h=>hdl (by rw [←hRl];exact h.2.1))
     rw [decide_eq_false hdl] at cF;subst hBf;clear hdl FS;go_wp2_with fail
     go_region_held3 (fun X=>X.cell? ⟨w.heap.size,0,none⟩=some (.slice (some ⟨bt,ot,none⟩) n cap)∧X.cell? ⟨bt,ot+i,none⟩=some vi) (go_keep) (first | (go_at_call 176; (with_reducible refine (cF.o wr.drew (QaS (Below.refl _ _))).mono ?_);rintro e v1 ⟨rfl,g1⟩;have u1:Below wr.heap.size wr v1:=Qah g1;replace x0:=Qae x0 u1;replace hv:=Qae hv u1;clear g1) | fail)
     all_goals
      go_wp2_with fail;go_ret;exact ⟨rfl,u.trans (u1.mono (Nat.le_of_lt hlt))⟩
 ·have hB:(Qam [] L).isSome=false:=by
   cases h:Qam [] L with
   | none=>rfl
   | some rs =>
    have:=Qeh h;have h5:=this.2 (by rintro rfl;simp at h4);have h6:=this.1;simp at h6;omega
  rw [hB];clear hm hB hL;generalize L.length=n at *
  have h5:(4:Int)<(n:Int):=by omega
  go_enter Tryz.func175, Tryz.ntmps175;go_wp2_with fail;go_ret;exact ⟨rfl,u0⟩
theorem TwC.parts {w:World} {t:Value} {L:List (List Rat)} (ht:TwC w t L):∃ p cap,t = .agg #[.slice p L.length cap]∧L.length≤cap∧(∀ a,p=some a→a.block<w.heap.size) ∧
  (L = []∨∃ bt ot,p=some ⟨bt,ot,none⟩∧∀ i x,L[i]? = some x→∃ vi,w.cell? ⟨bt,ot+i,none⟩=some vi∧El w vi x):=by
 obtain ⟨p,cap,rfl,hm⟩:=ht.at_.ex;obtain ⟨p',c',e,h,h2⟩:=ht.cap;injection e with e;injection e with e;injection e with e;injection e with e1 _ e2;subst e1;exact ⟨p,cap,rfl,by omega,h2,hm⟩
theorem QtJ {L rs:List (List Rat)} (hL:FitT L) (hn:L.length≤1000) {t vx:Value} {x:List Rat} (hx:x.length≤1000) (fx:FitL x) (w:World) (ht:TwC w t L) (ex:El w vx x) (h0:Qam [] L=some rs) :
  Calls Tryz.prog 137 #[t,vx] w fun e w'=>(∃ gb p,e = .returned (.tuple #[.bool (decide (x.length=2^L.length)),.pointer (some ⟨gb,0,none⟩)])∧w.heap.size≤gb∧FB w' gb p rs false)∧Below w.heap.size w w':=by
 have cV:Sh (∀ W,Below w.heap.size w W→Calls Tryz.prog 175 #[t] W fun e w'=>e = .returned (.bool true)∧Below W.heap.size W w'):=⟨fun W u=>by have:=QqW hL hn W (ht.keep u);rw [h0] at this;exact this⟩;have h4:=QbB h0;have hl:L.length=rs.length:=by have:=Qcc h0;rw [this];simp
 obtain ⟨p,cap,rfl,hc,hp,hm⟩:=ht.parts;obtain ⟨n,hnn⟩:∃ n,n=L.length:=⟨_,rfl⟩
 have HFB:Sh (∀ W gb,Below w.heap.size w W→w.heap.size≤gb→W.heap[gb]? = some (Jc #[.slice p n cap,.bool false] 150 (0,0))→FB W gb p rs false):=⟨fun W gb u hg hb=>by
  refine (Qjw (L:=L) (i:=n) (by rw [hnn];exact Nat.le_refl _) hL (by rw [hnn,List.take_length];exact h0) ?_ (fun a e=>Nat.lt_of_lt_of_le (hp a e) hg) (by rw [hnn];exact hc) hb).1;rcases hm with h | ⟨bt,ot,e,h⟩
  ·exact .inl h
  ·exact .inr ⟨bt,ot,e,fun i x hx=>by
    obtain ⟨vi,k1,k2⟩:=h i x hx;exact ⟨vi,Qae k1 u,k2.keep u⟩⟩⟩
 rw [←hnn] at hl hc cV ⊢;have hn4:n≤4:=by omega
 clear ht h0 hL hm hp hl hnn hn h4
 have cF:Sh (∀ (W:World) (K:Int),Below w.heap.size w W→K=((2^n:Nat):Int)→Calls Tryz.prog 176 #[vx,.int .i64 K] W fun e w'=>e = .returned (.tuple #[.bool (decide (x.length=2^n)),.bool (decide (x.length=2^n))])∧Below W.heap.size W w'):=⟨fun W K g hK=>by
  subst hK;exact Qfx hx fx _ _ QgV W (ex.keep g)⟩
 have s1:=Qiu hn4;obtain ⟨K,hK⟩:∃ K:Int,K=((2^n:Nat):Int):=⟨_,rfl⟩;rw [←hK] at s1;replace cF:Sh (∀ (W:World),Below w.heap.size w W→Calls Tryz.prog 176 #[vx,.int .i64 K] W fun e w'=>e = .returned (.tuple #[.bool (decide (x.length=2^n)),.bool (decide (x.length=2^n))])∧Below W.heap.size W w'):=⟨fun W g=>cF.o W K g hK⟩;have u0:=(Below.refl w.heap.size w).alloc Lr (Jc #[.slice p n cap] 28);have n0:(w.alloc (Jc #[.slice p n cap] 28)).heap[w.heap.size]? = _:=World.alloc_heap_new w _;have x0:=En.Qaa n0 0 (v:=.slice p n cap) rfl;clear ex hK;generalize decide (x.length=2^n)=B at *
 go_enter Tryz.func137, Tryz.ntmps137;go_wp2_with fail;refine (cV.o _ u0).mono ?_;rintro e v1 ⟨rfl,g⟩;have u1:=u0.trans (g.mono u0.size);replace n0:=En.Qac n0 g;replace x0:=En.Qaa n0 0 (v:=.slice p n cap) rfl;clear g u0 cV;go_wp2_with fail;refine (cF.o _ u1).mono ?_;rintro e v2 ⟨rfl,g⟩;have u2:=u1.trans (g.mono u1.size);replace n0:=En.Qac n0 g;replace x0:=En.Qaa n0 0 (v:=.slice p n cap) rfl;clear g u1 cF;go_wp2_with fail
 go_region
 have u3:=QaS ((Below.refl v2.heap.size v2).alloc Lr (Jc #[.slice p n cap,.bool false] 150))
 all_goals
  go_wp2_with fail;exact bodyPost_ret (v:=.tuple #[.bool B,.pointer (some ⟨v2.heap.size,0,none⟩)]) (by simp [results,Tryz.results137, go_sem]) rfl ⟨⟨v2.heap.size,p,rfl,u2.size,HFB.o _ _ (u2.trans (u3.mono u2.size)) u2.size (World.alloc_heap_new v2 _)⟩,u2.trans (u3.mono u2.size)⟩
theorem Qhc {w:World} {ops:Array Oper} {o:Oper} {a:Act} {K:Act→World→Prop} {Q:Exit→Act→World→Prop} {E:Prop} (hgd:o.guard=none) (s x:Operand)
  (ho:o.op = .call {callee:=.builtin .append,args:=#[s,x],argTypes:=#[29, 29]}) (base:Nat) (v:Value) (t:Nat) (R R' G:Nat→P2) (hs:a.eval s=v) (hown:OwnL w base v t R)
  (Bx ox n c:Nat) (hx:a.eval x = .slice (some ⟨Bx,ox,none⟩) n c) (hG:Cl w Bx ox n G) (ht:t≤1000) (hn:n≤1000) (hb:base≤w.heap.size) (h1:∀ i,i<t→R' i=R i) (h2:∀ i,i<n→R' (t+i)=G i)
  (hK:∀ v' w',OwnL w' base v' (t+n) R'→w.grownBy w' v.ownBlock→K (a.put o.dst v') w'):if Region.wanted o (yielded ops a.tmps)=true then Oper.wp Tryz.prog o a w K Q else E:=by
 obtain ⟨i0,hinf,hz⟩:=Option.map_eq_some_iff.1 Qem;have hz0:i0.zero=some (.agg #[J ⟨#[]⟩,J ⟨#[]⟩]):=congrArg (fun q=>q.1) hz;have hz1:i0.size=2:=congrArg (fun q=>q.2.1) hz;have hz2:i0.bytes=32:=congrArg (fun q=>q.2.2) hz;refine Rt.QcP hgd s x 29 ho base 42 i0 (.agg #[J ⟨#[]⟩,J ⟨#[]⟩]) 2 32 Tryz.underlying29 hinf hz0 hz1 hz2 rfl (by decide) v t _ hs hown ⟨Bx,ox,none⟩ n c (Qbd G n) hx (Qbs G n) ?_ ?_ (by unfold maxLen;omega) (by omega) hb ?_
 ·intro j u hj;obtain ⟨i,hi,⟨rfl,rfl⟩ | ⟨rfl,rfl⟩⟩:=QbY G n j u hj
  ·rw [Addr.add_lit];exact (hG.at_ i hi).1
  ·rw [Addr.add_lit,←Nat.add_assoc];exact (hG.at_ i hi).2
 ·intro u hu;obtain ⟨j,hj⟩:=List.getElem?_of_mem hu;obtain ⟨i,hi,⟨rfl,rfl⟩ | ⟨rfl,rfl⟩⟩:=QbY G n j u hj <;> rfl
 ·intro v' w' hown' hgrow;refine hK v' w' ?_ hgrow;unfold OwnL;rw [Qeb R R' G t h1 n h2];exact hown'
theorem Qdn {w:World} {ops:Array Oper} {a:Act} {K:Act→World→Prop} {Q:Exit→Act→World→Prop} {E:Prop} {ty:TypeId} {pos:String} {after:Array Edge}
  (d s x:Nat) (base:Nat) (t:Nat) (R R' G:Nat→P2) (hown:OwnL w base (a.eval (.tmp s)) t R)
  (Bx ox n c:Nat) (hx:a.eval (.tmp x) = .slice (some ⟨Bx,ox,none⟩) n c) (hG:Cl w Bx ox n G) (ht:t≤1000) (hn:n≤1000) (hb:base≤w.heap.size) (h1:∀ i,i<t→R' i=R i) (h2:∀ i,i<n→R' (t+i)=G i)
  (hK:∀ v' w',OwnL w' base v' (t+n) R'→w.grownBy w' (a.eval (.tmp s)).ownBlock→K (a.put (some d) v') w'):if Region.wanted {dst:=some d,op:=.call {callee:=.builtin .append,args:=#[.tmp s,.tmp x],argTypes:=#[29, 29]},type:=ty,pos:=pos,after:=after,guard:=none} (yielded ops a.tmps)=true then Oper.wp Tryz.prog {dst:=some d,op:=.call {callee:=.builtin .append,args:=#[.tmp s,.tmp x],argTypes:=#[29, 29]},type:=ty,pos:=pos,after:=after,guard:=none} a w K Q else E :=
 Qhc rfl (.tmp s) (.tmp x) rfl base _ t R R' G rfl hown Bx ox n c hx hG ht hn hb h1 h2 hK
theorem Rds.set {base:Nat} {W:World} {v:Value} {L:List (List Rat)} {V:Nat→Value} (h:Rds base W v L V) {b:Nat} (hb:b<base) (y:Value):Rds base (W.setCell ⟨b,0,none⟩ y) v L V :=
 ⟨h.own.beside (u:=.slice (some ⟨b,0,none⟩) 0 0) (Qar 0 y) (.inr (h.own.low b hb)),fun i d hd=>by
  obtain ⟨g,cp,e,h1,h2,h3⟩:=h.el i d hd;exact ⟨g,cp,e,h1,h2,⟨fun j hj=>⟨Qba (Qar 0 y) (h3.at_ j hj).1 (fun e=>Nat.ne_of_lt (Nat.lt_of_lt_of_le hb h2) (by injection e)),Qba (Qar 0 y) (h3.at_ j hj).2 (fun e=>Nat.ne_of_lt (Nat.lt_of_lt_of_le hb h2) (by injection e))⟩⟩⟩,h.pos⟩
theorem Rds.twC {base:Nat} {W:World} {v:Value} {L:List (List Rat)} {V:Nat→Value} (h:Rds base W v L V):TwC W (.agg #[v]) L:=by
 refine ⟨h.tw.at_, ?_⟩;rcases h.own.2 with ⟨rfl,hn⟩ | ⟨g,cap,cur,rfl,hg,hgg,h1,_⟩
 ·refine ⟨none,0, ?_, ?_,fun a ha=>by cases ha⟩
  ·rw [hn]
  ·rw [hn];exact Nat.le_refl _
 ·exact ⟨_,cap,rfl,h1,fun a ha=>by cases ha;exact (Array.getElem?_eq_some_iff.1 hgg).1⟩
theorem TwN.mono {base B:Nat} {W:World} {v:Value} {L:List (List Rat)} (h:TwN base W v L) (hB:B≤base):TwN B W v L:=by
 obtain ⟨p,cap,e,h⟩:=h;refine ⟨p,cap,e, ?_⟩;rcases h with h | ⟨bt,e1,h1,h2⟩
 ·exact .inl h
 ·exact .inr ⟨bt,e1,Nat.le_trans hB h1,fun i x hx=>by
   obtain ⟨vi,k1,b,cp,k2,k3,k4,k5⟩:=h2 i x hx;exact ⟨vi,k1,b,cp,k2,k3,Nat.le_trans hB k4,k5⟩⟩
theorem TwC.of {base:Nat} {W W':World} {v:Value} {L:List (List Rat)} (h:TwC W v L) (hn:TwN base W' v L) (hs:W.heap.size≤W'.heap.size):TwC W' v L:=⟨hn.at_,by
 obtain ⟨p,cap,e,h1,h2⟩:=h.cap;exact ⟨p,cap,e,h1,fun a ha=>Nat.lt_of_lt_of_le (h2 a ha) hs⟩⟩
theorem TwN.keep {base:Nat} {W W':World} {v:Value} {L:List (List Rat)} (h:TwN base W v L) (hB:Below W.heap.size W W'):TwN base W' v L:=by
 obtain ⟨p,cap,e,h⟩:=h;refine ⟨p,cap,e, ?_⟩;rcases h with h | ⟨bt,e1,h1,h2⟩
 ·exact .inl h
 ·exact .inr ⟨bt,e1,h1,fun i x hx=>by
   obtain ⟨vi,k1,k2⟩:=h2 i x hx;exact ⟨vi,Qae k1 hB,k2.keep hB⟩⟩
theorem QrI {W W':World} {B b k:Nat} {v:Value} (h:W.cell? ⟨b,k,none⟩=some v) (u:Below B W W') (hb:b<B):W'.cell? ⟨b,k,none⟩=some v:=by
 rw [←h];simp only [World.cell?,u.block b hb]
theorem QbH {W:World} {b:Nat} {x y:Value} {T:TypeId} (h:W.heap[b]? = some (Jc #[x] T (0,0))):(W.setCell ⟨b,0,none⟩ y).heap[b]? = some (Jc #[y] T (0,0)):=by
 obtain ⟨hl,hg⟩:=Array.getElem?_eq_some_iff.1 h;simp [World.setCell,hl,Array.getElem_modify,hg]
theorem Qpg {L rs:List (List Rat)} (h:Qam [] L=some rs):∀ d∈L,1≤d.length:=fun d hd=>by
 have hr:=Qei (acc := []) trivial h;have he:=Qcc h;rw [List.append_nil] at he;have hm:d∈rs:=by rw [he,List.mem_reverse];exact hd
 clear he h hd
 induction rs with
 | nil=>cases hm
 | cons e rs ih =>
  rcases List.mem_cons.1 hm with rfl | hm
  ·rw [hr.1];exact Nat.pos_of_ne_zero (by simp)
  ·exact ih hr.2 hm
theorem Qjx {L rs:List (List Rat)} (hL:FitT L) {t vx:Value} {x:List Rat} (hx:x.length≤1000) (fx:FitL x) (w:World) (ht:TwC w t L) (ex:El w vx x) (h0:Qam [] L=some rs) (hxl:x.length=2^L.length) :
  Calls Tryz.prog 89 #[t,vx] w fun e w'=>((Adj rs x→∃ v,e = .returned (.tuple #[v,.int .i64 0])∧TwC w' v (L ++ [x])∧TwN w.heap.size w' v (L ++ [x]))∧(¬ Adj rs x→e = .returned (.tuple #[.agg #[.slice none 0 0],.int .i64 60])))∧Below w.heap.size w w':=by
 have h4:=QbB h0;have hrv:=Qcc h0;rw [List.append_nil] at hrv;have hl:rs.length=L.length:=by rw [hrv];simp
 have cI:Sh (∀ W,Below w.heap.size w W→Calls Tryz.prog 137 #[t,vx] W fun e w'=>(∃ gb p,e = .returned (.tuple #[.bool true,.pointer (some ⟨gb,0,none⟩)])∧W.heap.size≤gb∧FB w' gb p rs false)∧Below W.heap.size W w'):=⟨fun W u=>by
  have:=QtJ hL (by omega) hx fx W (ht.keep u) (ex.keep u) h0;rw [decide_eq_true hxl] at this;exact this⟩
 obtain ⟨p,cap,rfl,hc,hp,hm⟩:=ht.parts
 have HM:Sh (∀ W,Below w.heap.size w W→(L = []∨∃ bt ot,p=some ⟨bt,ot,none⟩∧∀ i x,L[i]? = some x→∃ vi,W.cell? ⟨bt,ot+i,none⟩=some vi∧El W vi x)):=⟨fun W u=>by
  rcases hm with h | ⟨bt,ot,e,h⟩
  ·exact .inl h
  ·exact .inr ⟨bt,ot,e,fun i x hx=>by
    obtain ⟨vi,k1,k2⟩:=h i x hx;exact ⟨vi,Qae k1 u,k2.keep u⟩⟩⟩
 have EX:Sh (∀ W,Below w.heap.size w W→El W vx x):=⟨fun W u=>ex.keep u⟩;have HL:Sh (FitT L):=⟨hL⟩;have FX:Sh (FitL x):=⟨fx⟩;have XL:Sh (x.length=2^rs.length):=⟨by rw [hl];exact hxl⟩;have XN:Sh (x.length≤1000):=⟨hx⟩;have RL:Sh (rs.length=L.length):=⟨hl⟩;have HPO:Sh (∀ d∈L,1≤d.length∧d.length≤1000):=⟨fun d hd=>⟨Qpg h0 d hd,(hL d hd).2⟩⟩;obtain ⟨n,hnn⟩:∃ n,n=L.length:=⟨_,rfl⟩;rw [←hnn] at hc hl cI ⊢;have HN:Sh (n=L.length):=⟨hnn⟩;have HP:Sh (∀ a,p=some a→a.block<w.heap.size):=⟨hp⟩;have hn4:n≤4:=by omega
 have u0:=((Below.refl w.heap.size w).alloc Lr (Jc #[.slice p n cap] 28)).alloc (by simp) (Jc #[.slice none 0 0] 28);have n0:((w.alloc (Jc #[.slice p n cap] 28)).alloc (Jc #[.slice none 0 0] 28)).heap[w.heap.size]? = _:=lold (World.alloc_heap_new w _);have n1:((w.alloc (Jc #[.slice p n cap] 28)).alloc (Jc #[.slice none 0 0] 28)).heap[w.heap.size+1]? = some (Jc #[.slice none 0 0] 28 (0,0)):=(by have:=World.alloc_heap_new (w.alloc (Jc #[.slice p n cap] 28)) (Jc #[.slice none 0 0] 28);simpa using this);have x0:=En.Qaa n0 0 (v:=.slice p n cap) rfl;clear hL ht ex hm hp fx hx hxl hnn h4 hrv h0 hl;go_enter Tryz.func89, Tryz.ntmps89;go_wp2_with fail;refine (cI.o _ u0).mono ?_;rintro e v1 ⟨⟨gb,pg,rfl,hgb,hF⟩,g⟩;have u1:=u0.trans (g.mono u0.size);replace n0:=En.Qac n0 g;replace n1:=En.Qac n1 g;replace x0:=En.Qaa n0 0 (v:=.slice p n cap) rfl;have x1:=En.Qaa n1 0 (v:=.slice none 0 0) rfl;have y1:=En.Qad n1 0;have hF:Sh (FB v1 gb pg rs false):=⟨hF⟩;have hgw:w.heap.size+1<gb:=by simp at hgb;omega
 clear g u0 cI hgb;by_cases hq4:n=4
 ·have hz:((n:Int) == 4)=true:=by rw [hq4];rfl
  have NA:Sh (¬ Adj rs x):=⟨fun h=>by have:=h.1;rw [RL.o,←HN.o] at this;omega⟩;clear hq4;go_wp2_with fail;exact bodyPost_ret (v:=.tuple #[.agg #[.slice none 0 0],.int .i64 60]) (by simp [results,Tryz.results89, go_sem,x1]) rfl ⟨⟨fun h=>absurd h NA.o,fun _=>rfl⟩,by first | exact u1 | exact u1.setCell (by simp) _⟩
 ·have hz:((n:Int) == 4)=false:=beq_eq_false_iff_ne.2 (by omega);have hn3:n≤3:=by omega
  go_wp2_with fail;have hq:=Qit (rs:=rs) (by rw [RL.o,←HN.o];omega) (X:=x.map some) (ox:=some x) (by rw [List.length_map];exact XL.o) (Val.some x _) _ hF.o ((EX.o _ u1).eo FX.o);refine hq.mono ?_;rintro e V ⟨gr,s,rfl,hs,hF',ks⟩;have uV:Below w.heap.size w V:=u1.grown gr u1.size (fun k e=>by cases e;omega);have nV0:V.heap[w.heap.size]? = _:=(gr.block _ (Array.getElem?_eq_some_iff.1 n0).1 (fun e=>by injection e with e;omega)).trans n0;have nV1:V.heap[w.heap.size+1]? = _:=(gr.block _ (Array.getElem?_eq_some_iff.1 n1).1 (fun e=>by injection e with e;omega)).trans n1;obtain ⟨o,ho⟩:∃ o,o=Qaw rs x:=⟨_,rfl⟩;rw [Option.bind_some,←ho] at hF' ks;obtain ⟨cf,bf,_⟩:=hF'.box;have AD:Sh (o=some 1↔Adj rs x):=⟨fun h=>⟨by rw [RL.o,←HN.o];omega,XL.o,by rw [←ho,h]⟩,fun h=>by rw [ho];exact h.2.2⟩;clear hq gr hF' ho u1 n0 n1 x0 x1 y1 hF;have x0:=En.Qaa nV0 0 (v:=.slice p n cap) rfl;have x1:=En.Qaa nV1 0 (v:=.slice none 0 0) rfl;have y1:=En.Qad nV1 0;cases hoo:o with
  | none =>
   rw [hoo] at bf;have xf:=En.Qaa bf 1 (v:=.bool true) rfl;have NA:Sh (¬ Adj rs x):=⟨fun h=>by have:=AD.o.2 h;rw [hoo] at this;cases this⟩;clear bf ks AD hoo;go_wp2_with fail;exact bodyPost_ret (v:=.tuple #[.agg #[.slice none 0 0],.int .i64 60]) (by simp [results,Tryz.results89, go_sem,x1]) rfl ⟨⟨fun h=>absurd h NA.o,fun _=>rfl⟩,by first | exact uV | exact uV.setCell (by simp) _⟩
  | some q =>
   rw [hoo] at bf ks;obtain rfl:q=s:=by injection ks rfl
   have xf:=En.Qaa bf 1 (v:=.bool false) rfl;by_cases h1:q=1
   ·have hz2:(q != 1)=false:=by rw [h1];rfl
    have YA:Sh (Adj rs x):=⟨AD.o.1 (by rw [hoo,h1])⟩;clear AD h1 hoo bf ks;have uB:=(Below.refl V.heap.size V).alloc Lr (Jc #[.slice none 0 0] 28);have nB:(V.alloc (Jc #[.slice none 0 0] 28)).heap[V.heap.size]? = _:=World.alloc_heap_new V _;have hV1:w.heap.size+1<V.heap.size:=(Array.getElem?_eq_some_iff.1 nV1).1;go_wp2_with fail;have HV0:Sh (Below w.heap.size w (V.alloc (Jc #[.slice none 0 0] 28))∧(V.alloc (Jc #[.slice none 0 0] 28)).heap[w.heap.size]? = some (Jc #[.slice p n cap] 28 (0,0))∧(V.alloc (Jc #[.slice none 0 0] 28)).heap[w.heap.size+1]? = some (Jc #[.slice none 0 0] 28 (0,0))∧V.heap.size+1≤(V.alloc (Jc #[.slice none 0 0] 28)).heap.size):=⟨uV.trans (uB.mono uV.size),En.Qac nV0 uB,En.Qac nV1 uB,by simp⟩;clear uV uB nV0 nV1 x0 x1 y1 xf;generalize V.alloc (Jc #[.slice none 0 0] 28)=W0 at *
    generalize V.heap.size=bo at *
    clear V
    go_loopw [10] (fun iv wr=>∃ i:Nat,i≤n∧iv = .int .i64 (i:Int)∧Sh (Below w.heap.size w wr∧wr.heap[w.heap.size]? = some (Jc #[.slice p n cap] 28 (0,0))∧wr.heap[w.heap.size+1]? = some (Jc #[.slice none 0 0] 28 (0,0))∧bo+1≤wr.heap.size)∧∃ v Vf,Sh (wr.heap[bo]? = some (Jc #[v] 28 (0,0))∧Rds (bo+1) wr v (L.take i) Vf)) (fun iv _=>n-(intOf iv).toNat)
    case atStart=>exact ⟨0,Nat.zero_le _,rfl,HV0,.slice none 0 0,fun _ => .slice none 0 0,⟨nB,OwnG.nil _ _ _ _ _,fun i d h=>(by cases h),fun d h=>(by cases h)⟩⟩
    case round =>
     obtain ⟨i,hi,rfl,HF,v,Vf,HR⟩:=hrel;obtain ⟨u,na,nb,hsz⟩:=HF.o;obtain ⟨no,hR⟩:=HR.o;clear HF HR HV0;have x0:=En.Qaa na 0 (v:=.slice p n cap) rfl;have x1:=En.Qaa nb 0 (v:=.slice none 0 0) rfl;obtain ⟨TK,hTK⟩:∃ T,T=L.take i:=⟨_,rfl⟩;have TL:Sh (TK.length=i):=⟨by rw [hTK,List.length_take,←HN.o];omega⟩;rw [←hTK] at hR;replace hR:Sh (Rds (bo+1) wr v TK Vf):=⟨hR⟩;have cC0:=En.Qaa no 0 (v:=v) rfl;by_cases hin:i=n
     ·have HTK:Sh (TK=L):=⟨by rw [hTK,hin,HN.o,List.take_length]⟩;have HDP:Sh (1≤x.length∧x.length≤1000):=⟨by rw [XL.o];exact Nat.pos_of_ne_zero (by simp),XN.o⟩;subst hin;have HI4:Sh (i≤1000):=⟨by omega⟩;obtain ⟨bx,ox,cx,rfl,hcx,hcl⟩:=EX.o wr u;have HC:Sh (∀ W,Below wr.heap.size wr W→Cl W bx ox x.length (pqs x)):=⟨fun W g=>hcl.keep g⟩;clear hTK hcl EX;have uA:Below wr.heap.size wr (wr.alloc (Jc #[] 42)).drew:=QaS ((Below.refl wr.heap.size wr).alloc Lr (Jc #[] 42));have HO:Sh (OwnL (wr.alloc (Jc #[] 42)).drew wr.heap.size (.slice (some ⟨wr.heap.size,0,none⟩) 0 0) 0 (fun _=>(⟨#[]⟩,⟨#[]⟩))):=⟨⟨rfl,.inr ⟨_,_,_,rfl,Nat.le_refl _,World.alloc_heap_new wr _,Nat.le_refl _,Nat.zero_le _,rfl,rfl⟩⟩⟩;have cC1:wr.drew.cell? ⟨bo,0,none⟩=some v:=cC0;have cC2:=Qae cC0 uA;go_wp2_with fail
      go_region_law (first | ((refine Qdn 62 60 61 wr.heap.size 0 (fun _=>(⟨#[]⟩,⟨#[]⟩)) (pqs x) (pqs x) ?_ bx ox x.length cx ?_ ?_ ?_ ?_ ?_ ?_ ?_ ?_);(next=>go_must (exact HO.o));(next=>go_must (rfl));(next=>go_must (exact HC.o _ uA));(next=>go_must (exact Nat.zero_le _));(next=>go_must (exact HDP.o.2));(next=>go_must (exact uA.size));(next=>go_must (intro i hi;exact absurd hi (Nat.not_lt_zero i)));(next=>go_must (intro i _;exact congrArg (pqs x) (Nat.zero_add i)));intro v2 w2 hO2 hg2;go_must (rw [Nat.zero_add] at hO2);go_must (have u2:Below wr.heap.size wr w2:=QbA uA Lr Lr HO.o hg2);obtain ⟨g2,c2,rfl,k1,k2,k3,k4⟩:=Qdc hO2 HDP.o.1;have UA:=(Below.refl w2.heap.size w2).alloc Lr (Jc #[.slice (some ⟨g2,0,none⟩) x.length c2] 29);have n_n:=World.alloc_heap_new w2 (Jc #[.slice (some ⟨g2,0,none⟩) x.length c2] 29);have U3:=u2.trans (UA.mono u2.size);have HV2:=(hR.o.keep u2).keep UA;have HN:Sh _:=⟨fun (k:Nat) (hk:wr.heap.size≤k)=>hR.o.own.new k hk⟩;have hy:Yng (bo+1) (w2.alloc (Jc #[.slice (some ⟨g2,0,none⟩) x.length c2] 29)) (.slice (some ⟨g2,0,none⟩) x.length c2) x:=⟨g2,c2,rfl,k2,Nat.le_trans hsz k1,k4.keep UA⟩;have hown:=TL.o▸QgP HV2.own (.slice (some ⟨g2,0,none⟩) x.length c2);clear hO2 hg2;have cC:w2.cell? ⟨bo,0,none⟩=some (v):=Qae cC0 u2;have cC9:=Qae cC UA) | ((refine Qci 64 59 63 (bo+1) i (fun j => [if j=i then .slice (some ⟨g2,0,none⟩) x.length c2 else Vf j]) ?_ w2.heap.size 1 ?_ (some ⟨g2,0,none⟩) x.length c2 ?_ ?_ ?_ ?_ ?_);(next=>go_must (exact hown));(next=>go_must (rfl));(next=>go_must (show [_] = [_];rw [if_pos rfl]));(next=>go_must (exact n_n));(next=>go_must (exact HI4.o));(next=>go_must (exact Nat.le_trans hsz U3.size));intro v3 w3 hO3 hgr;obtain ⟨g3,c3,rfl,_⟩:=OwnG.shape hO3 (fun _ _=>rfl);go_must (have u3:Below (bo+1) wr w3:=En.QbT (U3.mono hsz) hsz Lr hown hgr);go_must (have RF:Sh (Rds (bo+1) w3 (.slice (some ⟨g3,0,none⟩) (i+1) c3) (TK ++ [x]) (fun j=>if j=TK.length then .slice (some ⟨g2,0,none⟩) x.length c2 else Vf j)):=⟨Rds.snoc HV2 hy HDP.o.1 (fun b cp e=>by injection e with e;injection e with e;injection e with e;rw [←e];exact HN.o g2 k1) hgr (by rw [TL.o];exact hO3)⟩);have no3:=(u3.block bo (Nat.lt_succ_self _)).trans no;have xo:w3.cell? ⟨bo,0,none⟩=some v:=En.Qaa no3 0 rfl;have yo:=En.Qad no3 0;skip;clear hown hO3 hgr hy HV2 UA U3 n_n))
      all_goals
       have b3:(w3.setCell ⟨bo,0,none⟩ (.slice (some ⟨g3,0,none⟩) (i+1) c3)).heap[bo]? = some (Jc #[(.slice (some ⟨g3,0,none⟩) (i+1) c3)] 28 (0,0)):=QbH no3;have uS:Below bo wr (w3.setCell ⟨bo,0,none⟩ (.slice (some ⟨g3,0,none⟩) (i+1) c3)):=(u3.mono (Nat.le_succ bo)).setCell Lr _;have nbS:=(uS.block (w.heap.size+1) hV1).trans nb;have z1:=En.Qaa nbS 0 (v:=.slice none 0 0) rfl;have zf:=En.Qad nbS 0;have z3:=En.Qaa b3 0 (v:=(.slice (some ⟨g3,0,none⟩) (i+1) c3)) rfl;have HW:Sh (Below w.heap.size w (w3.setCell ⟨bo,0,none⟩ (.slice (some ⟨g3,0,none⟩) (i+1) c3))):=⟨u.trans (uS.mono (show w.heap.size≤bo by omega))⟩;have HR2:Sh (Rds (bo+1) (w3.setCell ⟨bo,0,none⟩ (.slice (some ⟨g3,0,none⟩) (i+1) c3)) (.slice (some ⟨g3,0,none⟩) (i+1) c3) (L ++ [x]) _):=⟨by rw [←HTK.o];exact RF.o.set (Nat.lt_succ_self _) _⟩;have HR3:=HR2.o.set (b:=w.heap.size+1) (by omega) (.slice (some ⟨g3,0,none⟩) (i+1) c3);have b4:=QbH (y:=(.slice (some ⟨g3,0,none⟩) (i+1) c3)) nbS;have z4:=En.Qaa b4 0 (v:=(.slice (some ⟨g3,0,none⟩) (i+1) c3)) rfl;clear xo yo no3 b3 RF cC0 HR2 u3 nbS;go_wp2_with fail;have HN3:=HR3.tw.mono (show w.heap.size≤bo+1 by omega);exact bodyPost_ret (v:=.tuple #[.agg #[(.slice (some ⟨g3,0,none⟩) (i+1) c3)],.int .i64 0]) (by simp [results,Tryz.results89, go_sem,z4]) rfl ⟨⟨fun _=>⟨_,rfl,HR3.twC,HN3⟩,fun h=>absurd YA.o h⟩,HW.o.setCell (Nat.le_succ w.heap.size) _⟩
     ·have hil:i<n:=by omega
      have hi2:(i:Int)<(n:Int):=by omega
      have hi3:(0:Int)≤(i:Int):=by omega
      have HI4:Sh (i≤1000):=⟨by omega⟩;have hw1:IntKind.i64.wrap ((i:Int)+1)=(i:Int)+1:=by simp [IntKind.wrap,IntKind.signed,IntKind.bits];omega
      obtain ⟨d,hd⟩:∃ d,L[i]? = some d:=⟨_,List.getElem?_eq_getElem (by rw [←HN.o];exact hil)⟩;obtain ⟨bt,ot,hpe,hall⟩:=(HM.o wr u).resolve_left (fun h=>by rw [h] at hd;cases hd);obtain ⟨vi,cB0,he⟩:=hall i d hd;have HDP:Sh (1≤d.length∧d.length≤1000):=⟨HPO.o d (List.mem_of_getElem? hd)⟩;obtain ⟨bx,ox,cx,rfl,hcx,hcl⟩:=he;have HS:Sh (L.take (i+1)=TK ++ [d]):=⟨by rw [List.take_add_one,hd,hTK];rfl⟩;have HC:Sh (∀ W,Below wr.heap.size wr W→Cl W bx ox d.length (pqs d)):=⟨fun W g=>hcl.keep g⟩;have cA0:=En.Qaa na 0 (v:=.slice p n cap) rfl;subst hpe;have hbt:=HP.o _ rfl;have hbt:bt<w.heap.size:=hbt;clear hall hcl hd hTK x0 x1;have uA:Below wr.heap.size wr (wr.alloc (Jc #[] 42)).drew:=QaS ((Below.refl wr.heap.size wr).alloc Lr (Jc #[] 42));have HO:Sh (OwnL (wr.alloc (Jc #[] 42)).drew wr.heap.size (.slice (some ⟨wr.heap.size,0,none⟩) 0 0) 0 (fun _=>(⟨#[]⟩,⟨#[]⟩))):=⟨⟨rfl,.inr ⟨_,_,_,rfl,Nat.le_refl _,World.alloc_heap_new wr _,Nat.le_refl _,Nat.zero_le _,rfl,rfl⟩⟩⟩;have cB1:wr.drew.cell? ⟨bt,ot+i,none⟩=some (.slice (some ⟨bx,ox,none⟩) d.length cx):=cB0;have cA2:=Qae cA0 uA;have cB2:=Qae cB0 uA;have cA1:wr.drew.cell? ⟨w.heap.size,0,none⟩=some (.slice (some ⟨bt,ot,none⟩) n cap):=cA0;have cC1:wr.drew.cell? ⟨bo,0,none⟩=some v:=cC0;have cC2:=Qae cC0 uA;go_wp2_with fail
      go_region_law (first | ((refine Qdn 54 48 53 wr.heap.size 0 (fun _=>(⟨#[]⟩,⟨#[]⟩)) (pqs d) (pqs d) ?_ bx ox d.length cx ?_ ?_ ?_ ?_ ?_ ?_ ?_ ?_);(next=>go_must (exact HO.o));(next=>go_must (rfl));(next=>go_must (exact HC.o _ uA));(next=>go_must (exact Nat.zero_le _));(next=>go_must (exact HDP.o.2));(next=>go_must (exact uA.size));(next=>go_must (intro i hi;exact absurd hi (Nat.not_lt_zero i)));(next=>go_must (intro i _;exact congrArg (pqs d) (Nat.zero_add i)));intro v2 w2 hO2 hg2;go_must (rw [Nat.zero_add] at hO2);go_must (have u2:Below wr.heap.size wr w2:=QbA uA Lr Lr HO.o hg2);obtain ⟨g2,c2,rfl,k1,k2,k3,k4⟩:=Qdc hO2 HDP.o.1;have UA:=(Below.refl w2.heap.size w2).alloc Lr (Jc #[.slice (some ⟨g2,0,none⟩) d.length c2] 29);have n_n:=World.alloc_heap_new w2 (Jc #[.slice (some ⟨g2,0,none⟩) d.length c2] 29);have U3:=u2.trans (UA.mono u2.size);have HV2:=(hR.o.keep u2).keep UA;have HN:Sh _:=⟨fun (k:Nat) (hk:wr.heap.size≤k)=>hR.o.own.new k hk⟩;have hy:Yng (bo+1) (w2.alloc (Jc #[.slice (some ⟨g2,0,none⟩) d.length c2] 29)) (.slice (some ⟨g2,0,none⟩) d.length c2) d:=⟨g2,c2,rfl,k2,Nat.le_trans hsz k1,k4.keep UA⟩;have hown:=TL.o▸QgP HV2.own (.slice (some ⟨g2,0,none⟩) d.length c2);clear hO2 hg2;have cA:w2.cell? ⟨w.heap.size,0,none⟩=some (.slice (some ⟨bt,ot,none⟩) n cap):=Qae cA0 u2;have cB:w2.cell? ⟨bt,ot+i,none⟩=some (.slice (some ⟨bx,ox,none⟩) d.length cx):=Qae cB0 u2;have cC:w2.cell? ⟨bo,0,none⟩=some (v):=Qae cC0 u2;have cC9:=Qae cC UA) | ((refine Qci 56 47 55 (bo+1) i (fun j => [if j=i then .slice (some ⟨g2,0,none⟩) d.length c2 else Vf j]) ?_ w2.heap.size 1 ?_ (some ⟨g2,0,none⟩) d.length c2 ?_ ?_ ?_ ?_ ?_);(next=>go_must (exact hown));(next=>go_must (rfl));(next=>go_must (show [_] = [_];rw [if_pos rfl]));(next=>go_must (exact n_n));(next=>go_must (exact HI4.o));(next=>go_must (exact Nat.le_trans hsz U3.size));intro v3 w3 hO3 hgr;obtain ⟨g3,c3,rfl,_⟩:=OwnG.shape hO3 (fun _ _=>rfl);go_must (have u3:Below (bo+1) wr w3:=En.QbT (U3.mono hsz) hsz Lr hown hgr);go_must (have RF:Sh (Rds (bo+1) w3 (.slice (some ⟨g3,0,none⟩) (i+1) c3) (TK ++ [d]) (fun j=>if j=TK.length then .slice (some ⟨g2,0,none⟩) d.length c2 else Vf j)):=⟨Rds.snoc HV2 hy HDP.o.1 (fun b cp e=>by injection e with e;injection e with e;injection e with e;rw [←e];exact HN.o g2 k1) hgr (by rw [TL.o];exact hO3)⟩);have no3:=(u3.block bo (Nat.lt_succ_self _)).trans no;have xo:w3.cell? ⟨bo,0,none⟩=some v:=En.Qaa no3 0 rfl;have yo:=En.Qad no3 0;have cA:w3.cell? ⟨w.heap.size,0,none⟩=some (.slice (some ⟨bt,ot,none⟩) n cap):=QrI cA0 u3 (by omega);have cB:w3.cell? ⟨bt,ot+i,none⟩=some (.slice (some ⟨bx,ox,none⟩) d.length cx):=QrI cB0 u3 (by omega);clear hown hO3 hgr hy HV2 UA U3 n_n))
      all_goals
       have b3:(w3.setCell ⟨bo,0,none⟩ (.slice (some ⟨g3,0,none⟩) (i+1) c3)).heap[bo]? = some (Jc #[(.slice (some ⟨g3,0,none⟩) (i+1) c3)] 28 (0,0)):=QbH no3;have uS:Below bo wr (w3.setCell ⟨bo,0,none⟩ (.slice (some ⟨g3,0,none⟩) (i+1) c3)):=(u3.mono (Nat.le_succ bo)).setCell Lr _;have HW:Sh (Below w.heap.size w (w3.setCell ⟨bo,0,none⟩ (.slice (some ⟨g3,0,none⟩) (i+1) c3))∧(w3.setCell ⟨bo,0,none⟩ (.slice (some ⟨g3,0,none⟩) (i+1) c3)).heap[w.heap.size]? = some (Jc #[.slice (some ⟨bt,ot,none⟩) n cap] 28 (0,0))∧(w3.setCell ⟨bo,0,none⟩ (.slice (some ⟨g3,0,none⟩) (i+1) c3)).heap[w.heap.size+1]? = some (Jc #[.slice none 0 0] 28 (0,0))∧bo+1≤(w3.setCell ⟨bo,0,none⟩ (.slice (some ⟨g3,0,none⟩) (i+1) c3)).heap.size):=⟨u.trans (uS.mono (show w.heap.size≤bo by omega)),(uS.block w.heap.size (by omega)).trans na,(uS.block (w.heap.size+1) hV1).trans nb,Nat.le_trans hsz uS.size⟩;have HR2:Sh (Rds (bo+1) (w3.setCell ⟨bo,0,none⟩ (.slice (some ⟨g3,0,none⟩) (i+1) c3)) (.slice (some ⟨g3,0,none⟩) (i+1) c3) (L.take (i+1)) _):=⟨by rw [HS.o];exact RF.o.set (Nat.lt_succ_self _) _⟩;clear uS cA0 cB0 cC0 xo yo no3 u3 RF;go_wp2_with fail
       go_roundw
       case rel=>exact ⟨i+1,by omega,by first | rfl | go_num | simp,HW,(.slice (some ⟨g3,0,none⟩) (i+1) c3),_,⟨b3,HR2.o⟩⟩
       case measure=>simp [intOf];omega
   ·have hz2:(q != 1)=true:=bne_iff_ne.2 h1;have NA:Sh (¬ Adj rs x):=⟨fun h=>by have:=AD.o.2 h;rw [hoo] at this;injection this with this;exact h1 this⟩;clear AD h1 hoo bf ks;go_wp2_with fail;exact bodyPost_ret (v:=.tuple #[.agg #[.slice none 0 0],.int .i64 60]) (by simp [results,Tryz.results89, go_sem,x1]) rfl ⟨⟨fun h=>absurd h NA.o,fun _=>rfl⟩,by first | exact uV | exact uV.setCell (by simp) _⟩
def QaG (c:Int) (n:Nat):Nat:=(if c<0 then (-(c+1)).toNat else c.toNat) % n
theorem QbM (c:Int) {n:Nat} (h:0<n):QaG c n<n:=Nat.mod_lt _ h
theorem QdS (c:Int) (m:Nat) (h1 : -9223372036854775808≤c) (h2:c≤9223372036854775807) (n1:1≤m):∀ w:World,Calls Tryz.prog 87 #[.int .i64 c,.int .i64 (m:Int)] w fun e w'=>e = .returned (.int .i64 (QaG c m:Int))∧Below w.heap.size w w':=by
 have hw:∀ x:Int, -9223372036854775808≤x→x≤9223372036854775807→IntKind.i64.wrap x=x:=fun x a b=>by simp [IntKind.wrap,IntKind.signed,IntKind.bits];omega
 have hn0:¬(m:Int)=0:=by omega
 intro w;by_cases hc:c<0
 ·have e1:=hw (c+1) (by omega) (by omega);have e2:=hw (-(c+1)) (by omega) (by omega);obtain ⟨k,hk⟩:∃ k:Nat, -(c+1)=(k:Int):=⟨(-(c+1)).toNat,by omega⟩;have hp:QaG c m=k % m:=by rw [QaG,if_pos hc,hk,Int.toNat_natCast]
  rw [hp];clear hp;have hd:decide (c<0)=true:=decide_eq_true hc;go_enter Tryz.func87, Tryz.ntmps87;go_wp2;go_ret;exact ⟨by first | rfl | simp,Below.refl _ _⟩
 ·obtain ⟨k,rfl⟩:=Int.eq_ofNat_of_zero_le (show 0≤c by omega);have hp:QaG (k:Int) m=k % m:=by rw [QaG,if_neg hc,Int.toNat_natCast]
  rw [hp];clear hp;have hd:decide ((k:Int)<0)=false:=decide_eq_false hc;go_enter Tryz.func87, Tryz.ntmps87;go_wp2;go_ret;exact ⟨by first | rfl | simp,Below.refl _ _⟩
theorem QtK (n d:Int) (hn:n.natAbs≤1000000) (hd:d.natAbs≤1000000) (d0:d≠0) (W:World):Calls Tryz.prog 88 #[.int .i64 n,.int .i64 d] W fun e w'=>e = .returned (.tuple #[.agg #[J (pq (Rat.divInt n d)).1,J (pq (Rat.divInt n d)).2],.int .i64 0])∧Below W.heap.size W w':=by
 have f1:Fits n:=Qas (Nat.lt_trans (show n.natAbs<10^20 by omega) (by decide));have f2:Fits d:=Qas (Nat.lt_trans (show d.natAbs<10^20 by omega) (by decide));have:=QsI n d (by omega) (by omega) (by omega) (by omega) W;rw [Qfz f1 f2 d0] at this;exact this
theorem Qvv {x:Int} (h1 : -9223372036854775808≤x) (h2:x≤9223372036854775807) : -9223372036854775808≤x.tdiv 11∧x.tdiv 11≤9223372036854775807:=by
 rcases Int.le_total 0 x with h | h
 ·rw [Int.tdiv_eq_ediv_of_nonneg h];omega
 ·obtain ⟨k,rfl⟩:∃ k:Int,x = -k:=⟨-x,by omega⟩;rw [Int.neg_tdiv,Int.tdiv_eq_ediv_of_nonneg (by omega)];omega
def elQ (X:Nat→Int) (i:Nat):Rat:=Rat.divInt ((QaG (X i) 11:Int)-5) (1+(QaG ((X i).tdiv 11) 3:Int))
def elL (X:Nat→Int) (n:Nat):List Rat:=(List.range n).map (elQ X)
theorem Qdx (X:Nat→Int) (n:Nat):(elL X n).length=n:=by rw [elL,List.length_map,List.length_range]
theorem Qvw (X:Nat→Int) (n i:Nat) (h:i<n):pqs (elL X n) i=pq (elQ X i):=by
 rw [pqs,List.getD_eq_getElem?_getD,elL,List.getElem?_map,List.getElem?_range h];rfl
theorem QtL (X:Nat→Int) (i:Nat):Lat 6 30 (elQ X i):=by
 have h1:=QbM (X i) (n:=11) (by decide);have h2:=QbM ((X i).tdiv 11) (n:=3) (by decide);rw [elQ];generalize QaG (X i) 11=a at *
 generalize QaG ((X i).tdiv 11) 3=b at *
 obtain ⟨z,hz⟩:∃ z:Int,z=(a:Int)-5:=⟨_,rfl⟩;rw [←hz];rcases (by omega:b=0∨b=1∨b=2) with rfl | rfl | rfl
 ·exact ⟨by decide,z*6,by show Rat.divInt z 1=Rat.divInt (z*6) (1*6);exact (Rat.divInt_mul_right (by decide)).symm,by omega⟩
 ·exact ⟨by decide,z*3,by show Rat.divInt z 2=Rat.divInt (z*3) (2*3);exact (Rat.divInt_mul_right (by decide)).symm,by omega⟩
 ·exact ⟨by decide,z*2,by show Rat.divInt z 3=Rat.divInt (z*2) (3*2);exact (Rat.divInt_mul_right (by decide)).symm,by omega⟩
theorem Qfo (X:Nat→Int) (n:Nat):AllL 6 30 (elL X n):=fun q hq=>by
 obtain ⟨i,_,rfl⟩:=List.mem_map.1 hq;exact QtL X i
structure Ar (cs:Array Value) (X:Nat→Int):Prop where
 size:cs.size=16
 at_:∀ i,i<16→cs[i]? = some (.int .i64 (X i))∧(-9223372036854775808≤X i∧X i≤9223372036854775807)
theorem Ar.cell {cs:Array Value} {X:Nat→Int} (h:Ar cs X) {W:World} {b:Nat} {T:TypeId} (hb:W.heap[b]? = some (.cells cs T (0,0))) {i:Nat} (hi:i<16):W.cell? ⟨b,i,none⟩=some (.int .i64 (X i)):=En.Qaa hb i (h.at_ i hi).1
theorem QgW {cs:Array Value} {X:Nat→Int} (hX:Ar cs X) {p:Option Addr} {n cap:Nat} (hn:n≤4) (w:World) :
  Calls Tryz.prog 35 #[.agg #[.slice p n cap],.agg cs] w fun e w'=>(∃ v,e = .returned v∧El w' v (elL X (2^n)))∧Below w.heap.size w w':=by
 have hp:=QbG hn;have u0:=((Below.refl w.heap.size w).alloc Lr (Jc #[.slice p n cap] 28)).alloc (by simp) (.cells cs 22);have n0:((w.alloc (Jc #[.slice p n cap] 28)).alloc (.cells cs 22)).heap[w.heap.size]? = _:=lold (World.alloc_heap_new w _);have n1:((w.alloc (Jc #[.slice p n cap] 28)).alloc (.cells cs 22)).heap[w.heap.size+1]? = some (.cells cs 22 (0,0)):=(by have:=World.alloc_heap_new (w.alloc (Jc #[.slice p n cap] 28)) (.cells cs 22);simpa using this);have s1:=Qiu hn;obtain ⟨K,hK⟩:∃ K:Nat,K=2^n:=⟨_,rfl⟩;rw [←hK] at s1 hp ⊢;have HA:Sh _:=⟨hX⟩;have HS:Sh (cs.size=16):=⟨hX.size⟩
 have HO:Sh (∀ (W:World) (B:Nat) (v:Value),OwnL W B v K (fun i=>pq (elQ X i))→El W v (elL X K)):=⟨fun W B v h=>by
  obtain ⟨g,c,rfl,_,k1,_,k3⟩:=Qdc h hp.1;exact ⟨g,0,c,by rw [Qdx],by rw [Qdx];exact k1,by rw [Qdx];exact k3.congr fun i hi=>(Qvw X K i hi).symm⟩⟩
 clear hX hK;go_enter Tryz.func35, Tryz.ntmps35;go_wp2_with fail;have hz0:((w.alloc (Jc #[.slice p n cap] 28)).alloc (.cells cs 22)).heap.size=w.heap.size+2:=by simp
 have N0:Sh _:=⟨n0⟩;have N1:Sh _:=⟨n1⟩;have U0:Sh _:=⟨u0⟩;clear n0 n1 u0;generalize (w.alloc (Jc #[.slice p n cap] 28)).alloc (.cells cs 22)=W0 at *
 go_loopw [5,6] (fun vv iv wr=>∃ i:Nat,i≤K∧iv = .int .i64 (i:Int)∧Sh (OwnL wr (w.heap.size+2) vv i (fun i=>pq (elQ X i))∧Below (w.heap.size+2) W0 wr)) (fun _ iv _=>K-(intOf iv).toNat)
 case atStart=>exact ⟨0,Nat.zero_le _,rfl,⟨OwnL.nil _ _ _,by rw [←hz0];exact Below.refl _ _⟩⟩
 case round =>
  obtain ⟨i,hi,rfl,HR⟩:=hrel;obtain ⟨hO,u⟩:=HR.o;have na:=(u.block w.heap.size (by omega)).trans N0.o;have nb:=(u.block (w.heap.size+1) (by omega)).trans N1.o;have hsz:w.heap.size+2≤wr.heap.size:=by rw [←hz0];exact u.size
  clear HR;have x0:=En.Qaa na 0 (v:=.slice p n cap) rfl;by_cases hin:i=K
  ·subst hin;go_wp2_with fail;go_ret;exact ⟨⟨_,rfl,HO.o _ _ _ hO⟩,U0.o.trans (u.mono (by omega))⟩
  ·have hil:i<K:=by omega
   have hi2:(i:Int)<(K:Int):=by omega
   have hi3:(0:Int)≤(i:Int):=by omega
   have hi5:(i:Int)<16:=by omega
   have hw1:IntKind.i64.wrap ((i:Int)+1)=(i:Int)+1:=by simp [IntKind.wrap,IntKind.signed,IntKind.bits];omega
   have x1:=HA.o.cell nb (show i<16 by omega);have hr:=(HA.o.at_ i (by omega)).2;have hdv:=Qvv hr.1 hr.2;have h1:=QbM (X i) (n:=11) (by decide);have h2:=QbM ((X i).tdiv 11) (n:=3) (by decide);have P1:Sh (∀ W:World,Calls Tryz.prog 87 #[.int .i64 (X i),.int .i64 11] W fun e w'=>e = .returned (.int .i64 (QaG (X i) 11:Int))∧Below W.heap.size W w'):=⟨QdS (X i) 11 hr.1 hr.2 (by decide)⟩;have P2:Sh (∀ W:World,Calls Tryz.prog 87 #[.int .i64 ((X i).tdiv 11),.int .i64 3] W fun e w'=>e = .returned (.int .i64 (QaG ((X i).tdiv 11) 3:Int))∧Below W.heap.size W w'):=⟨QdS ((X i).tdiv 11) 3 hdv.1 hdv.2 (by decide)⟩;have O3:Sh (∀ W:World,Calls Tryz.prog 88 #[.int .i64 ((QaG (X i) 11:Int)-5),.int .i64 (1+(QaG ((X i).tdiv 11) 3:Int))] W fun e w'=>e = .returned (.tuple #[.agg #[J (pq (elQ X i)).1,J (pq (elQ X i)).2],.int .i64 0])∧Below W.heap.size W w'):=⟨fun W=>QtK _ _ (by omega) (by omega) (by omega) W⟩;have w2:IntKind.i64.wrap ((QaG (X i) 11:Int)-5)=(QaG (X i) 11:Int)-5:=by simp [IntKind.wrap,IntKind.signed,IntKind.bits];omega
   have w3:IntKind.i64.wrap (1+(QaG ((X i).tdiv 11) 3:Int))=1+(QaG ((X i).tdiv 11) 3:Int):=by simp [IntKind.wrap,IntKind.signed,IntKind.bits];omega
   have w4:IntKind.i64.wrap ((X i).tdiv 11)=(X i).tdiv 11:=by simp [IntKind.wrap,IntKind.signed,IntKind.bits];omega
   have hO:Sh _:=⟨hO⟩;have HQ:Sh ((fun i=>pq (elQ X i)) i=pq (elQ X i)):=⟨rfl⟩;generalize hA1:(QaG (X i) 11:Int)=a1 at *
   generalize hA2:(QaG ((X i).tdiv 11) 3:Int)=a2 at *
   generalize X i=xi at *
   clear hA1 hA2;generalize hG:pq (elQ X i)=g at *
   have HG:Sh (pq (elQ X i)=g):=⟨hG⟩;clear hG h1 h2 hr hdv;have SS:Sh (∀ X,Below wr.heap.size wr X→X.cell? ⟨w.heap.size+1,i,none⟩=some (.int .i64 xi)):=⟨fun X hX=>Qae x1 hX⟩;go_wp2_with fail
   go_cut [7,8] from 22 to 35 (fun s1 s2 wx=>∃ br,s1 = .pointer (some ⟨br,0,none⟩)∧s2 = .int .i64 0∧wx.heap[br]? = some (Jc #[J g.1,J g.2] 42 (0,0))∧wr.heap.size≤br∧Below wr.heap.size wr wx)
   case first =>
    (go_region_held (fun X=>X.cell? ⟨w.heap.size+1,i,none⟩=some (.int .i64 xi)) (first | exact SS.o _ u3 | exact SS.o _ (u3.alloc u3.size _) | exact SS.o _ (u3.setCell (by first | exact Nat.le_refl _ | exact u3.size | exact u2.size | exact u1.size | (simp;done)) _) | exact SS.o _ ((u3.setCell (by first | exact Nat.le_refl _ | exact u3.size | exact u2.size | exact u1.size | (simp;done)) _).setCell (by first | exact Nat.le_refl _ | exact u3.size | exact u2.size | exact u1.size | (simp;done)) _) | exact SS.o _ u2 | exact SS.o _ (u2.alloc u2.size _) | exact SS.o _ u1 | exact SS.o _ (u1.alloc u1.size _) | exact SS.o _ (QaS (Below.refl _ _)) | exact SS.o _ (QaS ((Below.refl _ _).alloc Lr _)) | fail)
     (first | (go_at_call 87; have hq:=P1.o wr.drew;(with_reducible refine hq.mono ?_);rintro e x1 ⟨rfl,g⟩;have u1:Below wr.heap.size wr x1:=Qah g;clear hq g) | (go_at_call 87; have hq:=P1.o (wr.alloc (Jc #[J ⟨#[]⟩,J ⟨#[]⟩] 42)).drew;(with_reducible refine hq.mono ?_);rintro e x1 ⟨rfl,g⟩;have u1:Below wr.heap.size wr x1:=((Below.refl _ _).alloc Lr (Jc #[J ⟨#[]⟩,J ⟨#[]⟩] 42)).trans ((Qah g).mono (by simp));have n1:=En.Qac (World.alloc_heap_new wr (Jc #[J ⟨#[]⟩,J ⟨#[]⟩] 42)) (Qah g);clear hq g) | (go_at_call 87; have hq:=P2.o x1;(with_reducible refine hq.mono ?_);rintro e x2 ⟨rfl,g⟩;have u2:Below wr.heap.size wr x2:=u1.trans (g.mono u1.size);have n2:=En.Qac n1 g;clear hq g n1) | (go_at_call 87; have hq:=P2.o x1;(with_reducible refine hq.mono ?_);rintro e x2 ⟨rfl,g⟩;have u2:Below wr.heap.size wr x2:=u1.trans (g.mono u1.size);clear hq g) | (go_at_call 87; have hq:=P2.o (x1.alloc (Jc #[J ⟨#[]⟩,J ⟨#[]⟩] 42));(with_reducible refine hq.mono ?_);rintro e x2 ⟨rfl,g⟩;have u2:Below wr.heap.size wr x2:=(u1.alloc u1.size (Jc #[J ⟨#[]⟩,J ⟨#[]⟩] 42)).trans (g.mono (u1.alloc u1.size (Jc #[J ⟨#[]⟩,J ⟨#[]⟩] 42)).size);have n2:=En.Qac (World.alloc_heap_new x1 (Jc #[J ⟨#[]⟩,J ⟨#[]⟩] 42)) g;clear hq g) | (go_at_call 88; have hq:=O3.o x2;(with_reducible refine hq.mono ?_);rintro e x3 ⟨rfl,g⟩;have u3:Below wr.heap.size wr x3:=u2.trans (g.mono u2.size);have n3:=En.Qac n2 g;clear hq g n2;have z0:=En.Qaa n3 0 (v:=J ⟨#[]⟩) rfl;have z1:=En.Qaa n3 1 (v:=J ⟨#[]⟩) rfl;have y0:=En.Qad n3 0;have y1:=En.Qad n3 1) | (go_at_call 88; have hq:=O3.o x2;(with_reducible refine hq.mono ?_);rintro e x3 ⟨rfl,g⟩;have u3:Below wr.heap.size wr x3:=u2.trans (g.mono u2.size);clear hq g;have m3:=World.alloc_heap_new x3 (Jc #[J ⟨#[]⟩,J ⟨#[]⟩] 42);have z0:=En.Qaa m3 0 (v:=J ⟨#[]⟩) rfl;have z1:=En.Qaa m3 1 (v:=J ⟨#[]⟩) rfl;have y0:=En.Qad m3 0;have y1:=En.Qad m3 1) | (go_at_call 88; have hq:=O3.o (x2.alloc (Jc #[J ⟨#[]⟩,J ⟨#[]⟩] 42));(with_reducible refine hq.mono ?_);rintro e x3 ⟨rfl,g⟩;have u3:Below wr.heap.size wr x3:=(u2.alloc u2.size (Jc #[J ⟨#[]⟩,J ⟨#[]⟩] 42)).trans (g.mono (u2.alloc u2.size (Jc #[J ⟨#[]⟩,J ⟨#[]⟩] 42)).size);have n3:=En.Qac (World.alloc_heap_new x2 (Jc #[J ⟨#[]⟩,J ⟨#[]⟩] 42)) g;clear hq g;have z0:=En.Qaa n3 0 (v:=J ⟨#[]⟩) rfl;have z1:=En.Qaa n3 1 (v:=J ⟨#[]⟩) rfl;have y0:=En.Qad n3 0;have y1:=En.Qad n3 1) | fail);all_goals (try clear SS))
    all_goals
     go_wp2_with fail
     go_meet
     first
      | exact ⟨_,rfl,rfl,Qbc n3,Nat.le_refl _,(u3.setCell Lr _).setCell Lr _⟩
      | exact ⟨_,rfl,rfl,Qbc n3,u1.size,(u3.setCell u1.size _).setCell u1.size _⟩
      | exact ⟨_,rfl,rfl,Qbc n3,u2.size,(u3.setCell u2.size _).setCell u2.size _⟩
      | exact ⟨_,rfl,rfl,World.alloc_heap_new x3 _,u3.size,u3.alloc u3.size _⟩
   case rest =>
   obtain ⟨br,rfl,rfl,nr,hbr,ux⟩:=hcut;clear SS P1 P2 O3 x0 x1 na nb;have r0:=En.Qaa nr 0 (v:=J g.1) rfl;have r1:=En.Qaa nr 1 (v:=J g.2) rfl;have ha:=((Below.refl wc.heap.size wc).alloc Lr (Jc #[J g.1,J g.2] 42));have n_n:(wc.alloc (Jc #[J g.1,J g.2] 42)).heap[wc.heap.size]? = some (Jc #[J g.1,J g.2] 42 (0,0)):=World.alloc_heap_new wc _;have hO:=(hO.o.below ux).below ha;have u1:=(u.trans (ux.mono hsz)).trans (ha.mono (Nat.le_trans hsz ux.size));have hij:i≤1000:=by omega
   have hsz2:w.heap.size+2≤(wc.alloc (Jc #[J g.1,J g.2] 42)).heap.size:=Nat.le_trans hsz (Nat.le_trans ux.size ha.size);clear ha;go_wp2_with (at_builtin;go_must (refine En.Qbt rfl _ _ rfl (w.heap.size+2) _ i (fun i=>pq (elQ X i)) rfl hO wc.heap.size _ rfl (by rw [HG.o];exact n_n) hij hsz2 ?_);intro v' w' hO' hg hat);have u2:=QbA u1 (by rw [hz0];exact Nat.le_refl _) Lr hO hg;clear hO hg hat n_n
   go_roundw
   case rel=>exact ⟨i+1,by omega,by first | rfl | go_num | simp,⟨hO',u2⟩⟩
   case measure=>simp [intOf];omega
theorem QhH:∀ {rs:List (List Rat)},Qaw rs (zeros (2^rs.length))=some 0
 | []=>by show some (cmpQ 0 0)=some 0;rw [Qgv]
 | d :: rs=>by
  rw [List.length_cons,QgT,QgO rfl,QhH,Option.bind_some,Option.bind_some,if_pos rfl]
theorem Qly {q:Rat} (hq:0<q):∀ {rs:List (List Rat)},Qaw rs (q :: zeros (2^rs.length-1))=some 1
 | []=>by show some (cmpQ q 0)=some 1;rw [QtB hq]
 | d :: rs=>by
  have hp:0<2^rs.length:=Nat.pos_of_ne_zero (by simp)
  have e:q :: zeros (2^(rs.length+1)-1)=(q :: zeros (2^rs.length-1))++zeros (2^rs.length):=by
   rw [List.cons_append,zeros,zeros,zeros,List.replicate_append_replicate,show 2^rs.length-1+2^rs.length=2^(rs.length+1)-1 by rw [Nat.pow_succ];omega]
  rw [List.length_cons,e,QgO (by rw [List.length_cons,zl,zl];omega),Qly hq,QhH,Option.bind_some,Option.bind_some,if_pos rfl]
structure MadeT (L:List (List Rat)) (k:Nat):Prop where
 len:L.length=k
 fld:∃ rs,Qam [] L=some rs
 lat:∀ x∈L,AllL 1 7 x
 fit:FitT L
theorem MadeT.nil:MadeT [] 0:=⟨rfl,⟨[],rfl⟩,fun _ h=>(by cases h),fun _ h=>(by cases h)⟩
theorem MadeT.snoc {L rs:List (List Rat)} {k:Nat} {d:List Rat} (h:MadeT L k) (hf:Qam [] L=some rs) (ha:Adj rs d) (hd:AllL 1 7 d) (hl:d.length≤1000):MadeT (L ++ [d]) (k+1):=by
 refine ⟨by rw [List.length_append,h.len];rfl,⟨d :: rs,by rw [QcG,hf,Option.bind_some,Qam,if_pos ha];rfl⟩,fun x hx => ?_,fun x hx => ?_⟩
 ·rcases List.mem_append.1 hx with hx | hx
  ·exact h.lat x hx
  ·rw [List.mem_singleton.1 hx];exact hd
 ·rcases List.mem_append.1 hx with hx | hx
  ·exact h.fit x hx
  ·rw [List.mem_singleton.1 hx];exact ⟨hd.fit (by decide +kernel),hl⟩
def rdQ (X:Nat→Int) (K k:Nat):Rat:=Rat.divInt ((QaG (X (K+k)) 9:Int)-2) 1
def rdL (X:Nat→Int) (K:Nat):List Rat:=(List.range K).map (rdQ X K)
theorem Qfp (X:Nat→Int) (K:Nat):(rdL X K).length=K:=by rw [rdL,List.length_map,List.length_range]
theorem Qvx (X:Nat→Int) (K i:Nat) (h:i<K):pqs (rdL X K) i=pq (rdQ X K i):=by
 rw [pqs,List.getD_eq_getElem?_getD,rdL,List.getElem?_map,List.getElem?_range h];rfl
theorem Qph (X:Nat→Int) (K:Nat):AllL 1 7 (rdL X K):=fun q hq=>by
 obtain ⟨i,_,rfl⟩:=List.mem_map.1 hq;have:=QbM (X (K+i)) (n:=9) (by decide);exact Lat.int _ (by omega)
theorem Qpi {W:World} {g n:Nat} (h:Cl W g 0 n (fun _=>(⟨#[48]⟩,⟨#[49]⟩))) (hn:1≤n) (q:Rat) :
  Cl ((W.setCell ⟨g,0,none⟩ (J (pq q).1)).setCell ⟨g,1,none⟩ (J (pq q).2)) g 0 n (pqs (q :: zeros (n-1))):=by
 have h0:=h.at_ 0 (by omega);refine ⟨fun i hi => ?_⟩;have hs:∀ (V:World) (k j:Nat) (y:Value),k≠j→(V.setCell ⟨g,k,none⟩ y).cell? ⟨g,j,none⟩=V.cell? ⟨g,j,none⟩:=fun V k j y hk=>World.cell?_setCell_other V ⟨g,k,none⟩ ⟨g,j,none⟩ y (by intro e;injection e with _ e _;exact hk e);by_cases hi0:i=0
 ·subst hi0;rw [show pqs (q :: zeros (n-1)) 0=pq q from rfl];have k1:W.cell? ⟨g,0,none⟩=some _:=h0.1;have k2:W.cell? ⟨g,1,none⟩=some _:=h0.2;refine ⟨?_, ?_⟩
  ·show ((W.setCell ⟨g,0,none⟩ (J (pq q).1)).setCell ⟨g,1,none⟩ (J (pq q).2)).cell? ⟨g,0,none⟩=_;rw [hs _ 1 0 _ (by decide)];exact World.cell?_setCell_same W _ _ k1
  ·show ((W.setCell ⟨g,0,none⟩ (J (pq q).1)).setCell ⟨g,1,none⟩ (J (pq q).2)).cell? ⟨g,1,none⟩=_;exact World.cell?_setCell_same _ _ _ ((hs _ 0 1 _ (by decide)).trans k2)
 ·have e:pqs (q :: zeros (n-1)) i=(⟨#[48]⟩,⟨#[49]⟩):=by
   obtain ⟨j,rfl⟩:∃ j,i=j+1:=⟨i-1,by omega⟩;rw [show pqs (q :: zeros (n-1)) (j+1)=pqs (zeros (n-1)) j from rfl,QgM]
  rw [e];obtain ⟨k1,k2⟩:=h.at_ i hi;rw [hs _ _ _ _ (by omega),hs _ _ _ _ (by omega),hs _ _ _ _ (by omega),hs _ _ _ _ (by omega)];exact ⟨k1,k2⟩
theorem Qvy {cs:Array Value} {X:Nat→Int} (hX:Ar cs X) (lv:Int) (l1 : -9223372036854775808≤lv) (l2:lv≤9223372036854775807) (w:World) :
  Calls Tryz.prog 34 #[.int .i64 lv,.agg cs] w fun e w'=>(∃ L vt,e = .returned vt∧(TwC w' vt L∧TwN w.heap.size w' vt L)∧MadeT L (QaG lv 4))∧Below w.heap.size w w':=by
 have PL:Sh (∀ W:World,Calls Tryz.prog 87 #[.int .i64 lv,.int .i64 4] W fun e w'=>e = .returned (.int .i64 (QaG lv 4:Int))∧Below W.heap.size W w'):=⟨QdS lv 4 l1 l2 (by decide)⟩;have hN:=QbM lv (n:=4) (by decide);generalize QaG lv 4=N at *
 have u0:=((Below.refl w.heap.size w).alloc Lr (.cells cs 22)).alloc (by simp) (Jc #[.slice none 0 0] 28);have n0:((w.alloc (.cells cs 22)).alloc (Jc #[.slice none 0 0] 28)).heap[w.heap.size]? = _:=lold (World.alloc_heap_new w _);have n1:((w.alloc (.cells cs 22)).alloc (Jc #[.slice none 0 0] 28)).heap[w.heap.size+1]? = some (Jc #[.slice none 0 0] 28 (0,0)):=(by have:=World.alloc_heap_new (w.alloc (.cells cs 22)) (Jc #[.slice none 0 0] 28);simpa using this);have hz1:((w.alloc (.cells cs 22)).alloc (Jc #[.slice none 0 0] 28)).heap.size=w.heap.size+2:=by simp
 have HA:Sh _:=⟨hX⟩;have HS:Sh (cs.size=16):=⟨hX.size⟩;clear hX l1 l2;have n2:(((w.alloc (.cells cs 22)).alloc (Jc #[.slice none 0 0] 28)).alloc (Jc #[.slice none 0 0] 28)).heap[w.heap.size+2]? = some (Jc #[.slice none 0 0] 28 (0,0)):=(by have:=World.alloc_heap_new ((w.alloc (.cells cs 22)).alloc (Jc #[.slice none 0 0] 28)) (Jc #[.slice none 0 0] 28);rwa [hz1] at this);replace n0:=lold (o':=(Jc #[.slice none 0 0] 28)) n0;replace n1:=lold (o':=(Jc #[.slice none 0 0] 28)) n1;replace u0:=u0.alloc (by rw [hz1];omega) (Jc #[.slice none 0 0] 28);have H0:Sh (w.heap.size+3≤(((w.alloc (.cells cs 22)).alloc (Jc #[.slice none 0 0] 28)).alloc (Jc #[.slice none 0 0] 28)).heap.size):=⟨by simp⟩;have N0:Sh _:=⟨n0⟩;have N1:Sh _:=⟨n1⟩;have N2:Sh _:=⟨n2⟩;have U0:Sh _:=⟨u0⟩;clear n0 n1 n2 u0 hz1;go_enter Tryz.func34, Tryz.ntmps34;go_wp2_with fail
 go_loopw [6] (fun iv wr=>∃ i:Nat,i≤N∧iv = .int .i64 (i:Int)∧∃ L v,Sh (Below w.heap.size w wr∧wr.heap[w.heap.size]? = some (.cells cs 22 (0,0))∧wr.heap[w.heap.size+1]? = some (Jc #[.slice none 0 0] 28 (0,0))∧wr.heap[w.heap.size+2]? = some (Jc #[v] 28 (0,0)))∧Sh (TwC wr (.agg #[v]) L∧TwN (w.heap.size+3) wr (.agg #[v]) L∧MadeT L i∧w.heap.size+3≤wr.heap.size)) (fun iv _=>N-(intOf iv).toNat)
 case atStart=>exact ⟨0,Nat.zero_le _,rfl, [],.slice none 0 0,⟨U0.o,N0.o,N1.o,N2.o⟩,⟨⟨⟨none,0,rfl,.inl rfl⟩,⟨none,0,rfl,Nat.le_refl _,fun a h=>by cases h⟩⟩,⟨none,0,rfl,.inl rfl⟩,MadeT.nil,H0.o⟩⟩
 case round =>
  obtain ⟨wo,hwo⟩:∃ x,x=wr:=⟨wr,rfl⟩;subst hwo;obtain ⟨i,hi,rfl,L,v,HF,HT⟩:=hrel;obtain ⟨u,na,nb,nc⟩:=HF.o;obtain ⟨hC,hTN,hM,hsz⟩:=HT.o;clear HF HT N0 N1 N2 U0 H0;obtain ⟨p,cap,hv,_⟩:=hC.parts;rw [hM.len] at hv;obtain rfl:v = .slice p i cap:=by simpa using hv
  have HC:Sh (∀ W,Below wo.heap.size wo W→TwC W (.agg #[.slice p i cap]) L):=⟨fun W g=>hC.keep g⟩;have HTN:Sh (∀ W,Below wo.heap.size wo W→TwN (w.heap.size+3) W (.agg #[.slice p i cap]) L):=⟨fun W g=>hTN.keep g⟩;have HM:Sh (MadeT L i):=⟨hM⟩;clear hC hTN hM hv;go_wp2_with fail;refine (PL.o wo).mono ?_;rintro e V ⟨rfl,gV⟩;replace u:=u.trans (gV.mono (by omega));replace na:=En.Qac na gV;replace nb:=En.Qac nb gV;replace nc:=En.Qac nc gV;have hsV:w.heap.size+3≤V.heap.size:=Nat.le_trans hsz gV.size;have x5:=En.Qaa nc 0 (v:=.slice p i cap) rfl;by_cases hin:i=N
  ·subst hin;have x4:=En.Qaa nb 0 (v:=.slice none 0 0) rfl;have y4:=En.Qad nb 0;have b4:=QbH (y:=.slice p i cap) nb;have z4:=En.Qaa b4 0 (v:=.slice p i cap) rfl;have hT:=(HTN.o V gV).set (b:=w.heap.size+1) (by omega) (.slice p i cap);have RF:Sh ((TwC (V.setCell ⟨w.heap.size+1,0,none⟩ (.slice p i cap)) (.agg #[.slice p i cap]) L∧TwN w.heap.size (V.setCell ⟨w.heap.size+1,0,none⟩ (.slice p i cap)) (.agg #[.slice p i cap]) L)∧Below w.heap.size w (V.setCell ⟨w.heap.size+1,0,none⟩ (.slice p i cap))):=⟨⟨(HC.o V gV).of hT (by simp [World.setCell]),hT.mono (by omega)⟩,u.setCell (Nat.le_succ _) _⟩;clear hT b4;go_wp2_with fail;exact bodyPost_ret (v:=.agg #[.slice p i cap]) (by simp [results,Tryz.results34, go_sem,z4]) rfl ⟨⟨L,_,rfl,RF.o.1,HM.o⟩,RF.o.2⟩
  ·have hil:i<N:=by omega
   have hi2:(i:Int)<(N:Int):=by omega
   have hi3:(0:Int)≤(i:Int):=by omega
   have hw1:IntKind.i64.wrap ((i:Int)+1)=(i:Int)+1:=by simp [IntKind.wrap,IntKind.signed,IntKind.bits];omega
   have s1:=Qiu (i:=i) (by omega);have hK8:=(by rcases (by omega:i=0∨i=1∨i=2) with rfl | rfl | rfl <;> decide:1≤2^i∧2^i≤4);obtain ⟨K,hK⟩:∃ K:Nat,K=2^i:=⟨_,rfl⟩;rw [←hK] at s1 hK8;have HK:Sh (K=2^i):=⟨hK⟩;have NA:Sh _:=⟨na⟩;have NB:Sh _:=⟨nb⟩;have NC:Sh _:=⟨nc⟩;clear hK na nb nc x5;go_wp2_with fail
   go_loopw [7,8] (fun dv kv wi=>∃ k:Nat,k≤K∧kv = .int .i64 (k:Int)∧Sh (OwnL wi V.heap.size dv k (fun j=>pq (rdQ X K j))∧Below V.heap.size V wi)) (fun _ kv _=>K-(intOf kv).toNat)
   case atStart=>exact ⟨0,Nat.zero_le _,rfl,⟨OwnL.nil _ _ _,Below.refl _ _⟩⟩
   case round =>
    obtain ⟨k,hk,rfl,HR⟩:=hrel;obtain ⟨hO,uI⟩:=HR.o;clear HR;by_cases hkn:k=K
    ·subst hkn;have na1:=En.Qac NA.o uI;have nb1:=En.Qac NB.o uI;have nc1:=En.Qac NC.o uI;have x5:=En.Qaa nc1 0 (v:=.slice p i cap) rfl;obtain ⟨g0,c0,rfl,hg0,kc,_,hcl⟩:=Qdc hO (by omega);have hEl:El wr (.slice (some ⟨g0,0,none⟩) k c0) (rdL X k):=⟨g0,0,c0,by rw [Qfp],by rw [Qfp];exact kc,by rw [Qfp];exact hcl.congr fun j hj=>(Qvx X k j hj).symm⟩;obtain ⟨rs,hrs⟩:=HM.o.fld;have hgi:Below wo.heap.size wo wr:=gV.trans (uI.mono gV.size);have hwi:w.heap.size+3≤wr.heap.size:=Nat.le_trans hsV uI.size;have uW:Sh (Below w.heap.size w wr):=⟨u.trans (uI.mono (by omega))⟩;have hxl:(rdL X k).length=2^L.length:=by rw [Qfp,HM.o.len,HK.o]
     have hq:=Qjx HM.o.fit (by rw [Qfp];omega) ((Qph X k).fit (by decide +kernel)) wr (HC.o wr hgi) hEl hrs hxl;have hgi:Sh _:=⟨hgi⟩;by_cases hA:Adj rs (rdL X k)
     ·have M2:Sh (MadeT (L ++ [rdL X k]) (i+1)):=⟨HM.o.snoc hrs hA (Qph X k) (by rw [Qfp];omega)⟩;replace hq:Sh (Calls Tryz.prog 89 #[.agg #[.slice p i cap],.slice (some ⟨g0,0,none⟩) k c0] wr fun e w'=>(∃ v,e = .returned (.tuple #[v,.int .i64 0])∧TwC w' v (L ++ [rdL X k])∧TwN wr.heap.size w' v (L ++ [rdL X k]))∧Below wr.heap.size wr w'):=⟨hq.mono fun e w' h=>⟨h.1.1 hA,h.2⟩⟩;generalize rdL X k=d at *
      clear hO hcl hEl hA hxl hrs NA NB NC gV;go_wp2_with fail;refine hq.o.mono ?_;rintro e V2 ⟨⟨v2,rfl,hC2,hN2⟩,g2⟩;obtain ⟨p2,cap2,hv2,_⟩:=hC2.parts;rw [M2.o.len] at hv2;subst hv2;have n11:=World.alloc_heap_new V2 (Jc #[.slice p2 (i+1) cap2] 28);have z11:=En.Qaa n11 0 (v:=.slice p2 (i+1) cap2) rfl;have uA:=(Below.refl V2.heap.size V2).alloc Lr (Jc #[.slice p2 (i+1) cap2] 28);have u3:=g2.trans (uA.mono g2.size);have nc3:=En.Qac nc1 u3;have x53:=En.Qaa nc3 0 (v:=.slice p i cap) rfl;have y53:=En.Qad nc3 0;have b5:=QbH (y:=.slice p2 (i+1) cap2) nc3;have uS:=(u3.mono (show w.heap.size+2≤wr.heap.size by omega)).setCell (p:=⟨w.heap.size+2,0,none⟩) Lr (.slice p2 (i+1) cap2);have hN4:=((hN2.keep uA).mono hwi).set (b:=w.heap.size+2) (by omega) (.slice p2 (i+1) cap2);have RF:Sh (Below w.heap.size w ((V2.alloc (Jc #[.slice p2 (i+1) cap2] 28)).setCell ⟨w.heap.size+2,0,none⟩ (.slice p2 (i+1) cap2))∧((V2.alloc (Jc #[.slice p2 (i+1) cap2] 28)).setCell ⟨w.heap.size+2,0,none⟩ (.slice p2 (i+1) cap2)).heap[w.heap.size]? = some (.cells cs 22 (0,0))∧((V2.alloc (Jc #[.slice p2 (i+1) cap2] 28)).setCell ⟨w.heap.size+2,0,none⟩ (.slice p2 (i+1) cap2)).heap[w.heap.size+1]? = some (Jc #[.slice none 0 0] 28 (0,0))∧((V2.alloc (Jc #[.slice p2 (i+1) cap2] 28)).setCell ⟨w.heap.size+2,0,none⟩ (.slice p2 (i+1) cap2)).heap[w.heap.size+2]? = some (Jc #[.slice p2 (i+1) cap2] 28 (0,0))):=⟨uW.o.trans (uS.mono (by omega)),(uS.block w.heap.size (by omega)).trans na1,(uS.block (w.heap.size+1) (by omega)).trans nb1,b5⟩;have RG:Sh (TwC ((V2.alloc (Jc #[.slice p2 (i+1) cap2] 28)).setCell ⟨w.heap.size+2,0,none⟩ (.slice p2 (i+1) cap2)) (.agg #[.slice p2 (i+1) cap2]) (L ++ [d])∧TwN (w.heap.size+3) ((V2.alloc (Jc #[.slice p2 (i+1) cap2] 28)).setCell ⟨w.heap.size+2,0,none⟩ (.slice p2 (i+1) cap2)) (.agg #[.slice p2 (i+1) cap2]) (L ++ [d])∧MadeT (L ++ [d]) (i+1)∧w.heap.size+3≤((V2.alloc (Jc #[.slice p2 (i+1) cap2] 28)).setCell ⟨w.heap.size+2,0,none⟩ (.slice p2 (i+1) cap2)).heap.size):=⟨hC2.of hN4 (by simp [World.setCell]),hN4,M2.o,Nat.le_trans hwi uS.size⟩;clear n11 uA u3 nc3 b5 uS hN4 hC2 hN2 hq x5 na1 nb1 nc1;go_wp2_with fail
      go_roundw
      case rel=>exact ⟨i+1,by omega,by first | rfl | go_num | simp,L ++ [d],_,RF,RG⟩
      case measure=>simp [intOf];omega
     ·replace hq:Sh (Calls Tryz.prog 89 #[.agg #[.slice p i cap],.slice (some ⟨g0,0,none⟩) k c0] wr fun e w'=>e = .returned (.tuple #[.agg #[.slice none 0 0],.int .i64 60])∧Below wr.heap.size wr w'):=⟨hq.mono fun e w' h=>⟨h.1.2 hA,h.2⟩⟩;have HRS:Sh (Qam [] L=some rs):=⟨hrs⟩
      have RL:Sh (rs.length=i∧k=2^rs.length):=by
       have hl:rs.length=L.length:=by have:=Qcc hrs;rw [this];simp
       exact ⟨by rw [hl,HM.o.len],by rw [hl,HM.o.len];exact HK.o⟩
      clear hO hcl hEl hA hxl hrs NA NB NC gV;go_wp2_with fail;refine hq.o.mono ?_;rintro e V2 ⟨rfl,g2⟩;have n11:=World.alloc_heap_new V2 (Jc #[.slice none 0 0] 28);have uA:=(Below.refl V2.heap.size V2).alloc Lr (Jc #[.slice none 0 0] 28);have u3:=g2.trans (uA.mono g2.size);have hV2:wr.heap.size≤V2.heap.size:=g2.size;clear hq g2 uA;go_wp2_with fail;generalize V2.alloc (Jc #[.slice none 0 0] 28)=V3 at *
      generalize V2.heap.size=b11 at *
      clear V2;refine (Qlu k (by omega) V3).mono ?_;rintro e V4 ⟨⟨dz,rfl,hOz⟩,g4⟩;obtain ⟨gz,cz,rfl,hgz,kcz,_,hclz⟩:=Qdc hOz (by omega)
      obtain ⟨cur,hbz⟩:∃ cur,V4.heap[gz]? = some (.cells cur 42 (0,0)):=by
       rcases hOz.2 with ⟨h,_⟩ | ⟨g',c',cur,e,_,hb,_⟩
       ·cases h
       ·injection e with e;injection e with e;injection e with e;subst e;exact ⟨cur,hb⟩
      have u4:=u3.trans (g4.mono u3.size);have hb3:=(Array.getElem?_eq_some_iff.1 n11).1;replace n11:=En.Qac n11 g4;have hgr:wr.heap.size≤gz:=Nat.le_trans u3.size hgz;have h11:b11<gz:=Nat.lt_of_lt_of_le hb3 hgz;clear u3 g4 hOz x5;have hr:=(HA.o.at_ k (by omega)).2;have x1:=HA.o.cell (En.Qac na1 u4) (show k<16 by omega);have h7:=QbM (X k) (n:=7) (by decide);have P7:Sh (∀ W:World,Calls Tryz.prog 87 #[.int .i64 (X k),.int .i64 7] W fun e w'=>e = .returned (.int .i64 (QaG (X k) 7:Int))∧Below W.heap.size W w'):=⟨QdS _ 7 hr.1 hr.2 (by decide)⟩;have O7:Sh (∀ W:World,Calls Tryz.prog 88 #[.int .i64 (1+(QaG (X k) 7:Int)),.int .i64 1] W fun e w'=>e = .returned (.tuple #[.agg #[J (pq (Rat.divInt (1+(QaG (X k) 7:Int)) 1)).1,J (pq (Rat.divInt (1+(QaG (X k) 7:Int)) 1)).2],.int .i64 0])∧Below W.heap.size W w'):=⟨fun W=>QtK _ _ (by omega) (by decide) (by decide) W⟩;have w7:IntKind.i64.wrap (1+(QaG (X k) 7:Int))=1+(QaG (X k) 7:Int):=by simp [IntKind.wrap,IntKind.signed,IntKind.bits];omega
      have Q7:Sh (0<Rat.divInt (1+(QaG (X k) 7:Int)) 1∧Lat 1 7 (Rat.divInt (1+(QaG (X k) 7:Int)) 1)):=⟨Qhb (by omega),Lat.int _ (by omega)⟩;generalize (QaG (X k) 7:Int)=a7 at *
      generalize X k=xk at *
      generalize Rat.divInt (1+a7) 1=q at *
      have hk16:(k:Int)<16:=by omega
      have hk0:(0:Int)≤(k:Int):=by omega
      have hk1:(0:Int)<(k:Int):=by omega
      clear h7 hr;go_wp2_with fail;refine (P7.o _).mono ?_;rintro e V5 ⟨rfl,g5⟩;have u5:=u4.trans (g5.mono u4.size);replace n11:=En.Qac n11 g5;replace hbz:=En.Qac hbz g5;replace hclz:=hclz.keep g5;clear u4 g5 P7 x1;go_wp2_with fail;refine (O7.o _).mono ?_;rintro e V6 ⟨rfl,g6⟩;have u6:=u5.trans (g6.mono u5.size);replace n11:=En.Qac n11 g6;replace hbz:=En.Qac hbz g6;replace hclz:=hclz.keep g6;clear u5 g6 O7;have hF:=Qpi hclz (by omega) q;obtain ⟨c0,c1⟩:=hclz.at_ 0 (by omega);have c0:V6.cell? ⟨gz,0,none⟩=some (J ⟨#[48]⟩):=c0;have c1:V6.cell? ⟨gz,1,none⟩=some (J ⟨#[49]⟩):=c1;have f0:=En.Qad hbz 0;have f1:=En.Qad hbz 1;have u7:=(u6.setCell (p:=⟨gz,0,none⟩) hgr (J (pq q).1)).setCell (p:=⟨gz,1,none⟩) hgr (J (pq q).2);have x57:=En.Qaa (En.Qac nc1 u7) 0 (v:=.slice p i cap) rfl;have hEl:El ((V6.setCell ⟨gz,0,none⟩ (J (pq q).1)).setCell ⟨gz,1,none⟩ (J (pq q).2)) (.slice (some ⟨gz,0,none⟩) k cz) (q :: zeros (k-1)):=⟨gz,0,cz,by rw [List.length_cons,zl];congr 1;omega,by rw [List.length_cons,zl];omega,by rw [List.length_cons,zl,show k-1+1=k by omega];exact hF⟩;have D7:Sh (AllL 1 7 (q :: zeros (k-1))∧(q :: zeros (k-1)).length=k):=⟨AllL.cons Q7.o.2 (AllL.zeros _ _ (by decide)),by rw [List.length_cons,zl];omega⟩;have hA:Adj rs (q :: zeros (k-1)):=⟨by rw [RL.o.1];omega,by rw [D7.o.2,RL.o.2],by rw [RL.o.2];exact Qly Q7.o.1⟩;have hq:=Qjx HM.o.fit (by rw [D7.o.2];omega) (D7.o.1.fit (by decide +kernel)) _ (HC.o _ (hgi.o.trans (u7.mono hgi.o.size))) hEl HRS.o (by rw [D7.o.2,HM.o.len];exact HK.o);have M2:Sh (MadeT (L ++ [q :: zeros (k-1)]) (i+1)):=⟨HM.o.snoc HRS.o hA D7.o.1 (by rw [D7.o.2];omega)⟩;have n117:=(show ((V6.setCell ⟨gz,0,none⟩ (J (pq q).1)).setCell ⟨gz,1,none⟩ (J (pq q).2)).heap[b11]? = _ from ((Qar (fb:=gz) 1 _).block b11 (by have:=(Array.getElem?_eq_some_iff.1 n11).1;simpa [World.setCell] using this) (fun e=>by injection e with e;omega)).trans (((Qar (fb:=gz) 0 _).block b11 (Array.getElem?_eq_some_iff.1 n11).1 (fun e=>by injection e with e;omega)).trans n11));replace hq:=Sh.mk (hq.mono fun e w' h=>(⟨h.1.1 hA,h.2⟩:(∃ v,e = .returned (.tuple #[v,.int .i64 0])∧TwC w' v (L ++ [q :: zeros (k-1)])∧TwN _ w' v (L ++ [q :: zeros (k-1)]))∧Below _ _ w'));have hb11:b11<((V6.setCell ⟨gz,0,none⟩ (J (pq q).1)).setCell ⟨gz,1,none⟩ (J (pq q).2)).heap.size:=(Array.getElem?_eq_some_iff.1 n117).1;have hwr7:wr.heap.size≤((V6.setCell ⟨gz,0,none⟩ (J (pq q).1)).setCell ⟨gz,1,none⟩ (J (pq q).2)).heap.size:=u7.size;generalize q :: zeros (k-1)=d at *
      clear hEl hA hF D7 Q7 HRS RL n11 hbz hclz u6;go_wp2_with fail;refine hq.o.mono ?_;rintro e V8 ⟨⟨v2,rfl,hC2,hN2⟩,g8⟩;obtain ⟨p2,cap2,hv2,_⟩:=hC2.parts;rw [M2.o.len] at hv2;subst hv2;have u8:=u7.trans (g8.mono u7.size);have n118:=En.Qac n117 g8;have z11:=En.Qaa n118 0 (v:=.slice none 0 0) rfl;have y11:=En.Qad n118 0;have b118:=QbH (y:=.slice p2 (i+1) cap2) n118;have zz:=En.Qaa b118 0 (v:=.slice p2 (i+1) cap2) rfl;have u9:=u8.setCell (p:=⟨b11,0,none⟩) hV2 (.slice p2 (i+1) cap2);have nc9:=En.Qac nc1 u9;have x59:=En.Qaa nc9 0 (v:=.slice p i cap) rfl;have y59:=En.Qad nc9 0;have b5:=QbH (y:=.slice p2 (i+1) cap2) nc9;have uS:=(u9.mono (show w.heap.size+2≤wr.heap.size by omega)).setCell (p:=⟨w.heap.size+2,0,none⟩) Lr (.slice p2 (i+1) cap2);have hN4:=((hN2.set (b:=b11) hb11 (.slice p2 (i+1) cap2)).mono (Nat.le_trans hwi hwr7)).set (b:=w.heap.size+2) (by omega) (.slice p2 (i+1) cap2);have RF:Sh (Below w.heap.size w ((V8.setCell ⟨b11,0,none⟩ (.slice p2 (i+1) cap2)).setCell ⟨w.heap.size+2,0,none⟩ (.slice p2 (i+1) cap2))∧((V8.setCell ⟨b11,0,none⟩ (.slice p2 (i+1) cap2)).setCell ⟨w.heap.size+2,0,none⟩ (.slice p2 (i+1) cap2)).heap[w.heap.size]? = some (.cells cs 22 (0,0))∧((V8.setCell ⟨b11,0,none⟩ (.slice p2 (i+1) cap2)).setCell ⟨w.heap.size+2,0,none⟩ (.slice p2 (i+1) cap2)).heap[w.heap.size+1]? = some (Jc #[.slice none 0 0] 28 (0,0))∧((V8.setCell ⟨b11,0,none⟩ (.slice p2 (i+1) cap2)).setCell ⟨w.heap.size+2,0,none⟩ (.slice p2 (i+1) cap2)).heap[w.heap.size+2]? = some (Jc #[.slice p2 (i+1) cap2] 28 (0,0))):=⟨uW.o.trans (uS.mono (by omega)),(uS.block w.heap.size (by omega)).trans na1,(uS.block (w.heap.size+1) (by omega)).trans nb1,b5⟩;have RG:Sh (TwC ((V8.setCell ⟨b11,0,none⟩ (.slice p2 (i+1) cap2)).setCell ⟨w.heap.size+2,0,none⟩ (.slice p2 (i+1) cap2)) (.agg #[.slice p2 (i+1) cap2]) (L ++ [d])∧TwN (w.heap.size+3) ((V8.setCell ⟨b11,0,none⟩ (.slice p2 (i+1) cap2)).setCell ⟨w.heap.size+2,0,none⟩ (.slice p2 (i+1) cap2)) (.agg #[.slice p2 (i+1) cap2]) (L ++ [d])∧MadeT (L ++ [d]) (i+1)∧w.heap.size+3≤((V8.setCell ⟨b11,0,none⟩ (.slice p2 (i+1) cap2)).setCell ⟨w.heap.size+2,0,none⟩ (.slice p2 (i+1) cap2)).heap.size):=⟨hC2.of hN4 (by simp [World.setCell]),hN4,M2.o,Nat.le_trans hwi uS.size⟩;clear b5 uS hN4 hC2 hN2 hq u9 u8 u7 nc9 b118 n118 n117 g8;go_wp2_with fail
      go_roundw
      case rel=>exact ⟨i+1,by omega,by first | rfl | go_num | simp,L ++ [d],_,RF,RG⟩
      case measure=>simp [intOf];omega
    ·have hkl:k<K:=by omega
     have hk2:(k:Int)<(K:Int):=by omega
     have hk3:(0:Int)≤(k:Int):=by omega
     have hwk:IntKind.i64.wrap ((k:Int)+1)=(k:Int)+1:=by simp [IntKind.wrap,IntKind.signed,IntKind.bits];omega
     have hwi:IntKind.i64.wrap ((K:Int)+(k:Int))=(K:Int)+(k:Int):=by simp [IntKind.wrap,IntKind.signed,IntKind.bits];omega
     have hi16:(K:Int)+(k:Int)<16:=by omega
     have hi0:(0:Int)≤(K:Int)+(k:Int):=by omega
     have hnat:((K:Int)+(k:Int)).toNat=K+k:=by omega
     have x1:=HA.o.cell (En.Qac NA.o uI) (show K+k<16 by omega);have hr:=(HA.o.at_ (K+k) (by omega)).2;have h9:=QbM (X (K+k)) (n:=9) (by decide);have P9:Sh (∀ W:World,Calls Tryz.prog 87 #[.int .i64 (X (K+k)),.int .i64 9] W fun e w'=>e = .returned (.int .i64 (QaG (X (K+k)) 9:Int))∧Below W.heap.size W w'):=⟨QdS _ 9 hr.1 hr.2 (by decide)⟩;have O9:Sh (∀ W:World,Calls Tryz.prog 88 #[.int .i64 ((QaG (X (K+k)) 9:Int)-2),.int .i64 1] W fun e w'=>e = .returned (.tuple #[.agg #[J (pq (rdQ X K k)).1,J (pq (rdQ X K k)).2],.int .i64 0])∧Below W.heap.size W w'):=⟨fun W=>QtK _ _ (by omega) (by decide) (by decide) W⟩;have w2:IntKind.i64.wrap ((QaG (X (K+k)) 9:Int)-2)=(QaG (X (K+k)) 9:Int)-2:=by simp [IntKind.wrap,IntKind.signed,IntKind.bits];omega
     have hO:Sh _:=⟨hO⟩;generalize hA1:(QaG (X (K+k)) 9:Int)=a1 at *
     generalize X (K+k)=xi at *
     generalize hG:pq (rdQ X K k)=g at *
     have HG:Sh (pq (rdQ X K k)=g):=⟨hG⟩;clear hA1 hG h9 hr;go_wp2_with fail;refine (P9.o _).mono ?_;rintro e x1w ⟨rfl,g1⟩;go_wp2_with fail;refine (O9.o _).mono ?_;rintro e x2w ⟨rfl,g2⟩;have ux:=g1.trans (g2.mono g1.size);have n3:=World.alloc_heap_new x2w (Jc #[J g.1,J g.2] 42);have r0:=En.Qaa n3 0 (v:=J g.1) rfl;have r1:=En.Qaa n3 1 (v:=J g.2) rfl;have hz:(x2w.alloc (Jc #[J g.1,J g.2] 42)).heap.size=x2w.heap.size+1:=by simp
     have n4:((x2w.alloc (Jc #[J g.1,J g.2] 42)).alloc (Jc #[J g.1,J g.2] 42)).heap[x2w.heap.size+1]? = some (Jc #[J g.1,J g.2] 42 (0,0)):=(by have:=World.alloc_heap_new (x2w.alloc (Jc #[J g.1,J g.2] 42)) (Jc #[J g.1,J g.2] 42);rwa [hz] at this);have ha:=((Below.refl x2w.heap.size x2w).alloc Lr (Jc #[J g.1,J g.2] 42)).alloc (by rw [hz];omega) (Jc #[J g.1,J g.2] 42);have hO:=(hO.o.below ux).below ha;have u1:=(uI.trans (ux.mono uI.size)).trans (ha.mono (Nat.le_trans uI.size ux.size));have hkj:k≤1000:=by omega
     have hsz2:=u1.size;clear ha ux g1 g2 n3 P9 O9;go_wp2_with (at_builtin;go_must (refine En.Qbt rfl _ _ rfl V.heap.size _ k (fun j=>pq (rdQ X K j)) rfl hO (x2w.heap.size+1) _ rfl (by rw [HG.o];exact n4) hkj hsz2 ?_);intro v' w' hO' hg hat);have u2:=QbA u1 Lr Lr hO hg;clear hO hg hat n4
     go_roundw
     case rel=>exact ⟨k+1,by omega,by first | rfl | go_num | simp,⟨hO',u2⟩⟩
     case measure=>simp [intOf];omega
end Tw
end
end Go.Proofs.YtadcmepaniiciaaGreatDoor
