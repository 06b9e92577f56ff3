import Derived.Test.YtihlgifojjeoaaaGreatDoorZ5H4
import Derived.Deep.RegionLaw
set_option maxRecDepth 1000000
set_option maxHeartbeats 40000000
open Go.Value renaming string→J
open Go.Obj renaming cells→Jc
namespace Go.Proofs.YtihlgifojjeoaaaGreatDoor
section
namespace Tw
open Go.RowKit Go.Extern.Stop Go.Stop Go.Extern
open En Go.Proofs.YtihlgifojjeoaaaGreatDoor.Nm Go.Proofs.YtihlgifojjeoaaaGreatDoor.Rt
structure AnsSg (fb:Nat) (p:Option Addr) (rs:List (List Rat)) (fl:Bool) (o:Option Int) (w:World) (e:Ending) (w':World):Prop where
 grown:w.grownBy w' (some fb)
 ex:∃ s:Int,e = .returned (.int .i64 s)∧(-1≤s∧s≤1)∧FB w' fb p rs (fl || o.isNone)∧((fl || o.isNone)=false→o=some s)
def SgnC (rs:List (List Rat)):Prop:=∀ {X:List (Option Rat)} {fb:Nat} {p:Option Addr} {fl:Bool} {ox:Option (List Rat)} {vx:Value},X.length=2^rs.length→Val X fl ox→∀ w,FB w fb p rs fl→Eo w vx X →
 Calls Tryz.prog 138 #[.pointer (some ⟨fb,0,none⟩),vx] w (AnsSg fb p rs fl (ox.bind fun x=>signO rs x) w)
theorem sgnR_failed {rs:List (List Rat)} {fb:Nat} {p:Option Addr} {vx:Value} (o:Option Int) (w:World) (hf:FB w fb p rs true) :
  Calls Tryz.prog 138 #[.pointer (some ⟨fb,0,none⟩),vx] w (AnsSg fb p rs true o w):=by
 obtain ⟨cap,hb,hc⟩:=hf.box;have x1:=En.lcell hb 1 (v:=.bool true) rfl;have HF:Sh (∀ W',Below w.heap.size w W'→FB W' fb p rs true):=⟨fun W' u=>hf.keep u⟩;clear hf hb;go_enter Tryz.func138, Tryz.ntmps138;go_wp2_with fail;go_ret;exact ⟨World.grownBy.refl _ _,0,rfl,⟨by decide,by decide⟩,by rw [Bool.true_or];exact HF.o _ (Below.refl _ _),fun h=>by rw [Bool.true_or] at h;cases h⟩
theorem cmpQ_range (p q:Rat) : -1≤cmpQ p q∧cmpQ p q≤1:=by
 rcases cmpQ_ways p q with ⟨e,_⟩ | ⟨e,_⟩ | ⟨e,_⟩ <;> rw [e] <;> decide
theorem sgnR_nil:SgnC []:=by
 intro X fb p fl ox vx hX kx w hf ex;cases fl with
 | true=>exact sgnR_failed _ w hf
 | false =>
  obtain ⟨x,rfl,rfl⟩:=kx rfl;obtain ⟨x,rfl⟩:∃ a,x = [a]:=List.length_eq_one_iff.1 (by simpa using hX);have fx:FitQ x:=ex.fitL x (by simp);obtain ⟨cap,hb,hc⟩:=hf.box;have x1:=En.lcell hb 1 (v:=.bool false) rfl;have x0:=En.lcell hb 0 (v:=.slice p 0 cap) rfl;obtain ⟨b,o,c,rfl,h1,h2⟩:=ex.ex;obtain ⟨k0,k1⟩:=h2.at_ 0 (by simp);rw [show pqo ([x].map some) 0=pq x from rfl,Nat.zero_mul,Nat.add_zero] at k0 k1
  have cM:∀ W:World,Calls Tryz.prog 177 #[.agg #[J (pq x).1,J (pq x).2],.agg #[J ⟨#[48]⟩,J ⟨#[49]⟩]] W fun e w'=>e = .returned (.int .i64 (cmpQ x 0))∧Below W.heap.size W w':=by
   have:=CompareR_q fx fit0;rw [show rq 0 = .agg #[J ⟨#[48]⟩,J ⟨#[49]⟩] by show Value.agg #[J (pq 0).1,J (pq 0).2]=_;rw [pq0]] at this;exact this
  have hr:=cmpQ_range x 0;have ho:Sh (((some [x]).bind fun x=>signO [] x)=some (cmpQ x 0)):=⟨rfl⟩;rw [ho.o];have HF:Sh (∀ W',Below w.heap.size w W'→FB W' fb p [] false):=⟨fun W' u=>hf.keep u⟩;clear hf hb ex h2 kx hX fx ho;generalize cmpQ x 0=s at *
  generalize pq x=g at *
  rw [List.length_map,List.length_singleton] at h1 ⊢;show Calls Tryz.prog 138 #[.pointer (some ⟨fb,0,none⟩),.slice (some ⟨b,o,none⟩) 1 c] w _;replace cM:=Sh.mk cM;go_enter Tryz.func138, Tryz.ntmps138;go_wp2_with fail;have hq:=cM.o w;refine hq.mono ?_;rintro e V ⟨rfl,g⟩;clear hq;go_wp2_with fail;go_ret;exact ⟨of_below g _,s,rfl,hr,HF.o _ g,fun _=>rfl⟩
theorem grown_new {w W W':World} {fb gb:Nat} (h:w.grownBy W (some fb)) (g:W.grownBy W' (some gb)) (hb:w.heap.size≤gb):w.grownBy W' (some fb) :=
 ⟨g.os.trans h.os,g.tape.trans h.tape,g.output.trans h.output,Nat.le_trans h.size g.size,fun k hk hne=>(g.block k (Nat.lt_of_lt_of_le hk h.size) (fun e=>by injection e with e;omega)).trans (h.block k hk hne)⟩
theorem sgn_short {o1 o2 O:Option Int} {f0:Bool} {s t r:Int} {F:Int→Int→Option Int} (hO:f0=false→O=o1.bind fun s=>o2.bind fun t=>F s t)
  (h1:(f0 || o1.isNone)=false→o1=some s) (h2:((f0 || o1.isNone) || o2.isNone)=false→o2=some t) (hF:F s t=some r) :
  ((f0 || o1.isNone) || o2.isNone)=(f0 || O.isNone)∧((f0 || O.isNone)=false→O=some r):=by
 cases f0 with
 | true=>exact ⟨rfl,fun h=>by cases h⟩
 | false =>
  rw [hO rfl];cases o1 with
  | none=>exact ⟨rfl,fun h=>by cases h⟩
  | some a =>
   cases o2 with
   | none=>exact ⟨rfl,fun h=>by cases h⟩
   | some b =>
    have e1:=h1 rfl;have e2:=h2 rfl;injection e1 with e1;injection e2 with e2;subst e1 e2;rw [Option.bind_some,Option.bind_some,hF];exact ⟨rfl,fun _=>rfl⟩
theorem sgn_long {o1 o2 O o4:Option Int} {on:Option (List Rat)} {f0:Bool} {s t u:Int} {F:Int→Int→Option Int} {G:List Rat→Option Int} (hO:f0=false→O=o1.bind fun s=>o2.bind fun t=>F s t)
  (h1:(f0 || o1.isNone)=false→o1=some s) (h2:((f0 || o1.isNone) || o2.isNone)=false→o2=some t) (h4:((((f0 || o1.isNone) || o2.isNone) || on.isNone) || o4.isNone)=false→o4=some u)
  (e4:o4=on.bind G) (hF:f0=false→F s t=on.bind fun n=>(G n).map fun u=>s*u) :
  ((((f0 || o1.isNone) || o2.isNone) || on.isNone) || o4.isNone)=(f0 || O.isNone)∧((f0 || O.isNone)=false→O=some (s*u)):=by
 cases f0 with
 | true=>exact ⟨rfl,fun h=>by cases h⟩
 | false =>
  rw [hO rfl];cases o1 with
  | none=>exact ⟨rfl,fun h=>by cases h⟩
  | some a =>
   cases o2 with
   | none=>exact ⟨rfl,fun h=>by cases h⟩
   | some b =>
    have e1:=h1 rfl;have e2:=h2 rfl;injection e1 with e1;injection e2 with e2;subst e1 e2;rw [Option.bind_some,Option.bind_some,hF rfl];cases on with
    | none=>exact ⟨rfl,fun h=>by cases h⟩
    | some n =>
     rw [Option.bind_some] at e4 ⊢;rw [←e4];cases o4 with
     | none=>exact ⟨rfl,fun h=>by cases h⟩
     | some v =>
      have e5:=h4 rfl;injection e5 with e5;subst e5;exact ⟨rfl,fun _=>rfl⟩
theorem sgnR_cons {rs:List (List Rat)} (hk:rs.length≤3) (d:List Rat) (ih:SgnC rs):SgnC (d :: rs):=by
 intro X fb p fl ox vx hX kx w hf ex;cases hfl:fl with
 | true=>rw [hfl] at hf;exact sgnR_failed _ w hf
 | false =>
 rw [hfl] at hf kx;obtain ⟨x,rfl,rfl⟩:=kx rfl;rw [List.length_map] at hX;have fx:FitL x:=ex.fitL;obtain ⟨a,b,rfl,la,lb⟩:=split2 hX;have hp:=pow_le (show rs.length≤4 by omega);have lt:∀ {z:List Rat},z.length=2^rs.length→(z.map some).length=2^rs.length:=fun h=>by rw [List.length_map,h]
 have hN:Sh (nrmR rs d (a++b)=nrmO rs d (a++b)):=⟨by
  rw [nrmR,(half_of (by rw [la,lb])).1,(half_of (by rw [la,lb])).2];exact nrmR_eq hf.rad.2 (fun z hz=>hf.fits z (by simp [hz])) hf.rad.1 (hf.fits d (by simp)) la lb fx.app.1 fx.app.2⟩
 have hS:Sh (signO (d :: rs) (a++b)=(signO rs a).bind fun s=>(signO rs b).bind fun t=>if t=0 then some s else if s=0∨s=t then some t else (nrmR rs d (a++b)).bind fun n=>(signO rs n).map fun u=>s*u):=⟨by
  rw [hN.o,signO,(half_of (by rw [la,lb])).1,(half_of (by rw [la,lb])).2]⟩
 obtain ⟨cap,hb,hc⟩:=hf.box;have hfb:fb<w.heap.size:=(Array.getElem?_eq_some_iff.1 hb).1;have x1:=En.lcell hb 1 (v:=.bool false) rfl;have x0:=En.lcell hb 0 (v:=.slice p (d :: rs).length cap) rfl;have lX:Sh (((a++b).map some).length=2^(rs.length+1)):=⟨by rw [List.length_map];exact hX⟩;have EX:Sh (Eo w vx ((a++b).map some)):=⟨ex⟩;rw [Option.bind_some];have HW:Sh (FB w fb p (d :: rs) false):=⟨hf⟩;rw [show (d :: rs).length=rs.length+1 from rfl] at x0;have hm:((rs.length+1:Nat) == 0)=false:=rfl;have hm2:¬((rs.length:Int)+1=0):=by omega
 clear hf ex kx hX hb fx hc;go_enter Tryz.func138, Tryz.ntmps138;go_wp2_with fail;have hq:=lower_o (by omega) w HW.o;refine hq.mono ?_;rintro e W ⟨⟨gb,rfl,hgb,hG⟩,u⟩;have hB:Sh (Below w.heap.size w W):=⟨u⟩;have hG:Sh (FB W gb p rs false):=⟨hG⟩;have HW:Sh (FB W fb p (d :: rs) false):=⟨HW.o.keep u⟩;have EX:Sh (Eo W vx ((a++b).map some)):=⟨EX.o.keep u⟩;clear hq u x0 x1;go_wp2_with fail;have hq:=halves_o (a:=a.map some) (b:=b.map some) (by rw [lt la,lt lb]) ⟨by rw [lt la];omega,by rw [lt la];omega⟩ W (by have:=EX.o;rw [List.map_append] at this;exact this);refine hq.mono ?_;rintro e V ⟨⟨va,vb,rfl,ea,eb⟩,u⟩;have hB:=hB.tr u;have hG:Sh (FB V gb p rs false):=⟨hG.o.keep u⟩;have HW:Sh (FB V fb p (d :: rs) false):=⟨HW.o.keep u⟩;have EX:Sh (Eo V vx ((a++b).map some)):=⟨EX.o.keep u⟩;replace ea:Sh _:=⟨ea⟩;replace eb:Sh _:=⟨eb⟩;clear hq u
 rename World=>W
 have hlt:fb<gb:=by omega
 have hpg:∀ a,p=some a→a.block≠gb:=fun a e=>Nat.ne_of_lt (Nat.lt_trans (HW.o.low a e) hlt);have hpf:∀ a,p=some a→a.block≠fb:=fun a e=>Nat.ne_of_lt (HW.o.low a e);go_wp2_with fail;have hq:=ih (fb:=gb) (ox:=some a) (lt la) (Val.some a _) W hG.o ea.o;refine hq.mono ?_;rintro e V ⟨gr,s,rfl,hs,hG',ks⟩;have hB:=hB.gn gr hgb;have eb:Sh (Eo V vb (b.map some)):=⟨eb.o.grown hG.o.fc gr⟩;have EX:Sh (Eo V vx ((a++b).map some)):=⟨EX.o.grown hG.o.fc gr⟩;have HW:Sh (FB V fb p (d :: rs) false):=⟨HW.o.grown hG.o.fc (Nat.ne_of_lt hlt) hpg gr⟩;obtain ⟨o1,ho1⟩:∃ o,o=signO rs a:=⟨_,rfl⟩;obtain ⟨f1,hf1⟩:∃ f,f=(false || o1.isNone):=⟨_,rfl⟩;rw [Option.bind_some,←ho1,←hf1] at hG' ks;have hG:Sh (FB V gb p rs f1):=⟨hG'⟩;replace ho1:Sh _:=⟨ho1⟩;replace hf1:Sh _:=⟨hf1⟩;replace ks:Sh _:=⟨ks⟩;clear hq gr hG' ea
 rename World=>W
 go_wp2_with fail;have hq:=ih (fb:=gb) (ox:=some b) (lt lb) (Val.some b _) W hG.o eb.o;refine hq.mono ?_;rintro e V ⟨gr,t,rfl,ht,hG',kt⟩;have hB:=hB.gn gr hgb;have EX:Sh (Eo V vx ((a++b).map some)):=⟨EX.o.grown hG.o.fc gr⟩;have HW:Sh (FB V fb p (d :: rs) false):=⟨HW.o.grown hG.o.fc (Nat.ne_of_lt hlt) hpg gr⟩;obtain ⟨o2,ho2⟩:∃ o,o=signO rs b:=⟨_,rfl⟩;obtain ⟨f2,hf2⟩:∃ f,f=(f1 || o2.isNone):=⟨_,rfl⟩;rw [Option.bind_some,←ho2,←hf2] at hG' kt;have hG:Sh (FB V gb p rs f2):=⟨hG'⟩;replace ho2:Sh _:=⟨ho2⟩;replace hf2:Sh _:=⟨hf2⟩;replace kt:Sh _:=⟨kt⟩;clear hq gr hG' eb
 rename World=>W
 have hS:Sh (signO (d :: rs) (a++b)=o1.bind fun s=>o2.bind fun t=>if t=0 then some s else if s=0∨s=t then some t else (nrmR rs d (a++b)).bind fun n=>(signO rs n).map fun u=>s*u):=⟨by rw [ho1.o,ho2.o];exact hS.o⟩;clear hN ho1 ho2;generalize signO (d :: rs) (a++b)=O at *
 obtain ⟨cg,bg,_⟩:=hG.o.box;obtain ⟨cf,bf,_⟩:=HW.o.box;have xg:=En.lcell bg 1 (v:=.bool f2) rfl;have xf:=En.lcell bf 1 (v:=.bool false) rfl;have yf:=En.lfree bf 1;have HF:Sh (FB (W.setCell ⟨fb,1,none⟩ (.bool f2)) fb p (d :: rs) f2):=⟨HW.o.set f2⟩;have HG:Sh (FB (W.setCell ⟨fb,1,none⟩ (.bool f2)) gb p rs f2):=⟨hG.o.grown HW.o.fc (fun e=>by omega) hpf (grown_set 1 _)⟩;have EX:Sh (Eo (W.setCell ⟨fb,1,none⟩ (.bool f2)) vx ((a++b).map some)):=⟨EX.o.grown HW.o.fc (grown_set 1 _)⟩;have HR:Sh (w.grownBy (W.setCell ⟨fb,1,none⟩ (.bool f2)) (some fb)):=⟨World.grownBy.trans (of_below hB.o (some fb)) (grown_set 1 _)⟩;clear bg bf HW hG hB;by_cases t0:t=0
 ·subst t0;have hz:((0:Int) == 0)=true:=rfl;have H:=sgn_short (O:=O) (f0:=false) (r:=s) (fun _=>hS.o) (by rw [←hf1.o];exact ks.o) (by rw [←hf1.o,←hf2.o];exact kt.o) (if_pos rfl);rw [←hf1.o,←hf2.o] at H;replace H:Sh _:=⟨H⟩;go_wp2_with fail;go_ret;exact ⟨HR.o,s,rfl,hs,by rw [←H.o.1];exact HF.o,H.o.2⟩
 ·have hz:(t == 0)=false:=beq_eq_false_iff_ne.2 t0;by_cases c1:s=0∨s=t
  ·have H:=sgn_short (O:=O) (f0:=false) (r:=t) (fun _=>hS.o) (by rw [←hf1.o];exact ks.o) (by rw [←hf1.o,←hf2.o];exact kt.o) (by rw [if_neg t0,if_pos c1]);rw [←hf1.o,←hf2.o] at H;replace H:Sh _:=⟨H⟩;by_cases c2:s=0
   ·have hz2:(s == 0)=true:=beq_iff_eq.2 c2;clear c1;go_wp2_with fail;go_ret;exact ⟨HR.o,t,rfl,ht,by rw [←H.o.1];exact HF.o,H.o.2⟩
   ·have hz2:(s == 0)=false:=beq_eq_false_iff_ne.2 c2;have c3:s=t:=c1.resolve_left c2;have hz3:(s == t)=true:=beq_iff_eq.2 c3;clear c1 c3;go_wp2_with fail;go_ret;exact ⟨HR.o,t,rfl,ht,by rw [←H.o.1];exact HF.o,H.o.2⟩
  ·have hz2:(s == 0)=false:=beq_eq_false_iff_ne.2 (fun h=>c1 (.inl h));have hz3:(s == t)=false:=beq_eq_false_iff_ne.2 (fun h=>c1 (.inr h));have C0:Sh _:=⟨t0⟩;have C1:Sh _:=⟨c1⟩;clear c1 t0;go_wp2_with fail;have hq:=norm_w hk (ox:=some (a++b)) lX.o (Val.some _ _) (W.setCell ⟨fb,1,none⟩ (.bool f2)) HF.o EX.o;refine hq.mono ?_;rintro e V ⟨gr,vn,Zn,rfl,en,ln,HF',kn⟩;rw [Option.bind_some] at HF' kn;obtain ⟨on,hon⟩:∃ o,o=nrmR rs d (a++b):=⟨_,rfl⟩;obtain ⟨f3,hf3⟩:∃ f,f=(f2 || on.isNone):=⟨_,rfl⟩;rw [←hon,←hf3] at HF' kn;have HG:Sh (FB V gb p rs f2):=⟨HG.o.grown HF.o.fc (fun e=>by omega) hpf gr⟩;have HF:Sh (FB V fb p (d :: rs) f3):=⟨HF'⟩;have HR:Sh (w.grownBy V (some fb)):=⟨World.grownBy.trans HR.o gr⟩;obtain ⟨cg,bg,_⟩:=HG.o.box;obtain ⟨cf,bf,_⟩:=HF.o.box;have xg:=En.lcell bg 1 (v:=.bool f2) rfl;have yg:=En.lfree bg 1;have xf:=En.lcell bf 1 (v:=.bool f3) rfl;have HF2:Sh (FB (V.setCell ⟨gb,1,none⟩ (.bool f3)) fb p (d :: rs) f3):=⟨HF.o.grown HG.o.fc (Nat.ne_of_lt hlt) hpg (grown_set 1 _)⟩;have HG2:Sh (FB (V.setCell ⟨gb,1,none⟩ (.bool f3)) gb p rs f3):=⟨HG.o.set f3⟩;have en:Sh (Eo (V.setCell ⟨gb,1,none⟩ (.bool f3)) vn Zn):=⟨en.grown HG.o.fc (grown_set 1 _)⟩;have HR:Sh (w.grownBy (V.setCell ⟨gb,1,none⟩ (.bool f3)) (some fb)):=⟨grown_new HR.o (grown_set 1 _) hgb⟩;replace hon:Sh _:=⟨hon⟩;replace hf3:Sh _:=⟨hf3⟩;replace kn:Sh _:=⟨kn⟩;clear hq gr HF' HF HG bg bf EX;go_wp2_with fail;have hq:=ih (fb:=gb) (ox:=on) ln kn.o (V.setCell ⟨gb,1,none⟩ (.bool f3)) HG2.o en.o;refine hq.mono ?_;rintro e V2 ⟨gr,u,rfl,hu,hG',ku⟩;obtain ⟨o4,ho4⟩:∃ o,o=on.bind fun x=>signO rs x:=⟨_,rfl⟩;obtain ⟨f4,hf4⟩:∃ f,f=(f3 || o4.isNone):=⟨_,rfl⟩;rw [←ho4,←hf4] at hG' ku;have HF2:Sh (FB V2 fb p (d :: rs) f3):=⟨HF2.o.grown HG2.o.fc (Nat.ne_of_lt hlt) hpg gr⟩;have HR:Sh (w.grownBy V2 (some fb)):=⟨grown_new HR.o gr hgb⟩;obtain ⟨cg,bg,_⟩:=hG'.box;obtain ⟨cf,bf,_⟩:=HF2.o.box;have xg:=En.lcell bg 1 (v:=.bool f4) rfl;have xf:=En.lcell bf 1 (v:=.bool f3) rfl;have yf:=En.lfree bf 1;have HF3:Sh (FB (V2.setCell ⟨fb,1,none⟩ (.bool f4)) fb p (d :: rs) f4):=⟨HF2.o.set f4⟩;have HR:Sh (w.grownBy (V2.setCell ⟨fb,1,none⟩ (.bool f4)) (some fb)):=⟨World.grownBy.trans HR.o (grown_set 1 _)⟩;have H:=sgn_long (O:=O) (f0:=false) (on:=on) (o4:=o4) (u:=u) (G:=fun n=>signO rs n) (fun _=>hS.o) (by rw [←hf1.o];exact ks.o) (by rw [←hf1.o,←hf2.o];exact kt.o) (by rw [←hf1.o,←hf2.o,←hf3.o,←hf4];exact ku) ho4 (fun _=>by rw [if_neg C0.o,if_neg C1.o,←hon.o]);rw [←hf1.o,←hf2.o,←hf3.o,←hf4] at H;replace H:Sh _:=⟨H⟩
   have hsu : -1≤s*u∧s*u≤1:=by
    rcases (by omega:s = -1∨s=0∨s=1) with rfl | rfl | rfl <;> omega
   have hwr:IntKind.i64.wrap (s*u)=s*u:=by simp [IntKind.wrap,IntKind.signed,IntKind.bits];omega
   clear hq gr hG' bg bf ku hf4 ho4;go_wp2_with fail;go_ret;exact ⟨HR.o,s*u,rfl,hsu,by rw [←H.o.1];exact HF3.o,H.o.2⟩
theorem sgnC_all:∀ {rs:List (List Rat)},rs.length≤4→SgnC rs
 | [],_=>sgnR_nil
 | d :: _,h=>by
  rw [List.length_cons] at h;exact sgnR_cons (by omega) d (sgnC_all (by omega))
theorem fractions_cl (b o n cap:Nat) (hn:n≤1000) (G:Nat→P2) (k:Int) (B:Bool) (hB:((n:Int) == k)=B) (hV:∀ i,i<n→Ret 214 #[frc (G i).1 (G i).2] (.bool true)) (w:World) (hx:Cl w b o n G) :
  Calls Tryz.prog 176 #[.slice (some ⟨b,o,none⟩) n cap,.int .i64 k] w fun e w'=>e = .returned (.tuple #[.bool B,.bool B])∧Below w.heap.size w w':=by
 have HX:Sh _:=⟨hx⟩;have CO:Sh _:=⟨hV⟩;clear hx hV;go_enter Tryz.func176, Tryz.ntmps176;go_wp2_with fail
 go_loopw [6] (fun iv wr=>∃ i:Nat,i≤n∧iv = .int .i64 (i:Int)∧Sh (Below w.heap.size w wr)) (fun iv _=>n-(intOf iv).toNat)
 case atStart=>exact ⟨0,Nat.zero_le _,rfl,⟨Below.refl _ _⟩⟩
 case round =>
  obtain ⟨i,hi,rfl,HF⟩:=hrel;have u:=HF.o;clear HF;by_cases hin:i=n
  ·subst hin;go_wp2_with fail;exact bodyPost_ret (v:=.tuple #[.bool B,.bool B]) (by simp [results,Tryz.results176, go_sem]) rfl ⟨rfl,u⟩
  ·have hil:i<n:=by omega
   have hi2:(i:Int)<(n:Int):=by omega
   have hi3:(0:Int)≤(i:Int):=by omega
   obtain ⟨x0,x1⟩:=(HX.o.keep (u.mono Lr)).at_ i hil;have cO:=CO.o i hil;have hw1:IntKind.i64.wrap ((i:Int)+1)=(i:Int)+1:=by simp [IntKind.wrap,IntKind.signed,IntKind.bits];omega
   generalize G i=g at *
   have cO:Sh _:=⟨cO⟩;go_wp2_with fail;refine (cO.o _).mono ?_;rintro e v1 ⟨rfl,g1⟩;have u2:=u.trans (g1.mono u.size);clear g1;go_wp2_with fail
   go_roundw
   case rel=>exact ⟨i+1,by omega,by first | rfl | go_num | simp,⟨u2⟩⟩
   case measure=>simp [intOf];omega
theorem fractions_el {x:List Rat} (hx:x.length≤1000) (fx:FitL x) {vx:Value} (k:Int) (B:Bool) (hB:((x.length:Int) == k)=B) (w:World) (ex:El w vx x) :
  Calls Tryz.prog 176 #[vx,.int .i64 k] w fun e w'=>e = .returned (.tuple #[.bool B,.bool B])∧Below w.heap.size w w':=by
 obtain ⟨b,o,cap,rfl,h1,h2⟩:=ex;exact fractions_cl b o x.length cap hx (pqs x) k B hB (fun i hi=>two_VRq (fx.getD i hi)) w h2
theorem field_step {L:List (List Rat)} {i:Nat} {R:List (List Rat)} {d:List Rat} (hd:L[i]? = some d) (h:fieldO [] (L.take i)=some R) :
  (¬ Adj R d→(fieldO [] L).isSome=false)∧(Adj R d→fieldO [] (L.take (i+1))=some (d :: R)):=by
 obtain ⟨hl,hg⟩:=List.getElem?_eq_some_iff.1 hd;have e1:L.take (i+1)=L.take i ++ [d]:=by rw [List.take_add_one,hd];rfl
 refine ⟨fun hn => ?_,fun ha => ?_⟩
 ·have e2:L=L.take i++d :: L.drop (i+1):=by
   rw [←hg,List.getElem_cons_drop hl,List.take_append_drop]
  rw [e2,fieldO_app,h,Option.bind_some,fieldO,if_neg hn];rfl
 ·rw [e1,fieldO_app,h,Option.bind_some,fieldO,if_pos ha];rfl
theorem shl_one {i:Nat} (hi:i≤4):IntKind.i64.wrap ((2:Int)^i)=((2^i:Nat):Int):=by
 rcases (by omega:i=0∨i=1∨i=2∨i=3∨i=4) with rfl | rfl | rfl | rfl | rfl <;> decide
theorem pow_cast_eq {n i:Nat}:((n:Int) == ((2^i:Nat):Int))=decide (n=2^i):=by
 rw [Bool.eq_iff_iff,beq_iff_eq,decide_eq_true_iff];omega
theorem sliced_fb {w:World} {p:Option Addr} {L R:List (List Rat)} {i gb cap:Nat} (hi:i≤L.length) (hL:FitT L) (hR:fieldO [] (L.take i)=some R)
  (hm:L = []∨∃ bt ot,p=some ⟨bt,ot,none⟩∧∀ i x,L[i]? = some x→∃ vi,w.cell? ⟨bt,ot+i,none⟩=some vi∧El w vi x) (hp:∀ a,p=some a→a.block<gb) (hc:i≤cap) (hb:w.heap[gb]? = some (Jc #[.slice p i cap,.bool false] 150 (0,0))) :
  FB w gb p R false∧R.length=i:=by
 have hr:=field_rev hR;rw [List.append_nil] at hr;have hl:R.length=i:=by rw [hr,List.length_reverse,List.length_take];omega
 refine ⟨⟨⟨cap,by rw [hl];exact hb,by rw [hl];exact hc⟩,hp,⟨fun hn => ?_⟩,field_rad0 (acc := []) trivial hR,fun d hd => ?_⟩,hl⟩
 ·rcases hm with rfl | ⟨bt,ot,rfl,hm⟩
  ·rw [hr] at hn;exact absurd (by simp) hn
  ·refine ⟨bt,ot,rfl,fun j d hd=>hm j d ?_⟩;rw [hr,List.reverse_reverse] at hd;rcases Nat.lt_or_ge j i with h | h
   ·rwa [List.getElem?_take_of_lt h] at hd
   ·rw [List.getElem?_eq_none (by rw [List.length_take];omega)] at hd;cases hd
 ·rw [hr,List.mem_reverse] at hd;exact (hL d (List.mem_of_mem_take hd)).1
structure TwC (W:World) (v:Value) (L:List (List Rat)):Prop where
 at_:TwAt W v L
 cap:∃ p cap,v = .agg #[.slice p L.length cap]∧L.length≤cap∧∀ a,p=some a→a.block<W.heap.size
theorem TwC.keep {W W':World} {v:Value} {L:List (List Rat)} (h:TwC W v L) (hB:Below W.heap.size W W'):TwC W' v L:=⟨h.at_.keep hB,by obtain ⟨p,cap,e,h1,h2⟩:=h.cap;exact ⟨p,cap,e,h1,fun a ha=>Nat.lt_of_lt_of_le (h2 a ha) hB.size⟩⟩
theorem validT_O {L:List (List Rat)} (hL:FitT L) (hn:L.length≤1000) {t:Value} (w:World) (ht:TwC w t L) :
  Calls Tryz.prog 175 #[t] w fun e w'=>e = .returned (.bool (fieldO [] L).isSome)∧Below w.heap.size w w':=by
 obtain ⟨p,cap,rfl,hm⟩:=ht.at_.ex
 have hcap:L.length≤cap:=by
  obtain ⟨p',c',e,h,_⟩:=ht.cap;injection e with e;injection e with e;injection e with e;injection e with _ _ e;omega
 have u0:=(Below.refl w.heap.size w).alloc Lr (Jc #[.slice p L.length cap] 28);have n0:(w.alloc (Jc #[.slice p L.length cap] 28)).heap[w.heap.size]? = _:=World.alloc_heap_new w _;have x0:=En.lcell n0 0 (v:=.slice p L.length cap) rfl;by_cases h4:L.length≤4
 ·have HM:Sh (∀ W,Below w.heap.size w W→(L = []∨∃ bt ot,p=some ⟨bt,ot,none⟩∧∀ i x,L[i]? = some x→∃ vi,W.cell? ⟨bt,ot+i,none⟩=some vi∧El W vi x)):=⟨fun W u=>by
   rcases hm with h | ⟨bt,ot,e,h⟩
   ·exact .inl h
   ·exact .inr ⟨bt,ot,e,fun i x hx=>by
     obtain ⟨vi,k1,k2⟩:=h i x hx;exact ⟨vi,kcell k1 u,k2.keep u⟩⟩⟩
  have HP:Sh (∀ i,i<L.length→∀ a,p=some a→a.block<w.heap.size):=⟨fun i hi a ha=>by
   rcases hm with rfl | ⟨bt,ot,rfl,h⟩
   ·simp at hi
   ·obtain ⟨vi,k1,_⟩:=h i _ (List.getElem?_eq_getElem hi);injection ha with ha;subst ha;exact World.block_lt_of_cell? w ⟨bt,ot+i,none⟩ k1⟩
  have HL:Sh (FitT L):=⟨hL⟩;obtain ⟨n,hnn⟩:∃ n,n=L.length:=⟨_,rfl⟩;rw [←hnn] at hcap h4 n0 x0 u0 ⊢;have HN:Sh (n=L.length):=⟨hnn⟩;have h5:¬(4:Int)<(n:Int):=by omega
  have U0:Sh (Below w.heap.size w (w.alloc (Jc #[.slice p n cap] 28))∧(w.alloc (Jc #[.slice p n cap] 28)).heap[w.heap.size]? = some (Jc #[.slice p n cap] 28 (0,0))):=⟨u0,n0⟩;clear hm hL hn ht hnn u0 n0;obtain ⟨B,hB⟩:∃ B,(fieldO [] L).isSome=B:=⟨_,rfl⟩;rw [hB];replace hB:Sh _:=⟨hB⟩;go_enter Tryz.func175, Tryz.ntmps175;go_wp2_with fail;clear x0
  go_loopw [3] (fun iv wr=>∃ i:Nat,i≤n∧iv = .int .i64 (i:Int)∧Sh (Below w.heap.size w wr∧wr.heap[w.heap.size]? = some (Jc #[.slice p n cap] 28 (0,0)))∧Sh (∃ R,fieldO [] (L.take i)=some R)) (fun iv _=>n-(intOf iv).toNat)
  case atStart=>exact ⟨0,Nat.zero_le _,rfl,U0,⟨⟨[],rfl⟩⟩⟩
  case round =>
   obtain ⟨i,hi,rfl,HF,HR⟩:=hrel;obtain ⟨u,nb⟩:=HF.o;clear HF U0;have x0:=En.lcell nb 0 (v:=.slice p n cap) rfl;by_cases hin:i=n
   ·have HB:B=true:=by
     rw [←hB.o];obtain ⟨R,h⟩:=HR.o;rw [hin,HN.o,List.take_length] at h;rw [h];rfl
    subst hin;subst HB;go_wp2_with fail;go_ret;exact ⟨rfl,u⟩
   ·have hil:i<n:=by omega
    have hi2:(i:Int)<(n:Int):=by omega
    have hi3:(0:Int)≤(i:Int):=by omega
    have hic:(i:Int)≤(cap:Int):=by omega
    have hw1:IntKind.i64.wrap ((i:Int)+1)=(i:Int)+1:=by simp [IntKind.wrap,IntKind.signed,IntKind.bits];omega
    have s1:=shl_one (i:=i) (by omega);obtain ⟨d,hd⟩:∃ d,L[i]? = some d:=⟨_,List.getElem?_eq_getElem (by rw [←HN.o];exact hil)⟩;obtain ⟨bt,ot,hpe,hall⟩:=(HM.o wr u).resolve_left (fun h=>by rw [h] at hd;cases hd);obtain ⟨vi,hv,he⟩:=hall i d hd;obtain ⟨R,hR⟩:=HR.o;have fd:=HL.o d (List.mem_of_getElem? hd);have FS:Sh _:=⟨field_step hd hR⟩;have HR:Sh (fieldO [] (L.take i)=some R):=⟨hR⟩
    have hRl:R.length=i:=by
     have:=field_rev hR;rw [this,List.append_nil,List.length_reverse,List.length_take,←HN.o];omega
    have HP':Sh (∀ a,p=some a→a.block<w.heap.size):=⟨HP.o i (by rw [←HN.o];exact hil)⟩;have hlt:w.heap.size<wr.heap.size:=(Array.getElem?_eq_some_iff.1 nb).1;have cF:Sh (∀ W,Below wr.heap.size wr W→Calls Tryz.prog 176 #[vi,.int .i64 ((2^i:Nat):Int)] W fun e w'=>e = .returned (.tuple #[.bool (decide (d.length=2^i)),.bool (decide (d.length=2^i))])∧Below W.heap.size W w'):=⟨fun W g=>fractions_el fd.2 fd.1 _ _ pow_cast_eq W (he.keep g)⟩;have HE:Sh (El wr vi d):=⟨he⟩;have FD:Sh (FitL d):=⟨fd.1⟩;obtain ⟨K,hK⟩:∃ K:Int,K=((2^i:Nat):Int):=⟨_,rfl⟩;rw [←hK] at s1 cF;subst hpe;clear hall he hR fd hd hK;by_cases hdl:d.length=2^i
    ·have HD:Sh (d.length=2^i):=⟨hdl⟩;rw [decide_eq_true hdl] at cF;clear hdl;go_wp2_with fail
     go_region_held3 (fun X=>X.cell? ⟨w.heap.size,0,none⟩=some (.slice (some ⟨bt,ot,none⟩) n cap)∧X.cell? ⟨bt,ot+i,none⟩=some vi) (go_keep) (first | (go_at_call 176; (with_reducible refine (cF.o wr.drew (ldrew (Below.refl _ _))).mono ?_);rintro e v1 ⟨rfl,g1⟩;have u1:Below wr.heap.size wr v1:=lundrew2 g1;replace x0:=kcell x0 u1;replace hv:=kcell hv u1;clear g1) | fail)
     all_goals
      clear cF s1;have nb1:=En.lkeep nb u1;have he1:Sh (El v1 vi d):=⟨HE.o.keep u1⟩;have ub:Below w.heap.size w v1:=u.trans (u1.mono (Nat.le_of_lt hlt));have hz1:=u1.size;have uG:=(Below.refl v1.heap.size v1).alloc Lr (Jc #[.slice (some ⟨bt,ot,none⟩) i cap,.bool false] 150);have nG:(v1.alloc (Jc #[.slice (some ⟨bt,ot,none⟩) i cap,.bool false] 150)).heap[v1.heap.size]? = _:=World.alloc_heap_new v1 _;have x2:=kcell x0 uG;have hv2:=kcell hv uG;have hF:Sh (FB (v1.alloc (Jc #[.slice (some ⟨bt,ot,none⟩) i cap,.bool false] 150)) v1.heap.size (some ⟨bt,ot,none⟩) R false):=⟨(sliced_fb (L:=L) (i:=i) (by rw [←HN.o];exact hi) HL.o HR.o (HM.o _ (ub.trans (uG.mono ub.size))) (fun a ha=>Nat.lt_of_lt_of_le (HP'.o a ha) ub.size) (by omega) nG).1⟩;have hE2:Sh (Eo (v1.alloc (Jc #[.slice (some ⟨bt,ot,none⟩) i cap,.bool false] 150)) vi (d.map some)):=⟨(he1.o.keep uG).eo FD.o⟩;have uW:Sh (Below w.heap.size w (v1.alloc (Jc #[.slice (some ⟨bt,ot,none⟩) i cap,.bool false] 150))):=⟨ub.trans (uG.mono ub.size)⟩;have nb2:=En.lkeep nb1 uG;clear uG nG;go_wp2_with fail;have hq:=sgnC_all (rs:=R) (by omega) (X:=d.map some) (ox:=some d) (by rw [List.length_map,HD.o,hRl]) (Val.some d _) _ hF.o hE2.o;refine hq.mono ?_;rintro e V ⟨gr,s,rfl,hs,hF',ks⟩;have uV:Below w.heap.size w V:=uW.o.grown gr uW.o.size (fun k e=>by cases e;exact ub.size);have nbV:V.heap[w.heap.size]? = _:=(gr.block _ (Array.getElem?_eq_some_iff.1 nb2).1 (fun e=>by injection e with e;omega)).trans nb2;obtain ⟨o,ho⟩:∃ o,o=signO R d:=⟨_,rfl⟩;rw [Option.bind_some,←ho] at hF' ks;obtain ⟨cf,bf,_⟩:=hF'.box;have AD:Sh (o=some 1→Adj R d):=⟨fun h=>⟨by rw [hRl];omega,by rw [HD.o,hRl],by rw [←ho,h]⟩⟩;have ND:Sh (o≠some 1→B=false):=⟨fun h=>by rw [←hB.o];exact FS.o.1 (fun a=>h (by rw [ho];exact a.2.2))⟩;clear hq gr hF' ho x2 hv2 hF hE2 uW nb2;cases hoo:o with
      | none =>
       rw [hoo] at bf;have xf:=En.lcell bf 1 (v:=.bool true) rfl;obtain rfl:B=false:=ND.o (by rw [hoo];intro h;cases h);clear bf ks AD ND;go_wp2_with fail;go_ret;exact ⟨rfl,uV⟩
      | some q =>
       rw [hoo] at bf ks;obtain rfl:q=s:=by injection ks rfl
       have xf:=En.lcell bf 1 (v:=.bool false) rfl;clear bf ks;by_cases h1:q=1
       ·have hA:Sh (fieldO [] (L.take (i+1))=some (d :: R)):=⟨FS.o.2 (AD.o (by rw [hoo,h1]))⟩;have hz:(q != 1)=false:=by rw [h1];rfl
        clear AD ND h1 hoo;go_wp2_with fail
        go_roundw
        case rel=>exact ⟨i+1,by omega,by first | rfl | go_num | simp,⟨uV,nbV⟩,⟨⟨_,hA.o⟩⟩⟩
        case measure=>simp [intOf];omega
       ·obtain rfl:B=false:=ND.o (by rw [hoo];intro h;injection h with h;exact h1 h);have hz:(q != 1)=true:=bne_iff_ne.2 h1;clear AD ND h1 hoo;go_wp2_with fail;go_ret;exact ⟨rfl,uV⟩
    ·have hBf:B=false:=by rw [←hB.o];exact FS.o.1 (fun h=>hdl (by rw [←hRl];exact h.2.1))
     rw [decide_eq_false hdl] at cF;subst hBf;clear hdl FS;go_wp2_with fail
     go_region_held3 (fun X=>X.cell? ⟨w.heap.size,0,none⟩=some (.slice (some ⟨bt,ot,none⟩) n cap)∧X.cell? ⟨bt,ot+i,none⟩=some vi) (go_keep) (first | (go_at_call 176; (with_reducible refine (cF.o wr.drew (ldrew (Below.refl _ _))).mono ?_);rintro e v1 ⟨rfl,g1⟩;have u1:Below wr.heap.size wr v1:=lundrew2 g1;replace x0:=kcell x0 u1;replace hv:=kcell hv u1;clear g1) | fail)
     all_goals
      go_wp2_with fail;go_ret;exact ⟨rfl,u.trans (u1.mono (Nat.le_of_lt hlt))⟩
 ·have hB:(fieldO [] L).isSome=false:=by
   cases h:fieldO [] L with
   | none=>rfl
   | some rs =>
    have:=fieldO_len h;have h5:=this.2 (by rintro rfl;simp at h4);have h6:=this.1;simp at h6;omega
  rw [hB];clear hm hB hL;generalize L.length=n at *
  have h5:(4:Int)<(n:Int):=by omega
  go_enter Tryz.func175, Tryz.ntmps175;go_wp2_with fail;go_ret;exact ⟨rfl,u0⟩
theorem TwC.parts {w:World} {t:Value} {L:List (List Rat)} (ht:TwC w t L):∃ p cap,t = .agg #[.slice p L.length cap]∧L.length≤cap∧(∀ a,p=some a→a.block<w.heap.size) ∧
  (L = []∨∃ bt ot,p=some ⟨bt,ot,none⟩∧∀ i x,L[i]? = some x→∃ vi,w.cell? ⟨bt,ot+i,none⟩=some vi∧El w vi x):=by
 obtain ⟨p,cap,rfl,hm⟩:=ht.at_.ex;obtain ⟨p',c',e,h,h2⟩:=ht.cap;injection e with e;injection e with e;injection e with e;injection e with e1 _ e2;subst e1;exact ⟨p,cap,rfl,by omega,h2,hm⟩
theorem is_some {L rs:List (List Rat)} (hL:FitT L) (hn:L.length≤1000) {t vx:Value} {x:List Rat} (hx:x.length≤1000) (fx:FitL x) (w:World) (ht:TwC w t L) (ex:El w vx x) (h0:fieldO [] L=some rs) :
  Calls Tryz.prog 137 #[t,vx] w fun e w'=>(∃ gb p,e = .returned (.tuple #[.bool (decide (x.length=2^L.length)),.pointer (some ⟨gb,0,none⟩)])∧w.heap.size≤gb∧FB w' gb p rs false)∧Below w.heap.size w w':=by
 have cV:Sh (∀ W,Below w.heap.size w W→Calls Tryz.prog 175 #[t] W fun e w'=>e = .returned (.bool true)∧Below W.heap.size W w'):=⟨fun W u=>by have:=validT_O hL hn W (ht.keep u);rw [h0] at this;exact this⟩;have h4:=field_len h0;have hl:L.length=rs.length:=by have:=field_rev h0;rw [this];simp
 obtain ⟨p,cap,rfl,hc,hp,hm⟩:=ht.parts;obtain ⟨n,hnn⟩:∃ n,n=L.length:=⟨_,rfl⟩
 have HFB:Sh (∀ W gb,Below w.heap.size w W→w.heap.size≤gb→W.heap[gb]? = some (Jc #[.slice p n cap,.bool false] 150 (0,0))→FB W gb p rs false):=⟨fun W gb u hg hb=>by
  refine (sliced_fb (L:=L) (i:=n) (by rw [hnn];exact Nat.le_refl _) hL (by rw [hnn,List.take_length];exact h0) ?_ (fun a e=>Nat.lt_of_lt_of_le (hp a e) hg) (by rw [hnn];exact hc) hb).1;rcases hm with h | ⟨bt,ot,e,h⟩
  ·exact .inl h
  ·exact .inr ⟨bt,ot,e,fun i x hx=>by
    obtain ⟨vi,k1,k2⟩:=h i x hx;exact ⟨vi,kcell k1 u,k2.keep u⟩⟩⟩
 rw [←hnn] at hl hc cV ⊢;have hn4:n≤4:=by omega
 clear ht h0 hL hm hp hl hnn hn h4
 have cF:Sh (∀ (W:World) (K:Int),Below w.heap.size w W→K=((2^n:Nat):Int)→Calls Tryz.prog 176 #[vx,.int .i64 K] W fun e w'=>e = .returned (.tuple #[.bool (decide (x.length=2^n)),.bool (decide (x.length=2^n))])∧Below W.heap.size W w'):=⟨fun W K g hK=>by
  subst hK;exact fractions_el hx fx _ _ pow_cast_eq W (ex.keep g)⟩
 have s1:=shl_one hn4;obtain ⟨K,hK⟩:∃ K:Int,K=((2^n:Nat):Int):=⟨_,rfl⟩;rw [←hK] at s1;replace cF:Sh (∀ (W:World),Below w.heap.size w W→Calls Tryz.prog 176 #[vx,.int .i64 K] W fun e w'=>e = .returned (.tuple #[.bool (decide (x.length=2^n)),.bool (decide (x.length=2^n))])∧Below W.heap.size W w'):=⟨fun W g=>cF.o W K g hK⟩;have u0:=(Below.refl w.heap.size w).alloc Lr (Jc #[.slice p n cap] 28);have n0:(w.alloc (Jc #[.slice p n cap] 28)).heap[w.heap.size]? = _:=World.alloc_heap_new w _;have x0:=En.lcell n0 0 (v:=.slice p n cap) rfl;clear ex hK;generalize decide (x.length=2^n)=B at *
 go_enter Tryz.func137, Tryz.ntmps137;go_wp2_with fail;refine (cV.o _ u0).mono ?_;rintro e v1 ⟨rfl,g⟩;have u1:=u0.trans (g.mono u0.size);replace n0:=En.lkeep n0 g;replace x0:=En.lcell n0 0 (v:=.slice p n cap) rfl;clear g u0 cV;go_wp2_with fail;refine (cF.o _ u1).mono ?_;rintro e v2 ⟨rfl,g⟩;have u2:=u1.trans (g.mono u1.size);replace n0:=En.lkeep n0 g;replace x0:=En.lcell n0 0 (v:=.slice p n cap) rfl;clear g u1 cF;go_wp2_with fail
 go_region
 have u3:=ldrew ((Below.refl v2.heap.size v2).alloc Lr (Jc #[.slice p n cap,.bool false] 150))
 all_goals
  go_wp2_with fail;exact bodyPost_ret (v:=.tuple #[.bool B,.pointer (some ⟨v2.heap.size,0,none⟩)]) (by simp [results,Tryz.results137, go_sem]) rfl ⟨⟨v2.heap.size,p,rfl,u2.size,HFB.o _ _ (u2.trans (u3.mono u2.size)) u2.size (World.alloc_heap_new v2 _)⟩,u2.trans (u3.mono u2.size)⟩
theorem step_append_sp {w:World} {ops:Array Oper} {o:Oper} {a:Act} {K:Act→World→Prop} {Q:Exit→Act→World→Prop} {E:Prop} (hgd:o.guard=none) (s x:Operand)
  (ho:o.op = .call {callee:=.builtin .append,args:=#[s,x],argTypes:=#[29, 29]}) (base:Nat) (v:Value) (t:Nat) (R R' G:Nat→P2) (hs:a.eval s=v) (hown:OwnL w base v t R)
  (Bx ox n c:Nat) (hx:a.eval x = .slice (some ⟨Bx,ox,none⟩) n c) (hG:Cl w Bx ox n G) (ht:t≤1000) (hn:n≤1000) (hb:base≤w.heap.size) (h1:∀ i,i<t→R' i=R i) (h2:∀ i,i<n→R' (t+i)=G i)
  (hK:∀ v' w',OwnL w' base v' (t+n) R'→w.grownBy w' v.ownBlock→K (a.put o.dst v') w'):if Region.wanted o (yielded ops a.tmps)=true then Oper.wp Tryz.prog o a w K Q else E:=by
 obtain ⟨i0,hinf,hz⟩:=Option.map_eq_some_iff.1 infoRat;have hz0:i0.zero=some (.agg #[J ⟨#[]⟩,J ⟨#[]⟩]):=congrArg (fun q=>q.1) hz;have hz1:i0.size=2:=congrArg (fun q=>q.2.1) hz;have hz2:i0.bytes=32:=congrArg (fun q=>q.2.2) hz;refine Rt.step_append_own hgd s x 29 ho base 42 i0 (.agg #[J ⟨#[]⟩,J ⟨#[]⟩]) 2 32 Tryz.underlying29 hinf hz0 hz1 hz2 rfl (by decide) v t _ hs hown ⟨Bx,ox,none⟩ n c (cellsL G n) hx (cellsL_len G n) ?_ ?_ (by unfold maxLen;omega) (by omega) hb ?_
 ·intro j u hj;obtain ⟨i,hi,⟨rfl,rfl⟩ | ⟨rfl,rfl⟩⟩:=cellsL_get G n j u hj
  ·rw [Addr.add_lit];exact (hG.at_ i hi).1
  ·rw [Addr.add_lit,←Nat.add_assoc];exact (hG.at_ i hi).2
 ·intro u hu;obtain ⟨j,hj⟩:=List.getElem?_of_mem hu;obtain ⟨i,hi,⟨rfl,rfl⟩ | ⟨rfl,rfl⟩⟩:=cellsL_get G n j u hj <;> rfl
 ·intro v' w' hown' hgrow;refine hK v' w' ?_ hgrow;unfold OwnL;rw [cellsL_app R R' G t h1 n h2];exact hown'
theorem step_append_sp_at {w:World} {ops:Array Oper} {a:Act} {K:Act→World→Prop} {Q:Exit→Act→World→Prop} {E:Prop} {ty:TypeId} {pos:String} {after:Array Edge}
  (d s x:Nat) (base:Nat) (t:Nat) (R R' G:Nat→P2) (hown:OwnL w base (a.eval (.tmp s)) t R)
  (Bx ox n c:Nat) (hx:a.eval (.tmp x) = .slice (some ⟨Bx,ox,none⟩) n c) (hG:Cl w Bx ox n G) (ht:t≤1000) (hn:n≤1000) (hb:base≤w.heap.size) (h1:∀ i,i<t→R' i=R i) (h2:∀ i,i<n→R' (t+i)=G i)
  (hK:∀ v' w',OwnL w' base v' (t+n) R'→w.grownBy w' (a.eval (.tmp s)).ownBlock→K (a.put (some d) v') w'):if Region.wanted {dst:=some d,op:=.call {callee:=.builtin .append,args:=#[.tmp s,.tmp x],argTypes:=#[29, 29]},type:=ty,pos:=pos,after:=after,guard:=none} (yielded ops a.tmps)=true then Oper.wp Tryz.prog {dst:=some d,op:=.call {callee:=.builtin .append,args:=#[.tmp s,.tmp x],argTypes:=#[29, 29]},type:=ty,pos:=pos,after:=after,guard:=none} a w K Q else E :=
 step_append_sp rfl (.tmp s) (.tmp x) rfl base _ t R R' G rfl hown Bx ox n c hx hG ht hn hb h1 h2 hK
theorem Rds.set {base:Nat} {W:World} {v:Value} {L:List (List Rat)} {V:Nat→Value} (h:Rds base W v L V) {b:Nat} (hb:b<base) (y:Value):Rds base (W.setCell ⟨b,0,none⟩ y) v L V :=
 ⟨h.own.beside (u:=.slice (some ⟨b,0,none⟩) 0 0) (grown_set 0 y) (.inr (h.own.low b hb)),fun i d hd=>by
  obtain ⟨g,cp,e,h1,h2,h3⟩:=h.el i d hd;exact ⟨g,cp,e,h1,h2,⟨fun j hj=>⟨grown_cell (grown_set 0 y) (h3.at_ j hj).1 (fun e=>Nat.ne_of_lt (Nat.lt_of_lt_of_le hb h2) (by injection e)),grown_cell (grown_set 0 y) (h3.at_ j hj).2 (fun e=>Nat.ne_of_lt (Nat.lt_of_lt_of_le hb h2) (by injection e))⟩⟩⟩,h.pos⟩
theorem Rds.twC {base:Nat} {W:World} {v:Value} {L:List (List Rat)} {V:Nat→Value} (h:Rds base W v L V):TwC W (.agg #[v]) L:=by
 refine ⟨h.tw.at_, ?_⟩;rcases h.own.2 with ⟨rfl,hn⟩ | ⟨g,cap,cur,rfl,hg,hgg,h1,_⟩
 ·refine ⟨none,0, ?_, ?_,fun a ha=>by cases ha⟩
  ·rw [hn]
  ·rw [hn];exact Nat.le_refl _
 ·exact ⟨_,cap,rfl,h1,fun a ha=>by cases ha;exact (Array.getElem?_eq_some_iff.1 hgg).1⟩
theorem TwN.mono {base B:Nat} {W:World} {v:Value} {L:List (List Rat)} (h:TwN base W v L) (hB:B≤base):TwN B W v L:=by
 obtain ⟨p,cap,e,h⟩:=h;refine ⟨p,cap,e, ?_⟩;rcases h with h | ⟨bt,e1,h1,h2⟩
 ·exact .inl h
 ·exact .inr ⟨bt,e1,Nat.le_trans hB h1,fun i x hx=>by
   obtain ⟨vi,k1,b,cp,k2,k3,k4,k5⟩:=h2 i x hx;exact ⟨vi,k1,b,cp,k2,k3,Nat.le_trans hB k4,k5⟩⟩
theorem TwC.of {base:Nat} {W W':World} {v:Value} {L:List (List Rat)} (h:TwC W v L) (hn:TwN base W' v L) (hs:W.heap.size≤W'.heap.size):TwC W' v L:=⟨hn.at_,by
 obtain ⟨p,cap,e,h1,h2⟩:=h.cap;exact ⟨p,cap,e,h1,fun a ha=>Nat.lt_of_lt_of_le (h2 a ha) hs⟩⟩
theorem TwN.keep {base:Nat} {W W':World} {v:Value} {L:List (List Rat)} (h:TwN base W v L) (hB:Below W.heap.size W W'):TwN base W' v L:=by
 obtain ⟨p,cap,e,h⟩:=h;refine ⟨p,cap,e, ?_⟩;rcases h with h | ⟨bt,e1,h1,h2⟩
 ·exact .inl h
 ·exact .inr ⟨bt,e1,h1,fun i x hx=>by
   obtain ⟨vi,k1,k2⟩:=h2 i x hx;exact ⟨vi,kcell k1 hB,k2.keep hB⟩⟩
end Tw
end
end Go.Proofs.YtihlgifojjeoaaaGreatDoor
