import Derived.Test.YtihlgifojjeoaaaGreatDoorZ8L
import Derived.Test.YtihlgifojjeoaaaGreatDoorZ8H2
set_option maxRecDepth 1000000
set_option maxHeartbeats 40000000
open Go.Value renaming string→J
open Go.Obj renaming cells→Jc
namespace Go.Proofs.YtihlgifojjeoaaaGreatDoor
namespace Tw
open Go.RowKit Go.Extern.Stop Go.Stop Go.Extern
open En Go.Proofs.YtihlgifojjeoaaaGreatDoor.Nm Go.Proofs.YtihlgifojjeoaaaGreatDoor.Rt
theorem QqT {rs:List (List Rat)} (hk:rs.length≤3) (d:List Rat) (ih:MulC rs):MulC (d :: rs):=by
 intro X Y fb p fl ox oy vx vy hX hY kx ky w hf ex ey;cases fl with
 | true=>exact QhG (rs:=d :: rs) (by rw [List.length_cons];omega) _ hX w hf ex
 | false =>
 obtain ⟨x,rfl,rfl⟩:=kx rfl;obtain ⟨y,rfl,rfl⟩:=ky rfl;rw [List.length_map] at hX hY;obtain ⟨a,b,rfl,la,lb⟩:=QcB hX;obtain ⟨c,g,rfl,lc,lg⟩:=QcB hY;have hp:=QbG (show rs.length≤4 by omega);have ld:d.length=2^rs.length:=hf.rad.1;have lt:∀ {z:List Rat},z.length=2^rs.length→(z.map some).length=2^rs.length:=fun h=>by rw [List.length_map,h]
 have hN:1≤2^rs.length∧2^rs.length≤1000:=by omega
 rw [Option.bind_some,Option.bind_some,QfS (by rw [la,lb]) (by rw [lc,lg])];rw [List.map_append] at ex ey;obtain ⟨f0,hf0⟩:∃ f,f=false:=⟨_,rfl⟩;rw [←hf0] at hf ⊢;have HW:Sh (FB w fb p (d :: rs) f0):=⟨hf⟩;have hfb:fb<w.heap.size:=by obtain ⟨_,hb,_⟩:=hf.box;exact (Array.getElem?_eq_some_iff.1 hb).1
 obtain ⟨cap,hb,_⟩:=hf.box;have x1:=En.Qaa hb 1 (v:=.bool f0) rfl;have x0:=En.Qaa hb 0 (v:=.slice p (d :: rs).length cap) rfl;rw [show (d :: rs).length=rs.length+1 from rfl] at x0;rw [hf0] at x1;have hm2:¬((rs.length:Int)+1=0):=by omega
 replace hf0:Sh _:=⟨hf0⟩;have EX:Sh (Eo w vx (a.map some++b.map some)):=⟨ex⟩;have EY:Sh (Eo w vy (c.map some++g.map some)):=⟨ey⟩;have l2:2^(d :: rs).length=2^rs.length+2^rs.length:=by rw [List.length_cons,Nat.pow_succ];omega
 rw [l2];clear hf ex ey kx ky hX hY hb;go_enter Tryz.func217, Tryz.ntmps217;go_wp2_with fail;have hq:=Qko (by omega) w HW.o;refine hq.mono ?_;rintro e W ⟨⟨gb,rfl,hgb,hG⟩,u⟩;have hlt:fb<gb:=by omega
 have hB:Sh (Below w.heap.size w W):=⟨u⟩;have hK:Sh (Kg gb [gFB gb fb p (d :: rs) f0 hlt] W):=⟨⟨hG.fc,fun k hk=>by rw [List.mem_singleton.1 hk];exact HW.o.keep u⟩⟩;have hG:Sh (FB W gb p rs f0):=⟨hG⟩;have EX:Sh (Eo W vx (a.map some++b.map some)):=⟨EX.o.keep u⟩;have EY:Sh (Eo W vy (c.map some++g.map some)):=⟨EY.o.keep u⟩;clear hq u;go_wp2_with fail;have hq:=QfR (a:=a.map some) (b:=b.map some) (by rw [lt la,lt lb]) ⟨by rw [lt la];omega,by rw [lt la];omega⟩ W EX.o;refine hq.mono ?_;rintro e V ⟨⟨va,vb,rfl,ea,eb⟩,u⟩;have hB:=hB.tr u;have hG:Sh (FB V gb p rs f0):=⟨hG.o.keep u⟩;have hK:Sh (Kg gb [gEo gb va (a.map some),gEo gb vb (b.map some),gFB gb fb p (d :: rs) f0 hlt] V):=⟨((hK.o.keep u).add (gEo gb vb (b.map some)) eb).add (gEo gb va (a.map some)) ea⟩
 try have EY:Sh (Eo V vy _):=⟨EY.o.keep u⟩
 clear hq ea eb u
 rename World=>W
 go_wp2_with fail;have hq:=QfR (a:=c.map some) (b:=g.map some) (by rw [lt lc,lt lg]) ⟨by rw [lt lc];omega,by rw [lt lc];omega⟩ W EY.o;refine hq.mono ?_;rintro e V ⟨⟨vc,vg,rfl,ea,eb⟩,u⟩;have hB:=hB.tr u;have hG:Sh (FB V gb p rs f0):=⟨hG.o.keep u⟩;have hK:Sh (Kg gb [gEo gb vc (c.map some),gEo gb vg (g.map some),gEo gb va (a.map some),gEo gb vb (b.map some),gFB gb fb p (d :: rs) f0 hlt] V):=⟨((hK.o.keep u).add (gEo gb vg (g.map some)) eb).add (gEo gb vc (c.map some)) ea⟩;clear hq ea eb u
 rename World=>W
 go_wp2_with fail;have hq:=ih (fb:=gb) (lt la) (lt lc) (Val.some a _) (Val.some c _) W hG.o (hK.o.all _ Mm2) (hK.o.all _ Mm0);refine hq.mono ?_;rintro e V ⟨gr,v1,Z1,rfl,ez,lz1,hG',kz⟩;have hB:=hB.gn gr hgb;have hK:Sh (Kg gb [gEo gb v1 (Z1),gEo gb vc (c.map some),gEo gb vg (g.map some),gEo gb va (a.map some),gEo gb vb (b.map some),gFB gb fb p (d :: rs) f0 hlt] V):=⟨(hK.o.step gr hG'.fc).add (gEo gb v1 Z1) ez⟩;obtain ⟨o1,ho1⟩:∃ o:Option (List Rat),o=mulR rs a c:=⟨_,rfl⟩;obtain ⟨f1,hf1⟩:∃ f,f=(f0 || o1.isNone):=⟨_,rfl⟩;replace hG':FB V gb p rs f1:=by rw [hf1,ho1];exact hG'
 have hG:Sh (FB V gb p rs f1):=⟨hG'⟩;have kz1:Sh (Val Z1 f1 o1):=⟨by rw [hf1,ho1];exact kz⟩;replace ho1:Sh _:=⟨ho1⟩;replace hf1:Sh _:=⟨hf1⟩;clear hq gr ez hG' kz
 rename World=>W
 go_wp2_with fail;have hq:=ih (fb:=gb) (lt lb) (lt lg) (Val.some b _) (Val.some g _) W hG.o (hK.o.all _ Mm4) (hK.o.all _ Mm2);refine hq.mono ?_;rintro e V ⟨gr,v2,Z2,rfl,ez,lz2,hG',kz⟩;have hB:=hB.gn gr hgb;have hK:Sh (Kg gb [gEo gb v2 (Z2),gEo gb v1 (Z1),gEo gb vc (c.map some),gEo gb vg (g.map some),gEo gb va (a.map some),gEo gb vb (b.map some),gFB gb fb p (d :: rs) f0 hlt] V):=⟨(hK.o.step gr hG'.fc).add (gEo gb v2 Z2) ez⟩;obtain ⟨o2,ho2⟩:∃ o:Option (List Rat),o=mulR rs b g:=⟨_,rfl⟩;obtain ⟨f2,hf2⟩:∃ f,f=(f1 || o2.isNone):=⟨_,rfl⟩;replace hG':FB V gb p rs f2:=by rw [hf2,ho2];exact hG'
 have hG:Sh (FB V gb p rs f2):=⟨hG'⟩;have kz2:Sh (Val Z2 f2 o2):=⟨by rw [hf2,ho2];exact kz⟩;replace ho2:Sh _:=⟨ho2⟩;replace hf2:Sh _:=⟨hf2⟩;clear hq gr ez hG' kz
 rename World=>W
 go_wp2_with fail;have hq:=QrG (by omega) W (hK.o.all _ Mm6);refine hq.mono ?_;intro e V h;obtain ⟨vd,rfl,ez⟩:=h.good;have hB:Sh (Below w.heap.size w V):=⟨hB.o.trans (h.below.mono hB.o.size)⟩;have hG:Sh (FB V gb p rs f2):=⟨hG.o.keep h.below⟩;have hK:Sh (Kg gb [gEo gb vd (d.map some),gEo gb v2 (Z2),gEo gb v1 (Z1),gEo gb vc (c.map some),gEo gb vg (g.map some),gEo gb va (a.map some),gEo gb vb (b.map some),gFB gb fb p (d :: rs) f0 hlt] V):=⟨(hK.o.keep h.below).add (gEo gb vd (d.map some)) ez⟩;clear hq h ez
 rename World=>W
 go_wp2_with fail;have hq:=ih (fb:=gb) lz2 (lt ld) (kz2.o.mono (fun h=>h)) (Val.some d _) W hG.o (hK.o.all _ Mm1) (hK.o.all _ Mm0);refine hq.mono ?_;rintro e V ⟨gr,v3,Z3,rfl,ez,lz3,hG',kz⟩;have hB:=hB.gn gr hgb;have hK:Sh (Kg gb [gEo gb v3 (Z3),gEo gb vd (d.map some),gEo gb v2 (Z2),gEo gb v1 (Z1),gEo gb vc (c.map some),gEo gb vg (g.map some),gEo gb va (a.map some),gEo gb vb (b.map some),gFB gb fb p (d :: rs) f0 hlt] V):=⟨(hK.o.step gr hG'.fc).add (gEo gb v3 Z3) ez⟩;obtain ⟨o3,ho3⟩:∃ o:Option (List Rat),o=o2.bind fun be=>mulR rs be d:=⟨_,rfl⟩;obtain ⟨f3,hf3⟩:∃ f,f=(f2 || o3.isNone):=⟨_,rfl⟩;replace hG':FB V gb p rs f3:=by rw [hf3,ho3];exact hG'
 have hG:Sh (FB V gb p rs f3):=⟨hG'⟩;have kz3:Sh (Val Z3 f3 o3):=⟨by rw [hf3,ho3];exact kz⟩;replace ho3:Sh _:=⟨ho3⟩;replace hf3:Sh _:=⟨hf3⟩;clear hq gr ez hG' kz
 rename World=>W
 go_wp2_with fail;have hq:=QrH (fb:=gb) lz1 lz3 hN W hG.o (hK.o.all _ Mm3) (hK.o.all _ Mm0) (kz1.o.mono (fun h=>by rw [hf3.o,hf2.o,h];rfl)) (kz3.o.mono (fun h=>h));refine hq.mono ?_;rintro e V ⟨gr,v4,Z4,rfl,ez,lz4,hG',kz⟩;have hB:=hB.gn gr hgb;have hK:Sh (Kg gb [gEo gb v4 (Z4),gEo gb v3 (Z3),gEo gb vd (d.map some),gEo gb v2 (Z2),gEo gb v1 (Z1),gEo gb vc (c.map some),gEo gb vg (g.map some),gEo gb va (a.map some),gEo gb vb (b.map some),gFB gb fb p (d :: rs) f0 hlt] V):=⟨(hK.o.step gr hG'.fc).add (gEo gb v4 Z4) ez⟩;obtain ⟨o4,ho4⟩:∃ o:Option (List Rat),o=o1.bind fun x=>o3.bind fun y=>Qaj addQ x y:=⟨_,rfl⟩;obtain ⟨f4,hf4⟩:∃ f,f=(f3 || o4.isNone):=⟨_,rfl⟩;replace hG':FB V gb p rs f4:=by rw [hf4,ho4];exact hG'
 have hG:Sh (FB V gb p rs f4):=⟨hG'⟩;have kz4:Sh (Val Z4 f4 o4):=⟨by rw [hf4,ho4];exact kz⟩;replace ho4:Sh _:=⟨ho4⟩;replace hf4:Sh _:=⟨hf4⟩;clear hq gr ez hG' kz
 rename World=>W
 go_wp2_with fail;have hq:=ih (fb:=gb) (lt la) (lt lg) (Val.some a _) (Val.some g _) W hG.o (hK.o.all _ Mm7) (hK.o.all _ Mm6);refine hq.mono ?_;rintro e V ⟨gr,v5,Z5,rfl,ez,lz5,hG',kz⟩;have hB:=hB.gn gr hgb;have hK:Sh (Kg gb [gEo gb v5 (Z5),gEo gb v4 (Z4),gEo gb v3 (Z3),gEo gb vd (d.map some),gEo gb v2 (Z2),gEo gb v1 (Z1),gEo gb vc (c.map some),gEo gb vg (g.map some),gEo gb va (a.map some),gEo gb vb (b.map some),gFB gb fb p (d :: rs) f0 hlt] V):=⟨(hK.o.step gr hG'.fc).add (gEo gb v5 Z5) ez⟩;obtain ⟨o5,ho5⟩:∃ o:Option (List Rat),o=mulR rs a g:=⟨_,rfl⟩;obtain ⟨f5,hf5⟩:∃ f,f=(f4 || o5.isNone):=⟨_,rfl⟩;replace hG':FB V gb p rs f5:=by rw [hf5,ho5];exact hG'
 have hG:Sh (FB V gb p rs f5):=⟨hG'⟩;have kz5:Sh (Val Z5 f5 o5):=⟨by rw [hf5,ho5];exact kz⟩;replace ho5:Sh _:=⟨ho5⟩;replace hf5:Sh _:=⟨hf5⟩;clear hq gr ez hG' kz
 rename World=>W
 go_wp2_with fail;have hq:=ih (fb:=gb) (lt lb) (lt lc) (Val.some b _) (Val.some c _) W hG.o (hK.o.all _ Mm9) (hK.o.all _ Mm6);refine hq.mono ?_;rintro e V ⟨gr,v6,Z6,rfl,ez,lz6,hG',kz⟩;have hB:=hB.gn gr hgb;have hK:Sh (Kg gb [gEo gb v6 (Z6),gEo gb v5 (Z5),gEo gb v4 (Z4),gEo gb v3 (Z3),gEo gb vd (d.map some),gEo gb v2 (Z2),gEo gb v1 (Z1),gEo gb vc (c.map some),gEo gb vg (g.map some),gEo gb va (a.map some),gEo gb vb (b.map some),gFB gb fb p (d :: rs) f0 hlt] V):=⟨(hK.o.step gr hG'.fc).add (gEo gb v6 Z6) ez⟩;obtain ⟨o6,ho6⟩:∃ o:Option (List Rat),o=mulR rs b c:=⟨_,rfl⟩;obtain ⟨f6,hf6⟩:∃ f,f=(f5 || o6.isNone):=⟨_,rfl⟩;replace hG':FB V gb p rs f6:=by rw [hf6,ho6];exact hG'
 have hG:Sh (FB V gb p rs f6):=⟨hG'⟩;have kz6:Sh (Val Z6 f6 o6):=⟨by rw [hf6,ho6];exact kz⟩;replace ho6:Sh _:=⟨ho6⟩;replace hf6:Sh _:=⟨hf6⟩;clear hq gr ez hG' kz
 rename World=>W
 go_wp2_with fail;have hq:=QrH (fb:=gb) lz5 lz6 hN W hG.o (hK.o.all _ Mm1) (hK.o.all _ Mm0) (kz5.o.mono (fun h=>by rw [hf6.o,h];rfl)) (kz6.o.mono (fun h=>h));refine hq.mono ?_;rintro e V ⟨gr,v7,Z7,rfl,ez,lz7,hG',kz⟩;have hB:=hB.gn gr hgb;have hK:Sh (Kg gb [gEo gb v7 (Z7),gEo gb v6 (Z6),gEo gb v5 (Z5),gEo gb v4 (Z4),gEo gb v3 (Z3),gEo gb vd (d.map some),gEo gb v2 (Z2),gEo gb v1 (Z1),gEo gb vc (c.map some),gEo gb vg (g.map some),gEo gb va (a.map some),gEo gb vb (b.map some),gFB gb fb p (d :: rs) f0 hlt] V):=⟨(hK.o.step gr hG'.fc).add (gEo gb v7 Z7) ez⟩;obtain ⟨o7,ho7⟩:∃ o:Option (List Rat),o=o5.bind fun x=>o6.bind fun y=>Qaj addQ x y:=⟨_,rfl⟩;obtain ⟨f7,hf7⟩:∃ f,f=(f6 || o7.isNone):=⟨_,rfl⟩;replace hG':FB V gb p rs f7:=by rw [hf7,ho7];exact hG'
 have hG:Sh (FB V gb p rs f7):=⟨hG'⟩;have kz7:Sh (Val Z7 f7 o7):=⟨by rw [hf7,ho7];exact kz⟩;replace ho7:Sh _:=⟨ho7⟩;replace hf7:Sh _:=⟨hf7⟩;clear hq gr ez hG' kz
 rename World=>W
 skip
 obtain ⟨cg,bg,_⟩:=hG.o.box;obtain ⟨cf,bf,_⟩:=(show FB W fb p (d :: rs) f0 from (hK.o.all _ Mm12)).box;have xg:=En.Qaa bg 1 (v:=.bool f7) rfl;have xf:=En.Qaa bf 1 (v:=.bool f0) rfl;have yf:=En.Qad bf 1;have HF:Sh (FB (W.setCell ⟨fb,1,none⟩ (.bool f7)) fb p (d :: rs) f7):=⟨(show FB W fb p (d :: rs) f0 from (hK.o.all _ Mm12)).set f7⟩;have hfc:=(show FB W fb p (d :: rs) f0 from (hK.o.all _ Mm12)).fc;have E4:Sh (Eo (W.setCell ⟨fb,1,none⟩ (.bool f7)) v4 Z4):=⟨Eo.grown (hK.o.all _ Mm3) hfc (Qar 1 _)⟩;have E7:Sh (Eo (W.setCell ⟨fb,1,none⟩ (.bool f7)) v7 Z7):=⟨Eo.grown (hK.o.all _ Mm0) hfc (Qar 1 _)⟩;clear bg bf hfc;go_wp2_with fail;have hq:=Qvp (by rw [lz4];omega) (by rw [lz7];omega) _ E4.o E7.o;refine hq.mono ?_;intro e V h;obtain ⟨v,rfl,ez⟩:=h.good;have u:=h.below;clear hq h;go_wp2_with fail;go_ret;have hs:f7=((o4.bind fun p=>o7.map fun q=>p++q)).isNone:=Qpc o1 o2 o5 o6 (fun be=>mulR rs be d) (fun x y=>Qaj addQ x y) (by rw [hf7.o,hf6.o,hf5.o,hf4.o,hf3.o,hf2.o,hf1.o,ho7.o,ho4.o,ho3.o,hf0.o];rfl) (by rw [ho7.o,ho4.o,ho3.o]);rw [←ho1.o,←ho2.o,←ho3.o,←ho4.o,←ho5.o,←ho6.o,←ho7.o];refine ⟨World.grownBy.trans (World.grownBy.trans (of_below hB.o (some fb)) (Qar 1 _)) (of_below u _),v,Z4++Z7,rfl,ez,by rw [List.length_append,lz4,lz7], ?_, ?_⟩
 ·rw [hf0.o,Bool.false_or,←hs];exact HF.o.keep u
 ·rw [hf0.o,Bool.false_or,←hs];intro hz;obtain ⟨q,e7,z7⟩:=kz7.o hz;obtain ⟨r,e4,z4⟩:=kz4.o.mono (fl':=f7) (fun h=>by rw [hf7.o,hf6.o,hf5.o,h];rfl) hz;exact ⟨r++q,by rw [e4,e7];rfl,by rw [z4,z7,List.map_append]⟩
theorem Qlx:∀ {rs:List (List Rat)},rs.length≤4→MulC rs
 | [],_=>QtE
 | d :: _,h=>by
  rw [List.length_cons] at h;exact QqT (by omega) d (Qlx (by omega))
theorem Qvu {rs:List (List Rat)} (hk:rs.length≤3) {d:List Rat} {X:List (Option Rat)} {fb:Nat} {p:Option Addr} {fl:Bool} {ox:Option (List Rat)} {vx:Value} (hX:X.length=2^(rs.length+1)) (kx:Val X fl ox) (w:World) (hf:FB w fb p (d :: rs) fl) (ex:Eo w vx X) :
  Calls Tryz.prog 180 #[.pointer (some ⟨fb,0,none⟩),vx] w fun e w'=>w.grownBy w' (some fb)∧∃ v Z,e = .returned v∧Eo w' v Z∧Z.length=2^rs.length∧FB w' fb p (d :: rs) (fl || (ox.bind fun x=>nrmR rs d x).isNone)∧Val Z (fl || (ox.bind fun x=>nrmR rs d x).isNone) (ox.bind fun x=>nrmR rs d x):=by
 have ih:MulC rs:=Qlx (by omega);obtain ⟨A,B,rfl,lA,lB⟩:∃ A B:List (Option Rat),X=A++B∧A.length=2^rs.length∧B.length=2^rs.length:=⟨X.take (2^rs.length),X.drop (2^rs.length),(List.take_append_drop _ _).symm,by rw [List.length_take,hX,Nat.pow_succ];omega,by rw [List.length_drop,hX,Nat.pow_succ];omega⟩;have hp:=QbG (show rs.length≤4 by omega);have ld:d.length=2^rs.length:=hf.rad.1;have lt:∀ {z:List Rat},z.length=2^rs.length→(z.map some).length=2^rs.length:=fun h=>by rw [List.length_map,h]
 have hN:1≤2^rs.length∧2^rs.length≤1000:=by omega
 have kk:fl=false→∃ a b:List Rat,ox=some (a++b)∧A=a.map some∧B=b.map some∧a.length=b.length:=fun h=>by
  obtain ⟨x,e1,e2⟩:=kx h;have hx:x.length=2^(rs.length+1):=by rw [←hX,e2,List.length_map]
  obtain ⟨a,b,rfl,la,lb⟩:=QcB hx;rw [List.map_append] at e2;obtain ⟨r1,r2⟩:=List.append_inj e2 (by rw [lA,List.length_map,la]);exact ⟨a,b,e1,r1,r2,by rw [la,lb]⟩
 have kA:Val A fl (ox.map hl):=fun h=>by
  obtain ⟨a,b,e1,e2,e3,e4⟩:=kk h;exact ⟨a,by rw [e1,Option.map_some,(QaB e4).1],e2⟩
 have kB:Val B fl (ox.map hr):=fun h=>by
  obtain ⟨a,b,e1,e2,e3,e4⟩:=kk h;exact ⟨b,by rw [e1,Option.map_some,(QaB e4).2],e3⟩
 obtain ⟨oa,hoa⟩:∃ o,o=ox.map hl:=⟨_,rfl⟩;obtain ⟨ob,hob⟩:∃ o,o=ox.map hr:=⟨_,rfl⟩;rw [←hoa] at kA;rw [←hob] at kB;replace hoa:Sh _:=⟨hoa⟩;replace hob:Sh _:=⟨hob⟩;replace kk:Sh _:=⟨kk⟩;obtain ⟨f0,hf0⟩:∃ f,f=fl:=⟨_,rfl⟩;rw [←hf0] at hf kA kB ⊢;replace hf0:Sh _:=⟨hf0⟩;replace kA:Sh _:=⟨kA⟩;replace kB:Sh _:=⟨kB⟩;have HW:Sh (FB w fb p (d :: rs) f0):=⟨hf⟩;have hfb:fb<w.heap.size:=by obtain ⟨_,hb,_⟩:=hf.box;exact (Array.getElem?_eq_some_iff.1 hb).1
 have EX:Sh (Eo w vx (A++B)):=⟨ex⟩;clear hf ex kx hX;go_enter Tryz.func180, Tryz.ntmps180;go_wp2_with fail;have hq:=Qko (by omega) w HW.o;refine hq.mono ?_;rintro e W ⟨⟨gb,rfl,hgb,hG⟩,u⟩;have hlt:fb<gb:=by omega
 have hB:Sh (Below w.heap.size w W):=⟨u⟩;have hK:Sh (Kg gb [gFB gb fb p (d :: rs) f0 hlt] W):=⟨⟨hG.fc,fun k hk=>by rw [List.mem_singleton.1 hk];exact HW.o.keep u⟩⟩;have hG:Sh (FB W gb p rs f0):=⟨hG⟩;have EX:Sh (Eo W vx (A++B)):=⟨EX.o.keep u⟩;clear hq u;go_wp2_with fail;have hq:=QfR (a:=A) (b:=B) (by rw [lA,lB]) ⟨by rw [lA];omega,by rw [lA];omega⟩ W EX.o;refine hq.mono ?_;rintro e V ⟨⟨va,vb,rfl,ea,eb⟩,u⟩;have hB:=hB.tr u;have hG:Sh (FB V gb p rs f0):=⟨hG.o.keep u⟩;have hK:Sh (Kg gb [gEo gb va (A),gEo gb vb (B),gFB gb fb p (d :: rs) f0 hlt] V):=⟨((hK.o.keep u).add (gEo gb vb (B)) eb).add (gEo gb va (A)) ea⟩
 try have EY:Sh (Eo V vy _):=⟨EY.o.keep u⟩
 clear hq ea eb u
 rename World=>W
 go_wp2_with fail;have hq:=ih (fb:=gb) lA lA (kA.o.mono (fun h=>h)) (kA.o.mono (fun h=>h)) W hG.o (hK.o.all _ Mm0) (hK.o.all _ Mm0);refine hq.mono ?_;rintro e V ⟨gr,v1,Z1,rfl,ez,lz1,hG',kz⟩;have hB:=hB.gn gr hgb;have hK:Sh (Kg gb [gEo gb v1 (Z1),gEo gb va (A),gEo gb vb (B),gFB gb fb p (d :: rs) f0 hlt] V):=⟨(hK.o.step gr hG'.fc).add (gEo gb v1 Z1) ez⟩;obtain ⟨o1,ho1⟩:∃ o:Option (List Rat),o=oa.bind fun x=>oa.bind fun y=>mulR rs x y:=⟨_,rfl⟩;obtain ⟨f1,hf1⟩:∃ f,f=(f0 || o1.isNone):=⟨_,rfl⟩;replace hG':FB V gb p rs f1:=by rw [hf1,ho1];exact hG'
 have hG:Sh (FB V gb p rs f1):=⟨hG'⟩;have kz1:Sh (Val Z1 f1 o1):=⟨by rw [hf1,ho1];exact kz⟩;replace ho1:Sh _:=⟨ho1⟩;replace hf1:Sh _:=⟨hf1⟩;clear hq gr ez hG' kz
 rename World=>W
 go_wp2_with fail;have hq:=ih (fb:=gb) lB lB (kB.o.mono (fun h=>by rw [hf1.o,h];rfl)) (kB.o.mono (fun h=>by rw [hf1.o,h];rfl)) W hG.o (hK.o.all _ Mm2) (hK.o.all _ Mm2);refine hq.mono ?_;rintro e V ⟨gr,v2,Z2,rfl,ez,lz2,hG',kz⟩;have hB:=hB.gn gr hgb;have hK:Sh (Kg gb [gEo gb v2 (Z2),gEo gb v1 (Z1),gEo gb va (A),gEo gb vb (B),gFB gb fb p (d :: rs) f0 hlt] V):=⟨(hK.o.step gr hG'.fc).add (gEo gb v2 Z2) ez⟩;obtain ⟨o2,ho2⟩:∃ o:Option (List Rat),o=ob.bind fun x=>ob.bind fun y=>mulR rs x y:=⟨_,rfl⟩;obtain ⟨f2,hf2⟩:∃ f,f=(f1 || o2.isNone):=⟨_,rfl⟩;replace hG':FB V gb p rs f2:=by rw [hf2,ho2];exact hG'
 have hG:Sh (FB V gb p rs f2):=⟨hG'⟩;have kz2:Sh (Val Z2 f2 o2):=⟨by rw [hf2,ho2];exact kz⟩;replace ho2:Sh _:=⟨ho2⟩;replace hf2:Sh _:=⟨hf2⟩;clear hq gr ez hG' kz
 rename World=>W
 go_wp2_with fail;have hq:=QrG (by omega) W (hK.o.all _ Mm4);refine hq.mono ?_;intro e V h;obtain ⟨vd,rfl,ez⟩:=h.good;have hB:Sh (Below w.heap.size w V):=⟨hB.o.trans (h.below.mono hB.o.size)⟩;have hG:Sh (FB V gb p rs f2):=⟨hG.o.keep h.below⟩;have hK:Sh (Kg gb [gEo gb vd (d.map some),gEo gb v2 (Z2),gEo gb v1 (Z1),gEo gb va (A),gEo gb vb (B),gFB gb fb p (d :: rs) f0 hlt] V):=⟨(hK.o.keep h.below).add (gEo gb vd (d.map some)) ez⟩;clear hq h ez
 rename World=>W
 go_wp2_with fail;have hq:=ih (fb:=gb) lz2 (lt ld) (kz2.o.mono (fun h=>h)) (Val.some d _) W hG.o (hK.o.all _ Mm1) (hK.o.all _ Mm0);refine hq.mono ?_;rintro e V ⟨gr,v3,Z3,rfl,ez,lz3,hG',kz⟩;have hB:=hB.gn gr hgb;have hK:Sh (Kg gb [gEo gb v3 (Z3),gEo gb vd (d.map some),gEo gb v2 (Z2),gEo gb v1 (Z1),gEo gb va (A),gEo gb vb (B),gFB gb fb p (d :: rs) f0 hlt] V):=⟨(hK.o.step gr hG'.fc).add (gEo gb v3 Z3) ez⟩;obtain ⟨o3,ho3⟩:∃ o:Option (List Rat),o=o2.bind fun be=>mulR rs be d:=⟨_,rfl⟩;obtain ⟨f3,hf3⟩:∃ f,f=(f2 || o3.isNone):=⟨_,rfl⟩;replace hG':FB V gb p rs f3:=by rw [hf3,ho3];exact hG'
 have hG:Sh (FB V gb p rs f3):=⟨hG'⟩;have kz3:Sh (Val Z3 f3 o3):=⟨by rw [hf3,ho3];exact kz⟩;replace ho3:Sh _:=⟨ho3⟩;replace hf3:Sh _:=⟨hf3⟩;clear hq gr ez hG' kz
 rename World=>W
 go_wp2_with fail;have hq:=Qvs (fb:=gb) lz1 lz3 hN W hG.o (hK.o.all _ Mm3) (hK.o.all _ Mm0) (kz1.o.mono (fun h=>by rw [hf3.o,hf2.o,h];rfl)) (kz3.o.mono (fun h=>h));refine hq.mono ?_;rintro e V ⟨gr,v4,Z4,rfl,ez,lz4,hG',kz⟩;have hB:=hB.gn gr hgb;have hK:Sh (Kg gb [gEo gb v4 (Z4),gEo gb v3 (Z3),gEo gb vd (d.map some),gEo gb v2 (Z2),gEo gb v1 (Z1),gEo gb va (A),gEo gb vb (B),gFB gb fb p (d :: rs) f0 hlt] V):=⟨(hK.o.step gr hG'.fc).add (gEo gb v4 Z4) ez⟩;obtain ⟨o4,ho4⟩:∃ o:Option (List Rat),o=o1.bind fun x=>o3.bind fun y=>Qaj subQ x y:=⟨_,rfl⟩;obtain ⟨f4,hf4⟩:∃ f,f=(f3 || o4.isNone):=⟨_,rfl⟩;replace hG':FB V gb p rs f4:=by rw [hf4,ho4];exact hG'
 have hG:Sh (FB V gb p rs f4):=⟨hG'⟩;have kz4:Sh (Val Z4 f4 o4):=⟨by rw [hf4,ho4];exact kz⟩;replace ho4:Sh _:=⟨ho4⟩;replace hf4:Sh _:=⟨hf4⟩;clear hq gr ez hG' kz
 rename World=>W
 obtain ⟨cg,bg,_⟩:=hG.o.box;obtain ⟨cf,bf,_⟩:=(show FB W fb p (d :: rs) f0 from (hK.o.all _ Mm7)).box;have xg:=En.Qaa bg 1 (v:=.bool f4) rfl;have xf:=En.Qaa bf 1 (v:=.bool f0) rfl;have yf:=En.Qad bf 1;have HF:Sh (FB (W.setCell ⟨fb,1,none⟩ (.bool f4)) fb p (d :: rs) f4):=⟨(show FB W fb p (d :: rs) f0 from (hK.o.all _ Mm7)).set f4⟩;have hfc:=(show FB W fb p (d :: rs) f0 from (hK.o.all _ Mm7)).fc;have E4:Sh (Eo (W.setCell ⟨fb,1,none⟩ (.bool f4)) v4 Z4):=⟨Eo.grown (hK.o.all _ Mm0) hfc (Qar 1 _)⟩;clear bg bf hfc;go_wp2_with fail;go_ret
 have hs:f4=(f0 || (ox.bind fun x=>nrmR rs d x).isNone)∧(f0=false→o4=ox.bind fun x=>nrmR rs d x):=by
  cases hfl:f0 with
  | true=>exact ⟨by rw [hf4.o,hf3.o,hf2.o,hf1.o,hfl];rfl,fun h=>by cases h⟩
  | false =>
   obtain ⟨a,b,e1,_,_,e4⟩:=kk.o (by rw [←hf0.o,hfl]);have ea:oa=some a:=by rw [hoa.o,e1,Option.map_some,(QaB e4).1]
   have eb:ob=some b:=by rw [hob.o,e1,Option.map_some,(QaB e4).2]
   have k4:o4=ox.bind fun x=>nrmR rs d x:=by
    rw [ho4.o,ho3.o,ho2.o,ho1.o,ea,eb,e1];simp only [Option.bind_some,nrmR,(QaB e4).1,(QaB e4).2]
   refine ⟨?_,fun _=>k4⟩;rw [Bool.false_or,←k4];exact Qpe o1 o2 (fun be=>mulR rs be d) (fun x y=>Qaj subQ x y) (by rw [hf4.o,hf3.o,hf2.o,hf1.o,ho4.o,ho3.o,hfl];rfl) (by rw [ho4.o,ho3.o])
 refine ⟨World.grownBy.trans (of_below hB.o (some fb)) (Qar 1 _),v4,Z4,rfl,E4.o,lz4, ?_, ?_⟩
 ·rw [←hs.1];exact HF.o
 ·rw [←hs.1];intro hz;have h0:f0=false:=by cases h:f0 with | false=>rfl | true=>(rw [hs.1,h] at hz;cases hz)
  obtain ⟨q,e4,z4⟩:=kz4.o hz;exact ⟨q,by rw [←hs.2 h0,e4],z4⟩
end Tw
end Go.Proofs.YtihlgifojjeoaaaGreatDoor
