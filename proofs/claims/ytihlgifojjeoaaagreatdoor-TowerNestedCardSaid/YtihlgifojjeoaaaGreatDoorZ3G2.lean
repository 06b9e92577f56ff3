/-
  Package tower: the closure of a field that encloses elements.
-/
import Derived.Test.YtihlgifojjeoaaaGreatDoorZ3G1
import Derived.Deep.RegionHeld
set_option maxRecDepth 1000000
set_option maxHeartbeats 40000000
open Go.Value renaming string→J
open Go.Obj renaming cells→Jc
namespace Go.Proofs.YtihlgifojjeoaaaGreatDoor
namespace Tw
open Go.RowKit Go.Extern.Stop Go.Stop Go.Extern
open En Go.Proofs.YtihlgifojjeoaaaGreatDoor.Nm Go.Proofs.YtihlgifojjeoaaaGreatDoor.Rt
abbrev ICt (f:Nat) (args:Array Value) (o:Option (Rat×Rat)) (W:World):Prop:=Calls Tryz.prog f args W fun e W'=>e = .returned (.tuple #[ivO o,.int .i64 (cI o)])∧Below W.heap.size W W'
theorem IC.t {a:Addr} {f:Nat} {args:Array Value} {o:Option (Rat×Rat)} (h:IC a f args o) {W:World} (hW:Ref a W):ICt f args o W:=by
 have:=h W hW
 rw [resI_eq] at this
 exact this
theorem Below.alloc2 {B:Nat} {w w':World} (h:Below B w w') (hB:B≤w.heap.size) (o:Obj):Below B w (w'.alloc o):=h.alloc (Nat.le_trans hB h.size) o
theorem encClo (a:Addr) {k:Nat} {caps:Array Value} (hk:Enters Tryz.prog k) (p:Nat) (hp:p≤30) {x y:List Rat} (hl:x.length=y.length) (hn:1≤x.length∧x.length≤500) {A B:Option (Rat×Rat)} {S:Rat×Rat} (oS:OkI S) (oA:∀ P,A=some P→OkI P) (oB:∀ P,B=some P→OkI P) (b5 b6 b3:Nat) {vx:Value} (w:World) (hv:Ref a w)
  (c5:w.cell? ⟨b5,0,none⟩=some (.func (.func k) #[] caps)) (n6:w.heap[b6]? = some (Jc #[J (txt S.1.num),J (txt (S.1.den:Int)),J (txt S.2.num),J (txt (S.2.den:Int))] 55 (0,0))) (c3:w.cell? ⟨b3,0,none⟩=some (.int .i64 (p:Int)))
  (hA:∀ V v,Below w.heap.size w V→El V v x→Calls Tryz.prog k (#[v]++caps) V (AnsI A V)) (hB:∀ V v,Below w.heap.size w V→El V v y→Calls Tryz.prog k (#[v]++caps) V (AnsI B V)) (ex:El w vx (x++y)) :
  Calls Tryz.prog 122 #[vx,.pointer (some ⟨b5,0,none⟩),.pointer (some ⟨b6,0,none⟩),.pointer (some ⟨b3,0,none⟩)] w (AnsI (B.bind fun b=>(muO b S).bind fun m=>A.bind fun a=>(adO a m).bind fun t=>rdO p t) w):=by
 have u0:=(Below.refl w.heap.size w).alloc (Nat.le_refl _) (Jc #[J ⟨#[]⟩,J ⟨#[]⟩,J ⟨#[]⟩,J ⟨#[]⟩] 55)
 have n_r:(w.alloc (Jc #[J ⟨#[]⟩,J ⟨#[]⟩,J ⟨#[]⟩,J ⟨#[]⟩] 55)).heap[w.heap.size]? = _:=World.alloc_heap_new w _
 have cH:=halves_O hl hn _ (ex.keep u0)
 have CA:Sh _:=⟨hA⟩
 have CB:Sh _:=⟨hB⟩
 have CM:Sh (∀ b,B=some b→∀ V,Below w.heap.size w V→ICt 123 #[.agg #[J (txt b.1.num),J (txt (b.1.den:Int)),J (txt b.2.num),J (txt (b.2.den:Int))],.agg #[J (txt S.1.num),J (txt (S.1.den:Int)),J (txt S.2.num),J (txt (S.2.den:Int))]] (muO b S) V):=⟨fun b hb V hV=>by
  have ob:=oB b hb
  exact IC.t (Mul_E a ob.1 ob.2.1 oS.1 oS.2.1 ob.2.2 oS.2.2).2 (hv.keep hV)⟩
 have OM:Sh (∀ b m,B=some b→muO b S=some m→OkI m):=⟨fun b m hb hm=>by
  have ob:=oB b hb
  have:=(Mul_E a ob.1 ob.2.1 oS.1 oS.2.1 ob.2.2 oS.2.2).1
  rw [hm] at this
  exact (mu_ok this).1⟩
 have CAd:Sh (∀ a' m,A=some a'→OkI m→∀ V,Below w.heap.size w V→ICt 29 #[.agg #[J (txt a'.1.num),J (txt (a'.1.den:Int)),J (txt a'.2.num),J (txt (a'.2.den:Int))],.agg #[J (txt m.1.num),J (txt (m.1.den:Int)),J (txt m.2.num),J (txt (m.2.den:Int))]] (adO a' m) V):=⟨fun a' m ha om V hV=>by
  have oa:=oA a' ha
  exact IC.t (Add_I a oa.1 oa.2.1 om.1 om.2.1 oa.2.2 om.2.2) (hv.keep hV)⟩
 have CR:Sh (∀ t,OkI t→∀ V,Below w.heap.size w V→ICt 73 #[.agg #[J (txt t.1.num),J (txt (t.1.den:Int)),J (txt t.2.num),J (txt (t.2.den:Int))],.int .i64 (p:Int)] (rdO p t) V):=⟨fun t ot V hV=>IC.t (Round_G a ot.1 ot.2.1 ot.2.2 hp) (hv.keep hV)⟩
 have OA:Sh _:=⟨oA⟩
 obtain ⟨O,hO⟩:∃ O,O=(B.bind fun b=>(muO b S).bind fun m=>A.bind fun a=>(adO a m).bind fun t=>rdO p t):=⟨_,rfl⟩
 rw [←hO]
 have HO:Sh _:=⟨hO⟩
 have HLT0:Sh (w.heap.size≠b5∧w.heap.size≠b3):=⟨⟨World.new_ne w ⟨b5,0,none⟩ c5,World.new_ne w ⟨b3,0,none⟩ c3⟩⟩
 have c5':=kcell c5 u0
 have n6':=En.lkeep n6 u0
 have c3':=kcell c3 u0
 have hen:=fun a w=>hk a w
 clear hO hA hB oA oB hv ex c5 n6 c3 hl hn oS hk hp
 go_enter Tryz.func122, Tryz.ntmps122
 go_wp2_with fail
 refine cH.mono ?_
 rintro e v0 ⟨⟨va,vb,rfl,ea,eb⟩,g⟩
 have u1:=u0.trans (g.mono u0.size)
 replace n_r:=En.lkeep n_r g
 replace c5':=kcell c5' g
 replace n6':=En.lkeep n6' g
 replace c3':=kcell c3' g
 clear g cH u0
 have q0:=En.lcell n6' 0 (v:=J (txt S.1.num)) rfl
 have q1:=En.lcell n6' 1 (v:=J (txt (S.1.den:Int))) rfl
 have q2:=En.lcell n6' 2 (v:=J (txt S.2.num)) rfl
 have q3:=En.lcell n6' 3 (v:=J (txt (S.2.den:Int))) rfl
 have EA:Sh _:=⟨ea⟩
 have EB:Sh _:=⟨eb⟩
 have N0:Sh _:=⟨(⟨c5',n6',c3',n_r⟩:_∧_∧_∧_)⟩
 have HLT:Sh (w.heap.size≠b5∧w.heap.size≠b3):=HLT0
 have HLT2:Sh (w.heap.size<v0.heap.size):=⟨(Array.getElem?_eq_some_iff.1 n_r).1⟩
 clear ea eb
 go_wp2_with fail
 go_cut [8] from 14 to 21 (fun s wx=>∃ b m g,B=some b∧muO b S=some m∧v0.heap.size≤g∧s = .pointer (some ⟨g,0,none⟩)∧wx.heap[g]? = some (Jc #[J (txt m.1.num),J (txt (m.1.den:Int)),J (txt m.2.num),J (txt (m.2.den:Int))] 55 (0,0))∧Below v0.heap.size v0 wx)
 case first =>
  have ne05:v0.heap.size≠b5:=World.new_ne v0 ⟨b5,0,none⟩ c5'
  have ne06:v0.heap.size≠b6:=World.new_ne v0 ⟨b6,0,none⟩ q0
  go_region_held (fun X=>X.cell? ⟨b5,0,none⟩=some (.func (.func k) #[] caps)∧X.cell? ⟨b6,0,none⟩=some (J (txt S.1.num))∧X.cell? ⟨b6,1,none⟩=some (J (txt (S.1.den:Int)))∧X.cell? ⟨b6,2,none⟩=some (J (txt S.2.num))∧X.cell? ⟨b6,3,none⟩=some (J (txt (S.2.den:Int)))) (go_keep) (first | (have hq:=CB.o v0.drew vb (ldrew u1) (EB.o.keep (ldrew (Below.refl _ _)));(with_reducible refine hq.mono ?_);intro e v1 h1;have k1:Below v0.heap.size v0 v1:=lundrew2 h1.below;rcases B with _ | b;(obtain rfl:=h1.bad rfl;dsimp +zetaDelta only [Exit.then,Exit.inBlock];exact ⟨rfl,u1.trans (k1.mono u1.size),fun P hP=>(by rw [HO.o] at hP;cases hP),fun _=>rfl⟩);obtain rfl:=h1.good b rfl;clear h1 hq;have q0:=kcell q0 k1;have q1:=kcell q1 k1;have q2:=kcell q2 k1;have q3:=kcell q3 k1;have c5':=kcell c5' k1;have ne15:v1.heap.size≠b5:=World.new_ne v1 ⟨b5,0,none⟩ c5';have ne16:v1.heap.size≠b6:=World.new_ne v1 ⟨b6,0,none⟩ q0) | (have hq:=CB.o (v0.alloc (Jc #[J ⟨#[]⟩,J ⟨#[]⟩,J ⟨#[]⟩,J ⟨#[]⟩] 55)).drew vb (ldrew (u1.alloc u1.size (Jc #[J ⟨#[]⟩,J ⟨#[]⟩,J ⟨#[]⟩,J ⟨#[]⟩] 55))) (EB.o.keep (ldrew ((Below.refl _ _).alloc (Nat.le_refl _) (Jc #[J ⟨#[]⟩,J ⟨#[]⟩,J ⟨#[]⟩,J ⟨#[]⟩] 55))));(with_reducible refine hq.mono ?_);intro e v1 h1;have k1:Below v0.heap.size v0 v1:=((Below.refl v0.heap.size v0).alloc (Nat.le_refl _) (Jc #[J ⟨#[]⟩,J ⟨#[]⟩,J ⟨#[]⟩,J ⟨#[]⟩] 55)).trans ((lundrew2 h1.below).mono (by simp));have n8:=En.lkeep (World.alloc_heap_new v0 (Jc #[J ⟨#[]⟩,J ⟨#[]⟩,J ⟨#[]⟩,J ⟨#[]⟩] 55)) (lundrew2 h1.below);rcases B with _ | b;(obtain rfl:=h1.bad rfl;dsimp +zetaDelta only [Exit.then,Exit.inBlock];exact ⟨rfl,u1.trans (k1.mono u1.size),fun P hP=>(by rw [HO.o] at hP;cases hP),fun _=>rfl⟩);obtain rfl:=h1.good b rfl;clear h1 hq;have q0:=kcell q0 k1;have q1:=kcell q1 k1;have q2:=kcell q2 k1;have q3:=kcell q3 k1;have c5':=kcell c5' k1;have ne15:v1.heap.size≠b5:=World.new_ne v1 ⟨b5,0,none⟩ c5';have ne16:v1.heap.size≠b6:=World.new_ne v1 ⟨b6,0,none⟩ q0) | (go_at_call 123; have hq:=CM.o b rfl v1 (u1.trans (k1.mono u1.size));(with_reducible refine hq.mono ?_);rintro e v2 ⟨rfl,g2⟩;have k2:=k1.trans (g2.mono k1.size);(try (replace n8:=En.lkeep n8 g2));have q0:=kcell (En.lcell N0.o.2.1 0 rfl) k2;have q1:=kcell (En.lcell N0.o.2.1 1 rfl) k2;have q2:=kcell (En.lcell N0.o.2.1 2 rfl) k2;have q3:=kcell (En.lcell N0.o.2.1 3 rfl) k2;have c5':=kcell N0.o.1 k2;have ne25:v2.heap.size≠b5:=World.new_ne v2 ⟨b5,0,none⟩ c5';have ne26:v2.heap.size≠b6:=World.new_ne v2 ⟨b6,0,none⟩ q0;clear hq) | (go_at_call 123; have hq:=CM.o b rfl (v1.alloc (Jc #[J ⟨#[]⟩,J ⟨#[]⟩,J ⟨#[]⟩,J ⟨#[]⟩] 55)) (u1.trans ((k1.alloc k1.size (Jc #[J ⟨#[]⟩,J ⟨#[]⟩,J ⟨#[]⟩,J ⟨#[]⟩] 55)).mono u1.size));(with_reducible refine hq.mono ?_);rintro e v2 ⟨rfl,g2⟩;have k2:=(k1.alloc k1.size (Jc #[J ⟨#[]⟩,J ⟨#[]⟩,J ⟨#[]⟩,J ⟨#[]⟩] 55)).trans (g2.mono (k1.alloc k1.size (Jc #[J ⟨#[]⟩,J ⟨#[]⟩,J ⟨#[]⟩,J ⟨#[]⟩] 55)).size);have n8:=En.lkeep (World.alloc_heap_new v1 (Jc #[J ⟨#[]⟩,J ⟨#[]⟩,J ⟨#[]⟩,J ⟨#[]⟩] 55)) g2;have q0:=kcell (En.lcell N0.o.2.1 0 rfl) k2;have q1:=kcell (En.lcell N0.o.2.1 1 rfl) k2;have q2:=kcell (En.lcell N0.o.2.1 2 rfl) k2;have q3:=kcell (En.lcell N0.o.2.1 3 rfl) k2;have c5':=kcell N0.o.1 k2;have ne25:v2.heap.size≠b5:=World.new_ne v2 ⟨b5,0,none⟩ c5';have ne26:v2.heap.size≠b6:=World.new_ne v2 ⟨b6,0,none⟩ q0;clear hq) | (go_at_call 72; have hq:=mustI_O (muO b S) v2;(with_reducible refine hq.mono ?_);intro e v3 h3;have k3:=k2.trans (h3.below.mono k2.size);(try (replace n8:=En.lkeep n8 h3.below));rcases hM:muO b S with _ | m;(obtain rfl:=h3.bad hM;dsimp +zetaDelta only [Exit.then,Exit.inBlock];exact ⟨rfl,u1.trans (k3.mono u1.size),fun P hP=>(by rw [HO.o,Option.bind_some,hM] at hP;cases hP),fun _=>rfl⟩);obtain rfl:=h3.good m hM;(try (have z0:=En.lcell n8 0 (v:=J ⟨#[]⟩) rfl;have z1:=En.lcell n8 1 (v:=J ⟨#[]⟩) rfl;have z2:=En.lcell n8 2 (v:=J ⟨#[]⟩) rfl;have z3:=En.lcell n8 3 (v:=J ⟨#[]⟩) rfl;have y0:=En.lfree n8 0;have y1:=En.lfree n8 1;have y2:=En.lfree n8 2;have y3:=En.lfree n8 3));have q0:=kcell (En.lcell N0.o.2.1 0 rfl) k3;have q1:=kcell (En.lcell N0.o.2.1 1 rfl) k3;have q2:=kcell (En.lcell N0.o.2.1 2 rfl) k3;have q3:=kcell (En.lcell N0.o.2.1 3 rfl) k3;have c5':=kcell N0.o.1 k3;have ne35:v3.heap.size≠b5:=World.new_ne v3 ⟨b5,0,none⟩ c5';have ne36:v3.heap.size≠b6:=World.new_ne v3 ⟨b6,0,none⟩ q0;clear hq h3) | (go_at_call 72; have hq:=mustI_O (muO b S) (v2.alloc (Jc #[J ⟨#[]⟩,J ⟨#[]⟩,J ⟨#[]⟩,J ⟨#[]⟩] 55));(with_reducible refine hq.mono ?_);intro e v3 h3;have k3:=(k2.alloc k2.size (Jc #[J ⟨#[]⟩,J ⟨#[]⟩,J ⟨#[]⟩,J ⟨#[]⟩] 55)).trans (h3.below.mono (k2.alloc k2.size (Jc #[J ⟨#[]⟩,J ⟨#[]⟩,J ⟨#[]⟩,J ⟨#[]⟩] 55)).size);have n8:=En.lkeep (World.alloc_heap_new v2 (Jc #[J ⟨#[]⟩,J ⟨#[]⟩,J ⟨#[]⟩,J ⟨#[]⟩] 55)) h3.below;rcases hM:muO b S with _ | m;(obtain rfl:=h3.bad hM;dsimp +zetaDelta only [Exit.then,Exit.inBlock];exact ⟨rfl,u1.trans (k3.mono u1.size),fun P hP=>(by rw [HO.o,Option.bind_some,hM] at hP;cases hP),fun _=>rfl⟩);obtain rfl:=h3.good m hM;(try (have z0:=En.lcell n8 0 (v:=J ⟨#[]⟩) rfl;have z1:=En.lcell n8 1 (v:=J ⟨#[]⟩) rfl;have z2:=En.lcell n8 2 (v:=J ⟨#[]⟩) rfl;have z3:=En.lcell n8 3 (v:=J ⟨#[]⟩) rfl;have y0:=En.lfree n8 0;have y1:=En.lfree n8 1;have y2:=En.lfree n8 2;have y3:=En.lfree n8 3));have q0:=kcell (En.lcell N0.o.2.1 0 rfl) k3;have q1:=kcell (En.lcell N0.o.2.1 1 rfl) k3;have q2:=kcell (En.lcell N0.o.2.1 2 rfl) k3;have q3:=kcell (En.lcell N0.o.2.1 3 rfl) k3;have c5':=kcell N0.o.1 k3;have ne35:v3.heap.size≠b5:=World.new_ne v3 ⟨b5,0,none⟩ c5';have ne36:v3.heap.size≠b6:=World.new_ne v3 ⟨b6,0,none⟩ q0;clear hq h3) | fail)
  all_goals
   go_wp2_with fail
   go_meet
   first
    | exact ⟨b,m,_,rfl,hM,(by first | exact Nat.le_refl _ | exact k1.size | exact k2.size | exact k3.size),rfl,box4_set n8,(((k3.setCell (by first | exact Nat.le_refl _ | exact k1.size | exact k2.size) _).setCell (by first | exact Nat.le_refl _ | exact k1.size | exact k2.size) _).setCell (by first | exact Nat.le_refl _ | exact k1.size | exact k2.size) _).setCell (by first | exact Nat.le_refl _ | exact k1.size | exact k2.size) _⟩
    | exact ⟨b,m,_,rfl,hM,k3.size,rfl,World.alloc_heap_new v3 (Jc #[J (txt m.1.num),J (txt (m.1.den:Int)),J (txt m.2.num),J (txt (m.2.den:Int))] 55),k3.alloc k3.size (Jc #[J (txt m.1.num),J (txt (m.1.den:Int)),J (txt m.2.num),J (txt (m.2.den:Int))] 55)⟩
 case rest =>
  obtain ⟨b,m,g,rfl,hm,hg,rfl,ng,kx⟩:=hcut
  have ux:=u1.trans (kx.mono u1.size)
  have HM:Sh (muO b S=some m):=⟨hm⟩
  have OKM:Sh (OkI m):=⟨OM.o b m rfl hm⟩
  have NG:Sh _:=⟨ng⟩
  have N5:Sh _:=⟨kcell N0.o.1 kx⟩
  have N3:Sh _:=⟨kcell N0.o.2.2.1 kx⟩
  have NR:Sh _:=⟨En.lkeep N0.o.2.2.2 kx⟩
  have hr1:w.heap.size≠b5:=HLT.o.1
  have hr2:w.heap.size≠b3:=HLT.o.2
  have hr3:w.heap.size≠g:=by have:=HLT2.o;omega
  have EA2:Sh _:=⟨EA.o.keep kx⟩
  clear hm ng q0 q1 q2 q3 c5' c3' n6' n_r N0 CB CM OM hg kx EA EB
  have g0:=En.lcell NG.o 0 (v:=J (txt m.1.num)) rfl
  have g1:=En.lcell NG.o 1 (v:=J (txt (m.1.den:Int))) rfl
  have g2:=En.lcell NG.o 2 (v:=J (txt m.2.num)) rfl
  have g3:=En.lcell NG.o 3 (v:=J (txt (m.2.den:Int))) rfl
  have c5':=N5.o
  have c3':=N3.o
  go_wp2_with fail
  go_region_held (fun X=>X.cell? ⟨b5,0,none⟩=some (.func (.func k) #[] caps)∧X.cell? ⟨b3,0,none⟩=some (.int .i64 (p:Int))∧X.cell? ⟨g,0,none⟩=some (J (txt m.1.num))∧X.cell? ⟨g,1,none⟩=some (J (txt (m.1.den:Int)))∧X.cell? ⟨g,2,none⟩=some (J (txt m.2.num))∧X.cell? ⟨g,3,none⟩=some (J (txt (m.2.den:Int)))) (go_keep) (first | (have hq:=CA.o wc.drew va (ldrew ux) (EA2.o.keep (ldrew (Below.refl _ _)));(with_reducible refine hq.mono ?_);intro e w1 h1;have k1:Below wc.heap.size wc w1:=lundrew2 h1.below;rcases A with _ | a';(obtain rfl:=h1.bad rfl;dsimp +zetaDelta only [Exit.then,Exit.inBlock];exact ⟨rfl,ux.trans (k1.mono ux.size),fun P hP=>(by rw [HO.o,Option.bind_some,HM.o,Option.bind_some,Option.bind_none] at hP;cases hP),fun _=>rfl⟩);obtain rfl:=h1.good a' rfl;have g0:=kcell (En.lcell NG.o 0 rfl) k1;have g1:=kcell (En.lcell NG.o 1 rfl) k1;have g2:=kcell (En.lcell NG.o 2 rfl) k1;have g3:=kcell (En.lcell NG.o 3 rfl) k1;have c5':=kcell N5.o k1;have c3':=kcell N3.o k1;have nr:=En.lkeep NR.o k1;have r0:=En.lcell nr 0 (v:=J ⟨#[]⟩) rfl;have f0:=En.lfree nr 0;have r1:=En.lcell nr 1 (v:=J ⟨#[]⟩) rfl;have f1:=En.lfree nr 1;have r2:=En.lcell nr 2 (v:=J ⟨#[]⟩) rfl;have f2:=En.lfree nr 2;have r3:=En.lcell nr 3 (v:=J ⟨#[]⟩) rfl;have f3:=En.lfree nr 3;clear h1 hq) | (go_at_call 29; have hq:=CAd.o a' m rfl OKM.o w1 (ux.trans (k1.mono ux.size));(with_reducible refine hq.mono ?_);rintro e w2 ⟨rfl,g2⟩;have k2:=k1.trans (g2.mono k1.size);have g0:=kcell (En.lcell NG.o 0 rfl) k2;have g1:=kcell (En.lcell NG.o 1 rfl) k2;have g2:=kcell (En.lcell NG.o 2 rfl) k2;have g3:=kcell (En.lcell NG.o 3 rfl) k2;have c5':=kcell N5.o k2;have c3':=kcell N3.o k2;have nr:=En.lkeep NR.o k2;have r0:=En.lcell nr 0 (v:=J ⟨#[]⟩) rfl;have f0:=En.lfree nr 0;have r1:=En.lcell nr 1 (v:=J ⟨#[]⟩) rfl;have f1:=En.lfree nr 1;have r2:=En.lcell nr 2 (v:=J ⟨#[]⟩) rfl;have f2:=En.lfree nr 2;have r3:=En.lcell nr 3 (v:=J ⟨#[]⟩) rfl;have f3:=En.lfree nr 3;clear hq) | (go_at_call 72; have hq:=mustI_O (adO a' m) w2;(with_reducible refine hq.mono ?_);intro e w3 h3;have k3:=k2.trans (h3.below.mono k2.size);rcases hT:adO a' m with _ | t;(obtain rfl:=h3.bad hT;dsimp +zetaDelta only [Exit.then,Exit.inBlock];exact ⟨rfl,ux.trans (k3.mono ux.size),fun P hP=>(by rw [HO.o,Option.bind_some,HM.o,Option.bind_some,Option.bind_some,hT,Option.bind_none] at hP;cases hP),fun _=>rfl⟩);obtain rfl:=h3.good t hT;have OT:OkI t:=(ad_ok (OA.o a' rfl) OKM.o hT).1;have g0:=kcell (En.lcell NG.o 0 rfl) k3;have g1:=kcell (En.lcell NG.o 1 rfl) k3;have g2:=kcell (En.lcell NG.o 2 rfl) k3;have g3:=kcell (En.lcell NG.o 3 rfl) k3;have c5':=kcell N5.o k3;have c3':=kcell N3.o k3;have nr:=En.lkeep NR.o k3;have r0:=En.lcell nr 0 (v:=J ⟨#[]⟩) rfl;have f0:=En.lfree nr 0;have r1:=En.lcell nr 1 (v:=J ⟨#[]⟩) rfl;have f1:=En.lfree nr 1;have r2:=En.lcell nr 2 (v:=J ⟨#[]⟩) rfl;have f2:=En.lfree nr 2;have r3:=En.lcell nr 3 (v:=J ⟨#[]⟩) rfl;have f3:=En.lfree nr 3;clear hq h3) | (go_at_call 73; have hq:=CR.o t OT w3 (ux.trans (k3.mono ux.size));(with_reducible refine hq.mono ?_);rintro e w4 ⟨rfl,g4⟩;have k4:=k3.trans (g4.mono k3.size);have g0:=kcell (En.lcell NG.o 0 rfl) k4;have g1:=kcell (En.lcell NG.o 1 rfl) k4;have g2:=kcell (En.lcell NG.o 2 rfl) k4;have g3:=kcell (En.lcell NG.o 3 rfl) k4;have c5':=kcell N5.o k4;have c3':=kcell N3.o k4;have nr:=En.lkeep NR.o k4;have r0:=En.lcell nr 0 (v:=J ⟨#[]⟩) rfl;have f0:=En.lfree nr 0;have r1:=En.lcell nr 1 (v:=J ⟨#[]⟩) rfl;have f1:=En.lfree nr 1;have r2:=En.lcell nr 2 (v:=J ⟨#[]⟩) rfl;have f2:=En.lfree nr 2;have r3:=En.lcell nr 3 (v:=J ⟨#[]⟩) rfl;have f3:=En.lfree nr 3;clear hq) | (go_at_call 72; have hq:=mustI_O (rdO p t) w4;(with_reducible refine hq.mono ?_);intro e w5 h5;have k5:=k4.trans (h5.below.mono k4.size);rcases hD:rdO p t with _ | z;(obtain rfl:=h5.bad hD;dsimp +zetaDelta only [Exit.then,Exit.inBlock];exact ⟨rfl,ux.trans (k5.mono ux.size),fun P hP=>(by rw [HO.o,Option.bind_some,HM.o,Option.bind_some,Option.bind_some,hT,Option.bind_some,hD] at hP;cases hP),fun _=>rfl⟩);obtain rfl:=h5.good z hD;have HZ:Sh (O=some z):=⟨by rw [HO.o,Option.bind_some,HM.o,Option.bind_some,Option.bind_some,hT,Option.bind_some,hD]⟩;have g0:=kcell (En.lcell NG.o 0 rfl) k5;have g1:=kcell (En.lcell NG.o 1 rfl) k5;have g2:=kcell (En.lcell NG.o 2 rfl) k5;have g3:=kcell (En.lcell NG.o 3 rfl) k5;have c5':=kcell N5.o k5;have c3':=kcell N3.o k5;have nr:=En.lkeep NR.o k5;have r0:=En.lcell nr 0 (v:=J ⟨#[]⟩) rfl;have f0:=En.lfree nr 0;have r1:=En.lcell nr 1 (v:=J ⟨#[]⟩) rfl;have f1:=En.lfree nr 1;have r2:=En.lcell nr 2 (v:=J ⟨#[]⟩) rfl;have f2:=En.lfree nr 2;have r3:=En.lcell nr 3 (v:=J ⟨#[]⟩) rfl;have f3:=En.lfree nr 3;clear hq h5) | fail)
  all_goals
   go_wp2_with fail
   have s_r:=box4_set (x:=J (txt z.1.num)) (y:=J (txt (z.1.den:Int))) (z:=J (txt z.2.num)) (t:=J (txt (z.2.den:Int))) nr
   have y0:=En.lcell s_r 0 (v:=J (txt z.1.num)) rfl
   have y1:=En.lcell s_r 1 (v:=J (txt (z.1.den:Int))) rfl
   have y2:=En.lcell s_r 2 (v:=J (txt z.2.num)) rfl
   have y3:=En.lcell s_r 3 (v:=J (txt (z.2.den:Int))) rfl
   exact bodyPost_ret (v:=.agg #[J (txt z.1.num),J (txt (z.1.den:Int)),J (txt z.2.num),J (txt (z.2.den:Int))]) (by simp [results,Tryz.results122, go_sem,y0,y1,y2,y3]) rfl ⟨(((((ux.trans (k5.mono ux.size)).setCell (Nat.le_refl _) _).setCell (Nat.le_refl _) _).setCell (Nat.le_refl _) _).setCell (Nat.le_refl _) _),fun P hP=>(by rw [HZ.o] at hP;cases hP;rfl),fun hP=>(by rw [HZ.o] at hP;cases hP)⟩
end Tw
end Go.Proofs.YtihlgifojjeoaaaGreatDoor
