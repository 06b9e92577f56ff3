/-
  Package tower: encloser.
-/
import Derived.Test.YtihlgifojjeoaaaGreatDoorZ3G2
import Derived.Laws.EntriesVeiled
set_option maxRecDepth 1000000
set_option maxHeartbeats 40000000
open Go.Value renaming string→J
open Go.Obj renaming cells→Jc
namespace Go.Proofs.YtihlgifojjeoaaaGreatDoor
namespace Tw
open Go.RowKit Go.Extern.Stop Go.Stop Go.Extern
open En Go.Proofs.YtihlgifojjeoaaaGreatDoor.Nm Go.Proofs.YtihlgifojjeoaaaGreatDoor.Rt
structure Fr (base:Nat) (W V:World):Prop where
 size:W.heap.size≤V.heap.size
 at_:∀ g,base≤g→g<W.heap.size→V.heap[g]? = W.heap[g]?
theorem Fr.below {base:Nat} {W V V':World} (h:Fr base W V) (hB:Below V.heap.size V V'):Fr base W V':=⟨Nat.le_trans h.size hB.size,fun g h1 h2=>(hB.block g (Nat.lt_of_lt_of_le h2 h.size)).trans (h.at_ g h1 h2)⟩
theorem Fr.of_below {base:Nat} {W V:World} (hB:Below W.heap.size W V):Fr base W V:=⟨hB.size,fun g _ h2=>hB.block g h2⟩
theorem heap_set_ne (V:World) (b i:Nat) (x:Value) (g:Nat) (h:b≠g):(V.setCell ⟨b,i,none⟩ x).heap[g]? = V.heap[g]? := Below.heap_setCell _ _ _ _ (fun e=>h e.symm)
theorem Fr.set {base:Nat} {W V:World} (h:Fr base W V) (b i:Nat) (x:Value) (hb:b<base∨W.heap.size≤b):Fr base W (V.setCell ⟨b,i,none⟩ x) :=
 ⟨by simpa using h.size,fun g h1 h2=>(heap_set_ne V b i x g (by omega)).trans (h.at_ g h1 h2)⟩
def EncC (a:Addr) (rs:List (List Rat)) (p:Nat) (base:Nat) (W:World) (fv:Value):Prop:=∃ k caps,fv = .func (.func k) #[] caps∧Enters Tryz.prog k∧∀ V x v,Fr base W V→Ref a V→x.length=2^rs.length→FitL x→El V v x→Calls Tryz.prog k (#[v]++caps) V (AnsI (encO rs p x) V)
def RtOk (p:Nat):List (List Rat)→Prop
 | []=>True
 | d :: rs=>RtOk p rs∧(encO rs p d).bind (sqO p)≠none
theorem enc_none {p:Nat}:∀ {rs:List (List Rat)},¬ RtOk p rs→∀ x,encO rs p x=none
 | [],h,_=>absurd trivial h
 | d :: rs,h,x=>by
  rw [encO]
  by_cases h1:RtOk p rs
  ·have h2:(encO rs p d).bind (sqO p)=none:=Decidable.byContradiction fun k=>h ⟨h1,k⟩
   cases hD:encO rs p d with
   | none=>rfl
   | some D =>
    rw [hD,Option.bind_some] at h2
    rw [Option.bind_some,h2];rfl
  ·rw [enc_none h1 d];rfl
structure AnsN (a:Addr) (rs:List (List Rat)) (p:Nat) (w:World) (e:Ending) (w':World):Prop where
 below:Below w.heap.size w w'
 good:RtOk p rs→∃ fv,e = .returned fv∧EncC a rs p w.heap.size w' fv
 bad:¬ RtOk p rs→e = .panicked twP
def EncloserC (a:Addr) (rs:List (List Rat)) (p:Nat):Prop:=∀ {f:Value} (w:World),Ref a w→Fd w f rs→Calls Tryz.prog 71 #[f,.int .i64 (p:Int)] w (AnsN a rs p w)
theorem encloser_nil (a:Addr) (p:Nat):EncloserC a [] p:=by
 intro f w hv hf
 obtain rfl:f = .pointer none:=hf
 have u:=(Below.refl w.heap.size w).alloc (Nat.le_refl _) (Jc #[.int .i64 (p:Int)] 3)
 clear hv
 go_enter Tryz.func71, Tryz.ntmps71
 go_wp2_with fail
 go_ret
 refine ⟨u,fun _=>⟨_,rfl, 120, #[],rfl,enters_of Tryz.func120 (by kernel_rfl) rfl,fun V x v _ _ hx fx ex => ?_⟩,fun h=>absurd trivial h⟩
 exact enc1 (by simpa using hx) fx V ex
theorem Fr.trans {lb base:Nat} {Wl W V:World} (h:Fr lb Wl W) (h':Fr base W V) (hb:base≤lb):Fr lb Wl V :=
 ⟨Nat.le_trans h.size h'.size,fun g h1 h2=>(h'.at_ g (Nat.le_trans hb h1) (Nat.lt_of_lt_of_le h2 h.size)).trans (h.at_ g h1 h2)⟩
theorem encC_cons {a:Addr} {rs:List (List Rat)} (hk:rs.length≤3) (hfit:∀ d∈rs,FitL d) {d:List Rat} {p:Nat} (hp:p≤30) {base lb g5 g6 g3:Nat} {Wl W:World} {fv:Value} (hE:EncC a rs p lb Wl fv) (hFr:Fr lb Wl W) (hb:base≤lb) {P S:Rat×Rat} (hD:encO rs p d=some P) (hS:sqO p P=some S) (oP:OkI P)
  (b5:base≤g5) (n5:W.heap[g5]? = some (Jc #[fv] 93 (0,0))) (b6:base≤g6) (n6:W.heap[g6]? = some (Jc #[J (txt S.1.num),J (txt (S.1.den:Int)),J (txt S.2.num),J (txt (S.2.den:Int))] 55 (0,0))) (b3:base≤g3) (n3:W.heap[g3]? = some (Jc #[.int .i64 (p:Int)] 3 (0,0))) :
  EncC a (d :: rs) p base W (.func (.func 122) #[] #[.pointer (some ⟨g5,0,none⟩),.pointer (some ⟨g6,0,none⟩),.pointer (some ⟨g3,0,none⟩)]):=by
 obtain ⟨k,caps,rfl,hen,hC⟩:=hE
 refine ⟨_,_,rfl,enters_of Tryz.func122 (by kernel_rfl) rfl,fun V x v hV hv hx fx ex => ?_⟩
 obtain ⟨xa,xb,rfl,la,lb'⟩:=split2 (k:=rs.length) (by simpa using hx)
 have hpw:=pow_le (show rs.length≤4 by omega)
 have lt:∀ {g:Nat} {o:Obj},W.heap[g]? = some o→g<W.heap.size:=fun h=>(Array.getElem?_eq_some_iff.1 h).1
 have hl:xa.length=xb.length:=by rw [la,lb']
 have hA:=fun (y:List Rat) (hy:y.length=2^rs.length) (fy:FitL y) (V':World) (v':Value) (hB:Below V.heap.size V V') (e':El V' v' y)=>hC V' y v' ((hFr.trans hV hb).below hB) (hv.keep hB) hy fy e'
 have c:=encClo a hen p hp hl (by omega) (A:=encO rs p xa) (B:=encO rs p xb) (sq_ok hp oP hS).1 (fun Q hQ=>encO_ok hp hfit fx.app.1 hQ) (fun Q hQ=>encO_ok hp hfit fx.app.2 hQ) g5 g6 g3 V hv
  (En.lcell ((hV.at_ g5 b5 (lt n5)).trans n5) 0 rfl) ((hV.at_ g6 b6 (lt n6)).trans n6) (En.lcell ((hV.at_ g3 b3 (lt n3)).trans n3) 0 rfl) (hA xa la fx.app.1) (hA xb lb' fx.app.2) ex
 rw [encO,hD,Option.bind_some,hS,Option.bind_some,(half_of hl).1,(half_of hl).2]
 exact c
theorem encloser_cons (a:Addr) {rs:List (List Rat)} (hk:rs.length≤3) (d:List Rat) (p:Nat) (hp:p≤30) (hfit:∀ d∈rs,FitL d) (ih:EncloserC a rs p):EncloserC a (d :: rs) p:=by
 intro f w hv hf
 have hpw:=pow_le (show rs.length≤4 by omega)
 obtain ⟨fb,lv,rv,rfl,n_f,hl,er,hd,fd⟩:=hf
 obtain ⟨pl,rfl⟩:=hl.ptr
 obtain ⟨br,orr,cr,rfl,_,_⟩:=er.ex
 have u0:=(Below.refl w.heap.size w).alloc (Nat.le_refl _) (Jc #[.int .i64 (p:Int)] 3)
 have n3:=World.alloc_heap_new w (Jc #[.int .i64 (p:Int)] 3)
 have nf:=En.lkeep n_f u0
 have hlt:fb≠w.heap.size:=Nat.ne_of_lt (Array.getElem?_eq_some_iff.1 n_f).1
 have CE:Sh (∀ V,Below w.heap.size w V→Calls Tryz.prog 71 #[.pointer pl,.int .i64 (p:Int)] V (AnsN a rs p V)):=⟨fun V hV=>ih V (hv.keep hV) (Fd.keep hV hl)⟩
 have HV:Sh _:=⟨hv⟩
 have HE:Sh _:=⟨er⟩
 have HP:Sh (p≤30∧d.length=2^rs.length∧1≤d.length∧d.length≤16∧rs.length≤3):=⟨⟨hp,hd,by omega,by omega,hk⟩⟩
 have HF:Sh (FitL d∧∀ d∈rs,FitL d):=⟨⟨fd,hfit⟩⟩
 have f0:=En.lcell nf 0 (v:=.pointer pl) rfl
 have f1:=En.lcell nf 1 (v:=.slice (some ⟨br,orr,none⟩) d.length cr) rfl
 have p0:=En.lcell n3 0 (v:=.int .i64 (p:Int)) rfl
 clear hv hl er hd fd hp hpw hk hfit ih n_f
 go_enter Tryz.func71, Tryz.ntmps71
 go_wp2_with fail
 generalize hW0:w.alloc (Jc #[.int .i64 (p:Int)] 3)=v0 at *
 have HS:Sh (v0.heap.size=w.heap.size+1):=⟨by rw [←hW0];simp⟩
 clear hW0
 have N0:Sh _:=⟨(⟨nf,n3⟩:_∧_)⟩
 go_cut [5] from 9 to 14 (fun s wx=>∃ g fv lb Wl,s = .pointer (some ⟨g,0,none⟩)∧wx.heap[g]? = some (Jc #[fv] 93 (0,0))∧RtOk p rs∧EncC a rs p lb Wl fv∧v0.heap.size≤lb∧Fr lb Wl wx∧v0.heap.size≤g∧Below v0.heap.size v0 wx)
 case first =>
  have ne01:v0.heap.size≠fb:=World.new_ne v0 ⟨fb,0,none⟩ f0
  have ne02:v0.heap.size≠w.heap.size:=World.new_ne v0 ⟨w.heap.size,0,none⟩ p0
  go_region_held (fun X=>X.cell? ⟨fb,0,none⟩=some (.pointer pl)∧X.cell? ⟨w.heap.size,0,none⟩=some (.int .i64 (p:Int))) (go_keep) (first | (have hq:=CE.o v0.drew (ldrew u0);(with_reducible refine hq.mono ?_);intro e v1 h1;have k1:Below v0.heap.size v0 v1:=lundrew2 h1.below;by_cases hr:RtOk p rs;rotate_left;(obtain rfl:=h1.bad hr;dsimp +zetaDelta only [Exit.then,Exit.inBlock];exact ⟨rfl,u0.trans (k1.mono u0.size),fun h=>absurd h.1 hr,fun _=>rfl⟩);obtain ⟨fv,rfl,k,caps,rfl,hen,hC⟩:=h1.good hr;have HR:Sh (RtOk p rs):=⟨hr⟩;have HEC:Sh (∃ lb,EncC a rs p lb v1 (.func (.func k) #[] caps)∧v0.heap.size≤lb):=⟨⟨v0.heap.size,⟨k,caps,rfl,hen,hC⟩,Nat.le_refl _⟩⟩;clear hr h1 hq hC;have f0:=kcell (En.lcell N0.o.1 0 rfl) k1;have p0:=kcell (En.lcell N0.o.2 0 rfl) k1;have ne11:v1.heap.size≠fb:=World.new_ne v1 ⟨fb,0,none⟩ f0;have ne12:v1.heap.size≠w.heap.size:=World.new_ne v1 ⟨w.heap.size,0,none⟩ p0) | (have hq:=CE.o (v0.alloc (Jc #[.nilFunc] 93)).drew (ldrew (u0.alloc u0.size (Jc #[.nilFunc] 93)));(with_reducible refine hq.mono ?_);intro e v1 h1;have k1:Below v0.heap.size v0 v1:=((Below.refl v0.heap.size v0).alloc (Nat.le_refl _) (Jc #[.nilFunc] 93)).trans ((lundrew2 h1.below).mono (by simp));have n5:=En.lkeep (World.alloc_heap_new v0 (Jc #[.nilFunc] 93)) (lundrew2 h1.below);by_cases hr:RtOk p rs;rotate_left;(obtain rfl:=h1.bad hr;dsimp +zetaDelta only [Exit.then,Exit.inBlock];exact ⟨rfl,u0.trans (k1.mono u0.size),fun h=>absurd h.1 hr,fun _=>rfl⟩);obtain ⟨fv,rfl,k,caps,rfl,hen,hC⟩:=h1.good hr;have HR:Sh (RtOk p rs):=⟨hr⟩;have HEC:Sh (∃ lb,EncC a rs p lb v1 (.func (.func k) #[] caps)∧v0.heap.size<lb):=⟨⟨(v0.alloc (Jc #[.nilFunc] 93)).heap.size,⟨k,caps,rfl,hen,hC⟩,by simp⟩⟩;clear hr h1 hq hC;have z0:=En.lcell n5 0 (v:=.nilFunc) rfl;have y0:=En.lfree n5 0;have f0:=kcell (En.lcell N0.o.1 0 rfl) k1;have p0:=kcell (En.lcell N0.o.2 0 rfl) k1;have ne11:v1.heap.size≠fb:=World.new_ne v1 ⟨fb,0,none⟩ f0;have ne12:v1.heap.size≠w.heap.size:=World.new_ne v1 ⟨w.heap.size,0,none⟩ p0) | fail)
  all_goals
   go_wp2_with fail
   go_meet
   first
    | (obtain ⟨lb,hE,hlb⟩:=HEC.o;exact ⟨_,_,lb,v1,rfl,box1_set n5,HR.o,hE,Nat.le_of_lt hlb,(Fr.of_below (Below.refl _ _)).set _ _ _ (.inl hlb),Nat.le_refl _,k1.setCell (Nat.le_refl _) _⟩)
    | (obtain ⟨lb,hE,hlb⟩:=HEC.o;exact ⟨_,_,lb,v1,rfl,World.alloc_heap_new v1 (Jc #[.func (.func k) #[] caps] 93),HR.o,hE,hlb,Fr.of_below ((Below.refl v1.heap.size v1).alloc (Nat.le_refl _) (Jc #[.func (.func k) #[] caps] 93)),k1.size,k1.alloc k1.size (Jc #[.func (.func k) #[] caps] 93)⟩)
 case rest =>
  obtain ⟨g,fv,lb,Wl,rfl,ng,hr,⟨k,caps,rfl,hen,hC⟩,hlb,hFr,hg,kx⟩:=hcut
  have ux:=u0.trans (kx.mono u0.size)
  obtain ⟨D,hD0⟩:∃ D,D=encO rs p d:=⟨_,rfl⟩
  have HD:Sh (encO rs p d=D):=⟨hD0.symm⟩
  have HFr:Sh _:=⟨hFr⟩
  have CC:Sh (∀ V,Fr lb Wl V→Below w.heap.size w V→Calls Tryz.prog k (#[.slice (some ⟨br,orr,none⟩) d.length cr]++caps) V (AnsI D V)):=⟨fun V h1 h2=>by rw [hD0];exact hC V d _ h1 (HV.o.keep h2) HP.o.2.1 HF.o.1 (HE.o.keep h2)⟩
  have OD:Sh (∀ P,D=some P→OkI P):=⟨fun P h=>encO_ok HP.o.1 HF.o.2 HF.o.1 (by rw [←hD0];exact h)⟩
  have CS:Sh (∀ P,D=some P→∀ V,Below w.heap.size w V→ICt 121 #[.agg #[J (txt P.1.num),J (txt (P.1.den:Int)),J (txt P.2.num),J (txt (P.2.den:Int))],.int .i64 (p:Int)] (sqO p P) V):=⟨fun P h V hV=>IC.t (Sqrt_G a (OD.o P h).1 (OD.o P h).2.1 (OD.o P h).2.2 HP.o.1) (HV.o.keep hV)⟩
  have NC5:Sh _:=⟨En.lcell ng 0 (v:=.func (.func k) #[] caps) rfl⟩
  have NF1:Sh _:=⟨kcell (En.lcell N0.o.1 1 rfl) kx⟩
  have NP0:Sh _:=⟨kcell (En.lcell N0.o.2 0 rfl) kx⟩
  have NG:Sh _:=⟨ng⟩
  have N3:Sh _:=⟨En.lkeep N0.o.2 kx⟩
  have HEC:Sh (EncC a rs p lb Wl (.func (.func k) #[] caps)∧w.heap.size≤lb∧w.heap.size≤g∧RtOk p rs∧w.heap.size<wc.heap.size):=⟨⟨⟨k,caps,rfl,hen,hC⟩,by have:=HS.o;omega,by have:=HS.o;omega,hr,by have:=HS.o;have:=kx.size;omega⟩⟩
  clear f0 f1 p0 N0 HV HE CE hC hlb hg kx u0 hFr hr ng hD0 HS nf n3 hlt
  have f1:=NF1.o
  have p0:=NP0.o
  have c5:=NC5.o
  have ne01:wc.heap.size≠fb:=World.new_ne wc ⟨fb,1,none⟩ f1
  have ne02:wc.heap.size≠w.heap.size:=World.new_ne wc ⟨w.heap.size,0,none⟩ p0
  have ne03:wc.heap.size≠g:=World.new_ne wc ⟨g,0,none⟩ c5
  go_wp2_with fail
  have hen':=fun a w=>hen a w
  go_region_held (fun X=>X.cell? ⟨fb,1,none⟩=some (.slice (some ⟨br,orr,none⟩) d.length cr)∧X.cell? ⟨w.heap.size,0,none⟩=some (.int .i64 (p:Int))∧X.cell? ⟨g,0,none⟩=some (.func (.func k) #[] caps)) (go_keep) (first | (have hq:=CC.o wc.drew (HFr.o.below (ldrew (Below.refl _ _))) (ldrew ux);(with_reducible refine hq.mono ?_);intro e x1 h1;have k1:Below wc.heap.size wc x1:=lundrew2 h1.below;rcases hD:D with _ | P;(obtain rfl:=h1.bad hD;dsimp +zetaDelta only [Exit.then,Exit.inBlock];exact ⟨rfl,ux.trans (k1.mono ux.size),fun h=>absurd (by rw [HD.o,hD];rfl) h.2,fun _=>rfl⟩);obtain rfl:=h1.good P hD;clear h1 hq;have f1:=kcell NF1.o k1;have p0:=kcell NP0.o k1;have c5:=kcell NC5.o k1;have ne11:x1.heap.size≠fb:=World.new_ne x1 ⟨fb,1,none⟩ f1;have ne12:x1.heap.size≠w.heap.size:=World.new_ne x1 ⟨w.heap.size,0,none⟩ p0;have ne13:x1.heap.size≠g:=World.new_ne x1 ⟨g,0,none⟩ c5) | (have hq:=CC.o (wc.alloc (Jc #[J ⟨#[]⟩,J ⟨#[]⟩,J ⟨#[]⟩,J ⟨#[]⟩] 55)).drew (HFr.o.below (ldrew ((Below.refl _ _).alloc (Nat.le_refl _) (Jc #[J ⟨#[]⟩,J ⟨#[]⟩,J ⟨#[]⟩,J ⟨#[]⟩] 55)))) (ldrew (ux.alloc ux.size (Jc #[J ⟨#[]⟩,J ⟨#[]⟩,J ⟨#[]⟩,J ⟨#[]⟩] 55)));(with_reducible refine hq.mono ?_);intro e x1 h1;have k1:Below wc.heap.size wc x1:=((Below.refl wc.heap.size wc).alloc (Nat.le_refl _) (Jc #[J ⟨#[]⟩,J ⟨#[]⟩,J ⟨#[]⟩,J ⟨#[]⟩] 55)).trans ((lundrew2 h1.below).mono (by simp));have n8:=En.lkeep (World.alloc_heap_new wc (Jc #[J ⟨#[]⟩,J ⟨#[]⟩,J ⟨#[]⟩,J ⟨#[]⟩] 55)) (lundrew2 h1.below);rcases hD:D with _ | P;(obtain rfl:=h1.bad hD;dsimp +zetaDelta only [Exit.then,Exit.inBlock];exact ⟨rfl,ux.trans (k1.mono ux.size),fun h=>absurd (by rw [HD.o,hD];rfl) h.2,fun _=>rfl⟩);obtain rfl:=h1.good P hD;clear h1 hq;have f1:=kcell NF1.o k1;have p0:=kcell NP0.o k1;have c5:=kcell NC5.o k1;have ne11:x1.heap.size≠fb:=World.new_ne x1 ⟨fb,1,none⟩ f1;have ne12:x1.heap.size≠w.heap.size:=World.new_ne x1 ⟨w.heap.size,0,none⟩ p0;have ne13:x1.heap.size≠g:=World.new_ne x1 ⟨g,0,none⟩ c5) | (go_at_call 121; have hq:=CS.o P hD x1 (ux.trans (k1.mono ux.size));(with_reducible refine hq.mono ?_);rintro e x2 ⟨rfl,g2⟩;have k2:=k1.trans (g2.mono k1.size);(try (replace n8:=En.lkeep n8 g2));have f1:=kcell NF1.o k2;have p0:=kcell NP0.o k2;have c5:=kcell NC5.o k2;have ne21:x2.heap.size≠fb:=World.new_ne x2 ⟨fb,1,none⟩ f1;have ne22:x2.heap.size≠w.heap.size:=World.new_ne x2 ⟨w.heap.size,0,none⟩ p0;have ne23:x2.heap.size≠g:=World.new_ne x2 ⟨g,0,none⟩ c5;clear hq) | (go_at_call 121; have hq:=CS.o P hD (x1.alloc (Jc #[J ⟨#[]⟩,J ⟨#[]⟩,J ⟨#[]⟩,J ⟨#[]⟩] 55)) (ux.trans ((k1.alloc k1.size (Jc #[J ⟨#[]⟩,J ⟨#[]⟩,J ⟨#[]⟩,J ⟨#[]⟩] 55)).mono ux.size));(with_reducible refine hq.mono ?_);rintro e x2 ⟨rfl,g2⟩;have k2:=(k1.alloc k1.size (Jc #[J ⟨#[]⟩,J ⟨#[]⟩,J ⟨#[]⟩,J ⟨#[]⟩] 55)).trans (g2.mono (k1.alloc k1.size (Jc #[J ⟨#[]⟩,J ⟨#[]⟩,J ⟨#[]⟩,J ⟨#[]⟩] 55)).size);have n8:=En.lkeep (World.alloc_heap_new x1 (Jc #[J ⟨#[]⟩,J ⟨#[]⟩,J ⟨#[]⟩,J ⟨#[]⟩] 55)) g2;have f1:=kcell NF1.o k2;have p0:=kcell NP0.o k2;have c5:=kcell NC5.o k2;have ne21:x2.heap.size≠fb:=World.new_ne x2 ⟨fb,1,none⟩ f1;have ne22:x2.heap.size≠w.heap.size:=World.new_ne x2 ⟨w.heap.size,0,none⟩ p0;have ne23:x2.heap.size≠g:=World.new_ne x2 ⟨g,0,none⟩ c5;clear hq) | (go_at_call 72; have hq:=mustI_O (sqO p P) x2;(with_reducible refine hq.mono ?_);intro e x3 h3;have k3:=k2.trans (h3.below.mono k2.size);(try (replace n8:=En.lkeep n8 h3.below));rcases hM:sqO p P with _ | s;(obtain rfl:=h3.bad hM;dsimp +zetaDelta only [Exit.then,Exit.inBlock];exact ⟨rfl,ux.trans (k3.mono ux.size),fun h=>absurd (by rw [HD.o,hD,Option.bind_some];exact hM) h.2,fun _=>rfl⟩);obtain rfl:=h3.good s hM;(try (have z0:=En.lcell n8 0 (v:=J ⟨#[]⟩) rfl;have z1:=En.lcell n8 1 (v:=J ⟨#[]⟩) rfl;have z2:=En.lcell n8 2 (v:=J ⟨#[]⟩) rfl;have z3:=En.lcell n8 3 (v:=J ⟨#[]⟩) rfl;have y0:=En.lfree n8 0;have y1:=En.lfree n8 1;have y2:=En.lfree n8 2;have y3:=En.lfree n8 3));have f1:=kcell NF1.o k3;have p0:=kcell NP0.o k3;have c5:=kcell NC5.o k3;have ne31:x3.heap.size≠fb:=World.new_ne x3 ⟨fb,1,none⟩ f1;have ne32:x3.heap.size≠w.heap.size:=World.new_ne x3 ⟨w.heap.size,0,none⟩ p0;have ne33:x3.heap.size≠g:=World.new_ne x3 ⟨g,0,none⟩ c5;clear hq h3) | (go_at_call 72; have hq:=mustI_O (sqO p P) (x2.alloc (Jc #[J ⟨#[]⟩,J ⟨#[]⟩,J ⟨#[]⟩,J ⟨#[]⟩] 55));(with_reducible refine hq.mono ?_);intro e x3 h3;have k3:=(k2.alloc k2.size (Jc #[J ⟨#[]⟩,J ⟨#[]⟩,J ⟨#[]⟩,J ⟨#[]⟩] 55)).trans (h3.below.mono (k2.alloc k2.size (Jc #[J ⟨#[]⟩,J ⟨#[]⟩,J ⟨#[]⟩,J ⟨#[]⟩] 55)).size);have n8:=En.lkeep (World.alloc_heap_new x2 (Jc #[J ⟨#[]⟩,J ⟨#[]⟩,J ⟨#[]⟩,J ⟨#[]⟩] 55)) h3.below;rcases hM:sqO p P with _ | s;(obtain rfl:=h3.bad hM;dsimp +zetaDelta only [Exit.then,Exit.inBlock];exact ⟨rfl,ux.trans (k3.mono ux.size),fun h=>absurd (by rw [HD.o,hD,Option.bind_some];exact hM) h.2,fun _=>rfl⟩);obtain rfl:=h3.good s hM;(try (have z0:=En.lcell n8 0 (v:=J ⟨#[]⟩) rfl;have z1:=En.lcell n8 1 (v:=J ⟨#[]⟩) rfl;have z2:=En.lcell n8 2 (v:=J ⟨#[]⟩) rfl;have z3:=En.lcell n8 3 (v:=J ⟨#[]⟩) rfl;have y0:=En.lfree n8 0;have y1:=En.lfree n8 1;have y2:=En.lfree n8 2;have y3:=En.lfree n8 3));have f1:=kcell NF1.o k3;have p0:=kcell NP0.o k3;have c5:=kcell NC5.o k3;have ne31:x3.heap.size≠fb:=World.new_ne x3 ⟨fb,1,none⟩ f1;have ne32:x3.heap.size≠w.heap.size:=World.new_ne x3 ⟨w.heap.size,0,none⟩ p0;have ne33:x3.heap.size≠g:=World.new_ne x3 ⟨g,0,none⟩ c5;clear hq h3) | fail)
  all_goals
   go_wp2_with fail
   go_ret
   first
    | exact ⟨ux.trans (((((k3.setCell (by first | exact Nat.le_refl _ | exact k1.size | exact k2.size) _).setCell (by first | exact Nat.le_refl _ | exact k1.size | exact k2.size) _).setCell (by first | exact Nat.le_refl _ | exact k1.size | exact k2.size) _).setCell (by first | exact Nat.le_refl _ | exact k1.size | exact k2.size) _).mono ux.size),fun _=>⟨_,rfl,encC_cons HP.o.2.2.2.2 HF.o.2 HP.o.1 HEC.o.1 (HFr.o.below ((((k3.setCell (by first | exact Nat.le_refl _ | exact k1.size | exact k2.size) _).setCell (by first | exact Nat.le_refl _ | exact k1.size | exact k2.size) _).setCell (by first | exact Nat.le_refl _ | exact k1.size | exact k2.size) _).setCell (by first | exact Nat.le_refl _ | exact k1.size | exact k2.size) _)) HEC.o.2.1 (HD.o.trans hD) hM (OD.o P hD) HEC.o.2.2.1 (En.lkeep NG.o ((((k3.setCell (by first | exact Nat.le_refl _ | exact k1.size | exact k2.size) _).setCell (by first | exact Nat.le_refl _ | exact k1.size | exact k2.size) _).setCell (by first | exact Nat.le_refl _ | exact k1.size | exact k2.size) _).setCell (by first | exact Nat.le_refl _ | exact k1.size | exact k2.size) _)) (Nat.le_trans (Nat.le_of_lt HEC.o.2.2.2.2) (by first | exact Nat.le_refl _ | exact k1.size | exact k2.size)) (box4_set n8) (Nat.le_refl _) (En.lkeep N3.o ((((k3.setCell (by first | exact Nat.le_refl _ | exact k1.size | exact k2.size) _).setCell (by first | exact Nat.le_refl _ | exact k1.size | exact k2.size) _).setCell (by first | exact Nat.le_refl _ | exact k1.size | exact k2.size) _).setCell (by first | exact Nat.le_refl _ | exact k1.size | exact k2.size) _))⟩,fun h=>absurd ⟨HEC.o.2.2.2.1,fun k=>(by rw [HD.o,hD,Option.bind_some,hM] at k;cases k)⟩ h⟩
    | exact ⟨ux.trans ((k3.alloc k3.size (Jc #[J (txt s.1.num),J (txt (s.1.den:Int)),J (txt s.2.num),J (txt (s.2.den:Int))] 55)).mono ux.size),fun _=>⟨_,rfl,encC_cons HP.o.2.2.2.2 HF.o.2 HP.o.1 HEC.o.1 (HFr.o.below (k3.alloc k3.size (Jc #[J (txt s.1.num),J (txt (s.1.den:Int)),J (txt s.2.num),J (txt (s.2.den:Int))] 55))) HEC.o.2.1 (HD.o.trans hD) hM (OD.o P hD) HEC.o.2.2.1 (En.lkeep NG.o (k3.alloc k3.size (Jc #[J (txt s.1.num),J (txt (s.1.den:Int)),J (txt s.2.num),J (txt (s.2.den:Int))] 55))) (Nat.le_trans (Nat.le_of_lt HEC.o.2.2.2.2) k3.size) (World.alloc_heap_new x3 (Jc #[J (txt s.1.num),J (txt (s.1.den:Int)),J (txt s.2.num),J (txt (s.2.den:Int))] 55)) (Nat.le_refl _) (En.lkeep N3.o (k3.alloc k3.size (Jc #[J (txt s.1.num),J (txt (s.1.den:Int)),J (txt s.2.num),J (txt (s.2.den:Int))] 55)))⟩,fun h=>absurd ⟨HEC.o.2.2.2.1,fun k=>(by rw [HD.o,hD,Option.bind_some,hM] at k;cases k)⟩ h⟩
theorem encloser_any (a:Addr) (p:Nat) (hp:p≤30):∀ {rs:List (List Rat)},rs.length≤4→(∀ d∈rs,FitL d)→EncloserC a rs p
 | [],_,_=>encloser_nil a p
 | d :: rs,hk,hf=>encloser_cons a (by simpa using hk) d p hp (fun y hy=>hf y (List.mem_cons_of_mem _ hy)) (encloser_any a p hp (by simp at hk;omega) (fun y hy=>hf y (List.mem_cons_of_mem _ hy)))
end Tw
end Go.Proofs.YtihlgifojjeoaaaGreatDoor
