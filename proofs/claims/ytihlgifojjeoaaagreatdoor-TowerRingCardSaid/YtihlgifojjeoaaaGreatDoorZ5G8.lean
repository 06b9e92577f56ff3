import Derived.Test.YtihlgifojjeoaaaGreatDoorZ5G7
import Derived.Deep.RegionHeld
set_option maxRecDepth 1000000
set_option maxHeartbeats 40000000
open Go.Value renaming string→J
open Go.Obj renaming cells→Jc
namespace Go.Proofs.YtihlgifojjeoaaaGreatDoor
section
namespace Tw
open Go.RowKit Go.Extern.Stop Go.Stop Go.Extern
open En Go.Proofs.YtihlgifojjeoaaaGreatDoor.Nm Go.Proofs.YtihlgifojjeoaaaGreatDoor.Rt
def downC (p:Rat) (c:Nat):Option Rat:=if fz (p.num*10^c)=true then some (Rat.divInt (p.num*10^c / p.den) (10^c)) else none
theorem downQ_C:downQ=downC:=by
 funext p c
 rw [downQ,downC];exact ite_iff fz_iff.symm _ _
def upC (p:Rat) (c:Nat):Option Rat:=if (fz (p.num*10^c) && fz (upI (p.num*10^c) p.den))=true then some (Rat.divInt (upI (p.num*10^c) p.den) (10^c)) else none
theorem upQ_C:upQ=upC:=by
 funext p c
 rw [upQ,upC];exact ite_iff (by rw [Bool.and_eq_true,fz_iff,fz_iff]) _ _
def rdC (c:Nat) (P:Rat×Rat):Option (Rat×Rat):=bothO (downC P.1 c) (upC P.2 c)
theorem rdO_C:rdO=rdC:=by
 funext c P
 rw [rdO,rdC,downQ_C,upQ_C]
abbrev q1:Rat:=Rat.divInt 1414213562373 (10^12)
abbrev q2:Rat:=Rat.divInt 1414213562374 (10^12)
theorem sqr_eq {n k:Nat} (h1:k*k≤n) (h2:n<(k+1)*(k+1)):sqr n=k:=by
 obtain ⟨a,b⟩:=sqr_spec n;have l1:¬ sqr n<k:=fun h=>absurd (Nat.lt_of_lt_of_le b (Nat.le_trans (Nat.mul_le_mul h h) h1)) (Nat.lt_irrefl _);have l2:¬ k<sqr n:=fun h=>absurd (Nat.lt_of_lt_of_le h2 (Nat.le_trans (Nat.mul_le_mul h h) a)) (Nat.lt_irrefl _);omega
theorem sq_two:sqO 12 (2,2)=some (q1,q2):=by
 have h:¬(NoRt 2 12∨NoRt 2 12):=by
  have:¬ NoRt 2 12:=fun h=>h.elim (fun h=>absurd h (by decide +kernel)) (fun h=>h (fz_iff.1 (by decide +kernel)));exact fun h=>h.elim this this
 rw [sqO,if_neg h];have h0:(sqN 2 12).natAbs=2*10^24:=by decide +kernel
 have h1:rtN 2 12=1414213562373:=by rw [rtN,h0];exact sqr_eq (by decide +kernel) (by decide +kernel)
 have h2:upN 2 12=1414213562374:=by rw [upN,exN,h1];decide +kernel
 show some (Rat.divInt ((rtN 2 12:Nat):Int) (10^12),Rat.divInt (upN 2 12) (10^12))=_;rw [h1,h2];rfl
theorem mu_two:muO (1,1) (q1,q2)=some (q1,q2):=by
 have e1:mulQ 1 q1=some q1:=by rw [mulQ_C];decide +kernel
 have e2:mulQ 1 q2=some q2:=by rw [mulQ_C];decide +kernel
 have l:q1≤q2:=by decide +kernel
 refine muO_of (.inr ⟨1,q1,1,q2,q1,q2,.inl rfl,.inl rfl,.inl rfl,.inr rfl,e1,e2,fun u v hu hv => ?_,rfl⟩);have hu1:u=1:=hu.elim id id;subst hu1;rcases hv with rfl | rfl
 ·exact ⟨_,e1,Rat.le_refl,l⟩
 ·exact ⟨_,e2,l,Rat.le_refl⟩
theorem enc_two:ovr [[2]] (fun rs=>enclO rs [0,1] 2)=some (141 / 100,142 / 100):=by
 have hf:fieldO [] [[2]]=some [[2]]:=by rw [fieldO_C];decide +kernel
 have e:encO [[2]] 12 [0,1]=some (q1,q2):=by
  have h1:encO [] 12 [2]=some (2,2):=rfl;have h2:encO [] 12 (hr [0,1])=some (1,1):=rfl;have h3:encO [] 12 (hl [0,1])=some (0,0):=rfl;have h4:adO (0,0) (q1,q2)=some (q1,q2):=by rw [adO,addQ_C];decide +kernel
  have h5:rdO 12 (q1,q2)=some (q1,q2):=by rw [rdO_C];decide +kernel
  rw [encO,h1,Option.bind_some,sq_two,Option.bind_some,h2,Option.bind_some,mu_two,Option.bind_some,h3,Option.bind_some,h4,Option.bind_some,h5]
 rw [ovr_some hf,enclO,if_pos (by decide),chk,if_pos (by decide)];show (encO [[2]] 12 [0,1]).bind (rdO 2)=_;rw [e,Option.bind_some,rdO_C];decide +kernel
theorem s_enc (a:Addr) {W:World} (hg:Gl W) (hv:Ref a W) {t v:Value} (ht:TwAt W t [[2]]) (ex:El W v [0,1]):Say 28 #[t,v,.int .i64 2] (.tuple #[.agg #[J ⟨#[49,52,49]⟩,J ⟨#[49,48,48]⟩,J ⟨#[55,49]⟩,J ⟨#[53,48]⟩],.int .i64 0]) W:=by
 have:=AnsA.sayQ (Enclose_O a (fitT_of (by decide +kernel)) (by decide) (by decide) (fit_of (by decide +kernel)) 2 W hg hv ht ex) enc_two
 have e:ivS (141 / 100,142 / 100) = .agg #[J ⟨#[49,52,49]⟩,J ⟨#[49,48,48]⟩,J ⟨#[55,49]⟩,J ⟨#[53,48]⟩]:=by
  have h1:txt (141 / 100:Rat).num=⟨#[49,52,49]⟩:=by decide +kernel
  have h2:txt ((141 / 100:Rat).den:Int)=⟨#[49,48,48]⟩:=by decide +kernel
  have h3:txt (142 / 100:Rat).num=⟨#[55,49]⟩:=by decide +kernel
  have h4:txt ((142 / 100:Rat).den:Int)=⟨#[53,48]⟩:=by decide +kernel
  show Value.agg #[J (txt (141 / 100:Rat).num),J (txt ((141 / 100:Rat).den:Int)),J (txt (142 / 100:Rat).num),J (txt ((142 / 100:Rat).den:Int))]=_;rw [h1,h2,h3,h4]
 rw [e] at this;exact this
theorem D0 {w:World}:Below w.heap.size w w.drew:=ldrew (Below.refl _ _)
theorem D1 {w:World} {o:Obj}:Below w.heap.size w (w.alloc o).drew:=ldrew ((Below.refl _ _).alloc Lr _)
theorem D2 {w:World} {o p:Obj}:Below w.heap.size w ((w.alloc o).alloc p).drew:=ldrew (((Below.refl _ _).alloc Lr _).alloc (by simp) _)
theorem dK1 {W x:World} {o:Obj} (g:Below (W.alloc o).drew.heap.size (W.alloc o).drew x):Below W.heap.size W x:=((Below.refl W.heap.size W).alloc Lr o).trans ((lundrew2 g).mono (by first | (simp;done) | (simp;omega)))
theorem dK2 {W x:World} {o p:Obj} (g:Below ((W.alloc o).alloc p).drew.heap.size ((W.alloc o).alloc p).drew x):Below W.heap.size W x:=(((Below.refl W.heap.size W).alloc Lr o).alloc (by simp) p).trans ((lundrew2 g).mono (by first | (simp;done) | (simp;omega)))
theorem Ks.alloc {l:List KP} {W:World} (h:Ks l W) (o:Obj):Ks l (W.alloc o):=h.keep ((Below.refl _ _).alloc Lr o)
theorem Ks.drew {l:List KP} {W:World} (h:Ks l W):Ks l W.drew:=h.keep (ldrew (Below.refl _ _))
theorem ints_of {V:World} {b:Nat} {l:List Int} (h:V.heap[b]? = some (.cells (l.map fun z=>Value.int .i64 z).toArray 3 (0,0))):Ints V b 0 l:=⟨fun i hi=>by
 rw [Nat.zero_add];refine En.lcell h i ?_;rw [List.getElem?_toArray,List.getElem?_map,List.getElem?_eq_getElem hi,List.getD_eq_getElem?_getD,List.getElem?_eq_getElem hi];rfl⟩
theorem el_lit (l:List Int) (m:List Rat) (n:Nat) (hm:ratI l=m) (hln:l.length=n) (hl:(decide (0<l.length) && (decide (l.length≤100) && l.all fun z=>decide (z.natAbs≤1000000)))=true) {V:World} {b:Nat} (c:Nat) (h:V.heap[b]? = some (.cells (l.map fun z=>Value.int .i64 z).toArray 3 (0,0))) :
  Calls Tryz.prog 32 #[.slice (some ⟨b,0,none⟩) n c] V fun e W'=>(∃ v,e = .returned v∧El W' v m)∧Below V.heap.size V W':=by
 rw [Bool.and_eq_true,Bool.and_eq_true] at hl;rw [←hm,←hln];refine element_q l (of_decide_eq_true hl.1) (of_decide_eq_true hl.2.1) (fun i hi => ?_) b 0 c V (ints_of h);have:=List.all_eq_true.1 hl.2.2 l[i] (List.getElem_mem hi);rw [List.getD_eq_getElem?_getD,List.getElem?_eq_getElem hi];exact of_decide_eq_true this
theorem same_lit {W:World} {l m:List Rat} {vx vy:Value} (hx:El W vx l) (hy:El W vy m) (h:(decide (l=m) && decide (l.length≤1000))=true):Say 15 #[vx,vy] (.bool true) W:=by
 rw [Bool.and_eq_true] at h;have:=same_q (of_decide_eq_true h.2) W hx hy;rw [h.1] at this;exact this
theorem of_lit (n d:Int) (s t:ByteArray) (h:pq (Rat.divInt n d)=(s,t)) (hn:n.natAbs≤1000000000000000) (hd:d.natAbs≤1000000000000000) (d0:d≠0) (W:World):Say 19 #[.int .i64 n,.int .i64 d] (frc s t) W:=by
 have:=of_q n d hn hd d0 W;rw [h] at this;exact this
theorem TwAt.set {W:World} {v:Value} {L:List (List Rat)} (h:TwAt W v L) {g:Nat} (y:Value) (hg:W.cell? ⟨g,0,none⟩=some (.slice none 0 0)):TwAt (W.setCell ⟨g,0,none⟩ y) v L:=by
 obtain ⟨p,cap,e,h⟩:=h.ex;refine ⟨p,cap,e, ?_⟩
 have hne:∀ (b i:Nat) (x:Value),W.cell? ⟨b,i,none⟩=some x→x ≠ .slice none 0 0→(W.setCell ⟨g,0,none⟩ y).cell? ⟨b,i,none⟩=some x:=fun b i x hx hn =>
  (World.cell?_setCell_other W ⟨g,0,none⟩ ⟨b,i,none⟩ y (fun e=>by rw [e,hx] at hg;injection hg with hg;exact hn hg)).trans hx
 rcases h with h | ⟨bt,ot,e,h⟩
 ·exact .inl h
 ·refine .inr ⟨bt,ot,e,fun i x hx => ?_⟩;obtain ⟨vi,h1,b,o,cp,rfl,h2,h3⟩:=h i x hx;refine ⟨_,hne _ _ _ h1 (by intro e;injection e with e;cases e),b,o,cp,rfl,h2,⟨fun j hj=>⟨hne _ _ _ (h3.at_ j hj).1 (by intro e;cases e),hne _ _ _ (h3.at_ j hj).2 (by intro e;cases e)⟩⟩⟩
end Tw
end
end Go.Proofs.YtihlgifojjeoaaaGreatDoor
