import Derived.Test.YtihlgifojjeoaaaGreatDoorZ8L
import Derived.Test.YtihlgifojjeoaaaGreatDoorZ8G4
import Derived.Test.YtihlgifojjeoaaaGreatDoorZ8G5
import Derived.Test.YtihlgifojjeoaaaGreatDoorZ6B8
import Derived.Test.YtihlgifojjeoaaaGreatDoorZ6B4
import Derived.Test.YtihlgifojjeoaaaGreatDoorZ8F5
import Derived.Deep.RegionHeld3
set_option maxRecDepth 1000000
set_option maxHeartbeats 40000000
open Go.Value renaming string→J
open Go.Obj renaming cells→Jc
namespace Go.Proofs.YtihlgifojjeoaaaGreatDoor
section
namespace Tw
open Go.RowKit Go.Extern.Stop Go.Stop Go.Extern
open En Go.Proofs.YtihlgifojjeoaaaGreatDoor.Nm Go.Proofs.YtihlgifojjeoaaaGreatDoor.Rt
theorem new4 (w:World) (a b c d:Obj):((((w.alloc a).alloc b).alloc c).alloc d).heap[w.heap.size]? = some a∧((((w.alloc a).alloc b).alloc c).alloc d).heap[w.heap.size+1]? = some b∧((((w.alloc a).alloc b).alloc c).alloc d).heap[w.heap.size+1+1]? = some c∧((((w.alloc a).alloc b).alloc c).alloc d).heap[w.heap.size+1+1+1]? = some d:=by
 obtain ⟨h1,h2,h3⟩:=En.new3 w a b c;have e:(((w.alloc a).alloc b).alloc c).heap.size=w.heap.size+1+1+1:=by simp
 have h4:=World.alloc_heap_new (((w.alloc a).alloc b).alloc c) d;rw [e] at h4;exact ⟨(Below.heap_alloc _ d w.heap.size (by rw [e];omega)).trans h1,(Below.heap_alloc _ d (w.heap.size+1) (by rw [e];omega)).trans h2,(Below.heap_alloc _ d (w.heap.size+1+1) (by rw [e];omega)).trans h3,h4⟩
theorem QoU (a:Addr) {L:List (List Rat)} (hL:FitT L) (hn:L.length≤1000) {x:List Rat} (hx:x.length≤1000) (fx:FitL x) {t vx:Value} (k:Int) (w:World) (hg:Gl w) (hv:Ref a w) (ht:TwAt w t L) (ex:El w vx x) :
  Calls Tryz.prog 28 #[t,vx,.int .i64 k] w (AnsA (ovr L (fun rs=>QdO rs x k)≠none) (IsV (ovr L fun rs=>QdO rs x k)) ivl0 w):=by
 have hmf:=mkf;have HT:Sh _:=⟨ht⟩;have HX:Sh _:=⟨ex⟩;have HV:Sh _:=⟨hv⟩;obtain ⟨p,cap,rfl,h⟩:=ht.ex;obtain ⟨bx,ox,cx,rfl,_,_⟩:=ex.ex;clear h ht ex hv;have u:=((((Below.refl w.heap.size w).alloc Lr (Jc #[.slice p L.length cap] 28)).alloc (by simp) (Jc #[.slice (some ⟨bx,ox,none⟩) x.length cx] 29)).alloc (by simp;omega) (Jc #[.int .i64 k] 3)).alloc (by simp;omega) (Jc #[J ⟨#[]⟩,J ⟨#[]⟩,J ⟨#[]⟩,J ⟨#[]⟩] 55);obtain ⟨n_t,n_x,n_k,n_r⟩:=new4 w (Jc #[.slice p L.length cap] 28) (Jc #[.slice (some ⟨bx,ox,none⟩) x.length cx] 29) (Jc #[.int .i64 k] 3) (Jc #[J ⟨#[]⟩,J ⟨#[]⟩,J ⟨#[]⟩,J ⟨#[]⟩] 55);have t0:=En.Qaa n_t 0 (v:=.slice p L.length cap) rfl;obtain ⟨O,hO⟩:∃ O,O=ovr L (fun rs=>QdO rs x k):=⟨_,rfl⟩;rw [←hO];have HO:Sh _:=⟨hO⟩;clear hO;unfold ivl0 ivl;go_enter Tryz.func28, Tryz.ntmps28;go_wp2_with fail;generalize ((((w.alloc (Jc #[.slice p L.length cap] 28)).alloc (Jc #[.slice (some ⟨bx,ox,none⟩) x.length cx] 29)).alloc (Jc #[.int .i64 k] 3)).alloc (Jc #[J ⟨#[]⟩,J ⟨#[]⟩,J ⟨#[]⟩,J ⟨#[]⟩] 55))=W0 at *
 have cA:=Qkn 70 #[.pointer (some ⟨w.heap.size+1+1,0,none⟩),.pointer (some ⟨w.heap.size+1,0,none⟩)] (enters_of Tryz.func70 (by kernel_rfl) rfl) hL hn (O≠none)
  (fun s0 s1 s2 s3=>∃ Q,O=some Q∧s0=txt Q.1.num∧s1=txt (Q.1.den:Int)∧s2=txt Q.2.num∧s3=txt (Q.2.den:Int)) W0 (hg.keep u) (HT.o.keep u) (by rw [HO.o];exact Qco)
  (fun rs hrs W f hB hf=>by
   have e:O=QdO rs x k:=by rw [HO.o,QaA hrs]
   have hfit:∀ d∈rs,FitL d:=fun d hd=>by
    have:=Qcc hrs;rw [List.append_nil] at this;rw [this] at hd;exact (hL d (List.mem_reverse.1 hd)).1
   have c:Calls Tryz.prog 70 #[f,.pointer (some ⟨w.heap.size+1+1,0,none⟩),.pointer (some ⟨w.heap.size+1,0,none⟩)] W (AnsC (QdO rs x k≠none) (IsV (QdO rs x k)) W):=by
    by_cases hk:0≤k∧k≤20
    ·obtain ⟨c,rfl⟩:=Int.eq_ofNat_of_zero_le hk.1;exact QmH a (QbB hrs) hfit hx fx (w.heap.size+1+1) (w.heap.size+1) c (by omega) W ((HV.o.keep u).keep hB) hf (En.Qaa (En.Qac n_k hB) 0 rfl) (En.Qaa (En.Qac n_x hB) 0 rfl) ((HX.o.keep u).keep hB)
    ·exact QoQ (w.heap.size+1+1) (w.heap.size+1) k (by omega) W (En.Qaa (En.Qac n_k hB) 0 rfl)
   rw [←e] at c
   exact c.mono fun e' w' h=>⟨h.below,fun k=>by
    obtain ⟨v,h1,Q,h2,h3⟩:=h.good k;exact ⟨v,h1,_,_,_,_,h3,Q,h2,rfl,rfl,rfl,rfl⟩,h.bad⟩)
 refine cA.mono ?_;intro e v1 h1;replace u:=u.trans (h1.below.mono u.size);replace n_r:=En.Qac n_r h1.below;clear HT HO HX HV n_t n_x n_k t0 cA;have r0:=En.Qaa n_r 0 (v:=J ⟨#[]⟩) rfl;have r1:=En.Qaa n_r 1 (v:=J ⟨#[]⟩) rfl;have r2:=En.Qaa n_r 2 (v:=J ⟨#[]⟩) rfl;have r3:=En.Qaa n_r 3 (v:=J ⟨#[]⟩) rfl;have f0:=En.Qad n_r 0;have f1:=En.Qad n_r 1;have f2:=En.Qad n_r 2;have f3:=En.Qad n_r 3;have hle:w.heap.size≤w.heap.size+1+1+1:=by omega
 cases O with
 | none =>
  obtain rfl:=h1.bad (fun h=>h rfl);clear h1;go_wp2_with fail;have s_r:=QaL (x:=J ⟨#[]⟩) (y:=J ⟨#[]⟩) (z:=J ⟨#[]⟩) (t:=J ⟨#[]⟩) n_r;have y0:=En.Qaa s_r 0 (v:=J ⟨#[]⟩) rfl;have y1:=En.Qaa s_r 1 (v:=J ⟨#[]⟩) rfl;have y2:=En.Qaa s_r 2 (v:=J ⟨#[]⟩) rfl;have y3:=En.Qaa s_r 3 (v:=J ⟨#[]⟩) rfl;exact bodyPost_ret (v:=.tuple #[.agg #[J ⟨#[]⟩,J ⟨#[]⟩,J ⟨#[]⟩,J ⟨#[]⟩],.int .i64 60]) (by simp [results,Tryz.results28, go_sem,y0,y1,y2,y3]) rfl ⟨(((u.setCell hle _).setCell hle _).setCell hle _).setCell hle _,fun h=>absurd rfl h,fun _=>rfl⟩
 | some q =>
  obtain ⟨v,rfl,s0,s1,s2,s3,rfl,Q,hQ,rfl,rfl,rfl,rfl⟩:=h1.good (fun q=>by cases q);clear h1;go_wp2_with fail;have s_r:=QaL (x:=J (txt Q.1.num)) (y:=J (txt (Q.1.den:Int))) (z:=J (txt Q.2.num)) (t:=J (txt (Q.2.den:Int))) n_r;have y0:=En.Qaa s_r 0 (v:=J (txt Q.1.num)) rfl;have y1:=En.Qaa s_r 1 (v:=J (txt (Q.1.den:Int))) rfl;have y2:=En.Qaa s_r 2 (v:=J (txt Q.2.num)) rfl;have y3:=En.Qaa s_r 3 (v:=J (txt (Q.2.den:Int))) rfl;exact bodyPost_ret (v:=.tuple #[.agg #[J (txt Q.1.num),J (txt (Q.1.den:Int)),J (txt Q.2.num),J (txt (Q.2.den:Int))],.int .i64 0]) (by simp [results,Tryz.results28, go_sem,y0,y1,y2,y3]) rfl ⟨(((u.setCell hle _).setCell hle _).setCell hle _).setCell hle _,fun _=>⟨_,rfl,Q,hQ,rfl⟩,fun h=>absurd (fun q=>by cases q) h⟩
end Tw
end
section
namespace Tw
open Go.Proofs.YtihlgifojjeoaaaGreatDoor.Nm Go.Proofs.YtihlgifojjeoaaaGreatDoor.Rt
def fz (z:Int):Bool:=decide (z.natAbs<10^200)
theorem fz_iff {z:Int}:fz z=true↔Fits z:=⟨fun h=>Qas (of_decide_eq_true h),fun h=>decide_eq_true (QbU h)⟩
theorem QdP {α:Type} {P Q:Prop} [Decidable P] [Decidable Q] (h:P↔Q) (a b:α):(if P then a else b)=if Q then a else b:=by
 by_cases hp:P
 ·rw [if_pos hp,if_pos (h.1 hp)]
 ·rw [if_neg hp,if_neg (fun q=>hp (h.2 q))]
def mulC (p q:Rat):Option Rat:=if (fz (p.num*q.num) && fz ((p.den:Int)*q.den))=true then some (p*q) else none
def divC (p q:Rat):Option Rat:=if (fz (p.num*q.den) && (fz ((p.den:Int)*q.num) && decide (q≠0)))=true then some (p / q) else none
def addC (p q:Rat):Option Rat:=if (fz (p.num*q.den) && (fz (q.num*p.den) && (fz (p.num*q.den+q.num*p.den) && fz ((p.den:Int)*q.den))))=true then some (p+q) else none
def subC (p q:Rat):Option Rat:=if (fz (p.num*q.den) && (fz (q.num*p.den) && (fz (p.num*q.den-q.num*p.den) && fz ((p.den:Int)*q.den))))=true then some (p-q) else none
theorem QoV:mulQ=mulC:=by
 funext p q
 rw [mulQ,mulC];exact QdP (by rw [Bool.and_eq_true,fz_iff,fz_iff]) _ _
theorem QuY:divQ=divC:=by
 funext p q
 rw [divQ,divC];exact QdP (by rw [Bool.and_eq_true,Bool.and_eq_true,fz_iff,fz_iff,decide_eq_true_iff]) _ _
theorem Qlm:addQ=addC:=by
 funext p q
 rw [addQ,addC];exact QdP (by rw [Bool.and_eq_true,Bool.and_eq_true,Bool.and_eq_true,fz_iff,fz_iff,fz_iff,fz_iff]) _ _
theorem Qrz:subQ=subC:=by
 funext p q
 rw [subQ,subC];exact QdP (by rw [Bool.and_eq_true,Bool.and_eq_true,Bool.and_eq_true,fz_iff,fz_iff,fz_iff,fz_iff]) _ _
def QeY:List (List Rat)→List Rat→List Rat→Option (List Rat)
 | [],x,y=>if (QbQ x || QbQ y)=true then some (zeros x.length) else Qaj mulC x y
 | d :: rs,x,y=>if (QbQ x || QbQ y)=true then some (zeros x.length) else
  (QeY rs (hl x) (hl y)).bind fun ac=>(QeY rs (hr x) (hr y)).bind fun be=>(QeY rs be d).bind fun bed =>
  (Qaj addC ac bed).bind fun p=>(QeY rs (hl x) (hr y)).bind fun ae=>(QeY rs (hr x) (hl y)).bind fun bc =>
  (Qaj addC ae bc).map fun q=>p++q
theorem Qln:∀ (rs:List (List Rat)) (x y:List Rat),mulO rs x y=QeY rs x y
 | [],x,y=>by rw [mulO,QeY,QoV]
 | d :: rs,x,y=>by
  have ih:=Qln rs;rw [mulO,QeY];simp only [ih,Qlm]
def QqM (rs:List (List Rat)) (d x:List Rat):Option (List Rat) :=
 (QeY rs (hl x) (hl x)).bind fun aa=>(QeY rs (hr x) (hr x)).bind fun bb=>(QeY rs bb d).bind fun bbd=>Qaj subC aa bbd
theorem QrA (rs:List (List Rat)) (d x:List Rat):nrmO rs d x=QqM rs d x:=by
 rw [nrmO,QqM];simp only [Qln,Qrz]
def Qdm:List (List Rat)→List Rat→Option Int
 | [],x=>some (cmpQ (x.headD 0) 0)
 | d :: rs,x=>(Qdm rs (hl x)).bind fun s=>(Qdm rs (hr x)).bind fun t =>
  if t=0 then some s else if s=0∨s=t then some t else (QqM rs d x).bind fun n=>(Qdm rs n).map fun u=>s*u
theorem QdQ:∀ (rs:List (List Rat)) (x:List Rat),Qaw rs x=Qdm rs x
 | [],x=>by rw [Qaw,Qdm]
 | d :: rs,x=>by
  have ih:=QdQ rs;rw [Qaw,Qdm];simp only [ih,QrA]
def QmI:List (List Rat)→List Rat→Option (List Rat)
 | [],x=>Qaj divC [1] x
 | d :: rs,x=>(QqM rs d x).bind fun n=>(Qdm rs n).bind fun s=>if s=0 then (Qaj addC (hl x) (hl x)).bind fun aa=>(QmI rs aa).map fun u=>u++zeros d.length
  else (QmI rs n).bind fun m=>(QeY rs (hl x) m).bind fun p=>(Qaj subC (zeros (hr x).length) (hr x)).bind fun nb=>(QeY rs nb m).map fun q=>p++q
theorem QrB:∀ (rs:List (List Rat)) (x:List Rat),invO rs x=QmI rs x
 | [],x=>by rw [invO,QmI,QuY]
 | d :: rs,x=>by
  have ih:=QrB rs;rw [invO,QmI];simp only [ih,QrA,QdQ,Qln,Qlm,Qrz]
def QqN (rs:List (List Rat)) (x:List Rat):Option (List Rat):=(Qdm rs x).bind fun s=>if s=0 then none else QmI rs x
theorem QrC (rs:List (List Rat)) (x:List Rat):invS rs x=QqN rs x:=by rw [invS,QqN,QdQ,QrB]
def QgR:List (List Rat)→List (List Rat)→Option (List (List Rat))
 | acc, []=>some acc
 | acc,x :: xs=>if (decide (acc.length<4) && (decide (x.length=2^acc.length) && (Qdm acc x == some 1)))=true then QgR (x :: acc) xs else none
open Classical in
theorem QfP:∀ (acc L:List (List Rat)),Qam acc L=QgR acc L
 | acc, []=>rfl
 | acc,x :: xs=>by
  rw [Qam,QgR,QfP (x :: acc) xs];exact QdP (by rw [Adj,Bool.and_eq_true,Bool.and_eq_true,decide_eq_true_iff,decide_eq_true_iff,beq_iff_eq,QdQ]) _ _
theorem QgS {T:Type} (L:List (List Rat)) (o o':List (List Rat)→Option T) (h:∀ rs,o rs=o' rs):ovr L o=(QgR [] L).bind o':=by
 rw [ovr,QfP];congr 1;funext rs;exact h rs
end Tw
end
section
namespace Rt
open Go.RowKit Go.Proofs.YtihlgifojjeoaaaGreatDoor.Nm
theorem QuZ (n d:Int) (n1 : -9223372036854775808≤n) (n2:n≤9223372036854775807) (d1 : -9223372036854775808≤d) (d2:d≤9223372036854775807) (w:World) :
  Calls Tryz.prog 53 #[.int .i64 n,.int .i64 d] w fun e w'=>e = .returned (bR (redR (txt n) (txt d)))∧Below w.heap.size w w':=by
 have f1:Fits n:=Qas (Nat.lt_trans (show n.natAbs<10^20 by omega) (by decide));have f2:Fits d:=Qas (Nat.lt_trans (show d.natAbs<10^20 by omega) (by decide));have cn:=fun W=>Qgj n n1 n2 W;have cd:=fun W=>Qgj d d1 d2 W;have hC:=fun W=>QkF (txt n) (txt d) (QaT f1) (QaT f2) W;obtain ⟨n',d',e0,ho⟩:=Qcw (redR (txt n) (txt d));rw [ho] at hC ⊢;clear ho;generalize txt n=a at *
 generalize txt d=b at *
 go_enter Tryz.func53, Tryz.ntmps53;go_wp2_with (first | (go_at_call 106; with_reducible refine (cn _).mono ?_;rintro e w1 ⟨rfl,hB1⟩) | (go_at_call 106; with_reducible refine (cd _).mono ?_;rintro e w2 ⟨rfl,hB2⟩) | (go_at_call 105; refine (hC _).mono ?_;rintro e w3 ⟨rfl,hB3⟩;obtain ⟨c0,c1,z0,z1⟩:=Qab ((hB3.block w.heap.size (by have h1:=hB1.size;rw [World.size_alloc] at h1;have h2:=hB2.size;omega)).trans ((hB2.block w.heap.size (by have h1:=hB1.size;rw [World.size_alloc] at h1;omega)).trans ((hB1.block w.heap.size (by simp)).trans (World.alloc_heap_new w _))))));have k0:=QaM w3 w.heap.size (J n') (J d') _ _ c0 c1;have h1:=hB1.size;rw [World.size_alloc] at h1;have h2:=hB2.size;have hB5:Below w.heap.size w w3:=((((Below.refl w.heap.size w).alloc Lr _).trans (hB1.mono (by simp))).trans (hB2.mono (by omega))).trans (hB3.mono (by omega));refine bodyPost_ret (v:=.tuple #[.agg #[J n',J d'],.int .i64 e0]) (by simp [results,Tryz.results53, go_sem,k0.1,k0.2]) rfl ⟨rfl,(hB5.setCell (by simp) _).setCell (by simp) _⟩
end Rt
end
section
namespace Tw
open Go.RowKit Go.Extern.Stop Go.Stop Go.Extern
open En Go.Proofs.YtihlgifojjeoaaaGreatDoor.Nm Go.Proofs.YtihlgifojjeoaaaGreatDoor.Rt
theorem Qva (n d:Int) (s t:ByteArray) (c:Int) (hO:Ret 53 #[.int .i64 n,.int .i64 d] (.tuple #[.agg #[J s,J t],.int .i64 c])):Ret 19 #[.int .i64 n,.int .i64 d] (frc s t):=by
 intro w;have n_r:(w.alloc (Jc #[J ⟨#[]⟩,J ⟨#[]⟩] 42)).heap[w.heap.size]? = _:=World.alloc_heap_new w _;have u:=(Below.refl w.heap.size w).alloc Lr (Jc #[J ⟨#[]⟩,J ⟨#[]⟩] 42);have CO:Sh _:=⟨hO⟩;clear hO;go_enter Tryz.func19, Tryz.ntmps19;go_wp2_with fail;refine (CO.o _).mono ?_;rintro e v1 ⟨rfl,g⟩;replace u:=u.trans (g.mono u.size);replace n_r:=En.Qac n_r g;clear g;have m_r:(v1.alloc (Jc #[J s,J t] 42)).heap[w.heap.size]? = _:=lold n_r;have m_b:=World.alloc_heap_new v1 (Jc #[J s,J t] 42);replace u:=u.alloc u.size (Jc #[J s,J t] 42);have k0:=En.Qaa m_r 0 (v:=J ⟨#[]⟩) rfl;have k1:=En.Qaa m_r 1 (v:=J ⟨#[]⟩) rfl;have f0:=En.Qad m_r 0;have f1:=En.Qad m_r 1;have b0:=En.Qaa m_b 0 (v:=J s) rfl;have b1:=En.Qaa m_b 1 (v:=J t) rfl;have s_r:=Qbc (x:=J s) (y:=J t) m_r;have z0:=En.Qaa s_r 0 (v:=J s) rfl;have z1:=En.Qaa s_r 1 (v:=J t) rfl;go_wp2_with fail;exact bodyPost_ret (v:=.agg #[J s,J t]) (by simp [results,Tryz.results19, go_sem,z0,z1]) rfl ⟨rfl,(u.setCell Lr _).setCell Lr _⟩
theorem of_q (n d:Int) (hn:n.natAbs≤1000000000000000) (hd:d.natAbs≤1000000000000000) (d0:d≠0):Ret 19 #[.int .i64 n,.int .i64 d] (frc (pq (Rat.divInt n d)).1 (pq (Rat.divInt n d)).2):=by
 have f1:Fits n:=Qas (Nat.lt_trans (show n.natAbs<10^20 by omega) (by decide));have f2:Fits d:=Qas (Nat.lt_trans (show d.natAbs<10^20 by omega) (by decide));refine Qva n d _ _ 0 (fun W => ?_);have:=QuZ n d (by omega) (by omega) (by omega) (by omega) W;rw [Qfz f1 f2 d0] at this;exact this
structure Ints (W:World) (b o:Nat) (l:List Int):Prop where
 at_:∀ i,i<l.length→W.cell? ⟨b,o+i,none⟩=some (.int .i64 (l.getD i 0))
theorem Ints.keep {W W':World} {b o:Nat} {l:List Int} (h:Ints W b o l) (hB:Below W.heap.size W W'):Ints W' b o l:=⟨fun i hi=>Qae (h.at_ i hi) hB⟩
def ratI (l:List Int):List Rat:=l.map fun z=>Rat.divInt z 1
theorem Qto (l:List Int) (i:Nat) (h:i<l.length):(ratI l).getD i 0=Rat.divInt (l.getD i 0) 1:=by
 rw [List.getD_eq_getElem?_getD,List.getD_eq_getElem?_getD,ratI,List.getElem?_map,List.getElem?_eq_getElem h];rfl
theorem Qlo (l:List Int):(ratI l).length=l.length:=List.length_map _
theorem Qvb {W:World} {base:Nat} {v:Value} {l:List Rat} (h:OwnL W base v l.length (pqs l)) (hl:0<l.length):El W v l:=by
 rcases h.2 with ⟨_,hn⟩ | ⟨g,cap,cur,rfl,hg,hgg,h1,h2,h3,h4⟩
 ·omega
 ·refine ⟨g,0,cap,rfl,h1,⟨fun i hi => ?_⟩⟩;have hc:=QdA (pqs l) l.length i hi;rw [←h4] at hc;rw [List.getElem?_take_of_lt (by omega),List.getElem?_take_of_lt (by omega),Array.getElem?_toList,Array.getElem?_toList] at hc;rw [Nat.zero_add];exact ⟨En.Qaa hgg _ hc.1,En.Qaa hgg _ hc.2⟩
theorem QoW (l:List Int) (hl:0<l.length) (hn:l.length≤100) (hb:∀ i,i<l.length→(l.getD i 0).natAbs≤1000000) (b o c:Nat) (w:World) (hx:Ints w b o l) :
  Calls Tryz.prog 32 #[.slice (some ⟨b,o,none⟩) l.length c] w fun e w'=>(∃ v,e = .returned v∧El w' v (ratI l))∧Below w.heap.size w w':=by
 have HX:Sh _:=⟨hx⟩
 have CO:Sh (∀ i,i<l.length→Ret 19 #[.int .i64 (l.getD i 0),.int .i64 1] (frc (pqs (ratI l) i).1 (pqs (ratI l) i).2)):=⟨fun i hi=>by
  rw [pqs,Qto l i hi];exact of_q _ 1 (by have:=hb i hi;omega) (by decide) (by decide)⟩
 have HE:Sh (∀ (W:World) (v:Value),OwnL W w.heap.size v l.length (pqs (ratI l))→El W v (ratI l)):=⟨fun W v h=>Qvb (by rw [Qlo];exact h) (by rw [Qlo];exact hl)⟩;clear hx hb;generalize pqs (ratI l)=L at *
 generalize ratI l=l' at *
 obtain ⟨n,hnn⟩:∃ n,n=l.length:=⟨_,rfl⟩;rw [←hnn] at hn CO HE ⊢;have HN:Sh (n=l.length):=⟨hnn⟩;clear hnn hl;generalize hz:(fun i=>l.getD i 0)=Z;have HZ:Sh (∀ i,l.getD i 0=Z i):=⟨fun i=>by rw [←hz]⟩;have CO:Sh (∀ i,i<n→Ret 19 #[.int .i64 (Z i),.int .i64 1] (frc (L i).1 (L i).2)):=⟨fun i hi=>by have:=CO.o i hi;rw [HZ.o] at this;exact this⟩;have HX:Sh (∀ W i,Below w.heap.size w W→i<n→W.cell? ⟨b,o+i,none⟩=some (.int .i64 (Z i))):=⟨fun W i u hi=>by have:=(HX.o.keep u).at_ i (by rw [←HN.o];exact hi);rw [HZ.o] at this;exact this⟩;clear hz HZ HN;go_enter Tryz.func32, Tryz.ntmps32;go_wp2_with fail
 go_loopw [3,4] (fun vv iv wr=>∃ i:Nat,i≤n∧iv = .int .i64 (i:Int)∧Sh (OwnL wr w.heap.size vv i L∧Below w.heap.size w wr)) (fun _ iv _=>n-(intOf iv).toNat)
 case atStart=>exact ⟨0,Nat.zero_le _,rfl,⟨OwnL.nil _ _ _,Below.refl _ _⟩⟩
 case round =>
  obtain ⟨i,hi,rfl,HF⟩:=hrel;obtain ⟨hO,u⟩:=HF.o;clear HF;by_cases hin:i=n
  ·subst hin;go_wp2_with fail;go_ret;exact ⟨⟨_,rfl,HE.o _ _ hO⟩,u⟩
  ·have hil:i<n:=by omega
   have hi2:(i:Int)<(n:Int):=by omega
   have hi3:(0:Int)≤(i:Int):=by omega
   have x0:=HX.o wr i u hil;have cO:=CO.o i hil;have hw1:IntKind.i64.wrap ((i:Int)+1)=(i:Int)+1:=by simp [IntKind.wrap,IntKind.signed,IntKind.bits];omega
   generalize Z i=zi at *
   go_wp2_with fail;refine (cO _).mono ?_;rintro e v1 ⟨rfl,g⟩;replace hO:=hO.below g;replace u:=u.trans (g.mono u.size);have ha:=((Below.refl v1.heap.size v1).alloc Lr (Jc #[J (L i).1,J (L i).2] 42));have n_n:(v1.alloc (Jc #[J (L i).1,J (L i).2] 42)).heap[v1.heap.size]? = some (Jc #[J (L i).1,J (L i).2] 42 (0,0)):=World.alloc_heap_new v1 _;replace hO:=hO.below ha;replace u:=u.trans (ha.mono u.size);clear ha g cO x0;dsimp only [frc];have hij:i≤1000:=by omega
   generalize hLi:L i=li at *
   go_wp2_with (at_builtin;go_must (refine En.Qbt rfl _ _ rfl w.heap.size _ i L rfl hO v1.heap.size _ rfl (by rw [hLi];exact n_n) hij u.size ?_);intro v' w' hO' hg hat);have u2:=QbA u Lr Lr hO hg;clear hO hg hat u n_n
   go_roundw
   case rel=>exact ⟨i+1,by omega,by first | rfl | go_num | simp,⟨hO',u2⟩⟩
   case measure=>simp [intOf];omega
def Row (W:World) (p:Option Addr) (n:Nat) (G:Nat→P2):Prop:=n=0∨∃ b o,p=some ⟨b,o,none⟩∧Cl W b o n G
theorem QoX {B:Nat} {w w':World} (h:Below B w w') {n:Nat}:Below B w (w'.drewN n):=⟨h.os,h.tape,h.output,h.size,h.block⟩
theorem Qtp {g h:P2} (hq:¬ g=h):(g.1.toList == h.1.toList)=false∨((g.1.toList == h.1.toList)=true∧(g.2.toList == h.2.toList)=false):=by
 rw [QcU,QcU];by_cases h1:g.1=h.1
 ·by_cases h2:g.2=h.2
  ·exact absurd (Prod.ext h1 h2) hq
  ·exact .inr ⟨decide_eq_true h1,decide_eq_false h2⟩
 ·exact .inl (decide_eq_false h1)
theorem QqO (p q:Option Addr) (n m c c':Nat) (h:n≠m) (w:World):Calls Tryz.prog 44 #[.slice p n c,.slice q m c'] w fun e w'=>e = .returned (.bool false)∧w'=w:=by
 have hb:((n:Int) != (m:Int))=true:=by simp;omega
 clear h;go_enter Tryz.func44, Tryz.ntmps44;go_wp2_with fail;go_ret;exact ⟨rfl,rfl⟩
theorem Qlp (p q:Option Addr) (c c':Nat) (w:World):Calls Tryz.prog 44 #[.slice p 0 c,.slice q 0 c'] w fun e w'=>e = .returned (.bool true)∧w'=w:=by
 go_enter Tryz.func44, Tryz.ntmps44;go_wp2_with fail;refine wp_loop_rounds 1 ?_;rw [rounds_succ];go_wp2_with fail;go_ret;exact ⟨rfl,rfl⟩
theorem Qtq (b o b2 o2 n c c':Nat) (hn:n≤1000) (G H:Nat→P2) (B:Bool) (hB:B=true↔∀ i,i<n→G i=H i) (w:World) (hx:Cl w b o n G) (hy:Cl w b2 o2 n H) :
  Calls Tryz.prog 44 #[.slice (some ⟨b,o,none⟩) n c,.slice (some ⟨b2,o2,none⟩) n c'] w fun e w'=>e = .returned (.bool B)∧Below w.heap.size w w':=by
 have HX:Sh _:=⟨hx⟩;have HY:Sh _:=⟨hy⟩;have HB:Sh _:=⟨hB⟩;have hb:((n:Int) != (n:Int))=false:=by simp
 clear hx hy hB;go_enter Tryz.func44, Tryz.ntmps44;go_wp2_with fail
 go_loopw [4,5] (fun rv iv wr=>rv = .bool false∧∃ i:Nat,i≤n∧iv = .int .i64 (i:Int)∧Sh (Below w.heap.size w wr)∧Sh (∀ j,j<i→G j=H j)) (fun _ iv _=>n-(intOf iv).toNat)
 case atStart=>exact ⟨rfl,0,Nat.zero_le _,rfl,⟨Below.refl _ _⟩,⟨fun j hj=>by omega⟩⟩
 case round =>
  obtain ⟨rfl,i,hi,rfl,U,HE⟩:=hrel;have u:=U.o;clear U;by_cases hin:i=n
  ·subst hin;go_wp2_with fail;go_ret;exact ⟨by rw [HB.o.2 HE.o];rfl,u⟩
  ·have hil:i<n:=by omega
   have hi2:(i:Int)<(n:Int):=by omega
   have hi3:(0:Int)≤(i:Int):=by omega
   have hi4:((i:Int)).toNat=i:=Int.toNat_natCast i;obtain ⟨x0,x1⟩:=(HX.o.keep (u.mono Lr)).at_ i hil;obtain ⟨y0,y1⟩:=(HY.o.keep (u.mono Lr)).at_ i hil;have hw1:IntKind.i64.wrap ((i:Int)+1)=(i:Int)+1:=by simp [IntKind.wrap,IntKind.signed,IntKind.bits];omega
   by_cases hq:G i=H i
   ·have HQ:Sh (∀ j,j=i→G j=H j):=⟨fun j e=>by rw [e];exact hq⟩;rw [hq] at x0 x1;clear hq;generalize H i=g at *
    have e0:(g.1.toList == g.1.toList)=true:=beq_self_eq_true _;have e1:(g.2.toList == g.2.toList)=true:=beq_self_eq_true _;go_wp2_with fail
    go_region
    all_goals (go_wp2_with fail;go_roundw)
    case rel=>exact ⟨rfl,i+1,by omega,by first | rfl | go_num | simp,⟨QoX u⟩,⟨fun j hj=>by
     rcases Nat.lt_or_ge j i with h1 | h1
     ·exact HE.o j h1
     ·exact HQ.o j (by omega)⟩⟩
    case measure=>simp [intOf];omega
   ·have hBf:B=false:=by
     cases hb':B with
     | false=>rfl
     | true=>exact absurd (HB.o.1 hb' i hil) hq
    subst hBf;have hq2:=Qtp hq;clear hq HB HE;generalize G i=g at *
    generalize H i=h at *
    rcases hq2 with e0 | ⟨e0,e1⟩
    ·go_wp2_with fail
     go_region
     all_goals (go_wp2_with fail;go_ret;exact ⟨rfl,QoX u⟩)
    ·go_wp2_with fail
     go_region
     all_goals (go_wp2_with fail;go_ret;exact ⟨rfl,QoX u⟩)
theorem QqP {p q:Option Addr} {n m c c':Nat} (hn:n≤1000) {G H:Nat→P2} (B:Bool) (hB:B=true↔n=m∧∀ i,i<n→G i=H i) (w:World) (hx:Row w p n G) (hy:Row w q m H) :
  Calls Tryz.prog 44 #[.slice p n c,.slice q m c'] w fun e w'=>e = .returned (.bool B)∧Below w.heap.size w w':=by
 by_cases hnm:n=m
 ·subst hnm;rcases hx with rfl | ⟨b,o,rfl,hx⟩
  ·have:B=true:=hB.2 ⟨rfl,fun i hi=>by omega⟩;rw [this];exact (Qlp p q c c' w).mono fun e w' h=>⟨h.1,by rw [h.2];exact Below.refl _ _⟩
  ·rcases hy with rfl | ⟨b2,o2,rfl,hy⟩
   ·have:B=true:=hB.2 ⟨rfl,fun i hi=>by omega⟩;rw [this];exact (Qlp _ q c c' w).mono fun e w' h=>⟨h.1,by rw [h.2];exact Below.refl _ _⟩
   ·exact Qtq b o b2 o2 n c c' hn G H B (by rw [hB];exact ⟨fun h=>h.2,fun h=>⟨rfl,h⟩⟩) w hx hy
 ·have:B=false:=by
   cases hb:B with
   | false=>rfl
   | true=>exact absurd (hB.1 hb).1 hnm
  rw [this];exact (QqO p q n m c c' hnm w).mono fun e w' h=>⟨h.1,by rw [h.2];exact Below.refl _ _⟩
theorem Qtr {l m:List Rat} (hl:l.length=m.length) (h:∀ i,i<l.length→pqs l i=pqs m i):l=m:=by
 refine List.ext_getElem hl fun i h1 h2 => ?_;have:=h i h1;rw [pqs,pqs,List.getD_eq_getElem?_getD,List.getD_eq_getElem?_getD,List.getElem?_eq_getElem h1,List.getElem?_eq_getElem h2] at this;exact QfJ this
theorem El.row {W:World} {v:Value} {l:List Rat} (h:El W v l):∃ p c,v = .slice p l.length c∧Row W p l.length (pqs l):=by
 obtain ⟨b,o,cap,e,_,h2⟩:=h.ex;exact ⟨_,cap,e,.inr ⟨b,o,rfl,h2⟩⟩
theorem QrD {l m:List Rat} (hn:l.length≤1000) {vx vy:Value} (w:World) (hx:El w vx l) (hy:El w vy m) :
  Calls Tryz.prog 15 #[vx,vy] w fun e w'=>e = .returned (.bool (decide (l=m)))∧Below w.heap.size w w':=by
 obtain ⟨p,c,rfl,hx2⟩:=hx.row;obtain ⟨q,c',rfl,hy2⟩:=hy.row
 have cS:=QqP (c:=c) (c':=c') hn (decide (l=m)) (by
  rw [decide_eq_true_iff];exact ⟨fun h=>by subst h;exact ⟨rfl,fun _ _=>rfl⟩,fun h=>Qtr h.1 h.2⟩) w hx2 hy2
 clear hx hy hx2 hy2;go_enter Tryz.func15, Tryz.ntmps15;go_wp2_with fail;refine cS.mono ?_;rintro e w' ⟨rfl,u⟩;go_wp2_with fail;go_ret;exact ⟨rfl,u⟩
theorem QqQ {L:List (List Rat)} (hL:FitT L) (hn:L.length≤1000) {x y:List Rat} (hx:x.length≤1000) (hy:y.length≤1000) (fx:FitL x) (fy:FitL y) {t vx vy:Value} (w:World) (hg:Gl w) (ht:TwAt w t L) (ex:El w vx x) (ey:El w vy y) :
  Calls Tryz.prog 13 #[t,vx,vy] w (AnsA (ovr L (fun rs=>chk2 rs x y (Qaj addQ x y))≠none) (IsE (ovr L fun rs=>chk2 rs x y (Qaj addQ x y))) (.slice none 0 0) w):=by
 have hmf:=mkf;have HT:Sh _:=⟨ht⟩;obtain ⟨p,cap,rfl,h⟩:=ht.ex;clear h ht;have HX:Sh _:=⟨ex⟩;obtain ⟨b,o,c,rfl,h1,h2⟩:=ex.ex;have HY:Sh _:=⟨ey⟩;obtain ⟨b2,o2,c2,rfl,h1',h2'⟩:=ey.ex;clear h1 h2 ex h1' h2' ey;have u:=(((Below.refl w.heap.size w).alloc Lr (Jc #[.slice p L.length cap] 28)).alloc (by simp) (Jc #[.slice (some ⟨b,o,none⟩) x.length c] 29)).alloc (by simp;omega) (Jc #[.slice (some ⟨b2,o2,none⟩) y.length c2] 29);obtain ⟨n_t,n_x,n_y⟩:=En.new3 w (Jc #[.slice p L.length cap] 28) (Jc #[.slice (some ⟨b,o,none⟩) x.length c] 29) (Jc #[.slice (some ⟨b2,o2,none⟩) y.length c2] 29);have t0:=En.Qaa n_t 0 (v:=.slice p L.length cap) rfl;obtain ⟨O,hO⟩:∃ O,O=ovr L (fun rs=>chk2 rs x y (Qaj addQ x y)):=⟨_,rfl⟩;rw [←hO];have HO:Sh _:=⟨hO⟩;clear hO;go_enter Tryz.func13, Tryz.ntmps13;go_wp2_with fail;generalize (((w.alloc (Jc #[.slice p L.length cap] 28)).alloc (Jc #[.slice (some ⟨b,o,none⟩) x.length c] 29)).alloc (Jc #[.slice (some ⟨b2,o2,none⟩) y.length c2] 29))=W0 at *
 have cA:=Qcj 40 #[.pointer (some ⟨w.heap.size+1,0,none⟩),.pointer (some ⟨w.heap.size+1+1,0,none⟩)] (enters_of Tryz.func40 (by kernel_rfl) rfl) hL hn (O≠none) (IsE O) W0 (hg.keep u) (HT.o.keep u) (by rw [HO.o];exact Qco)
  (fun rs hrs W f hB hf=>by
   rw [HO.o,QaA hrs];exact QuS (QbB hrs) hx hy fx fy ⟨w.heap.size+1,0,none⟩ ⟨w.heap.size+1+1,0,none⟩ W ((hg.keep u).keep hB) hf (En.Qaa (En.Qac n_x hB) 0 rfl) (En.Qaa (En.Qac n_y hB) 0 rfl) ((HX.o.keep u).keep hB) ((HY.o.keep u).keep hB))
 refine cA.mono ?_;intro e v1 h1;replace u:=u.trans (h1.below.mono u.size);clear HX HY HT HO n_t n_x n_y t0 cA;cases O with
 | none =>
  obtain rfl:=h1.bad (fun h=>h rfl);clear h1;go_wp2_with fail;exact bodyPost_ret (v:=.tuple #[.slice none 0 0,.int .i64 60]) (by simp [results,Tryz.results13, go_sem]) rfl ⟨u,fun h=>absurd rfl h,fun _=>rfl⟩
 | some s =>
  obtain ⟨v,rfl,hv⟩:=h1.good (fun q=>by cases q);clear h1;go_wp2_with fail;exact bodyPost_ret (v:=.tuple #[v,.int .i64 0]) (by simp [results,Tryz.results13, go_sem]) rfl ⟨u,fun _=>⟨v,rfl,hv⟩,fun h=>absurd (fun q=>by cases q) h⟩
theorem Qvc {L:List (List Rat)} (hL:FitT L) (hn:L.length≤1000) {x y:List Rat} (hx:x.length≤1000) (hy:y.length≤1000) (fx:FitL x) (fy:FitL y) {t vx vy:Value} (w:World) (hg:Gl w) (ht:TwAt w t L) (ex:El w vx x) (ey:El w vy y) :
  Calls Tryz.prog 14 #[t,vx,vy] w (AnsA (ovr L (fun rs=>chk2 rs x y (Qaj subQ x y))≠none) (IsE (ovr L fun rs=>chk2 rs x y (Qaj subQ x y))) (.slice none 0 0) w):=by
 have hmf:=mkf;have HT:Sh _:=⟨ht⟩;obtain ⟨p,cap,rfl,h⟩:=ht.ex;clear h ht;have HX:Sh _:=⟨ex⟩;obtain ⟨b,o,c,rfl,h1,h2⟩:=ex.ex;have HY:Sh _:=⟨ey⟩;obtain ⟨b2,o2,c2,rfl,h1',h2'⟩:=ey.ex;clear h1 h2 ex h1' h2' ey;have u:=(((Below.refl w.heap.size w).alloc Lr (Jc #[.slice p L.length cap] 28)).alloc (by simp) (Jc #[.slice (some ⟨b,o,none⟩) x.length c] 29)).alloc (by simp;omega) (Jc #[.slice (some ⟨b2,o2,none⟩) y.length c2] 29);obtain ⟨n_t,n_x,n_y⟩:=En.new3 w (Jc #[.slice p L.length cap] 28) (Jc #[.slice (some ⟨b,o,none⟩) x.length c] 29) (Jc #[.slice (some ⟨b2,o2,none⟩) y.length c2] 29);have t0:=En.Qaa n_t 0 (v:=.slice p L.length cap) rfl;obtain ⟨O,hO⟩:∃ O,O=ovr L (fun rs=>chk2 rs x y (Qaj subQ x y)):=⟨_,rfl⟩;rw [←hO];have HO:Sh _:=⟨hO⟩;clear hO;go_enter Tryz.func14, Tryz.ntmps14;go_wp2_with fail;generalize (((w.alloc (Jc #[.slice p L.length cap] 28)).alloc (Jc #[.slice (some ⟨b,o,none⟩) x.length c] 29)).alloc (Jc #[.slice (some ⟨b2,o2,none⟩) y.length c2] 29))=W0 at *
 have cA:=Qcj 42 #[.pointer (some ⟨w.heap.size+1,0,none⟩),.pointer (some ⟨w.heap.size+1+1,0,none⟩)] (enters_of Tryz.func42 (by kernel_rfl) rfl) hL hn (O≠none) (IsE O) W0 (hg.keep u) (HT.o.keep u) (by rw [HO.o];exact Qco)
  (fun rs hrs W f hB hf=>by
   rw [HO.o,QaA hrs];exact QuT (QbB hrs) hx hy fx fy ⟨w.heap.size+1,0,none⟩ ⟨w.heap.size+1+1,0,none⟩ W ((hg.keep u).keep hB) hf (En.Qaa (En.Qac n_x hB) 0 rfl) (En.Qaa (En.Qac n_y hB) 0 rfl) ((HX.o.keep u).keep hB) ((HY.o.keep u).keep hB))
 refine cA.mono ?_;intro e v1 h1;replace u:=u.trans (h1.below.mono u.size);clear HX HY HT HO n_t n_x n_y t0 cA;cases O with
 | none =>
  obtain rfl:=h1.bad (fun h=>h rfl);clear h1;go_wp2_with fail;exact bodyPost_ret (v:=.tuple #[.slice none 0 0,.int .i64 60]) (by simp [results,Tryz.results14, go_sem]) rfl ⟨u,fun h=>absurd rfl h,fun _=>rfl⟩
 | some s =>
  obtain ⟨v,rfl,hv⟩:=h1.good (fun q=>by cases q);clear h1;go_wp2_with fail;exact bodyPost_ret (v:=.tuple #[v,.int .i64 0]) (by simp [results,Tryz.results14, go_sem]) rfl ⟨u,fun _=>⟨v,rfl,hv⟩,fun h=>absurd (fun q=>by cases q) h⟩
theorem Qin {L:List (List Rat)} (hL:FitT L) (hn:L.length≤1000) {x y:List Rat} (hx:x.length≤1000) (hy:y.length≤1000) (fx:FitL x) (fy:FitL y) {t vx vy:Value} (w:World) (hg:Gl w) (ht:TwAt w t L) (ex:El w vx x) (ey:El w vy y) :
  Calls Tryz.prog 12 #[t,vx,vy] w (AnsA (ovr L (fun rs=>chk2 rs x y (mulO rs x y))≠none) (IsE (ovr L fun rs=>chk2 rs x y (mulO rs x y))) (.slice none 0 0) w):=by
 have hmf:=mkf;have HT:Sh _:=⟨ht⟩;obtain ⟨p,cap,rfl,h⟩:=ht.ex;clear h ht;have HX:Sh _:=⟨ex⟩;obtain ⟨b,o,c,rfl,h1,h2⟩:=ex.ex;have HY:Sh _:=⟨ey⟩;obtain ⟨b2,o2,c2,rfl,h1',h2'⟩:=ey.ex;clear h1 h2 ex h1' h2' ey;have u:=(((Below.refl w.heap.size w).alloc Lr (Jc #[.slice p L.length cap] 28)).alloc (by simp) (Jc #[.slice (some ⟨b,o,none⟩) x.length c] 29)).alloc (by simp;omega) (Jc #[.slice (some ⟨b2,o2,none⟩) y.length c2] 29);obtain ⟨n_t,n_x,n_y⟩:=En.new3 w (Jc #[.slice p L.length cap] 28) (Jc #[.slice (some ⟨b,o,none⟩) x.length c] 29) (Jc #[.slice (some ⟨b2,o2,none⟩) y.length c2] 29);have t0:=En.Qaa n_t 0 (v:=.slice p L.length cap) rfl;obtain ⟨O,hO⟩:∃ O,O=ovr L (fun rs=>chk2 rs x y (mulO rs x y)):=⟨_,rfl⟩;rw [←hO];have HO:Sh _:=⟨hO⟩;clear hO;go_enter Tryz.func12, Tryz.ntmps12;go_wp2_with fail;generalize (((w.alloc (Jc #[.slice p L.length cap] 28)).alloc (Jc #[.slice (some ⟨b,o,none⟩) x.length c] 29)).alloc (Jc #[.slice (some ⟨b2,o2,none⟩) y.length c2] 29))=W0 at *
 have cA:=Qcj 37 #[.pointer (some ⟨w.heap.size+1,0,none⟩),.pointer (some ⟨w.heap.size+1+1,0,none⟩)] (enters_of Tryz.func37 (by kernel_rfl) rfl) hL hn (O≠none) (IsE O) W0 (hg.keep u) (HT.o.keep u) (by rw [HO.o];exact Qco)
  (fun rs hrs W f hB hf=>by
   rw [HO.o,QaA hrs];exact QuU (QbB hrs) hx hy fx fy ⟨w.heap.size+1,0,none⟩ ⟨w.heap.size+1+1,0,none⟩ W ((hg.keep u).keep hB) hf (En.Qaa (En.Qac n_x hB) 0 rfl) (En.Qaa (En.Qac n_y hB) 0 rfl) ((HX.o.keep u).keep hB) ((HY.o.keep u).keep hB))
 refine cA.mono ?_;intro e v1 h1;replace u:=u.trans (h1.below.mono u.size);clear HX HY HT HO n_t n_x n_y t0 cA;cases O with
 | none =>
  obtain rfl:=h1.bad (fun h=>h rfl);clear h1;go_wp2_with fail;exact bodyPost_ret (v:=.tuple #[.slice none 0 0,.int .i64 60]) (by simp [results,Tryz.results12, go_sem]) rfl ⟨u,fun h=>absurd rfl h,fun _=>rfl⟩
 | some s =>
  obtain ⟨v,rfl,hv⟩:=h1.good (fun q=>by cases q);clear h1;go_wp2_with fail;exact bodyPost_ret (v:=.tuple #[v,.int .i64 0]) (by simp [results,Tryz.results12, go_sem]) rfl ⟨u,fun _=>⟨v,rfl,hv⟩,fun h=>absurd (fun q=>by cases q) h⟩
end Tw
end
end Go.Proofs.YtihlgifojjeoaaaGreatDoor
