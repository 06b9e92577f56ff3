import Derived.Test.YtihlgifojjeoaaaGreatDoorZ8L
import Derived.Test.YtihlgifojjeoaaaGreatDoorZ8F8
import Derived.Test.YtihlgifojjeoaaaGreatDoorZ8F1
import Derived.Recover
set_option maxRecDepth 1000000
set_option maxHeartbeats 40000000
open Go.Value renaming string→J
open Go.Obj renaming cells→Jc
namespace Go.Proofs.YtihlgifojjeoaaaGreatDoor
section
namespace Tw
open Go.RowKit Go.Extern.Stop Go.Stop Go.Extern
open En Go.Proofs.YtihlgifojjeoaaaGreatDoor.Nm Go.Proofs.YtihlgifojjeoaaaGreatDoor.Rt
theorem Qfu {R R':Nat→List Value}:∀ t,(∀ i,i<t→R i=R' i)→Qdy R t=Qdy R' t
 | 0,_=>rfl
 | t+1,h=>by rw [Qdy,Qdy,Qfu t (fun i hi=>h i (by omega)),h t (by omega)]
theorem QmF {e:TypeId} {s:Nat} {W:World} {base t:Nat} {v:Value} {R R':Nat→List Value} (h:OwnG e s W base v t R) (hR:∀ i,i<t→R i=R' i):OwnG e s W base v t R':=by
 unfold OwnG at h ⊢;rw [←Qfu t hR];exact h
def Yng (base:Nat) (W:World) (v:Value) (l:List Rat):Prop:=∃ b cp,v = .slice (some ⟨b,0,none⟩) l.length cp∧l.length≤cp∧base≤b∧Cl W b 0 l.length (pqs l)
theorem Yng.keep {base:Nat} {W W':World} {v:Value} {l:List Rat} (h:Yng base W v l) (hB:Below W.heap.size W W'):Yng base W' v l:=by
 obtain ⟨b,cp,e,h1,h2,h3⟩:=h;exact ⟨b,cp,e,h1,h2,h3.keep hB⟩
theorem Yng.el {base:Nat} {W:World} {v:Value} {l:List Rat} (h:Yng base W v l):El W v l:=by
 obtain ⟨b,cp,e,h1,h2,h3⟩:=h;exact ⟨b,0,cp,e,h1,h3⟩
structure Rds (base:Nat) (W:World) (v:Value) (L:List (List Rat)) (V:Nat→Value):Prop where
 own:OwnG 29 1 W base v L.length (fun i => [V i])
 el:∀ i d,L[i]? = some d→Yng base W (V i) d
 pos:∀ d∈L,1≤d.length
structure AnsD (L:List (List Rat)) (w:World) (e:Ending) (w':World):Prop where
 below:Below w.heap.size w w'
 good:∃ v V,e = .returned v∧Rds w.heap.size w' v L V
theorem QuN {W:World} {base t:Nat} {v:Value} {V:Nat→Value} (h:OwnG 29 1 W base v t (fun i => [V i])) (ht:0<t) {p:Option Addr} {n c:Nat} (hV:V 0 = .slice p n c) {b:Nat} {s:ByteArray} (hc:W.cell? ⟨b,0,none⟩=some (J s)):v.ownBlock≠some b:=by
 obtain ⟨k,rfl⟩:∃ k,t=k+1:=⟨t-1,by omega⟩;obtain ⟨g,cap,rfl,_,_,_,cur,hg,h0⟩:=h.shape (fun i _=>rfl);intro e;simp [Value.ownBlock] at e;subst e;have:=h0 0 0 (by omega) (by omega);rw [hV] at this;have h2:=En.Qaa hg 0 (v:=.slice p n c) this;rw [h2] at hc;cases hc
theorem QgP {e:TypeId} {W:World} {base m:Nat} {v:Value} {V:Nat→Value} (h:OwnG e 1 W base v m (fun i => [V i])) (x:Value):OwnG e 1 W base v m (fun i => [if i=m then x else V i]) :=
 QmF h fun i hi=>by show [V i] = [if i=m then x else V i];rw [if_neg (by omega)]
theorem Rds.snoc {base:Nat} {W W':World} {v v':Value} {L:List (List Rat)} {V:Nat→Value} {d:List Rat} {x:Value} (h:Rds base W v L V) (hx:Yng base W x d) (hd:1≤d.length) (hnew:∀ b cp,x = .slice (some ⟨b,0,none⟩) d.length cp→v.ownBlock≠some b) (hg:W.grownBy W' v.ownBlock)
  (ho:OwnG 29 1 W' base v' (L.length+1) (fun i => [if i=L.length then x else V i])):Rds base W' v' (L ++ [d]) (fun i=>if i=L.length then x else V i):=by
 refine ⟨by rw [List.length_append];exact ho,fun i y hy => ?_,fun y hy => ?_⟩
 ·by_cases hi:i=L.length
  ·subst hi;rw [List.getElem?_append_right Lr,Nat.sub_self] at hy;cases hy;show Yng base W' (if L.length=L.length then x else V L.length) d;rw [if_pos rfl];obtain ⟨b,cp,e,h1,h2,h3⟩:=hx;exact ⟨b,cp,e,h1,h2,h3.grown hg (hnew b cp e)⟩
  ·have hlt:i<L.length:=by
    rcases Nat.lt_or_ge i L.length with k | k
    ·exact k
    ·rw [List.getElem?_append_right k] at hy;rw [List.getElem?_eq_none (by simp;omega)] at hy;cases hy
   rw [List.getElem?_append_left hlt] at hy;show Yng base W' (if i=L.length then x else V i) y;rw [if_neg hi];obtain ⟨b,cp,e,h1,h2,h3⟩:=h.el i y hy;have hp:=h.pos y (List.mem_of_getElem? hy);obtain ⟨y0,hy0⟩:∃ y0,L[0]? = some y0:=⟨_,List.getElem?_eq_getElem (by omega)⟩;obtain ⟨b0,cp0,e0,_⟩:=h.el 0 y0 hy0;have hne:=QuN h.own (by omega) e0 (b:=b) (s:=(pqs y 0).1) (by have:=(h3.at_ 0 hp).1;rwa [Nat.zero_add] at this);exact ⟨b,cp,e,h1,h2,h3.grown hg hne⟩
 ·rcases List.mem_append.1 hy with k | k
  ·exact h.pos y k
  ·rw [List.mem_singleton.1 k];exact hd
theorem Rds.keep {base:Nat} {W W':World} {v:Value} {L:List (List Rat)} {V:Nat→Value} (h:Rds base W v L V) (hB:Below W.heap.size W W'):Rds base W' v L V:=⟨h.own.below hB,fun i d hd=>(h.el i d hd).keep hB,h.pos⟩
theorem QgQ:∀ {rs:List (List Rat)},rs.length≤4→∀ {f:Value} (w:World),Fd w f rs→Calls Tryz.prog 58 #[f] w (AnsD rs.reverse w)
 | [],_,f,w,hf=>by
  obtain rfl:f = .pointer none:=hf;go_enter Tryz.func58, Tryz.ntmps58;go_wp2_with fail;go_ret;exact ⟨Below.refl _ _,_,fun _ => .slice none 0 0,rfl,OwnG.nil _ _ _ _ _,fun i d h=>(by cases h),fun d h=>(by cases h)⟩
 | d :: rs,hk,f,w,hf=>by
  have hk':rs.length≤4:=by simp at hk;omega
  have hp:=QbG hk';obtain ⟨fb,lv,rv,rfl,n_f,hl,er,hd,fd⟩:=hf;have cR:Sh _:=⟨QgQ hk' w.drew (Fd.keep (QaS (Below.refl _ _)) hl)⟩;obtain ⟨br,orr,cr,hrv,_,hcl⟩:=er.ex;subst hrv;have cK:Sh (∀ W:World,Below w.heap.size w W→Calls Tryz.prog 104 #[.slice (some ⟨br,orr,none⟩) d.length cr] W (AnsE True d.length (pqs d) W)):=⟨fun W u=>Qjg br orr d.length cr (by omega) (pqs d) W (hcl.keep u)⟩;obtain ⟨pl,rfl⟩:=hl.ptr;have HR:Sh ((d :: rs).reverse=rs.reverse ++ [d]):=⟨List.reverse_cons ..⟩;have HD:Sh (1≤d.length):=⟨by omega⟩;obtain ⟨m,hm⟩:∃ m,m=rs.reverse.length:=⟨_,rfl⟩;have HM:Sh (rs.reverse.length=m∧m≤4):=⟨⟨hm.symm,by rw [hm,List.length_reverse];exact hk'⟩⟩;have f0:=En.Qaa n_f 0 (v:=.pointer pl) rfl;have f1:=En.Qaa n_f 1 (v:=.slice (some ⟨br,orr,none⟩) d.length cr) rfl;rw [HR.o];clear hl er hd fd hk hk' hp hm hcl;go_enter Tryz.func58, Tryz.ntmps58;go_wp2_with fail
  go_region_held3 (fun X=>X.cell? ⟨fb,0,none⟩=some (.pointer pl)∧X.cell? ⟨fb,1,none⟩=some (.slice (some ⟨br,orr,none⟩) d.length cr)) (go_keep) (first | (go_at_call 58; (with_reducible refine cR.o.mono ?_);intro e v1 h1;have u1:Below w.heap.size w v1:=Qah h1.below;obtain ⟨lst,V,rfl,hV⟩:=h1.good;have HV:Sh (Rds w.heap.size v1 lst rs.reverse V):=⟨hV⟩;clear h1 hV;replace f0:=Qae f0 u1;replace f1:=Qae f1 u1) | (go_at_call 104; (with_reducible refine (cK.o v1 u1).mono ?_);intro e v2 h2;have u2:=u1.trans (h2.below.mono u1.size);obtain ⟨bq,cq,rfl,h21,h22,h23,h24⟩:=h2.good trivial;have UA:=(Below.refl v2.heap.size v2).alloc Lr (Jc #[.slice (some ⟨bq,0,none⟩) d.length cq] 29);have n_n:=World.alloc_heap_new v2 (Jc #[.slice (some ⟨bq,0,none⟩) d.length cq] 29);have U3:=u2.trans (UA.mono u2.size);have HV2:=(HV.o.keep h2.below).keep UA;have HN:Sh _:=⟨fun (k:Nat) (hk:v1.heap.size≤k)=>HV.o.own.new k hk⟩;have hy:Yng w.heap.size _ (.slice (some ⟨bq,0,none⟩) d.length cq) d:=(⟨bq,cq,rfl,h22,Nat.le_trans u1.size h21,h24.keep UA⟩:Yng w.heap.size (v2.alloc (Jc #[.slice (some ⟨bq,0,none⟩) d.length cq] 29)) _ d);have HM4:Sh (m≤1000):=⟨by have:=HM.o.2;omega⟩;have hown:=HM.o.1▸QgP HV2.own (.slice (some ⟨bq,0,none⟩) d.length cq);have f0:v2.cell? ⟨fb,0,none⟩=_:=Qae (En.Qaa n_f 0 rfl) u2;have f1:v2.cell? ⟨fb,1,none⟩=_:=Qae (En.Qaa n_f 1 rfl) u2;clear h2) | ((refine Qci 16 9 15 w.heap.size m (fun i => [if i=m then .slice (some ⟨bq,0,none⟩) d.length cq else V i]) ?_ v2.heap.size 1 ?_ (some ⟨bq,0,none⟩) d.length cq ?_ ?_ ?_ ?_ ?_);(next=>go_must (exact hown));(next=>go_must (rfl));(next=>go_must (show [_] = [_];rw [if_pos rfl]));(next=>go_must (exact n_n));(next=>go_must (exact HM4.o));(next=>go_must (exact U3.size));intro v3 w3 hO3 hgr;go_must (have u3:=En.QbT U3 Lr Lr hown hgr);go_must (have RF:Sh (AnsD (rs.reverse ++ [d]) w (.returned v3) w3):=⟨⟨u3,v3,_,rfl,Rds.snoc HV2 hy HD.o (fun b cp e=>by injection e with e;injection e with e;injection e with e;rw [←e];exact HN.o bq h21) hgr (by rw [HM.o.1];exact hO3)⟩⟩);go_must (have f0:w3.cell? ⟨fb,0,none⟩=_:=Qae (En.Qaa n_f 0 rfl) u3);have f1:w3.cell? ⟨fb,1,none⟩=_:=Qae (En.Qaa n_f 1 rfl) u3) | fail)
  all_goals (go_wp2_with fail;go_ret;exact RF.o)
end Tw
end
section
namespace Tw
open Go.RowKit Go.Extern.Stop Go.Stop Go.Extern
open En
theorem QcH (c:Int) (w:World):(Instr.typeAssert (.iface 32 (.int .i64 c)) 20 32 true).run Tryz.prog w = .ok (.tuple #[.int .i64 c,.bool true]) w:=by
 simp [Instr.typeAssert,run_underlying Tryz.underlying32, go_sem]
theorem QqB (p:Addr) (w:World) :
  CallsD Tryz.prog 91 #[.pointer (some p)] .returning w fun e u' w'=>e = .returned (.tuple #[])∧u' = .returning∧w'=w:=by
 refine callsD_of_wpS Tryz.func91 rfl fun c₀ cs hu => ?_;apply wpS_seq;apply wpS_region;simp [wpOpsS,go_sem,recoverD,hu,Tryz.ntmps91, Exit.thenS];refine wpS_of_wp ?_;go_wp2;cases c₀
 simp_all [go_sem,bodyPostS,results,Tryz.results91]
theorem Qhy (p:Addr) (x:Value) (older:List PanicEntry) (w:World) (hc:w.cell? p=some x) (hz:w.frozen? p=false) :
  CallsD Tryz.prog 91 #[.pointer (some p)] (.panicking ({v:=twV,recovered:=false} :: older)) w fun e u' w'=>e = .returned (.tuple #[])∧u' = .panicking ({v:=twV,recovered:=true} :: older)∧w'=w.setCell p (.int .i64 60):=by
 refine callsD_of_wpS Tryz.func91 rfl fun c₀ cs hu => ?_;apply wpS_seq;apply wpS_region;simp [wpOpsS,go_sem,recoverD,hu,Tryz.ntmps91, Exit.thenS];refine wpS_of_wp ?_;have ha:=QcH 60 w;go_wp2;cases c₀
 simp_all [go_sem,bodyPostS,results,Tryz.results91]
theorem QqC (p:Addr) (w:World) :
  CallsD Tryz.prog 101 #[.pointer (some p)] .returning w fun e u' w'=>e = .returned (.tuple #[])∧u' = .returning∧w'=w:=by
 refine callsD_of_wpS Tryz.func101 rfl fun c₀ cs hu => ?_;apply wpS_seq;apply wpS_region;simp [wpOpsS,go_sem,recoverD,hu,Tryz.ntmps101, Exit.thenS];refine wpS_of_wp ?_;go_wp2;cases c₀
 simp_all [go_sem,bodyPostS,results,Tryz.results101]
theorem Qhz (p:Addr) (x:Value) (older:List PanicEntry) (w:World) (hc:w.cell? p=some x) (hz:w.frozen? p=false) :
  CallsD Tryz.prog 101 #[.pointer (some p)] (.panicking ({v:=twV,recovered:=false} :: older)) w fun e u' w'=>e = .returned (.tuple #[])∧u' = .panicking ({v:=twV,recovered:=true} :: older)∧w'=w.setCell p (.int .i64 60):=by
 refine callsD_of_wpS Tryz.func101 rfl fun c₀ cs hu => ?_;apply wpS_seq;apply wpS_region;simp [wpOpsS,go_sem,recoverD,hu,Tryz.ntmps101, Exit.thenS];refine wpS_of_wp ?_;have ha:=QcH 60 w;go_wp2;cases c₀
 simp_all [go_sem,bodyPostS,results,Tryz.results101]
theorem QqD (p:Addr) (w:World) :
  CallsD Tryz.prog 134 #[.pointer (some p)] .returning w fun e u' w'=>e = .returned (.tuple #[])∧u' = .returning∧w'=w:=by
 refine callsD_of_wpS Tryz.func134 rfl fun c₀ cs hu => ?_;apply wpS_seq;apply wpS_region;simp [wpOpsS,go_sem,recoverD,hu,Tryz.ntmps134, Exit.thenS];refine wpS_of_wp ?_;go_wp2;cases c₀
 simp_all [go_sem,bodyPostS,results,Tryz.results134]
theorem QhA (p:Addr) (x:Value) (older:List PanicEntry) (w:World) (hc:w.cell? p=some x) (hz:w.frozen? p=false) :
  CallsD Tryz.prog 134 #[.pointer (some p)] (.panicking ({v:=twV,recovered:=false} :: older)) w fun e u' w'=>e = .returned (.tuple #[])∧u' = .panicking ({v:=twV,recovered:=true} :: older)∧w'=w.setCell p (.int .i64 60):=by
 refine callsD_of_wpS Tryz.func134 rfl fun c₀ cs hu => ?_;apply wpS_seq;apply wpS_region;simp [wpOpsS,go_sem,recoverD,hu,Tryz.ntmps134, Exit.thenS];refine wpS_of_wp ?_;have ha:=QcH 60 w;go_wp2;cases c₀
 simp_all [go_sem,bodyPostS,results,Tryz.results134]
theorem QqE (p:Addr) (w:World) :
  CallsD Tryz.prog 107 #[.pointer (some p)] .returning w fun e u' w'=>e = .returned (.tuple #[])∧u' = .returning∧w'=w:=by
 refine callsD_of_wpS Tryz.func107 rfl fun c₀ cs hu => ?_;apply wpS_seq;apply wpS_region;simp [wpOpsS,go_sem,recoverD,hu,Tryz.ntmps107, Exit.thenS];refine wpS_of_wp ?_;go_wp2;cases c₀
 simp_all [go_sem,bodyPostS,results,Tryz.results107]
theorem QhB (p:Addr) (x:Value) (older:List PanicEntry) (w:World) (hc:w.cell? p=some x) (hz:w.frozen? p=false) :
  CallsD Tryz.prog 107 #[.pointer (some p)] (.panicking ({v:=twV,recovered:=false} :: older)) w fun e u' w'=>e = .returned (.tuple #[])∧u' = .panicking ({v:=twV,recovered:=true} :: older)∧w'=w.setCell p (.int .i64 60):=by
 refine callsD_of_wpS Tryz.func107 rfl fun c₀ cs hu => ?_;apply wpS_seq;apply wpS_region;simp [wpOpsS,go_sem,recoverD,hu,Tryz.ntmps107, Exit.thenS];refine wpS_of_wp ?_;have ha:=QcH 60 w;go_wp2;cases c₀
 simp_all [go_sem,bodyPostS,results,Tryz.results107]
theorem QqF (p:Addr) (w:World) :
  CallsD Tryz.prog 108 #[.pointer (some p)] .returning w fun e u' w'=>e = .returned (.tuple #[])∧u' = .returning∧w'=w:=by
 refine callsD_of_wpS Tryz.func108 rfl fun c₀ cs hu => ?_;apply wpS_seq;apply wpS_region;simp [wpOpsS,go_sem,recoverD,hu,Tryz.ntmps108, Exit.thenS];refine wpS_of_wp ?_;go_wp2;cases c₀
 simp_all [go_sem,bodyPostS,results,Tryz.results108]
theorem QhC (p:Addr) (x:Value) (older:List PanicEntry) (w:World) (hc:w.cell? p=some x) (hz:w.frozen? p=false) :
  CallsD Tryz.prog 108 #[.pointer (some p)] (.panicking ({v:=twV,recovered:=false} :: older)) w fun e u' w'=>e = .returned (.tuple #[])∧u' = .panicking ({v:=twV,recovered:=true} :: older)∧w'=w.setCell p (.int .i64 60):=by
 refine callsD_of_wpS Tryz.func108 rfl fun c₀ cs hu => ?_;apply wpS_seq;apply wpS_region;simp [wpOpsS,go_sem,recoverD,hu,Tryz.ntmps108, Exit.thenS];refine wpS_of_wp ?_;have ha:=QcH 60 w;go_wp2;cases c₀
 simp_all [go_sem,bodyPostS,results,Tryz.results108]
theorem QqG (p:Addr) (w:World) :
  CallsD Tryz.prog 119 #[.pointer (some p)] .returning w fun e u' w'=>e = .returned (.tuple #[])∧u' = .returning∧w'=w:=by
 refine callsD_of_wpS Tryz.func119 rfl fun c₀ cs hu => ?_;apply wpS_seq;apply wpS_region;simp [wpOpsS,go_sem,recoverD,hu,Tryz.ntmps119, Exit.thenS];refine wpS_of_wp ?_;go_wp2;cases c₀
 simp_all [go_sem,bodyPostS,results,Tryz.results119]
theorem QhD (p:Addr) (x:Value) (older:List PanicEntry) (w:World) (hc:w.cell? p=some x) (hz:w.frozen? p=false) :
  CallsD Tryz.prog 119 #[.pointer (some p)] (.panicking ({v:=twV,recovered:=false} :: older)) w fun e u' w'=>e = .returned (.tuple #[])∧u' = .panicking ({v:=twV,recovered:=true} :: older)∧w'=w.setCell p (.int .i64 60):=by
 refine callsD_of_wpS Tryz.func119 rfl fun c₀ cs hu => ?_;apply wpS_seq;apply wpS_region;simp [wpOpsS,go_sem,recoverD,hu,Tryz.ntmps119, Exit.thenS];refine wpS_of_wp ?_;have ha:=QcH 60 w;go_wp2;cases c₀
 simp_all [go_sem,bodyPostS,results,Tryz.results119]
end Tw
end
section
namespace Tw
open Go.RowKit Go.Extern.Stop Go.Stop Go.Extern
open En Go.Proofs.YtihlgifojjeoaaaGreatDoor.Nm Go.Proofs.YtihlgifojjeoaaaGreatDoor.Rt
structure AnsC (ok:Prop) (R:World→Value→Prop) (w:World) (e:Ending) (w':World):Prop where
 below:Below w.heap.size w w'
 good:ok→∃ v,e = .returned v∧R w' v
 bad:¬ ok→e = .panicked twP
structure AnsA (ok:Prop) (R:World→Value→Prop) (z:Value) (w:World) (e:Ending) (w':World):Prop where
 below:Below w.heap.size w w'
 good:ok→∃ v,e = .returned (.tuple #[v,.int .i64 0])∧R w' v
 bad:¬ ok→e = .returned (.tuple #[z,.int .i64 60])
theorem set_same {W:World} {b:Nat} {x:Value} {T:TypeId} (h:W.heap[b]? = some (Jc #[x] T (0,0))):W.setCell ⟨b,0,none⟩ x=W:=by
 obtain ⟨hl,hg⟩:=Array.getElem?_eq_some_iff.1 h;cases W with
 | mk heap _ _ _ _ =>
  simp only [World.setCell,World.mk.injEq,and_true] at *
  apply Array.ext
  ·simp
  ·intro i h1 h2;rw [Array.getElem_modify];split
   ·rename_i e;subst e;rw [hg];simp
   ·rfl
theorem Qcj (k:Nat) (caps:Array Value) (hk:Enters Tryz.prog k) {L:List (List Rat)} (hL:FitT L) (hn:L.length≤1000) {t:Value} (ok:Prop) (R:World→Value→Prop)
  (w:World) (hg:Gl w) (ht:TwAt w t L) (hno:Qam [] L=none→¬ ok)
  (hC:∀ rs,Qam [] L=some rs→∀ W f,Below w.heap.size w W→Fd W f rs→Calls Tryz.prog k (#[f]++caps) W (AnsC ok R W)) :
  Calls Tryz.prog 36 #[t,.func (.func k) #[] caps] w (AnsA ok R (.slice none 0 0) w):=by
 have hmf:=mkf;have HK:=fun W (u:Below w.heap.size w W)=>Qdl hL hn W (hg.keep u) (ht.keep u);obtain ⟨p,cap,rfl,h⟩:=ht.ex;clear h ht hL hn hg;generalize L.length=n at *
 generalize Qam [] L=O at *
 have CF:Sh _:=⟨HK⟩;have CC:Sh _:=⟨hC⟩;have HN:Sh _:=⟨hno⟩;clear HK hC hno
 go_enter_defers Tryz.func36, Tryz.ntmps36
 go_wp2_with fail;have n_e:=En.QaP w (Jc #[.slice p n cap] 28) (Jc #[.int .i64 0] 32);have u:=((Below.refl w.heap.size w).alloc Lr (Jc #[.slice p n cap] 28)).alloc (by simp) (Jc #[.int .i64 0] 32);generalize ((w.alloc (Jc #[.slice p n cap] 28)).alloc (Jc #[.int .i64 0] 32))=W0 at *
 refine (CF.o W0 u).mono ?_;intro e v1 h1;replace u:=u.trans (h1.below.mono u.size);replace n_e:=En.Qac n_e h1.below;cases O with
 | none =>
  obtain rfl:=h1.bad rfl;have hok:=HN.o rfl;clear h1 CF CC HN;have c0:=En.Qaa n_e 0 (v:=.int .i64 0) rfl;have f0:=En.Qad n_e 0;dsimp +zetaDelta only [Exit.then,Exit.inBlock];refine leaves_cons (f := 91) (args:=#[.pointer (some ⟨w.heap.size+1,0,none⟩)]) (by simp) (by simp [go_sem]) ?_;refine (Qhy ⟨w.heap.size+1,0,none⟩ (.int .i64 0) [] _ c0 f0).mono ?_;rintro e u' w'' ⟨rfl,rfl,rfl⟩;have r4:=World.cell?_setCell_same v1 ⟨w.heap.size+1,0,none⟩ (.int .i64 60) c0;show ∃ v,(results _ _).run _ _ = .ok v _∧AnsA _ _ _ _ _ _;exact ⟨.tuple #[.slice none 0 0,.int .i64 60],by simp [results,Tryz.results36, go_sem,r4],u.setCell (show w.heap.size≤(⟨w.heap.size+1,0,none⟩:Addr).block from Nat.le_succ _) _,fun h=>absurd h hok,fun _=>rfl⟩
 | some rs =>
  obtain ⟨f,rfl,hf⟩:=h1.good rs rfl;have cC:=CC.o rs rfl v1 f u hf;clear h1 CF CC hf;have hen:=fun a w=>hk a w;go_wp2_with fail;refine cC.mono ?_;intro e v2 h2;replace u:=u.trans (h2.below.mono u.size);replace n_e:=En.Qac n_e h2.below;have c0:=En.Qaa n_e 0 (v:=.int .i64 0) rfl;have f0:=En.Qad n_e 0;by_cases hok:ok
  ·obtain ⟨v,rfl,hv⟩:=h2.good hok;have hs:=set_same n_e;clear h2 cC;dsimp only
   go_wp
   refine leaves_cons (f := 91) (args:=#[.pointer (some ⟨w.heap.size+1,0,none⟩)]) (by simp) (by simp [go_sem]) ?_;refine (QqB ⟨w.heap.size+1,0,none⟩ _).mono ?_;rintro e u' w'' ⟨rfl,rfl,rfl⟩;show ∃ v,(results _ _).run _ _ = .ok v _∧AnsA _ _ _ _ _ _;exact ⟨.tuple #[v,.int .i64 0],by simp [results,Tryz.results36, go_sem,c0],u,fun _=>⟨v,rfl,hv⟩,fun h=>absurd hok h⟩
  ·obtain rfl:=h2.bad hok;clear h2 cC;dsimp +zetaDelta only [Exit.then,Exit.inBlock];refine leaves_cons (f := 91) (args:=#[.pointer (some ⟨w.heap.size+1,0,none⟩)]) (by simp) (by simp [go_sem]) ?_;refine (Qhy ⟨w.heap.size+1,0,none⟩ (.int .i64 0) [] _ c0 f0).mono ?_;rintro e u' w'' ⟨rfl,rfl,rfl⟩;have r4:=World.cell?_setCell_same v2 ⟨w.heap.size+1,0,none⟩ (.int .i64 60) c0;show ∃ v,(results _ _).run _ _ = .ok v _∧AnsA _ _ _ _ _ _;exact ⟨.tuple #[.slice none 0 0,.int .i64 60],by simp [results,Tryz.results36, go_sem,r4],u.setCell (show w.heap.size≤(⟨w.heap.size+1,0,none⟩:Addr).block from Nat.le_succ _) _,fun h=>absurd h hok,fun _=>rfl⟩
theorem Qki (k:Nat) (caps:Array Value) (hk:Enters Tryz.prog k) {L:List (List Rat)} (hL:FitT L) (hn:L.length≤1000) {t:Value} (ok:Prop) (R:World→Value→Prop)
  (w:World) (hg:Gl w) (ht:TwAt w t L) (hno:Qam [] L=none→¬ ok)
  (hC:∀ rs,Qam [] L=some rs→∀ W f,Below w.heap.size w W→Fd W f rs→Calls Tryz.prog k (#[f]++caps) W (AnsC ok R W)) :
  Calls Tryz.prog 45 #[t,.func (.func k) #[] caps] w (AnsA ok R (.int .i64 0) w):=by
 have hmf:=mkf;have HK:=fun W (u:Below w.heap.size w W)=>Qdl hL hn W (hg.keep u) (ht.keep u);obtain ⟨p,cap,rfl,h⟩:=ht.ex;clear h ht hL hn hg;generalize L.length=n at *
 generalize Qam [] L=O at *
 have CF:Sh _:=⟨HK⟩;have CC:Sh _:=⟨hC⟩;have HN:Sh _:=⟨hno⟩;clear HK hC hno
 go_enter_defers Tryz.func45, Tryz.ntmps45
 go_wp2_with fail;have n_e:=En.QaP w (Jc #[.slice p n cap] 28) (Jc #[.int .i64 0] 32);have u:=((Below.refl w.heap.size w).alloc Lr (Jc #[.slice p n cap] 28)).alloc (by simp) (Jc #[.int .i64 0] 32);generalize ((w.alloc (Jc #[.slice p n cap] 28)).alloc (Jc #[.int .i64 0] 32))=W0 at *
 refine (CF.o W0 u).mono ?_;intro e v1 h1;replace u:=u.trans (h1.below.mono u.size);replace n_e:=En.Qac n_e h1.below;cases O with
 | none =>
  obtain rfl:=h1.bad rfl;have hok:=HN.o rfl;clear h1 CF CC HN;have c0:=En.Qaa n_e 0 (v:=.int .i64 0) rfl;have f0:=En.Qad n_e 0;dsimp +zetaDelta only [Exit.then,Exit.inBlock];refine leaves_cons (f := 101) (args:=#[.pointer (some ⟨w.heap.size+1,0,none⟩)]) (by simp) (by simp [go_sem]) ?_;refine (Qhz ⟨w.heap.size+1,0,none⟩ (.int .i64 0) [] _ c0 f0).mono ?_;rintro e u' w'' ⟨rfl,rfl,rfl⟩;have r4:=World.cell?_setCell_same v1 ⟨w.heap.size+1,0,none⟩ (.int .i64 60) c0;show ∃ v,(results _ _).run _ _ = .ok v _∧AnsA _ _ _ _ _ _;exact ⟨.tuple #[.int .i64 0,.int .i64 60],by simp [results,Tryz.results45, go_sem,r4],u.setCell (show w.heap.size≤(⟨w.heap.size+1,0,none⟩:Addr).block from Nat.le_succ _) _,fun h=>absurd h hok,fun _=>rfl⟩
 | some rs =>
  obtain ⟨f,rfl,hf⟩:=h1.good rs rfl;have cC:=CC.o rs rfl v1 f u hf;clear h1 CF CC hf;have hen:=fun a w=>hk a w;go_wp2_with fail;refine cC.mono ?_;intro e v2 h2;replace u:=u.trans (h2.below.mono u.size);replace n_e:=En.Qac n_e h2.below;have c0:=En.Qaa n_e 0 (v:=.int .i64 0) rfl;have f0:=En.Qad n_e 0;by_cases hok:ok
  ·obtain ⟨v,rfl,hv⟩:=h2.good hok;have hs:=set_same n_e;clear h2 cC;dsimp only
   go_wp
   refine leaves_cons (f := 101) (args:=#[.pointer (some ⟨w.heap.size+1,0,none⟩)]) (by simp) (by simp [go_sem]) ?_;refine (QqC ⟨w.heap.size+1,0,none⟩ _).mono ?_;rintro e u' w'' ⟨rfl,rfl,rfl⟩;show ∃ v,(results _ _).run _ _ = .ok v _∧AnsA _ _ _ _ _ _;exact ⟨.tuple #[v,.int .i64 0],by simp [results,Tryz.results45, go_sem,c0],u,fun _=>⟨v,rfl,hv⟩,fun h=>absurd hok h⟩
  ·obtain rfl:=h2.bad hok;clear h2 cC;dsimp +zetaDelta only [Exit.then,Exit.inBlock];refine leaves_cons (f := 101) (args:=#[.pointer (some ⟨w.heap.size+1,0,none⟩)]) (by simp) (by simp [go_sem]) ?_;refine (Qhz ⟨w.heap.size+1,0,none⟩ (.int .i64 0) [] _ c0 f0).mono ?_;rintro e u' w'' ⟨rfl,rfl,rfl⟩;have r4:=World.cell?_setCell_same v2 ⟨w.heap.size+1,0,none⟩ (.int .i64 60) c0;show ∃ v,(results _ _).run _ _ = .ok v _∧AnsA _ _ _ _ _ _;exact ⟨.tuple #[.int .i64 0,.int .i64 60],by simp [results,Tryz.results45, go_sem,r4],u.setCell (show w.heap.size≤(⟨w.heap.size+1,0,none⟩:Addr).block from Nat.le_succ _) _,fun h=>absurd h hok,fun _=>rfl⟩
theorem Qkj (k:Nat) (caps:Array Value) (hk:Enters Tryz.prog k) {L:List (List Rat)} (hL:FitT L) (hn:L.length≤1000) {t:Value} (ok:Prop) (R:World→Value→Prop)
  (w:World) (hg:Gl w) (ht:TwAt w t L) (hno:Qam [] L=none→¬ ok)
  (hC:∀ rs,Qam [] L=some rs→∀ W f,Below w.heap.size w W→Fd W f rs→Calls Tryz.prog k (#[f]++caps) W (AnsC ok R W)) :
  Calls Tryz.prog 85 #[t,.func (.func k) #[] caps] w (AnsA ok R (.bool false) w):=by
 have hmf:=mkf;have HK:=fun W (u:Below w.heap.size w W)=>Qdl hL hn W (hg.keep u) (ht.keep u);obtain ⟨p,cap,rfl,h⟩:=ht.ex;clear h ht hL hn hg;generalize L.length=n at *
 generalize Qam [] L=O at *
 have CF:Sh _:=⟨HK⟩;have CC:Sh _:=⟨hC⟩;have HN:Sh _:=⟨hno⟩;clear HK hC hno
 go_enter_defers Tryz.func85, Tryz.ntmps85
 go_wp2_with fail;have n_e:=En.QaP w (Jc #[.slice p n cap] 28) (Jc #[.int .i64 0] 32);have u:=((Below.refl w.heap.size w).alloc Lr (Jc #[.slice p n cap] 28)).alloc (by simp) (Jc #[.int .i64 0] 32);generalize ((w.alloc (Jc #[.slice p n cap] 28)).alloc (Jc #[.int .i64 0] 32))=W0 at *
 refine (CF.o W0 u).mono ?_;intro e v1 h1;replace u:=u.trans (h1.below.mono u.size);replace n_e:=En.Qac n_e h1.below;cases O with
 | none =>
  obtain rfl:=h1.bad rfl;have hok:=HN.o rfl;clear h1 CF CC HN;have c0:=En.Qaa n_e 0 (v:=.int .i64 0) rfl;have f0:=En.Qad n_e 0;dsimp +zetaDelta only [Exit.then,Exit.inBlock];refine leaves_cons (f := 134) (args:=#[.pointer (some ⟨w.heap.size+1,0,none⟩)]) (by simp) (by simp [go_sem]) ?_;refine (QhA ⟨w.heap.size+1,0,none⟩ (.int .i64 0) [] _ c0 f0).mono ?_;rintro e u' w'' ⟨rfl,rfl,rfl⟩;have r4:=World.cell?_setCell_same v1 ⟨w.heap.size+1,0,none⟩ (.int .i64 60) c0;show ∃ v,(results _ _).run _ _ = .ok v _∧AnsA _ _ _ _ _ _;exact ⟨.tuple #[.bool false,.int .i64 60],by simp [results,Tryz.results85, go_sem,r4],u.setCell (show w.heap.size≤(⟨w.heap.size+1,0,none⟩:Addr).block from Nat.le_succ _) _,fun h=>absurd h hok,fun _=>rfl⟩
 | some rs =>
  obtain ⟨f,rfl,hf⟩:=h1.good rs rfl;have cC:=CC.o rs rfl v1 f u hf;clear h1 CF CC hf;have hen:=fun a w=>hk a w;go_wp2_with fail;refine cC.mono ?_;intro e v2 h2;replace u:=u.trans (h2.below.mono u.size);replace n_e:=En.Qac n_e h2.below;have c0:=En.Qaa n_e 0 (v:=.int .i64 0) rfl;have f0:=En.Qad n_e 0;by_cases hok:ok
  ·obtain ⟨v,rfl,hv⟩:=h2.good hok;have hs:=set_same n_e;clear h2 cC;dsimp only
   go_wp
   refine leaves_cons (f := 134) (args:=#[.pointer (some ⟨w.heap.size+1,0,none⟩)]) (by simp) (by simp [go_sem]) ?_;refine (QqD ⟨w.heap.size+1,0,none⟩ _).mono ?_;rintro e u' w'' ⟨rfl,rfl,rfl⟩;show ∃ v,(results _ _).run _ _ = .ok v _∧AnsA _ _ _ _ _ _;exact ⟨.tuple #[v,.int .i64 0],by simp [results,Tryz.results85, go_sem,c0],u,fun _=>⟨v,rfl,hv⟩,fun h=>absurd hok h⟩
  ·obtain rfl:=h2.bad hok;clear h2 cC;dsimp +zetaDelta only [Exit.then,Exit.inBlock];refine leaves_cons (f := 134) (args:=#[.pointer (some ⟨w.heap.size+1,0,none⟩)]) (by simp) (by simp [go_sem]) ?_;refine (QhA ⟨w.heap.size+1,0,none⟩ (.int .i64 0) [] _ c0 f0).mono ?_;rintro e u' w'' ⟨rfl,rfl,rfl⟩;have r4:=World.cell?_setCell_same v2 ⟨w.heap.size+1,0,none⟩ (.int .i64 60) c0;show ∃ v,(results _ _).run _ _ = .ok v _∧AnsA _ _ _ _ _ _;exact ⟨.tuple #[.bool false,.int .i64 60],by simp [results,Tryz.results85, go_sem,r4],u.setCell (show w.heap.size≤(⟨w.heap.size+1,0,none⟩:Addr).block from Nat.le_succ _) _,fun h=>absurd h hok,fun _=>rfl⟩
theorem Qkk (k:Nat) (caps:Array Value) (hk:Enters Tryz.prog k) {L:List (List Rat)} (hL:FitT L) (hn:L.length≤1000) {t:Value} (ok:Prop)
  (w:World) (R:World→World→Value→Prop) (hset:∀ W W' v b y,w.heap.size≤b→b<W.heap.size→R W W' v→R W (W'.setCell ⟨b,0,none⟩ y) v) (hform:∀ W W' v,R W W' v→∃ p n cap,v = .agg #[.slice p n cap]) (hg:Gl w) (ht:TwAt w t L) (hno:Qam [] L=none→¬ ok)
  (hC:∀ rs,Qam [] L=some rs→∀ W f,Below w.heap.size w W→Fd W f rs→Calls Tryz.prog k (#[f]++caps) W (AnsC ok (R W) W)) :
  Calls Tryz.prog 55 #[t,.func (.func k) #[] caps] w (AnsA ok (fun W' v=>∃ W,Below w.heap.size w W∧R W W' v) (.agg #[.slice none 0 0]) w):=by
 have hmf:=mkf;have HK:=fun W (u:Below w.heap.size w W)=>Qdl hL hn W (hg.keep u) (ht.keep u);obtain ⟨p,cap,rfl,h⟩:=ht.ex;clear h ht hL hn hg;generalize L.length=n at *
 generalize Qam [] L=O at *
 have CF:Sh _:=⟨HK⟩;have CC:Sh _:=⟨hC⟩;have HN:Sh _:=⟨hno⟩;clear HK hC hno
 go_enter_defers Tryz.func55, Tryz.ntmps55
 go_wp2_with fail;obtain ⟨_,n_r,n_e⟩:=En.new3 w (Jc #[.slice p n cap] 28) (Jc #[.slice none 0 0] 28) (Jc #[.int .i64 0] 32);have u:=(((Below.refl w.heap.size w).alloc Lr (Jc #[.slice p n cap] 28)).alloc (by simp) (Jc #[.slice none 0 0] 28)).alloc (by simp;omega) (Jc #[.int .i64 0] 32);generalize (((w.alloc (Jc #[.slice p n cap] 28)).alloc (Jc #[.slice none 0 0] 28)).alloc (Jc #[.int .i64 0] 32))=W0 at *
 refine (CF.o W0 u).mono ?_;intro e v1 h1;replace u:=u.trans (h1.below.mono u.size);replace n_e:=En.Qac n_e h1.below;replace n_r:=En.Qac n_r h1.below;cases O with
 | none =>
  obtain rfl:=h1.bad rfl;have hok:=HN.o rfl;clear h1 CF CC HN;have c0:=En.Qaa n_e 0 (v:=.int .i64 0) rfl;have f0:=En.Qad n_e 0;dsimp +zetaDelta only [Exit.then,Exit.inBlock];refine leaves_cons (f := 107) (args:=#[.pointer (some ⟨w.heap.size+1+1,0,none⟩)]) (by simp) (by simp [go_sem]) ?_;refine (QhB ⟨w.heap.size+1+1,0,none⟩ (.int .i64 0) [] _ c0 f0).mono ?_;rintro e u' w'' ⟨rfl,rfl,rfl⟩;have r0:(v1.setCell ⟨w.heap.size+1+1,0,none⟩ (.int .i64 60)).cell? ⟨w.heap.size+1,0,none⟩=some (.slice none 0 0):=(World.cell?_setCell_other v1 ⟨w.heap.size+1+1,0,none⟩ ⟨w.heap.size+1,0,none⟩ _ (by simp)).trans (En.Qaa n_r 0 rfl);have r4:=World.cell?_setCell_same v1 ⟨w.heap.size+1+1,0,none⟩ (.int .i64 60) c0;show ∃ v,(results _ _).run _ _ = .ok v _∧AnsA _ _ _ _ _ _;exact ⟨.tuple #[.agg #[.slice none 0 0],.int .i64 60],by simp [results,Tryz.results55, go_sem,r0,r4],u.setCell (show w.heap.size≤(⟨w.heap.size+1+1,0,none⟩:Addr).block from by simp only;omega) _,fun h=>absurd h hok,fun _=>rfl⟩
 | some rs =>
  obtain ⟨f,rfl,hf⟩:=h1.good rs rfl;have cC:=CC.o rs rfl v1 f u hf;have hb1:w.heap.size+1<v1.heap.size:=(Array.getElem?_eq_some_iff.1 n_r).1;have u1:=u;clear h1 CF CC hf;have hen:=fun a w=>hk a w;go_wp2_with fail;refine cC.mono ?_;intro e v2 h2;replace u:=u.trans (h2.below.mono u.size);replace n_e:=En.Qac n_e h2.below;replace n_r:=En.Qac n_r h2.below;have c0:=En.Qaa n_e 0 (v:=.int .i64 0) rfl;have f0:=En.Qad n_e 0;by_cases hok:ok
  ·obtain ⟨v,rfl,hv⟩:=h2.good hok;obtain ⟨q,m,cp,rfl⟩:=hform _ _ _ hv;clear h2 cC;have d0:=En.Qaa n_r 0 (v:=.slice none 0 0) rfl;have g0:=En.Qad n_r 0;have hR:=hset _ _ _ (w.heap.size+1) (.slice q m cp) (Nat.le_succ _) hb1 hv;have HR:Sh _:=⟨hR⟩;clear hR hv hset hform;dsimp only
   go_wp
   have s_r:(v2.setCell ⟨w.heap.size+1,0,none⟩ (.slice q m cp)).heap[w.heap.size+1]? = some (Jc #[.slice q m cp] 28 (0,0)):=by
    have:=Qbo n_r 0 (.slice q m cp);simpa using this
   have s_e:(v2.setCell ⟨w.heap.size+1,0,none⟩ (.slice q m cp)).heap[w.heap.size+1+1]? = some (Jc #[.int .i64 0] 32 (0,0)):=(Below.heap_setCell _ _ _ _ (by simp)).trans n_e;replace u:=u.setCell (show w.heap.size≤(⟨w.heap.size+1,0,none⟩:Addr).block from Nat.le_succ _) (.slice q m cp);clear d0 g0 n_r n_e c0 f0;generalize (v2.setCell ⟨w.heap.size+1,0,none⟩ (.slice q m cp))=W5 at *
   rw [set_same s_e];have c0:=En.Qaa s_e 0 (v:=.int .i64 0) rfl;have r0:=En.Qaa s_r 0 (v:=.slice q m cp) rfl;refine leaves_cons (f := 107) (args:=#[.pointer (some ⟨w.heap.size+1+1,0,none⟩)]) (by simp) (by simp [go_sem]) ?_;refine (QqE ⟨w.heap.size+1+1,0,none⟩ _).mono ?_;rintro e u' w'' ⟨rfl,rfl,rfl⟩;show ∃ v,(results _ _).run _ _ = .ok v _∧AnsA _ _ _ _ _ _;exact ⟨.tuple #[.agg #[.slice q m cp],.int .i64 0],by simp [results,Tryz.results55, go_sem,r0,c0],u,fun _=>⟨_,rfl,v1,u1,HR.o⟩,fun h=>absurd hok h⟩
  ·obtain rfl:=h2.bad hok;clear h2 cC;dsimp +zetaDelta only [Exit.then,Exit.inBlock];refine leaves_cons (f := 107) (args:=#[.pointer (some ⟨w.heap.size+1+1,0,none⟩)]) (by simp) (by simp [go_sem]) ?_;refine (QhB ⟨w.heap.size+1+1,0,none⟩ (.int .i64 0) [] _ c0 f0).mono ?_;rintro e u' w'' ⟨rfl,rfl,rfl⟩;have r0:(v2.setCell ⟨w.heap.size+1+1,0,none⟩ (.int .i64 60)).cell? ⟨w.heap.size+1,0,none⟩=some (.slice none 0 0):=(World.cell?_setCell_other v2 ⟨w.heap.size+1+1,0,none⟩ ⟨w.heap.size+1,0,none⟩ _ (by simp)).trans (En.Qaa n_r 0 rfl);have r4:=World.cell?_setCell_same v2 ⟨w.heap.size+1+1,0,none⟩ (.int .i64 60) c0;show ∃ v,(results _ _).run _ _ = .ok v _∧AnsA _ _ _ _ _ _;exact ⟨.tuple #[.agg #[.slice none 0 0],.int .i64 60],by simp [results,Tryz.results55, go_sem,r0,r4],u.setCell (show w.heap.size≤(⟨w.heap.size+1+1,0,none⟩:Addr).block from by simp only;omega) _,fun h=>absurd h hok,fun _=>rfl⟩
end Tw
end
end Go.Proofs.YtihlgifojjeoaaaGreatDoor
