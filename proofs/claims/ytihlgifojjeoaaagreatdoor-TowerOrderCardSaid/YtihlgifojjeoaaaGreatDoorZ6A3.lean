import Derived.Test.YtihlgifojjeoaaaGreatDoorZ6A2
import Derived.Deep.RegionHeld
import Derived.Maps.AppendAt
set_option maxRecDepth 1000000
set_option maxHeartbeats 40000000
open Go.Value renaming string→Z
open Go.Obj renaming cells→O
namespace Go.Proofs.YtihlgifojjeoaaaGreatDoor
section
namespace En
open Go.RowKit Go.Extern.Stop Go.Stop Go.Extern
abbrev P2:=ByteArray×ByteArray
def QaG (A:P2→P2→Bool) (v:P2) (L:Nat→P2):Nat→P2
 | 0=>v
 | n+1=>if A (L n) (QaG A v L n) then L n else QaG A v L n
theorem Qks (A:P2→P2→Bool) (P:P2→Prop) (v:P2) (L:Nat→P2) (hv:P v):∀ n,(∀ i,i<n→P (L i))→P (QaG A v L n)
 | 0,_=>hv
 | n+1,h=>by
  rw [QaG];split
  ·exact h n (by omega)
  ·exact Qks A P v L hv n (fun i hi=>h i (by omega))
theorem Qbc {W:World} {b:Nat} {a0 a1 x y:Value} {T:TypeId} (h:W.heap[b]? = some (O #[a0,a1] T (0,0))):((W.setCell ⟨b,0,none⟩ x).setCell ⟨b,1,none⟩ y).heap[b]? = some (O #[x,y] T (0,0)):=by
 obtain ⟨hl,hg⟩:=Array.getElem?_eq_some_iff.1 h;simp [World.setCell,hl,Array.getElem_modify,hg]
theorem Qiy (k:Nat) (hk:Enters Tryz.prog k) (P:P2→Prop) (A:P2→P2→Bool) (hA:∀ p q,P p→P q→Ret k #[frc p.1 p.2,frc q.1 q.2] (.bool (A p q))) (L:Nat→P2) (v:P2) (hv:P v) (m bi off cap:Nat) (hm:m≤1000) (hL:∀ i,i<m→P (L i)) (w:World)
  (hcs:∀ W,Below w.heap.size w W→∀ j,j<m→W.cell? ⟨bi,off+j*2,none⟩=some (Z (L j).1)∧W.cell? ⟨bi,off+j*2+1,none⟩=some (Z (L j).2)) :
  Calls Tryz.prog 132 #[.func (.func k) #[] #[],frc v.1 v.2,.slice (some ⟨bi,off,none⟩) m cap] w fun e w'=>e = .returned (frc (QaG A v L m).1 (QaG A v L m).2)∧Below w.heap.size w w':=by
 unfold frc at *
 obtain ⟨n_v,n_r⟩:=Qiw w (O #[Z v.1,Z v.2] 42) (O #[Z ⟨#[]⟩,Z ⟨#[]⟩] 42);have u:=QfU w (O #[Z v.1,Z v.2] 42) (O #[Z ⟨#[]⟩,Z ⟨#[]⟩] 42);have CC:Shut _:=⟨hA⟩;have HCS:Shut _:=⟨hcs⟩;clear hA hcs;go_enter Tryz.func132, Tryz.ntmps132;go_wp2_with fail;generalize ((w.alloc (O #[Z v.1,Z v.2] 42)).alloc (O #[Z ⟨#[]⟩,Z ⟨#[]⟩] 42))=W0 at *
 have NV:Shut _:=⟨n_v⟩;have NR:Shut _:=⟨n_r⟩;have U0:Shut _:=⟨u⟩;clear n_v n_r u
 go_loopw [11] (fun jv wr=>∃ j:Nat,j≤m∧jv = .int .i64 (j:Int)∧Shut (wr.heap[w.heap.size]? = some (O #[Z (QaG A v L j).1,Z (QaG A v L j).2] 42 (0,0))∧wr.heap[w.heap.size+1]? = some (O #[Z ⟨#[]⟩,Z ⟨#[]⟩] 42 (0,0))∧Below w.heap.size w wr)) (fun jv _=>m-(intOf jv).toNat)
 case atStart=>exact ⟨0,Nat.zero_le _,rfl,⟨NV.o,NR.o,U0.o⟩⟩
 case round =>
  obtain ⟨j,hj,rfl,H⟩:=hrel;clear NV NR U0;obtain ⟨n_v,n_r,u⟩:=H.o;clear H;have hen:=fun a w=>hk a w;by_cases hjn:j=m
  ·subst hjn;have c0:=Qaa n_v 0 (v:=Z (QaG A v L j).1) rfl;have c1:=Qaa n_v 1 (v:=Z (QaG A v L j).2) rfl;have d0:=Qaa n_r 0 (v:=Z ⟨#[]⟩) rfl;have d1:=Qaa n_r 1 (v:=Z ⟨#[]⟩) rfl;have h0:=Qad n_r 0;have h1:=Qad n_r 1;have s_r:=Qbc (x:=Z (QaG A v L j).1) (y:=Z (QaG A v L j).2) n_r;have z0:=Qaa s_r 0 (v:=Z (QaG A v L j).1) rfl;have z1:=Qaa s_r 1 (v:=Z (QaG A v L j).2) rfl;go_wp2_with fail;exact bodyPost_ret (v:=.agg #[Z (QaG A v L j).1,Z (QaG A v L j).2]) (by simp [results,Tryz.results132, go_sem,z0,z1]) rfl ⟨rfl,(u.setCell (show w.heap.size≤(⟨w.heap.size+1,0,none⟩:Addr).block from Nat.le_succ _) _).setCell (show w.heap.size≤(⟨w.heap.size+1,1,none⟩:Addr).block from Nat.le_succ _) _⟩
  ·have hj2:(j:Int)<(m:Int):=by omega
   have hj3:(0:Int)≤(j:Int):=by omega
   obtain ⟨y0,y1⟩:=HCS.o wr u j (by omega);have cK:=CC.o (L j) (QaG A v L j) (hL j (by omega)) (Qks A P v L hv j (fun i hi=>hL i (by omega)));have hp:QaG A v L (j+1)=if A (L j) (QaG A v L j) then L j else QaG A v L j:=rfl
   generalize QaG A v L j=pj at *
   generalize L j=lj at *
   have c0:=Qaa n_v 0 (v:=Z pj.1) rfl;have c1:=Qaa n_v 1 (v:=Z pj.2) rfl;have f0:=Qad n_v 0;have f1:=Qad n_v 1;have m_v:(wr.alloc (O #[Z lj.1,Z lj.2] 42)).heap[w.heap.size]? = _:=(Below.heap_alloc wr _ _ (Array.getElem?_eq_some_iff.1 n_v).1).trans n_v;have m_r:(wr.alloc (O #[Z lj.1,Z lj.2] 42)).heap[w.heap.size+1]? = _:=(Below.heap_alloc wr _ _ (Array.getElem?_eq_some_iff.1 n_r).1).trans n_r;have m_o:(wr.alloc (O #[Z lj.1,Z lj.2] 42)).heap[wr.heap.size]? = _:=World.alloc_heap_new wr _;have a0:=Qaa m_v 0 (v:=Z pj.1) rfl;have a1:=Qaa m_v 1 (v:=Z pj.2) rfl;go_wp2_with fail;refine (cK _).mono ?_;rintro e v1 ⟨rfl,g⟩;have hq:=u;replace u:=u.trans (((Below.refl wr.heap.size wr).alloc Lr (O #[Z lj.1,Z lj.2] 42)).trans (g.mono (by simp)) |>.mono u.size);replace n_v:=Qac m_v g;replace n_r:=Qac m_r g;replace m_o:=Qac m_o g;clear g m_v m_r a0 a1 c0 c1 f0 f1 cK y0 y1;have hw1:IntKind.i64.wrap ((j:Int)+1)=(j:Int)+1:=by simp [IntKind.wrap,IntKind.signed,IntKind.bits];omega
   have o0:=Qaa m_o 0 (v:=Z lj.1) rfl;have o1:=Qaa m_o 1 (v:=Z lj.2) rfl;have c0:=Qaa n_v 0 (v:=Z pj.1) rfl;have c1:=Qaa n_v 1 (v:=Z pj.2) rfl;have f0:=Qad n_v 0;have f1:=Qad n_v 1;cases hA:A lj pj with
   | true =>
    rw [hA,if_pos rfl] at hp;go_wp2_with fail;have s_v:=Qbc (x:=Z lj.1) (y:=Z lj.2) n_v;have s_r:((v1.setCell ⟨w.heap.size,0,none⟩ (Z lj.1)).setCell ⟨w.heap.size,1,none⟩ (Z lj.2)).heap[w.heap.size+1]? = _:=(Below.heap_setCell _ _ _ _ (by simp)).trans ((Below.heap_setCell _ _ _ _ (by simp)).trans n_r);have us:=(u.setCell (show w.heap.size≤(⟨w.heap.size,0,none⟩:Addr).block from Nat.le_refl _) (Z lj.1)).setCell (show w.heap.size≤(⟨w.heap.size,1,none⟩:Addr).block from Nat.le_refl _) (Z lj.2)
    go_roundw
    case rel=>exact ⟨j+1,by omega,by first | rfl | go_num | simp,⟨by rw [hp];exact s_v,s_r,us⟩⟩
    case measure=>simp [intOf];omega
   | false =>
    rw [hA,if_neg (by decide)] at hp;go_wp2_with fail
    go_roundw
    case rel=>exact ⟨j+1,by omega,by first | rfl | go_num | simp,⟨by rw [hp];exact n_v,n_r,u⟩⟩
    case measure=>simp [intOf];omega
theorem QaS {B:Nat} {w w':World} (h:Below B w w'):Below B w w'.drew:=⟨h.os,h.tape,h.output,h.size,h.block⟩
theorem Qah {B:Nat} {w w':World} (h:Below B w.drew w'):Below B w w':=⟨h.os,h.tape,h.output,h.size,h.block⟩
theorem QmT (P:P2→Prop) (A:P2→P2→Bool) (hA:∀ p q,P p→P q→Ret 82 #[frc p.1 p.2,frc q.1 q.2] (.bool (A p q))) (L:Nat→P2) (m bi cap:Nat) (h1:1≤m) (hm:m≤1000) (hcap:m≤cap) (hL:∀ i,i<m→P (L i)) (w:World)
  (hcs:∀ W,Below w.heap.size w W→∀ j,j<m→W.cell? ⟨bi,j*2,none⟩=some (Z (L j).1)∧W.cell? ⟨bi,j*2+1,none⟩=some (Z (L j).2)) :
  Calls Tryz.prog 80 #[.slice (some ⟨bi,0,none⟩) m cap] w fun e w'=>e = .returned (frc (QaG A (L 0) (fun i=>L (i+1)) (m-1)).1 (QaG A (L 0) (fun i=>L (i+1)) (m-1)).2)∧Below w.heap.size w w':=by
 obtain ⟨m,rfl⟩:∃ k,m=k+1:=⟨m-1,by omega⟩;obtain ⟨cap,rfl⟩:∃ k,cap=k+1:=⟨cap-1,by omega⟩;have n_r:(w.alloc (O #[Z ⟨#[]⟩,Z ⟨#[]⟩] 42)).heap[w.heap.size]? = _:=World.alloc_heap_new w _;have u:=(Below.refl w.heap.size w).alloc Lr (O #[Z ⟨#[]⟩,Z ⟨#[]⟩] 42)
 have cF:=fun (off cap:Nat) (ho:0<m→off=2) (W:World) (hB:Below w.heap.size w W)=>Qiy 82 (enters_of Tryz.func82 (by kernel_rfl) rfl) P A hA (fun i=>L (i+1)) (L 0) (hL 0 (by omega)) m bi off cap (by omega) (fun i hi=>hL (i+1) (by omega)) W (fun V hV j hj=>by
  have:=hcs V (hB.trans (hV.mono hB.size)) (j+1) (by omega);rw [ho (by omega)]
  rwa [show (j+1)*2=2+j*2 by omega] at this)
 obtain ⟨y0,y1⟩:=hcs _ u 0 (by omega);have CF:Shut _:=⟨cF⟩;have HC:Shut _:=⟨fun W hW=>hcs W hW 0 (by omega)⟩;have nx:=Nat.ne_of_lt (World.block_lt_of_cell? w _ (hcs w (Below.refl _ _) 0 (by omega)).1);have nx2:=nx.symm;have hm1:(m+1-1:Nat)=m:=rfl;rw [hm1];clear hcs cF hA;unfold frc at *
 generalize hpk:QaG A (L 0) (fun i=>L (i+1)) m=pk at *
 generalize L 0=l0 at *
 rcases Nat.eq_zero_or_pos cap with rfl | hcp
 ·obtain rfl:m=0:=(by omega);go_enter Tryz.func80, Tryz.ntmps80;go_wp2_with fail;generalize (w.alloc (O #[Z ⟨#[]⟩,Z ⟨#[]⟩] 42))=W0 at *
  have k0:=Qaa n_r 0 (v:=Z ⟨#[]⟩) rfl;have f0:=Qad n_r 0;have k1:=Qaa n_r 1 (v:=Z ⟨#[]⟩) rfl;have f1:=Qad n_r 1;have y0:W0.cell? ⟨bi,0,none⟩=some (Z l0.1):=y0;have y1:W0.cell? ⟨bi,1,none⟩=some (Z l0.2):=y1
  go_region_held (fun X=>X.cell? ⟨bi,0,none⟩=some (Z l0.1)∧X.cell? ⟨bi,1,none⟩=some (Z l0.2)) (go_keep) (first | (go_at_call 132; (with_reducible refine (CF.o _ _ (fun hh=>absurd hh (by omega)) _ (QaS u)).mono ?_);rintro e v1 ⟨rfl,g⟩;have g:Below W0.heap.size W0 v1:=Qah g;replace u:=u.trans (g.mono u.size);replace n_r:=Qac n_r g;clear g;obtain ⟨q0,q1⟩:=HC.o _ u;have y0:v1.cell? ⟨bi,0,none⟩=some (Z l0.1):=q0;have y1:v1.cell? ⟨bi,1,none⟩=some (Z l0.2):=q1;clear q0 q1;have k0:=Qaa n_r 0 (v:=Z ⟨#[]⟩) rfl;have f0:=Qad n_r 0;have k1:=Qaa n_r 1 (v:=Z ⟨#[]⟩) rfl;have f1:=Qad n_r 1))
  have s_r:=Qbc (x:=Z pk.1) (y:=Z pk.2) n_r;have z0:=Qaa s_r 0 (v:=Z pk.1) rfl;have z1:=Qaa s_r 1 (v:=Z pk.2) rfl
  go_wp
  exact bodyPost_ret (v:=.agg #[Z pk.1,Z pk.2]) (by simp [results,Tryz.results80, go_sem,z0,z1]) rfl ⟨rfl,(u.setCell Lr _).setCell Lr _⟩
 ·obtain ⟨c,rfl⟩:∃ c,cap=c+1:=⟨cap-1,by omega⟩;have hc3:¬(c+1+1=1):=(by omega);have hc4:(1:Int)≤((m+1:Nat):Int):=(by omega);go_enter Tryz.func80, Tryz.ntmps80;go_wp2_with fail;generalize (w.alloc (O #[Z ⟨#[]⟩,Z ⟨#[]⟩] 42))=W0 at *
  have k0:=Qaa n_r 0 (v:=Z ⟨#[]⟩) rfl;have f0:=Qad n_r 0;have k1:=Qaa n_r 1 (v:=Z ⟨#[]⟩) rfl;have f1:=Qad n_r 1;have y0:W0.cell? ⟨bi,0,none⟩=some (Z l0.1):=y0;have y1:W0.cell? ⟨bi,1,none⟩=some (Z l0.2):=y1
  go_region_held (fun X=>X.cell? ⟨bi,0,none⟩=some (Z l0.1)∧X.cell? ⟨bi,1,none⟩=some (Z l0.2)) (go_keep) (first | (go_at_call 132; (with_reducible refine (CF.o _ _ (fun hh=>rfl) _ (QaS u)).mono ?_);rintro e v1 ⟨rfl,g⟩;have g:Below W0.heap.size W0 v1:=Qah g;replace u:=u.trans (g.mono u.size);replace n_r:=Qac n_r g;clear g;obtain ⟨q0,q1⟩:=HC.o _ u;have y0:v1.cell? ⟨bi,0,none⟩=some (Z l0.1):=q0;have y1:v1.cell? ⟨bi,1,none⟩=some (Z l0.2):=q1;clear q0 q1;have k0:=Qaa n_r 0 (v:=Z ⟨#[]⟩) rfl;have f0:=Qad n_r 0;have k1:=Qaa n_r 1 (v:=Z ⟨#[]⟩) rfl;have f1:=Qad n_r 1))
  have s_r:=Qbc (x:=Z pk.1) (y:=Z pk.2) n_r;have z0:=Qaa s_r 0 (v:=Z pk.1) rfl;have z1:=Qaa s_r 1 (v:=Z pk.2) rfl
  go_wp
  exact bodyPost_ret (v:=.agg #[Z pk.1,Z pk.2]) (by simp [results,Tryz.results80, go_sem,z0,z1]) rfl ⟨rfl,(u.setCell Lr _).setCell Lr _⟩
theorem Qiz (P:P2→Prop) (A:P2→P2→Bool) (hA:∀ p q,P p→P q→Ret 133 #[frc p.1 p.2,frc q.1 q.2] (.bool (A p q))) (L:Nat→P2) (m bi cap:Nat) (h1:1≤m) (hm:m≤1000) (hcap:m≤cap) (hL:∀ i,i<m→P (L i)) (w:World)
  (hcs:∀ W,Below w.heap.size w W→∀ j,j<m→W.cell? ⟨bi,j*2,none⟩=some (Z (L j).1)∧W.cell? ⟨bi,j*2+1,none⟩=some (Z (L j).2)) :
  Calls Tryz.prog 79 #[.slice (some ⟨bi,0,none⟩) m cap] w fun e w'=>e = .returned (frc (QaG A (L 0) (fun i=>L (i+1)) (m-1)).1 (QaG A (L 0) (fun i=>L (i+1)) (m-1)).2)∧Below w.heap.size w w':=by
 obtain ⟨m,rfl⟩:∃ k,m=k+1:=⟨m-1,by omega⟩;obtain ⟨cap,rfl⟩:∃ k,cap=k+1:=⟨cap-1,by omega⟩;have n_r:(w.alloc (O #[Z ⟨#[]⟩,Z ⟨#[]⟩] 42)).heap[w.heap.size]? = _:=World.alloc_heap_new w _;have u:=(Below.refl w.heap.size w).alloc Lr (O #[Z ⟨#[]⟩,Z ⟨#[]⟩] 42)
 have cF:=fun (off cap:Nat) (ho:0<m→off=2) (W:World) (hB:Below w.heap.size w W)=>Qiy 133 (enters_of Tryz.func133 (by kernel_rfl) rfl) P A hA (fun i=>L (i+1)) (L 0) (hL 0 (by omega)) m bi off cap (by omega) (fun i hi=>hL (i+1) (by omega)) W (fun V hV j hj=>by
  have:=hcs V (hB.trans (hV.mono hB.size)) (j+1) (by omega);rw [ho (by omega)]
  rwa [show (j+1)*2=2+j*2 by omega] at this)
 obtain ⟨y0,y1⟩:=hcs _ u 0 (by omega);have CF:Shut _:=⟨cF⟩;have HC:Shut _:=⟨fun W hW=>hcs W hW 0 (by omega)⟩;have nx:=Nat.ne_of_lt (World.block_lt_of_cell? w _ (hcs w (Below.refl _ _) 0 (by omega)).1);have nx2:=nx.symm;have hm1:(m+1-1:Nat)=m:=rfl;rw [hm1];clear hcs cF hA;unfold frc at *
 generalize hpk:QaG A (L 0) (fun i=>L (i+1)) m=pk at *
 generalize L 0=l0 at *
 rcases Nat.eq_zero_or_pos cap with rfl | hcp
 ·obtain rfl:m=0:=(by omega);go_enter Tryz.func79, Tryz.ntmps79;go_wp2_with fail;generalize (w.alloc (O #[Z ⟨#[]⟩,Z ⟨#[]⟩] 42))=W0 at *
  have k0:=Qaa n_r 0 (v:=Z ⟨#[]⟩) rfl;have f0:=Qad n_r 0;have k1:=Qaa n_r 1 (v:=Z ⟨#[]⟩) rfl;have f1:=Qad n_r 1;have y0:W0.cell? ⟨bi,0,none⟩=some (Z l0.1):=y0;have y1:W0.cell? ⟨bi,1,none⟩=some (Z l0.2):=y1
  go_region_held (fun X=>X.cell? ⟨bi,0,none⟩=some (Z l0.1)∧X.cell? ⟨bi,1,none⟩=some (Z l0.2)) (go_keep) (first | (go_at_call 132; (with_reducible refine (CF.o _ _ (fun hh=>absurd hh (by omega)) _ (QaS u)).mono ?_);rintro e v1 ⟨rfl,g⟩;have g:Below W0.heap.size W0 v1:=Qah g;replace u:=u.trans (g.mono u.size);replace n_r:=Qac n_r g;clear g;obtain ⟨q0,q1⟩:=HC.o _ u;have y0:v1.cell? ⟨bi,0,none⟩=some (Z l0.1):=q0;have y1:v1.cell? ⟨bi,1,none⟩=some (Z l0.2):=q1;clear q0 q1;have k0:=Qaa n_r 0 (v:=Z ⟨#[]⟩) rfl;have f0:=Qad n_r 0;have k1:=Qaa n_r 1 (v:=Z ⟨#[]⟩) rfl;have f1:=Qad n_r 1))
  have s_r:=Qbc (x:=Z pk.1) (y:=Z pk.2) n_r;have z0:=Qaa s_r 0 (v:=Z pk.1) rfl;have z1:=Qaa s_r 1 (v:=Z pk.2) rfl
  go_wp
  exact bodyPost_ret (v:=.agg #[Z pk.1,Z pk.2]) (by simp [results,Tryz.results79, go_sem,z0,z1]) rfl ⟨rfl,(u.setCell Lr _).setCell Lr _⟩
 ·obtain ⟨c,rfl⟩:∃ c,cap=c+1:=⟨cap-1,by omega⟩;have hc3:¬(c+1+1=1):=(by omega);have hc4:(1:Int)≤((m+1:Nat):Int):=(by omega);go_enter Tryz.func79, Tryz.ntmps79;go_wp2_with fail;generalize (w.alloc (O #[Z ⟨#[]⟩,Z ⟨#[]⟩] 42))=W0 at *
  have k0:=Qaa n_r 0 (v:=Z ⟨#[]⟩) rfl;have f0:=Qad n_r 0;have k1:=Qaa n_r 1 (v:=Z ⟨#[]⟩) rfl;have f1:=Qad n_r 1;have y0:W0.cell? ⟨bi,0,none⟩=some (Z l0.1):=y0;have y1:W0.cell? ⟨bi,1,none⟩=some (Z l0.2):=y1
  go_region_held (fun X=>X.cell? ⟨bi,0,none⟩=some (Z l0.1)∧X.cell? ⟨bi,1,none⟩=some (Z l0.2)) (go_keep) (first | (go_at_call 132; (with_reducible refine (CF.o _ _ (fun hh=>rfl) _ (QaS u)).mono ?_);rintro e v1 ⟨rfl,g⟩;have g:Below W0.heap.size W0 v1:=Qah g;replace u:=u.trans (g.mono u.size);replace n_r:=Qac n_r g;clear g;obtain ⟨q0,q1⟩:=HC.o _ u;have y0:v1.cell? ⟨bi,0,none⟩=some (Z l0.1):=q0;have y1:v1.cell? ⟨bi,1,none⟩=some (Z l0.2):=q1;clear q0 q1;have k0:=Qaa n_r 0 (v:=Z ⟨#[]⟩) rfl;have f0:=Qad n_r 0;have k1:=Qaa n_r 1 (v:=Z ⟨#[]⟩) rfl;have f1:=Qad n_r 1))
  have s_r:=Qbc (x:=Z pk.1) (y:=Z pk.2) n_r;have z0:=Qaa s_r 0 (v:=Z pk.1) rfl;have z1:=Qaa s_r 1 (v:=Z pk.2) rfl
  go_wp
  exact bodyPost_ret (v:=.agg #[Z pk.1,Z pk.2]) (by simp [results,Tryz.results79, go_sem,z0,z1]) rfl ⟨rfl,(u.setCell Lr _).setCell Lr _⟩
def QmU (x:Value) (n:Nat) (E:Nat→P2):Prop:=∀ W:World,Calls Tryz.prog 204 #[x] W fun e W'=>∃ b c,e = .returned (.slice (some ⟨b,0,none⟩) n n)∧W.heap.size≤b∧W'.heap[b]? = some (.cells c 42 (0,0))∧(∀ j,j<n→c[j*2]? = some (Z (E j).1)∧c[j*2+1]? = some (Z (E j).2))∧Below W.heap.size W W'
theorem QmV (x0 x1:ByteArray) (E:Nat→P2) (hE:E 0=(x0,x1)):QmU (ivl x0 x1 x0 x1) 1 E:=by
 intro w;unfold ivl;obtain ⟨n_x,n_y⟩:=Qiw w (O #[Z x0,Z x1,Z x0,Z x1] 55) (O #[Z x0,Z x1] 42);have u:=QfU w (O #[Z x0,Z x1,Z x0,Z x1] 55) (O #[Z x0,Z x1] 42);have m_x:(w.alloc (O #[Z x0,Z x1,Z x0,Z x1] 55)).heap[w.heap.size]? = _:=World.alloc_heap_new w _;go_enter Tryz.func204, Tryz.ntmps204;have y0:=Qaa m_x 0 (v:=Z x0) rfl;have y1:=Qaa m_x 1 (v:=Z x1) rfl;have y2:=Qaa m_x 2 (v:=Z x0) rfl;have y3:=Qaa m_x 3 (v:=Z x1) rfl;have e0:(x0.toList == x0.toList)=true:=beq_self_eq_true _;have e1:(x1.toList == x1.toList)=true:=beq_self_eq_true _;go_wp2_with fail;go_ret;exact ⟨_,_,rfl,Nat.le_succ _,n_y,fun j hj=>by obtain rfl:j=0:=(by omega);rw [hE];exact ⟨rfl,rfl⟩,u⟩
theorem QlE (x0 x1 x2 x3:ByteArray) (E:Nat→P2) (hE:E 0=(x0,x1)) (hE1:E 1=(x2,x3)) (hne:(x0.toList == x2.toList)=false∨((x0.toList == x2.toList)=true∧(x1.toList == x3.toList)=false)):QmU (ivl x0 x1 x2 x3) 2 E:=by
 intro w;unfold ivl;obtain ⟨n_x,n_y⟩:=Qiw w (O #[Z x0,Z x1,Z x2,Z x3] 55) (O #[Z x0,Z x1,Z x2,Z x3] 42);have u:=QfU w (O #[Z x0,Z x1,Z x2,Z x3] 55) (O #[Z x0,Z x1,Z x2,Z x3] 42);have m_x:(w.alloc (O #[Z x0,Z x1,Z x2,Z x3] 55)).heap[w.heap.size]? = _:=World.alloc_heap_new w _;go_enter Tryz.func204, Tryz.ntmps204;have y0:=Qaa m_x 0 (v:=Z x0) rfl;have y1:=Qaa m_x 1 (v:=Z x1) rfl;have y2:=Qaa m_x 2 (v:=Z x2) rfl;have y3:=Qaa m_x 3 (v:=Z x3) rfl;have hj2:∀ j,j<2→j=0∨j=1:=fun j h=>by omega
 rcases hne with e0 | ⟨e0,e1⟩
 ·go_wp2_with fail;go_ret;exact ⟨_,_,rfl,Nat.le_succ _,n_y,fun j hj=>by rcases hj2 j hj with rfl | rfl;(rw [hE];exact ⟨rfl,rfl⟩);(rw [hE1];exact ⟨rfl,rfl⟩),u⟩
 ·go_wp2_with fail;go_ret;exact ⟨_,_,rfl,Nat.le_succ _,n_y,fun j hj=>by rcases hj2 j hj with rfl | rfl;(rw [hE];exact ⟨rfl,rfl⟩);(rw [hE1];exact ⟨rfl,rfl⟩),u⟩
def Qbd (R:Nat→P2):Nat→List Value
 | 0 => []
 | t+1=>Qbd R t ++ [Z (R t).1,Z (R t).2]
theorem Qbs (R:Nat→P2):∀ t,(Qbd R t).length=t*2
 | 0=>rfl
 | t+1=>by rw [Qbd,List.length_append,Qbs R t];simp;omega
theorem QdA (R:Nat→P2):∀ t j,j<t→(Qbd R t)[j*2]? = some (Z (R j).1)∧(Qbd R t)[j*2+1]? = some (Z (R j).2)
 | 0,_,h=>absurd h (by omega)
 | t+1,j,h=>by
  have hl:=Qbs R t;rw [Qbd];rcases Nat.lt_or_ge j t with h1 | h1
  ·rw [List.getElem?_append_left (by omega),List.getElem?_append_left (by omega)];exact QdA R t j h1
  ·obtain rfl:j=t:=by omega
   rw [List.getElem?_append_right (by omega),List.getElem?_append_right (by omega),hl];simp
def OwnL (W:World) (base:Nat) (v:Value) (t:Nat) (R:Nat→P2):Prop:=W.ownsRow base 42 2 v t (Qbd R t)
theorem OwnL.nil (W:World) (base:Nat) (R:Nat→P2):OwnL W base (.slice none 0 0) 0 R:=World.ownsRow_nil W base _ _
theorem OwnL.below {W W':World} {base t:Nat} {v:Value} {R:Nat→P2} (h:OwnL W base v t R) (hb:Below W.heap.size W W'):OwnL W' base v t R:=by
 refine ⟨h.1, ?_⟩;rcases h.2 with hn | ⟨g,cap,cur,e,hg,hgg,rest⟩
 ·exact .inl hn
 ·exact .inr ⟨g,cap,cur,e,hg,by rw [hb.block g (Array.getElem?_eq_some_iff.1 hgg).1];exact hgg,rest⟩
theorem OwnL.new {W:World} {base t:Nat} {v:Value} {R:Nat→P2} (h:OwnL W base v t R) (b:Nat) (hb:W.heap.size≤b):v.ownBlock≠some b:=by
 rcases h.2 with ⟨rfl,_⟩ | ⟨g,cap,cur,rfl,hg,hgg,rest⟩
 ·simp [Value.ownBlock]
 ·have:=(Array.getElem?_eq_some_iff.1 hgg).1;simp [Value.ownBlock];omega
theorem OwnL.low {W:World} {base t:Nat} {v:Value} {R:Nat→P2} (h:OwnL W base v t R) (b:Nat) (hb:b<base):v.ownBlock≠some b:=by
 rcases h.2 with ⟨rfl,_⟩ | ⟨g,cap,cur,rfl,hg,hgg,rest⟩
 ·simp [Value.ownBlock]
 ·simp [Value.ownBlock];omega
theorem OwnL.shape {W:World} {base t:Nat} {v:Value} {R:Nat→P2} (h:OwnL W base v (t+1) R):∃ g cap,v = .slice (some ⟨g,0,none⟩) (t+1) cap∧t+1≤cap∧cap≤maxLen∧∃ cur,W.heap[g]? = some (.cells cur 42 (0,0))∧∀ j,j<t+1→cur[j*2]? = some (Z (R j).1)∧cur[j*2+1]? = some (Z (R j).2):=by
 rcases h.2 with ⟨_,hn⟩ | ⟨g,cap,cur,rfl,hg,hgg,h1,h2,h3,h4⟩
 ·cases hn
 ·refine ⟨g,cap,rfl,h1,h2,cur,hgg,fun j hj => ?_⟩;have hc:=QdA R (t+1) j hj;rw [←h4] at hc;have e1:=hc.1;have e2:=hc.2;rw [List.getElem?_take_of_lt (by omega)] at e1;rw [List.getElem?_take_of_lt (by omega)] at e2;rw [Array.getElem?_toList] at e1 e2;exact ⟨e1,e2⟩
structure Lv (W:World) (v:Value) (b:Nat) (o:Obj):Prop where
 at_:W.heap[b]? = some o
 off:v.ownBlock≠some b
theorem Lv.below {W W':World} {v:Value} {b:Nat} {o:Obj} (h:Lv W v b o) (hB:Below W.heap.size W W'):Lv W' v b o:=⟨Qac h.at_ hB,h.off⟩
theorem Lv.app {W W':World} {v v':Value} {b:Nat} {o:Obj} (h:Lv W v b o) (hg:W.grownBy W' v.ownBlock) (hat:v'.ownBlock=v.ownBlock∨v'.ownBlock=some W.heap.size):Lv W' v' b o:=by
 have hlt:=(Array.getElem?_eq_some_iff.1 h.at_).1;refine ⟨(hg.block b hlt (fun e=>h.off e.symm)).trans h.at_, ?_⟩;rcases hat with e | e
 ·rw [e];exact h.off
 ·rw [e];intro e2;injection e2 with e2;omega
theorem Qem:(Tryz.prog.info? 42).map (fun i=>(i.zero,i.size,i.bytes))=some (some (.agg #[Z ⟨#[]⟩,Z ⟨#[]⟩]),2,32):=by kernel_rfl
theorem QbA {B t base:Nat} {R:Nat→P2} {w w1 w3:World} {v:Value} (hb:Below B w w1) (hB:B≤w.heap.size) (hBb:B≤base) (hO:OwnL w1 base v t R) (hg:w1.grownBy w3 v.ownBlock):Below B w w3 :=
 hb.trans ⟨hg.os,hg.tape,hg.output,hg.size,fun k hk=>hg.block k (Nat.lt_of_lt_of_le (Nat.lt_of_lt_of_le hk hB) hb.size) (fun e=>by
  rcases hO.2 with ⟨rfl,_⟩ | ⟨g,cap,cur,rfl,h1,_⟩
  ·simp [Value.ownBlock] at e
  ·simp [Value.ownBlock] at e;omega)⟩
theorem Qbt {w:World} {ops:Array Oper} {rest:List Oper} {o:Oper} {a:Act} {Q:Exit→Act→World→Prop} (hgd:o.guard=none) (s x:Operand)
  (ho:o.op = .call {callee:=.builtin .append,args:=#[s,x],argTypes:=#[29, 29]}) (base:Nat) (v:Value) (t:Nat) (R:Nat→P2) (hs:a.eval s=v) (hown:OwnL w base v t R)
  (Bx c:Nat) (hx:a.eval x = .slice (some ⟨Bx,0,none⟩) 1 c) (hB:w.heap[Bx]? = some (O #[Z (R t).1,Z (R t).2] 42 (0,0))) (ht:t≤1000) (hb:base≤w.heap.size)
  (h:∀ v' w',OwnL w' base v' (t+1) R→w.grownBy w' v.ownBlock→(v'.ownBlock=v.ownBlock∨v'.ownBlock=some w.heap.size)→wpList Tryz.prog ops Q rest (a.put o.dst v') w'):wpList Tryz.prog ops Q (o :: rest) a w:=by
 obtain ⟨i0,hinf,hz⟩:=Option.map_eq_some_iff.1 Qem;have hz0:i0.zero=some (.agg #[Z ⟨#[]⟩,Z ⟨#[]⟩]):=congrArg (fun q=>q.1) hz;have hz1:i0.size=2:=congrArg (fun q=>q.2.1) hz;have hz2:i0.bytes=32:=congrArg (fun q=>q.2.2) hz;refine wpList_append_own_at w hgd s x 29 ho base 42 i0 (.agg #[Z ⟨#[]⟩,Z ⟨#[]⟩]) 2 32 Tryz.underlying29 hinf hz0 hz1 hz2 rfl (by decide) v t _ hs hown ⟨Bx,0,none⟩ 1 c [Z (R t).1,Z (R t).2] hx rfl ?_ ?_ (by unfold maxLen;omega) (by omega) hb ?_
 ·intro j u hj;rw [Addr.add_lit,Nat.zero_add]
  match j,hj with
  | 0,hj=>exact Qaa hB 0 hj
  | 1,hj=>exact Qaa hB 1 hj
 ·intro u hu;simp at hu;rcases hu with rfl | rfl <;> rfl
 ·intro v' w' hown' hgrow _ hat;exact h v' w' hown' hgrow hat
end En
end
end Go.Proofs.YtihlgifojjeoaaaGreatDoor
