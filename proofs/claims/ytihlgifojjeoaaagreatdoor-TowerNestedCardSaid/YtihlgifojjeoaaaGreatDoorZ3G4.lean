/-
  Package tower: attempt.
-/
import Derived.Test.YtihlgifojjeoaaaGreatDoorZ3F9
import Derived.Test.YtihlgifojjeoaaaGreatDoorZ3F8
import Derived.Test.YtihlgifojjeoaaaGreatDoorZ3G3
import Derived.Test.YtihlgifojjeoaaaGreatDoorZ3G1
set_option maxRecDepth 1000000
set_option maxHeartbeats 40000000
open Go.Value renaming string→J
open Go.Obj renaming cells→Jc
namespace Go.Proofs.YtihlgifojjeoaaaGreatDoor
section
namespace Tw
open Go.RowKit Go.Extern.Stop Go.Stop Go.Extern
open En Go.Proofs.YtihlgifojjeoaaaGreatDoor.Nm Go.Proofs.YtihlgifojjeoaaaGreatDoor.Rt
theorem attempt_rat (k:Nat) (caps:Array Value) (hk:Enters Tryz.prog k) {L:List (List Rat)} (hL:FitT L) (hn:L.length≤1000) {t:Value} (ok:Prop) (P:ByteArray→ByteArray→Prop)
  (w:World) (hg:Gl w) (ht:TwAt w t L) (hno:fieldO [] L=none→¬ ok)
  (hC:∀ rs,fieldO [] L=some rs→∀ W f,Below w.heap.size w W→Fd W f rs→Calls Tryz.prog k (#[f]++caps) W (AnsC ok (fun _ v=>∃ a b,v = .agg #[J a,J b]∧P a b) W)) :
  Calls Tryz.prog 62 #[t,.func (.func k) #[] caps] w (AnsA ok (fun _ v=>∃ a b,v = .agg #[J a,J b]∧P a b) (.agg #[J ⟨#[]⟩,J ⟨#[]⟩]) w):=by
 have hmf:∀ (fn:Fn) (first cap:Array Value) (w:World),(Instr.makeFunc fn first cap).run Tryz.prog w = .ok (.func fn first cap) w:=fun _ _ _ _=>rfl
 have HK:=fun W (u:Below w.heap.size w W)=>fieldOf_O hL hn W (hg.keep u) (ht.keep u)
 obtain ⟨p,cap,rfl,h⟩:=ht.ex
 clear h ht hL hn hg
 generalize L.length=n at *
 generalize fieldO [] L=O at *
 have CF:Sh _:=⟨HK⟩
 have CC:Sh _:=⟨hC⟩
 have HN:Sh _:=⟨hno⟩
 clear HK hC hno
 go_enter_defers Tryz.func62, Tryz.ntmps62
 go_wp2_with fail
 obtain ⟨_,n_r,n_e⟩:=En.new3 w (Jc #[.slice p n cap] 28) (Jc #[J ⟨#[]⟩,J ⟨#[]⟩] 42) (Jc #[.int .i64 0] 32)
 have u:=(((Below.refl w.heap.size w).alloc (Nat.le_refl _) (Jc #[.slice p n cap] 28)).alloc (by simp) (Jc #[J ⟨#[]⟩,J ⟨#[]⟩] 42)).alloc (by simp;omega) (Jc #[.int .i64 0] 32)
 generalize (((w.alloc (Jc #[.slice p n cap] 28)).alloc (Jc #[J ⟨#[]⟩,J ⟨#[]⟩] 42)).alloc (Jc #[.int .i64 0] 32))=W0 at *
 refine (CF.o W0 u).mono ?_
 intro e v1 h1
 replace u:=u.trans (h1.below.mono u.size)
 replace n_e:=En.lkeep n_e h1.below
 replace n_r:=En.lkeep n_r h1.below
 cases O with
 | none =>
  obtain rfl:=h1.bad rfl
  have hok:=HN.o rfl
  clear h1 CF CC HN
  have c0:=En.lcell n_e 0 (v:=.int .i64 0) rfl
  have f0:=En.lfree n_e 0
  dsimp +zetaDelta only [Exit.then,Exit.inBlock]
  refine leaves_cons (f := 108) (args:=#[.pointer (some ⟨w.heap.size+1+1,0,none⟩)]) (by simp) (by simp [go_sem]) ?_
  refine (caught_rat ⟨w.heap.size+1+1,0,none⟩ (.int .i64 0) [] _ c0 f0).mono ?_
  rintro e u' w'' ⟨rfl,rfl,rfl⟩
  have r0:(v1.setCell ⟨w.heap.size+1+1,0,none⟩ (.int .i64 60)).cell? ⟨w.heap.size+1,0,none⟩=some (J ⟨#[]⟩):=(World.cell?_setCell_other v1 ⟨w.heap.size+1+1,0,none⟩ ⟨w.heap.size+1,0,none⟩ _ (by simp)).trans (En.lcell n_r 0 rfl)
  have r1:(v1.setCell ⟨w.heap.size+1+1,0,none⟩ (.int .i64 60)).cell? ⟨w.heap.size+1,1,none⟩=some (J ⟨#[]⟩):=(World.cell?_setCell_other v1 ⟨w.heap.size+1+1,0,none⟩ ⟨w.heap.size+1,1,none⟩ _ (by simp)).trans (En.lcell n_r 1 rfl)
  have r4:=World.cell?_setCell_same v1 ⟨w.heap.size+1+1,0,none⟩ (.int .i64 60) c0
  show ∃ v,(results _ _).run _ _ = .ok v _∧AnsA _ _ _ _ _ _
  exact ⟨.tuple #[.agg #[J ⟨#[]⟩,J ⟨#[]⟩],.int .i64 60],by simp [results,Tryz.results62, go_sem,r0,r1,r4],u.setCell (show w.heap.size≤(⟨w.heap.size+1+1,0,none⟩:Addr).block from by simp only;omega) _,fun h=>absurd h hok,fun _=>rfl⟩
 | some rs =>
  obtain ⟨f,rfl,hf⟩:=h1.good rs rfl
  have cC:=CC.o rs rfl v1 f u hf
  clear h1 CF CC hf
  have hen:=fun a w=>hk a w
  go_wp2_with fail
  refine cC.mono ?_
  intro e v2 h2
  replace u:=u.trans (h2.below.mono u.size)
  replace n_e:=En.lkeep n_e h2.below
  replace n_r:=En.lkeep n_r h2.below
  have c0:=En.lcell n_e 0 (v:=.int .i64 0) rfl
  have f0:=En.lfree n_e 0
  by_cases hok:ok
  ·obtain ⟨v,rfl,a,b,rfl,hv⟩:=h2.good hok
   clear h2 cC
   have d0:=En.lcell n_r 0 (v:=J ⟨#[]⟩) rfl
   have d1:=En.lcell n_r 1 (v:=J ⟨#[]⟩) rfl
   have g0:=En.lfree n_r 0
   have g1:=En.lfree n_r 1
   dsimp only
   go_wp
   have s_r:((v2.setCell ⟨w.heap.size+1,0,none⟩ (J a)).setCell ⟨w.heap.size+1,1,none⟩ (J b)).heap[w.heap.size+1]? = some (Jc #[J a,J b] 42 (0,0)):=by
    have:=set_heap (set_heap n_r 0 (J a)) 1 (J b)
    simpa using this
   have s_e:((v2.setCell ⟨w.heap.size+1,0,none⟩ (J a)).setCell ⟨w.heap.size+1,1,none⟩ (J b)).heap[w.heap.size+1+1]? = some (Jc #[.int .i64 0] 32 (0,0)):=(Below.heap_setCell _ _ _ _ (by simp)).trans ((Below.heap_setCell _ _ _ _ (by simp)).trans n_e)
   replace u:=(u.setCell (show w.heap.size≤(⟨w.heap.size+1,0,none⟩:Addr).block from Nat.le_succ _) (J a)).setCell (show w.heap.size≤(⟨w.heap.size+1,1,none⟩:Addr).block from Nat.le_succ _) (J b)
   clear d0 d1 g0 g1 n_r n_e c0 f0
   generalize ((v2.setCell ⟨w.heap.size+1,0,none⟩ (J a)).setCell ⟨w.heap.size+1,1,none⟩ (J b))=W5 at *
   rw [set_same s_e]
   have c0:=En.lcell s_e 0 (v:=.int .i64 0) rfl
   have r0:=En.lcell s_r 0 (v:=J a) rfl
   have r1:=En.lcell s_r 1 (v:=J b) rfl
   refine leaves_cons (f := 108) (args:=#[.pointer (some ⟨w.heap.size+1+1,0,none⟩)]) (by simp) (by simp [go_sem]) ?_
   refine (idle_rat ⟨w.heap.size+1+1,0,none⟩ _).mono ?_
   rintro e u' w'' ⟨rfl,rfl,rfl⟩
   show ∃ v,(results _ _).run _ _ = .ok v _∧AnsA _ _ _ _ _ _
   exact ⟨.tuple #[.agg #[J a,J b],.int .i64 0],by simp [results,Tryz.results62, go_sem,r0,r1,c0],u,fun _=>⟨_,rfl,a,b,rfl,hv⟩,fun h=>absurd hok h⟩
  ·obtain rfl:=h2.bad hok
   clear h2 cC
   dsimp +zetaDelta only [Exit.then,Exit.inBlock]
   refine leaves_cons (f := 108) (args:=#[.pointer (some ⟨w.heap.size+1+1,0,none⟩)]) (by simp) (by simp [go_sem]) ?_
   refine (caught_rat ⟨w.heap.size+1+1,0,none⟩ (.int .i64 0) [] _ c0 f0).mono ?_
   rintro e u' w'' ⟨rfl,rfl,rfl⟩
   have r0:(v2.setCell ⟨w.heap.size+1+1,0,none⟩ (.int .i64 60)).cell? ⟨w.heap.size+1,0,none⟩=some (J ⟨#[]⟩):=(World.cell?_setCell_other v2 ⟨w.heap.size+1+1,0,none⟩ ⟨w.heap.size+1,0,none⟩ _ (by simp)).trans (En.lcell n_r 0 rfl)
   have r1:(v2.setCell ⟨w.heap.size+1+1,0,none⟩ (.int .i64 60)).cell? ⟨w.heap.size+1,1,none⟩=some (J ⟨#[]⟩):=(World.cell?_setCell_other v2 ⟨w.heap.size+1+1,0,none⟩ ⟨w.heap.size+1,1,none⟩ _ (by simp)).trans (En.lcell n_r 1 rfl)
   have r4:=World.cell?_setCell_same v2 ⟨w.heap.size+1+1,0,none⟩ (.int .i64 60) c0
   show ∃ v,(results _ _).run _ _ = .ok v _∧AnsA _ _ _ _ _ _
   exact ⟨.tuple #[.agg #[J ⟨#[]⟩,J ⟨#[]⟩],.int .i64 60],by simp [results,Tryz.results62, go_sem,r0,r1,r4],u.setCell (show w.heap.size≤(⟨w.heap.size+1+1,0,none⟩:Addr).block from by simp only;omega) _,fun h=>absurd h hok,fun _=>rfl⟩
end Tw
end
section
namespace Tw
open Go.RowKit Go.Extern.Stop Go.Stop Go.Extern
open En Go.Proofs.YtihlgifojjeoaaaGreatDoor.Nm Go.Proofs.YtihlgifojjeoaaaGreatDoor.Rt
theorem attempt_ivl (k:Nat) (caps:Array Value) (hk:Enters Tryz.prog k) {L:List (List Rat)} (hL:FitT L) (hn:L.length≤1000) {t:Value} (ok:Prop) (P:ByteArray→ByteArray→ByteArray→ByteArray→Prop)
  (w:World) (hg:Gl w) (ht:TwAt w t L) (hno:fieldO [] L=none→¬ ok)
  (hC:∀ rs,fieldO [] L=some rs→∀ W f,Below w.heap.size w W→Fd W f rs→Calls Tryz.prog k (#[f]++caps) W (AnsC ok (fun _ v=>∃ a b c d,v = .agg #[J a,J b,J c,J d]∧P a b c d) W)) :
  Calls Tryz.prog 69 #[t,.func (.func k) #[] caps] w (AnsA ok (fun _ v=>∃ a b c d,v = .agg #[J a,J b,J c,J d]∧P a b c d) (.agg #[J ⟨#[]⟩,J ⟨#[]⟩,J ⟨#[]⟩,J ⟨#[]⟩]) w):=by
 have hmf:∀ (fn:Fn) (first cap:Array Value) (w:World),(Instr.makeFunc fn first cap).run Tryz.prog w = .ok (.func fn first cap) w:=fun _ _ _ _=>rfl
 have HK:=fun W (u:Below w.heap.size w W)=>fieldOf_O hL hn W (hg.keep u) (ht.keep u)
 obtain ⟨p,cap,rfl,h⟩:=ht.ex
 clear h ht hL hn hg
 generalize L.length=n at *
 generalize fieldO [] L=O at *
 have CF:Sh _:=⟨HK⟩
 have CC:Sh _:=⟨hC⟩
 have HN:Sh _:=⟨hno⟩
 clear HK hC hno
 go_enter_defers Tryz.func69, Tryz.ntmps69
 go_wp2_with fail
 obtain ⟨_,n_r,n_e⟩:=En.new3 w (Jc #[.slice p n cap] 28) (Jc #[J ⟨#[]⟩,J ⟨#[]⟩,J ⟨#[]⟩,J ⟨#[]⟩] 55) (Jc #[.int .i64 0] 32)
 have u:=(((Below.refl w.heap.size w).alloc (Nat.le_refl _) (Jc #[.slice p n cap] 28)).alloc (by simp) (Jc #[J ⟨#[]⟩,J ⟨#[]⟩,J ⟨#[]⟩,J ⟨#[]⟩] 55)).alloc (by simp;omega) (Jc #[.int .i64 0] 32)
 generalize (((w.alloc (Jc #[.slice p n cap] 28)).alloc (Jc #[J ⟨#[]⟩,J ⟨#[]⟩,J ⟨#[]⟩,J ⟨#[]⟩] 55)).alloc (Jc #[.int .i64 0] 32))=W0 at *
 refine (CF.o W0 u).mono ?_
 intro e v1 h1
 replace u:=u.trans (h1.below.mono u.size)
 replace n_e:=En.lkeep n_e h1.below
 replace n_r:=En.lkeep n_r h1.below
 cases O with
 | none =>
  obtain rfl:=h1.bad rfl
  have hok:=HN.o rfl
  clear h1 CF CC HN
  have c0:=En.lcell n_e 0 (v:=.int .i64 0) rfl
  have f0:=En.lfree n_e 0
  dsimp +zetaDelta only [Exit.then,Exit.inBlock]
  refine leaves_cons (f := 119) (args:=#[.pointer (some ⟨w.heap.size+1+1,0,none⟩)]) (by simp) (by simp [go_sem]) ?_
  refine (caught_ivl ⟨w.heap.size+1+1,0,none⟩ (.int .i64 0) [] _ c0 f0).mono ?_
  rintro e u' w'' ⟨rfl,rfl,rfl⟩
  have r0:(v1.setCell ⟨w.heap.size+1+1,0,none⟩ (.int .i64 60)).cell? ⟨w.heap.size+1,0,none⟩=some (J ⟨#[]⟩):=(World.cell?_setCell_other v1 ⟨w.heap.size+1+1,0,none⟩ ⟨w.heap.size+1,0,none⟩ _ (by simp)).trans (En.lcell n_r 0 rfl)
  have r1:(v1.setCell ⟨w.heap.size+1+1,0,none⟩ (.int .i64 60)).cell? ⟨w.heap.size+1,1,none⟩=some (J ⟨#[]⟩):=(World.cell?_setCell_other v1 ⟨w.heap.size+1+1,0,none⟩ ⟨w.heap.size+1,1,none⟩ _ (by simp)).trans (En.lcell n_r 1 rfl)
  have r2:(v1.setCell ⟨w.heap.size+1+1,0,none⟩ (.int .i64 60)).cell? ⟨w.heap.size+1,2,none⟩=some (J ⟨#[]⟩):=(World.cell?_setCell_other v1 ⟨w.heap.size+1+1,0,none⟩ ⟨w.heap.size+1,2,none⟩ _ (by simp)).trans (En.lcell n_r 2 rfl)
  have r3:(v1.setCell ⟨w.heap.size+1+1,0,none⟩ (.int .i64 60)).cell? ⟨w.heap.size+1,3,none⟩=some (J ⟨#[]⟩):=(World.cell?_setCell_other v1 ⟨w.heap.size+1+1,0,none⟩ ⟨w.heap.size+1,3,none⟩ _ (by simp)).trans (En.lcell n_r 3 rfl)
  have r4:=World.cell?_setCell_same v1 ⟨w.heap.size+1+1,0,none⟩ (.int .i64 60) c0
  show ∃ v,(results _ _).run _ _ = .ok v _∧AnsA _ _ _ _ _ _
  exact ⟨.tuple #[.agg #[J ⟨#[]⟩,J ⟨#[]⟩,J ⟨#[]⟩,J ⟨#[]⟩],.int .i64 60],by simp [results,Tryz.results69, go_sem,r0,r1,r2,r3,r4],u.setCell (show w.heap.size≤(⟨w.heap.size+1+1,0,none⟩:Addr).block from by simp only;omega) _,fun h=>absurd h hok,fun _=>rfl⟩
 | some rs =>
  obtain ⟨f,rfl,hf⟩:=h1.good rs rfl
  have cC:=CC.o rs rfl v1 f u hf
  clear h1 CF CC hf
  have hen:=fun a w=>hk a w
  go_wp2_with fail
  refine cC.mono ?_
  intro e v2 h2
  replace u:=u.trans (h2.below.mono u.size)
  replace n_e:=En.lkeep n_e h2.below
  replace n_r:=En.lkeep n_r h2.below
  have c0:=En.lcell n_e 0 (v:=.int .i64 0) rfl
  have f0:=En.lfree n_e 0
  by_cases hok:ok
  ·obtain ⟨v,rfl,a,b,c,d,rfl,hv⟩:=h2.good hok
   clear h2 cC
   have d0:=En.lcell n_r 0 (v:=J ⟨#[]⟩) rfl
   have d1:=En.lcell n_r 1 (v:=J ⟨#[]⟩) rfl
   have d2:=En.lcell n_r 2 (v:=J ⟨#[]⟩) rfl
   have d3:=En.lcell n_r 3 (v:=J ⟨#[]⟩) rfl
   have g0:=En.lfree n_r 0
   have g1:=En.lfree n_r 1
   have g2:=En.lfree n_r 2
   have g3:=En.lfree n_r 3
   dsimp only
   go_wp
   have s_r:((((v2.setCell ⟨w.heap.size+1,0,none⟩ (J a)).setCell ⟨w.heap.size+1,1,none⟩ (J b)).setCell ⟨w.heap.size+1,2,none⟩ (J c)).setCell ⟨w.heap.size+1,3,none⟩ (J d)).heap[w.heap.size+1]? = some (Jc #[J a,J b,J c,J d] 55 (0,0)):=by
    have:=set_heap (set_heap (set_heap (set_heap n_r 0 (J a)) 1 (J b)) 2 (J c)) 3 (J d)
    simpa using this
   have s_e:((((v2.setCell ⟨w.heap.size+1,0,none⟩ (J a)).setCell ⟨w.heap.size+1,1,none⟩ (J b)).setCell ⟨w.heap.size+1,2,none⟩ (J c)).setCell ⟨w.heap.size+1,3,none⟩ (J d)).heap[w.heap.size+1+1]? = some (Jc #[.int .i64 0] 32 (0,0)):=(Below.heap_setCell _ _ _ _ (by simp)).trans ((Below.heap_setCell _ _ _ _ (by simp)).trans ((Below.heap_setCell _ _ _ _ (by simp)).trans ((Below.heap_setCell _ _ _ _ (by simp)).trans n_e)))
   replace u:=(((u.setCell (show w.heap.size≤(⟨w.heap.size+1,0,none⟩:Addr).block from Nat.le_succ _) (J a)).setCell (show w.heap.size≤(⟨w.heap.size+1,1,none⟩:Addr).block from Nat.le_succ _) (J b)).setCell (show w.heap.size≤(⟨w.heap.size+1,2,none⟩:Addr).block from Nat.le_succ _) (J c)).setCell (show w.heap.size≤(⟨w.heap.size+1,3,none⟩:Addr).block from Nat.le_succ _) (J d)
   clear d0 d1 d2 d3 g0 g1 g2 g3 n_r n_e c0 f0
   generalize ((((v2.setCell ⟨w.heap.size+1,0,none⟩ (J a)).setCell ⟨w.heap.size+1,1,none⟩ (J b)).setCell ⟨w.heap.size+1,2,none⟩ (J c)).setCell ⟨w.heap.size+1,3,none⟩ (J d))=W5 at *
   rw [set_same s_e]
   have c0:=En.lcell s_e 0 (v:=.int .i64 0) rfl
   have r0:=En.lcell s_r 0 (v:=J a) rfl
   have r1:=En.lcell s_r 1 (v:=J b) rfl
   have r2:=En.lcell s_r 2 (v:=J c) rfl
   have r3:=En.lcell s_r 3 (v:=J d) rfl
   refine leaves_cons (f := 119) (args:=#[.pointer (some ⟨w.heap.size+1+1,0,none⟩)]) (by simp) (by simp [go_sem]) ?_
   refine (idle_ivl ⟨w.heap.size+1+1,0,none⟩ _).mono ?_
   rintro e u' w'' ⟨rfl,rfl,rfl⟩
   show ∃ v,(results _ _).run _ _ = .ok v _∧AnsA _ _ _ _ _ _
   exact ⟨.tuple #[.agg #[J a,J b,J c,J d],.int .i64 0],by simp [results,Tryz.results69, go_sem,r0,r1,r2,r3,c0],u,fun _=>⟨_,rfl,a,b,c,d,rfl,hv⟩,fun h=>absurd hok h⟩
  ·obtain rfl:=h2.bad hok
   clear h2 cC
   dsimp +zetaDelta only [Exit.then,Exit.inBlock]
   refine leaves_cons (f := 119) (args:=#[.pointer (some ⟨w.heap.size+1+1,0,none⟩)]) (by simp) (by simp [go_sem]) ?_
   refine (caught_ivl ⟨w.heap.size+1+1,0,none⟩ (.int .i64 0) [] _ c0 f0).mono ?_
   rintro e u' w'' ⟨rfl,rfl,rfl⟩
   have r0:(v2.setCell ⟨w.heap.size+1+1,0,none⟩ (.int .i64 60)).cell? ⟨w.heap.size+1,0,none⟩=some (J ⟨#[]⟩):=(World.cell?_setCell_other v2 ⟨w.heap.size+1+1,0,none⟩ ⟨w.heap.size+1,0,none⟩ _ (by simp)).trans (En.lcell n_r 0 rfl)
   have r1:(v2.setCell ⟨w.heap.size+1+1,0,none⟩ (.int .i64 60)).cell? ⟨w.heap.size+1,1,none⟩=some (J ⟨#[]⟩):=(World.cell?_setCell_other v2 ⟨w.heap.size+1+1,0,none⟩ ⟨w.heap.size+1,1,none⟩ _ (by simp)).trans (En.lcell n_r 1 rfl)
   have r2:(v2.setCell ⟨w.heap.size+1+1,0,none⟩ (.int .i64 60)).cell? ⟨w.heap.size+1,2,none⟩=some (J ⟨#[]⟩):=(World.cell?_setCell_other v2 ⟨w.heap.size+1+1,0,none⟩ ⟨w.heap.size+1,2,none⟩ _ (by simp)).trans (En.lcell n_r 2 rfl)
   have r3:(v2.setCell ⟨w.heap.size+1+1,0,none⟩ (.int .i64 60)).cell? ⟨w.heap.size+1,3,none⟩=some (J ⟨#[]⟩):=(World.cell?_setCell_other v2 ⟨w.heap.size+1+1,0,none⟩ ⟨w.heap.size+1,3,none⟩ _ (by simp)).trans (En.lcell n_r 3 rfl)
   have r4:=World.cell?_setCell_same v2 ⟨w.heap.size+1+1,0,none⟩ (.int .i64 60) c0
   show ∃ v,(results _ _).run _ _ = .ok v _∧AnsA _ _ _ _ _ _
   exact ⟨.tuple #[.agg #[J ⟨#[]⟩,J ⟨#[]⟩,J ⟨#[]⟩,J ⟨#[]⟩],.int .i64 60],by simp [results,Tryz.results69, go_sem,r0,r1,r2,r3,r4],u.setCell (show w.heap.size≤(⟨w.heap.size+1+1,0,none⟩:Addr).block from by simp only;omega) _,fun h=>absurd h hok,fun _=>rfl⟩
end Tw
end
section
namespace Tw
open Go.RowKit Go.Extern.Stop Go.Stop Go.Extern
open En Go.Proofs.YtihlgifojjeoaaaGreatDoor.Nm Go.Proofs.YtihlgifojjeoaaaGreatDoor.Rt
noncomputable def enclO (rs:List (List Rat)) (x:List Rat) (k:Int):Option (Rat×Rat):=if 0≤k∧k≤20 then chk rs x ((encO rs (k.toNat+10) x).bind (rdO k.toNat)) else none
theorem enclO_ok {rs:List (List Rat)} (hf:∀ d∈rs,FitL d) {x:List Rat} (fx:FitL x) {k:Int} {P:Rat×Rat} (h:enclO rs x k=some P):OkI P:=by
 rw [enclO] at h
 split at h
 ·rw [chk] at h
  split at h
  ·obtain ⟨Q,h1,h2⟩:=Option.bind_eq_some_iff.1 h
   exact (rd_ok (by omega) (encO_ok (by omega) hf fx h1) h2).1
  ·cases h
 ·cases h
abbrev IsV (O:Option (Rat×Rat)) (_:World) (v:Value):Prop:=∃ Q,O=some Q∧v=ivS Q
theorem encloseNo {rs:List (List Rat)} {x:List Rat} {f:Value} (pp pa:Nat) (k:Int) (hk:k<0∨20<k) (w:World) (cp:w.cell? ⟨pp,0,none⟩=some (.int .i64 k)) :
  Calls Tryz.prog 70 #[f,.pointer (some ⟨pp,0,none⟩),.pointer (some ⟨pa,0,none⟩)] w (AnsC (enclO rs x k≠none) (IsV (enclO rs x k)) w):=by
 obtain ⟨O,hO⟩:∃ O,O=enclO rs x k:=⟨_,rfl⟩
 rw [←hO]
 have HO:Sh (O=none):=⟨by rw [hO,enclO,if_neg (by omega)]⟩
 have u:=(Below.refl w.heap.size w).alloc (Nat.le_refl _) (Jc #[J ⟨#[]⟩,J ⟨#[]⟩,J ⟨#[]⟩,J ⟨#[]⟩] 55)
 have cp':=kcell cp u
 have hr:=refuse_yes (w.alloc (Jc #[J ⟨#[]⟩,J ⟨#[]⟩,J ⟨#[]⟩,J ⟨#[]⟩] 55))
 clear hO cp
 rcases hk with h | h
 ·have h1:decide (k<0)=true:=decide_eq_true h
  go_enter Tryz.func70, Tryz.ntmps70
  go_wp2_with fail
  refine hr.mono ?_
  rintro e w' ⟨rfl,hw⟩
  rw [hw]
  exact ⟨rfl,u,fun h=>absurd HO.o h,fun _=>rfl⟩
 ·have h1:decide (k<0)=false:=decide_eq_false (by omega)
  have h2:decide (20<k)=true:=decide_eq_true h
  go_enter Tryz.func70, Tryz.ntmps70
  go_wp2_with fail
  refine hr.mono ?_
  rintro e w' ⟨rfl,hw⟩
  rw [hw]
  exact ⟨rfl,u,fun h=>absurd HO.o h,fun _=>rfl⟩
theorem encloseYes (a:Addr) {rs:List (List Rat)} (hk:rs.length≤4) (hfit:∀ d∈rs,FitL d) {x:List Rat} (hn:x.length≤1000) (fx:FitL x) {f vx:Value} (pp pa:Nat) (c:Nat) (hc:c≤20) (w:World) (hv:Ref a w) (hf:Fd w f rs) (cp:w.cell? ⟨pp,0,none⟩=some (.int .i64 (c:Int))) (ca:w.cell? ⟨pa,0,none⟩=some vx) (ex:El w vx x) :
  Calls Tryz.prog 70 #[f,.pointer (some ⟨pp,0,none⟩),.pointer (some ⟨pa,0,none⟩)] w (AnsC (enclO rs x (c:Int)≠none) (IsV (enclO rs x (c:Int))) w):=by
 have u:=(Below.refl w.heap.size w).alloc (Nat.le_refl _) (Jc #[J ⟨#[]⟩,J ⟨#[]⟩,J ⟨#[]⟩,J ⟨#[]⟩] 55)
 have n_r:=World.alloc_heap_new w (Jc #[J ⟨#[]⟩,J ⟨#[]⟩,J ⟨#[]⟩,J ⟨#[]⟩] 55)
 have cE:=encloser_any a (c+10) (by omega) hk hfit (w.alloc (Jc #[J ⟨#[]⟩,J ⟨#[]⟩,J ⟨#[]⟩,J ⟨#[]⟩] 55)) (hv.keep u) (Fd.keep u hf)
 have hr:=refuse_no (w.alloc (Jc #[J ⟨#[]⟩,J ⟨#[]⟩,J ⟨#[]⟩,J ⟨#[]⟩] 55))
 have cC:=fun (V:World) (hV:Below w.heap.size w V)=>checked_O hk hn fx V (Fd.keep hV hf) (ex.keep hV)
 have cp':=kcell cp u
 have ca':=kcell ca u
 have hO:enclO rs x (c:Int)=chk rs x ((encO rs (c+10) x).bind (rdO c)):=by rw [enclO,if_pos (by omega),Int.toNat_natCast]
 obtain ⟨O,hO2⟩:∃ O,O=enclO rs x (c:Int):=⟨_,rfl⟩
 rw [←hO2]
 have HO:Sh (O=chk rs x ((encO rs (c+10) x).bind (rdO c))):=⟨hO2.trans hO⟩
 have HX:Sh _:=⟨ex⟩
 have HV:Sh _:=⟨hv⟩
 have HC:Sh (c≤20∧FitL x):=⟨⟨hc,fx⟩⟩
 have HF:Sh _:=⟨hfit⟩
 have CC:Sh _:=⟨cC⟩
 have ne1:w.heap.size≠pp:=World.new_ne w ⟨pp,0,none⟩ cp
 have ne2:w.heap.size≠pa:=World.new_ne w ⟨pa,0,none⟩ ca
 have h1:decide ((c:Int)<0)=false:=decide_eq_false (by omega)
 have h2:decide (20<(c:Int))=false:=decide_eq_false (by omega)
 have h3:IntKind.i64.wrap ((c:Int)+10)=((c+10:Nat):Int):=by simp [IntKind.wrap,IntKind.signed,IntKind.bits];omega
 obtain ⟨pf,rfl⟩:=hf.ptr
 obtain ⟨bx,ox,cx,rfl,_,_⟩:=ex.ex
 clear hO hO2 ex hv hc fx hfit cC hf hk hn cp ca
 go_enter Tryz.func70, Tryz.ntmps70
 go_wp2_with fail
 refine hr.mono ?_
 rintro e w' ⟨rfl,hw⟩
 rw [hw]
 clear hw hr
 go_wp2_with fail
 refine cE.mono ?_
 intro e v1 g1
 replace u:=u.trans (g1.below.mono u.size)
 replace n_r:=En.lkeep n_r g1.below
 replace cp':=kcell cp' g1.below
 replace ca':=kcell ca' g1.below
 by_cases hR:RtOk (c+10) rs
 ·obtain ⟨fv,rfl,k,caps,rfl,hen,hQ⟩:=g1.good hR
  have CQ:Sh (∀ V,Below v1.heap.size v1 V→x.length=2^rs.length→Calls Tryz.prog k (#[.slice (some ⟨bx,ox,none⟩) x.length cx]++caps) V (AnsI (encO rs (c+10) x) V)):=⟨fun V hV hl=>hQ V x _ (Fr.of_below hV) (HV.o.keep (u.trans (hV.mono u.size))) hl HC.o.2 (HX.o.keep (u.trans (hV.mono u.size)))⟩
  have hen':=fun a w=>hen a w
  clear hQ g1 cE
  have CR:Sh (∀ P,encO rs (c+10) x=some P→∀ V,Below w.heap.size w V→ICt 73 #[.agg #[J (txt P.1.num),J (txt (P.1.den:Int)),J (txt P.2.num),J (txt (P.2.den:Int))],.int .i64 (c:Int)] (rdO c P) V):=⟨fun P h V hV=>by
   have o:=encO_ok (by have:=HC.o.1;omega) HF.o HC.o.2 h
   exact IC.t (Round_G a o.1 o.2.1 o.2.2 (by have:=HC.o.1;omega)) (HV.o.keep hV)⟩
  obtain ⟨E,hE⟩:∃ E,E=encO rs (c+10) x:=⟨_,rfl⟩
  rw [←hE] at CQ CR HO
  have CC2:Sh _:=⟨fun (V:World) (hV:Below w.heap.size w V)=>CC.o V hV⟩
  have NR:Sh _:=⟨n_r⟩
  have NP:Sh _:=⟨(⟨cp',ca'⟩:_∧_)⟩
  clear CC hE hR h1 h2 h3 n_r
  go_wp2_with fail
  go_region_held (fun X=>X.cell? ⟨pp,0,none⟩=some (.int .i64 (c:Int))∧X.cell? ⟨pa,0,none⟩=some (.slice (some ⟨bx,ox,none⟩) x.length cx)) (go_keep) (first | (go_at_call 39; have hq:=CC2.o v1.drew (ldrew u);(with_reducible refine hq.mono ?_);intro e x1 g1;have k1:Below v1.heap.size v1 x1:=lundrew2 g1.below;by_cases hl:x.length=2^rs.length;rotate_left;(obtain rfl:=g1.bad hl;dsimp +zetaDelta only [Exit.then,Exit.inBlock];exact ⟨rfl,u.trans (k1.mono u.size),fun h=>absurd (by rw [HO.o,chk,if_neg hl]) h,fun _=>rfl⟩);obtain rfl:=g1.good hl;have HO2:Sh (O=E.bind (rdO c)):=⟨by rw [HO.o,chk,if_pos hl]⟩;have CQ2:Sh _:=⟨fun (V:World) (hV:Below v1.heap.size v1 V)=>CQ.o V hV hl⟩;clear hl;have cp':=kcell NP.o.1 k1;have ca':=kcell NP.o.2 k1;clear g1 hq) | (have hq:=CQ2.o x1 k1;(with_reducible refine hq.mono ?_);intro e x2 g2;have k2:=k1.trans (g2.below.mono k1.size);rcases E with _ | P;(obtain rfl:=g2.bad rfl;dsimp +zetaDelta only [Exit.then,Exit.inBlock];exact ⟨rfl,u.trans (k2.mono u.size),fun h=>absurd HO2.o h,fun _=>rfl⟩);obtain rfl:=g2.good P rfl;have cp':=kcell NP.o.1 k2;have ca':=kcell NP.o.2 k2;clear g2 hq) | (go_at_call 73; have hq:=CR.o P rfl x2 (u.trans (k2.mono u.size));(with_reducible refine hq.mono ?_);rintro e x3 ⟨rfl,g3⟩;have k3:=k2.trans (g3.mono k2.size);have cp':=kcell NP.o.1 k3;have ca':=kcell NP.o.2 k3;clear hq) | (go_at_call 72; have hq:=mustI_O (rdO c P) x3;(with_reducible refine hq.mono ?_);intro e x4 g4;have k4:=k3.trans (g4.below.mono k3.size);rcases hM:rdO c P with _ | s;(obtain rfl:=g4.bad hM;dsimp +zetaDelta only [Exit.then,Exit.inBlock];exact ⟨rfl,u.trans (k4.mono u.size),fun h=>absurd (HO2.o.trans hM) h,fun _=>rfl⟩);obtain rfl:=g4.good s hM;have HZ:Sh (O=some s):=⟨HO2.o.trans hM⟩;have nr:=En.lkeep NR.o k4;have r0:=En.lcell nr 0 (v:=J ⟨#[]⟩) rfl;have r1:=En.lcell nr 1 (v:=J ⟨#[]⟩) rfl;have r2:=En.lcell nr 2 (v:=J ⟨#[]⟩) rfl;have r3:=En.lcell nr 3 (v:=J ⟨#[]⟩) rfl;have f0:=En.lfree nr 0;have f1:=En.lfree nr 1;have f2:=En.lfree nr 2;have f3:=En.lfree nr 3;have cp':=kcell NP.o.1 k4;have ca':=kcell NP.o.2 k4;clear g4 hq) | fail)
  all_goals
   go_wp2_with fail
   have s_r:=box4_set (x:=J (txt s.1.num)) (y:=J (txt (s.1.den:Int))) (z:=J (txt s.2.num)) (t:=J (txt (s.2.den:Int))) nr
   have y0:=En.lcell s_r 0 (v:=J (txt s.1.num)) rfl
   have y1:=En.lcell s_r 1 (v:=J (txt (s.1.den:Int))) rfl
   have y2:=En.lcell s_r 2 (v:=J (txt s.2.num)) rfl
   have y3:=En.lcell s_r 3 (v:=J (txt (s.2.den:Int))) rfl
   exact bodyPost_ret (v:=.agg #[J (txt s.1.num),J (txt (s.1.den:Int)),J (txt s.2.num),J (txt (s.2.den:Int))]) (by simp [results,Tryz.results70, go_sem,y0,y1,y2,y3]) rfl ⟨(((((u.trans (k4.mono u.size)).setCell (Nat.le_refl _) _).setCell (Nat.le_refl _) _).setCell (Nat.le_refl _) _).setCell (Nat.le_refl _) _),fun _=>⟨_,rfl,s,HZ.o,rfl⟩,fun h=>absurd (fun k=>by rw [HZ.o] at k;cases k) h⟩
 ·obtain rfl:=g1.bad hR
  exact ⟨rfl,u,fun h=>absurd (by rw [HO.o,chk,enc_none hR];split <;> rfl) h,fun _=>rfl⟩
end Tw
end
section
namespace Tw
open Go.RowKit Go.Extern.Stop Go.Stop Go.Extern
open En Go.Proofs.YtihlgifojjeoaaaGreatDoor.Nm Go.Proofs.YtihlgifojjeoaaaGreatDoor.Rt
def chk2 {T:Type} (rs:List (List Rat)) (x y:List Rat) (o:Option T):Option T:=if x.length=2^rs.length∧y.length=2^rs.length then o else none
theorem cloAdd {rs:List (List Rat)} (hk:rs.length≤4) {x y:List Rat} (hn:x.length≤1000) (hm:y.length≤1000) (fx:FitL x) (fy:FitL y) {f vx vy:Value} (pa pb:Addr) (w:World) (_:Gl w) (hf:Fd w f rs) (fa:w.cell? pa=some vx) (fb:w.cell? pb=some vy) (ex:El w vx x) (ey:El w vy y) :
  Calls Tryz.prog 40 #[f,.pointer (some pa),.pointer (some pb)] w (AnsC (chk2 rs x y (pairO addQ x y)≠none) (IsE (chk2 rs x y (pairO addQ x y))) w):=by
 obtain ⟨Q,hQ⟩:∃ Q,Q=chk2 rs x y (pairO addQ x y):=⟨_,rfl⟩
 rw [←hQ]
 have CX:Sh (∀ W,Below w.heap.size w W→Calls Tryz.prog 39 #[f,vx] W (AnsV (decide (x.length=2^rs.length)=true) vx W)):=⟨fun W u=>(checked_O hk hn fx W (Fd.keep u hf) (ex.keep u)).mono fun _ _ h=>⟨h.below,fun q=>h.good (of_decide_eq_true q),fun q=>h.bad (fun q'=>q (decide_eq_true q'))⟩⟩
 have CY:Sh (∀ W,Below w.heap.size w W→Calls Tryz.prog 39 #[f,vy] W (AnsV (decide (y.length=2^rs.length)=true) vy W)):=⟨fun W u=>(checked_O hk hm fy W (Fd.keep u hf) (ey.keep u)).mono fun _ _ h=>⟨h.below,fun q=>h.good (of_decide_eq_true q),fun q=>h.bad (fun q'=>q (decide_eq_true q'))⟩⟩
 have QX:Sh (decide (x.length=2^rs.length)=false→Q=none):=⟨fun q=>by rw [hQ,chk2,if_neg (fun h=>of_decide_eq_false q h.1)]⟩
 have QY:Sh (decide (y.length=2^rs.length)=false→Q=none):=⟨fun q=>by rw [hQ,chk2,if_neg (fun h=>of_decide_eq_false q h.2)]⟩
 have CP:Sh (decide (x.length=2^rs.length)=true→decide (y.length=2^rs.length)=true→∀ W,Below w.heap.size w W→Calls Tryz.prog 41 #[vx,vy] W (AnsO Q W)):=⟨fun qx qy W u=>by
  have hx:=of_decide_eq_true qx
  have hy:=of_decide_eq_true qy
  rw [hQ,chk2,if_pos ⟨hx,hy⟩]
  exact plus_O (hx.trans hy.symm) hn fx fy W (ex.keep u) (ey.keep u)⟩
 clear hf ex ey fx fy hn hm hk hQ
 generalize decide (x.length=2^rs.length)=bx at *
 generalize decide (y.length=2^rs.length)=by_ at *
 go_enter Tryz.func40, Tryz.ntmps40
 go_wp2_with fail
 go_region_held (fun X=>X.cell? pa=some vx∧X.cell? pb=some vy) (go_keep) (first | (go_at_call 39; (with_reducible refine (CX.o _ (ldrew (Below.refl _ _))).mono ?_);intro e v1 h1;have k1:Below w.heap.size w v1:=lundrew2 h1.below;rcases bx with _ | _;(obtain rfl:=h1.bad (fun q=>by cases q);dsimp +zetaDelta only [Exit.then,Exit.inBlock];exact ⟨rfl,k1,fun h=>absurd (QX.o rfl) h,fun _=>rfl⟩);obtain rfl:=h1.good rfl;clear h1;have fa:=kcell fa k1;have fb:=kcell fb k1) | (go_at_call 39; (with_reducible refine (CY.o _ k1).mono ?_);intro e v2 h2;have k2:Below w.heap.size w v2:=k1.trans (h2.below.mono k1.size);rcases by_ with _ | _;(obtain rfl:=h2.bad (fun q=>by cases q);dsimp +zetaDelta only [Exit.then,Exit.inBlock];exact ⟨rfl,k2,fun h=>absurd (QY.o rfl) h,fun _=>rfl⟩);obtain rfl:=h2.good rfl;have fa:=kcell fa h2.below;have fb:=kcell fb h2.below;clear h2 k1) | (go_at_call 41; have cp:=CP.o (by trivial) (by trivial) _ k2;(with_reducible refine cp.mono ?_);clear cp;intro e v3 h3;have k3:Below w.heap.size w v3:=k2.trans (h3.below.mono k2.size);rcases Q with _ | z;(obtain rfl:=h3.bad rfl;dsimp +zetaDelta only [Exit.then,Exit.inBlock];exact ⟨rfl,k3,fun h=>(by simp at h),fun _=>rfl⟩);obtain ⟨v,rfl,ev⟩:=h3.good z rfl;have fa:=kcell fa h3.below;have fb:=kcell fb h3.below;clear h3))
 all_goals (go_wp2_with fail;go_ret;exact ⟨k3,fun _=>⟨_,rfl,z,rfl,ev⟩,fun h=>absurd (fun q=>by cases q) h⟩)
theorem cloSub {rs:List (List Rat)} (hk:rs.length≤4) {x y:List Rat} (hn:x.length≤1000) (hm:y.length≤1000) (fx:FitL x) (fy:FitL y) {f vx vy:Value} (pa pb:Addr) (w:World) (_:Gl w) (hf:Fd w f rs) (fa:w.cell? pa=some vx) (fb:w.cell? pb=some vy) (ex:El w vx x) (ey:El w vy y) :
  Calls Tryz.prog 42 #[f,.pointer (some pa),.pointer (some pb)] w (AnsC (chk2 rs x y (pairO subQ x y)≠none) (IsE (chk2 rs x y (pairO subQ x y))) w):=by
 obtain ⟨Q,hQ⟩:∃ Q,Q=chk2 rs x y (pairO subQ x y):=⟨_,rfl⟩
 rw [←hQ]
 have CX:Sh (∀ W,Below w.heap.size w W→Calls Tryz.prog 39 #[f,vx] W (AnsV (decide (x.length=2^rs.length)=true) vx W)):=⟨fun W u=>(checked_O hk hn fx W (Fd.keep u hf) (ex.keep u)).mono fun _ _ h=>⟨h.below,fun q=>h.good (of_decide_eq_true q),fun q=>h.bad (fun q'=>q (decide_eq_true q'))⟩⟩
 have CY:Sh (∀ W,Below w.heap.size w W→Calls Tryz.prog 39 #[f,vy] W (AnsV (decide (y.length=2^rs.length)=true) vy W)):=⟨fun W u=>(checked_O hk hm fy W (Fd.keep u hf) (ey.keep u)).mono fun _ _ h=>⟨h.below,fun q=>h.good (of_decide_eq_true q),fun q=>h.bad (fun q'=>q (decide_eq_true q'))⟩⟩
 have QX:Sh (decide (x.length=2^rs.length)=false→Q=none):=⟨fun q=>by rw [hQ,chk2,if_neg (fun h=>of_decide_eq_false q h.1)]⟩
 have QY:Sh (decide (y.length=2^rs.length)=false→Q=none):=⟨fun q=>by rw [hQ,chk2,if_neg (fun h=>of_decide_eq_false q h.2)]⟩
 have CP:Sh (decide (x.length=2^rs.length)=true→decide (y.length=2^rs.length)=true→∀ W,Below w.heap.size w W→Calls Tryz.prog 43 #[vx,vy] W (AnsO Q W)):=⟨fun qx qy W u=>by
  have hx:=of_decide_eq_true qx
  have hy:=of_decide_eq_true qy
  rw [hQ,chk2,if_pos ⟨hx,hy⟩]
  exact minus_O (hx.trans hy.symm) hn fx fy W (ex.keep u) (ey.keep u)⟩
 clear hf ex ey fx fy hn hm hk hQ
 generalize decide (x.length=2^rs.length)=bx at *
 generalize decide (y.length=2^rs.length)=by_ at *
 go_enter Tryz.func42, Tryz.ntmps42
 go_wp2_with fail
 go_region_held (fun X=>X.cell? pa=some vx∧X.cell? pb=some vy) (go_keep) (first | (go_at_call 39; (with_reducible refine (CX.o _ (ldrew (Below.refl _ _))).mono ?_);intro e v1 h1;have k1:Below w.heap.size w v1:=lundrew2 h1.below;rcases bx with _ | _;(obtain rfl:=h1.bad (fun q=>by cases q);dsimp +zetaDelta only [Exit.then,Exit.inBlock];exact ⟨rfl,k1,fun h=>absurd (QX.o rfl) h,fun _=>rfl⟩);obtain rfl:=h1.good rfl;clear h1;have fa:=kcell fa k1;have fb:=kcell fb k1) | (go_at_call 39; (with_reducible refine (CY.o _ k1).mono ?_);intro e v2 h2;have k2:Below w.heap.size w v2:=k1.trans (h2.below.mono k1.size);rcases by_ with _ | _;(obtain rfl:=h2.bad (fun q=>by cases q);dsimp +zetaDelta only [Exit.then,Exit.inBlock];exact ⟨rfl,k2,fun h=>absurd (QY.o rfl) h,fun _=>rfl⟩);obtain rfl:=h2.good rfl;have fa:=kcell fa h2.below;have fb:=kcell fb h2.below;clear h2 k1) | (go_at_call 43; have cp:=CP.o (by trivial) (by trivial) _ k2;(with_reducible refine cp.mono ?_);clear cp;intro e v3 h3;have k3:Below w.heap.size w v3:=k2.trans (h3.below.mono k2.size);rcases Q with _ | z;(obtain rfl:=h3.bad rfl;dsimp +zetaDelta only [Exit.then,Exit.inBlock];exact ⟨rfl,k3,fun h=>(by simp at h),fun _=>rfl⟩);obtain ⟨v,rfl,ev⟩:=h3.good z rfl;have fa:=kcell fa h3.below;have fb:=kcell fb h3.below;clear h3))
 all_goals (go_wp2_with fail;go_ret;exact ⟨k3,fun _=>⟨_,rfl,z,rfl,ev⟩,fun h=>absurd (fun q=>by cases q) h⟩)
theorem cloMul {rs:List (List Rat)} (hk:rs.length≤4) {x y:List Rat} (hn:x.length≤1000) (hm:y.length≤1000) (fx:FitL x) (fy:FitL y) {f vx vy:Value} (pa pb:Addr) (w:World) (hg:Gl w) (hf:Fd w f rs) (fa:w.cell? pa=some vx) (fb:w.cell? pb=some vy) (ex:El w vx x) (ey:El w vy y) :
  Calls Tryz.prog 37 #[f,.pointer (some pa),.pointer (some pb)] w (AnsC (chk2 rs x y (mulO rs x y)≠none) (IsE (chk2 rs x y (mulO rs x y))) w):=by
 obtain ⟨Q,hQ⟩:∃ Q,Q=chk2 rs x y (mulO rs x y):=⟨_,rfl⟩
 rw [←hQ]
 have CX:Sh (∀ W,Below w.heap.size w W→Calls Tryz.prog 39 #[f,vx] W (AnsV (decide (x.length=2^rs.length)=true) vx W)):=⟨fun W u=>(checked_O hk hn fx W (Fd.keep u hf) (ex.keep u)).mono fun _ _ h=>⟨h.below,fun q=>h.good (of_decide_eq_true q),fun q=>h.bad (fun q'=>q (decide_eq_true q'))⟩⟩
 have CY:Sh (∀ W,Below w.heap.size w W→Calls Tryz.prog 39 #[f,vy] W (AnsV (decide (y.length=2^rs.length)=true) vy W)):=⟨fun W u=>(checked_O hk hm fy W (Fd.keep u hf) (ey.keep u)).mono fun _ _ h=>⟨h.below,fun q=>h.good (of_decide_eq_true q),fun q=>h.bad (fun q'=>q (decide_eq_true q'))⟩⟩
 have QX:Sh (decide (x.length=2^rs.length)=false→Q=none):=⟨fun q=>by rw [hQ,chk2,if_neg (fun h=>of_decide_eq_false q h.1)]⟩
 have QY:Sh (decide (y.length=2^rs.length)=false→Q=none):=⟨fun q=>by rw [hQ,chk2,if_neg (fun h=>of_decide_eq_false q h.2)]⟩
 have CP:Sh (decide (x.length=2^rs.length)=true→decide (y.length=2^rs.length)=true→∀ W,Below w.heap.size w W→Calls Tryz.prog 38 #[f,vx,vy] W (AnsO Q W)):=⟨fun qx qy W u=>by
  have hx:=of_decide_eq_true qx
  have hy:=of_decide_eq_true qy
  rw [hQ,chk2,if_pos ⟨hx,hy⟩]
  exact times_any hk hx hy fx fy W (hg.keep u) (Fd.keep u hf) (ex.keep u) (ey.keep u)⟩
 clear hg hf ex ey fx fy hn hm hk hQ
 generalize decide (x.length=2^rs.length)=bx at *
 generalize decide (y.length=2^rs.length)=by_ at *
 go_enter Tryz.func37, Tryz.ntmps37
 go_wp2_with fail
 go_region_held (fun X=>X.cell? pa=some vx∧X.cell? pb=some vy) (go_keep) (first | (go_at_call 39; (with_reducible refine (CX.o _ (ldrew (Below.refl _ _))).mono ?_);intro e v1 h1;have k1:Below w.heap.size w v1:=lundrew2 h1.below;rcases bx with _ | _;(obtain rfl:=h1.bad (fun q=>by cases q);dsimp +zetaDelta only [Exit.then,Exit.inBlock];exact ⟨rfl,k1,fun h=>absurd (QX.o rfl) h,fun _=>rfl⟩);obtain rfl:=h1.good rfl;clear h1;have fa:=kcell fa k1;have fb:=kcell fb k1) | (go_at_call 39; (with_reducible refine (CY.o _ k1).mono ?_);intro e v2 h2;have k2:Below w.heap.size w v2:=k1.trans (h2.below.mono k1.size);rcases by_ with _ | _;(obtain rfl:=h2.bad (fun q=>by cases q);dsimp +zetaDelta only [Exit.then,Exit.inBlock];exact ⟨rfl,k2,fun h=>absurd (QY.o rfl) h,fun _=>rfl⟩);obtain rfl:=h2.good rfl;have fa:=kcell fa h2.below;have fb:=kcell fb h2.below;clear h2 k1) | (go_at_call 38; have cp:=CP.o (by trivial) (by trivial) _ k2;(with_reducible refine cp.mono ?_);clear cp;intro e v3 h3;have k3:Below w.heap.size w v3:=k2.trans (h3.below.mono k2.size);rcases Q with _ | z;(obtain rfl:=h3.bad rfl;dsimp +zetaDelta only [Exit.then,Exit.inBlock];exact ⟨rfl,k3,fun h=>(by simp at h),fun _=>rfl⟩);obtain ⟨v,rfl,ev⟩:=h3.good z rfl;have fa:=kcell fa h3.below;have fb:=kcell fb h3.below;clear h3))
 all_goals (go_wp2_with fail;go_ret;exact ⟨k3,fun _=>⟨_,rfl,z,rfl,ev⟩,fun h=>absurd (fun q=>by cases q) h⟩)
end Tw
end
end Go.Proofs.YtihlgifojjeoaaaGreatDoor
