import Derived.Test.YtadcmepaniiciaaGreatDoorZl
set_option maxRecDepth 1000000
set_option maxHeartbeats 40000000
open Go.Value renaming string→J
open Go.Obj renaming cells→Jc
namespace Go.Proofs.YtadcmepaniiciaaGreatDoor
section
namespace Tw
open Go.RowKit Go.Extern.Stop Go.Stop Go.Extern
open En Go.Proofs.YtadcmepaniiciaaGreatDoor.Nm Go.Proofs.YtadcmepaniiciaaGreatDoor.Rt
theorem Qkm (k:Nat) (caps:Array Value) (hk:Enters Tryz.prog k) {L:List (List Rat)} (hL:FitT L) (hn:L.length≤1000) {t:Value} (ok:Prop) (P:ByteArray→ByteArray→Prop)
  (w:World) (hg:Gl w) (ht:TwAt w t L) (hno:Qam [] L=none→¬ ok)
  (hC:∀ rs,Qam [] L=some rs→∀ W f,Below w.heap.size w W→Fd W f rs→Calls Tryz.prog k (#[f]++caps) W (AnsC ok (fun _ v=>∃ a b,v = .agg #[J a,J b]∧P a b) W)) :
  Calls Tryz.prog 62 #[t,.func (.func k) #[] caps] w (AnsA ok (fun _ v=>∃ a b,v = .agg #[J a,J b]∧P a b) (.agg #[J ⟨#[]⟩,J ⟨#[]⟩]) w):=by
 have hmf:=mkf;have HK:=fun W (u:Below w.heap.size w W)=>Qdl hL hn W (hg.keep u) (ht.keep u);obtain ⟨p,cap,rfl,h⟩:=ht.ex;clear h ht hL hn hg;generalize L.length=n at *
 generalize Qam [] L=O at *
 have CF:Sh _:=⟨HK⟩;have CC:Sh _:=⟨hC⟩;have HN:Sh _:=⟨hno⟩;clear HK hC hno
 go_enter_defers Tryz.func62, Tryz.ntmps62
 go_wp2_with fail;obtain ⟨_,n_r,n_e⟩:=En.new3 w (Jc #[.slice p n cap] 28) (Jc #[J ⟨#[]⟩,J ⟨#[]⟩] 42) (Jc #[.int .i64 0] 32);have u:=(((Below.refl w.heap.size w).alloc Lr (Jc #[.slice p n cap] 28)).alloc (by simp) (Jc #[J ⟨#[]⟩,J ⟨#[]⟩] 42)).alloc (by simp;omega) (Jc #[.int .i64 0] 32);generalize (((w.alloc (Jc #[.slice p n cap] 28)).alloc (Jc #[J ⟨#[]⟩,J ⟨#[]⟩] 42)).alloc (Jc #[.int .i64 0] 32))=W0 at *
 refine (CF.o W0 u).mono ?_;intro e v1 h1;replace u:=u.trans (h1.below.mono u.size);replace n_e:=En.Qac n_e h1.below;replace n_r:=En.Qac n_r h1.below;cases O with
 | none =>
  obtain rfl:=h1.bad rfl;have hok:=HN.o rfl;clear h1 CF CC HN;have c0:=En.Qaa n_e 0 (v:=.int .i64 0) rfl;have f0:=En.Qad n_e 0;dsimp +zetaDelta only [Exit.then,Exit.inBlock];refine leaves_cons (f := 108) (args:=#[.pointer (some ⟨w.heap.size+1+1,0,none⟩)]) (by simp) (by simp [go_sem]) ?_;refine (QhC ⟨w.heap.size+1+1,0,none⟩ (.int .i64 0) [] _ c0 f0).mono ?_;rintro e u' w'' ⟨rfl,rfl,rfl⟩;have r0:(v1.setCell ⟨w.heap.size+1+1,0,none⟩ (.int .i64 60)).cell? ⟨w.heap.size+1,0,none⟩=some (J ⟨#[]⟩):=(World.cell?_setCell_other v1 ⟨w.heap.size+1+1,0,none⟩ ⟨w.heap.size+1,0,none⟩ _ (by simp)).trans (En.Qaa n_r 0 rfl);have r1:(v1.setCell ⟨w.heap.size+1+1,0,none⟩ (.int .i64 60)).cell? ⟨w.heap.size+1,1,none⟩=some (J ⟨#[]⟩):=(World.cell?_setCell_other v1 ⟨w.heap.size+1+1,0,none⟩ ⟨w.heap.size+1,1,none⟩ _ (by simp)).trans (En.Qaa n_r 1 rfl);have r4:=World.cell?_setCell_same v1 ⟨w.heap.size+1+1,0,none⟩ (.int .i64 60) c0;show ∃ v,(results _ _).run _ _ = .ok v _∧AnsA _ _ _ _ _ _;exact ⟨.tuple #[.agg #[J ⟨#[]⟩,J ⟨#[]⟩],.int .i64 60],by simp [results,Tryz.results62, go_sem,r0,r1,r4],u.setCell (show w.heap.size≤(⟨w.heap.size+1+1,0,none⟩:Addr).block from by simp only;omega) _,fun h=>absurd h hok,fun _=>rfl⟩
 | some rs =>
  obtain ⟨f,rfl,hf⟩:=h1.good rs rfl;have cC:=CC.o rs rfl v1 f u hf;clear h1 CF CC hf;have hen:=fun a w=>hk a w;go_wp2_with fail;refine cC.mono ?_;intro e v2 h2;replace u:=u.trans (h2.below.mono u.size);replace n_e:=En.Qac n_e h2.below;replace n_r:=En.Qac n_r h2.below;have c0:=En.Qaa n_e 0 (v:=.int .i64 0) rfl;have f0:=En.Qad n_e 0;by_cases hok:ok
  ·obtain ⟨v,rfl,a,b,rfl,hv⟩:=h2.good hok;clear h2 cC;have d0:=En.Qaa n_r 0 (v:=J ⟨#[]⟩) rfl;have d1:=En.Qaa n_r 1 (v:=J ⟨#[]⟩) rfl;have g0:=En.Qad n_r 0;have g1:=En.Qad n_r 1;dsimp only
   go_wp
   have s_r:((v2.setCell ⟨w.heap.size+1,0,none⟩ (J a)).setCell ⟨w.heap.size+1,1,none⟩ (J b)).heap[w.heap.size+1]? = some (Jc #[J a,J b] 42 (0,0)):=by
    have:=Qbo (Qbo n_r 0 (J a)) 1 (J b);simpa using this
   have s_e:((v2.setCell ⟨w.heap.size+1,0,none⟩ (J a)).setCell ⟨w.heap.size+1,1,none⟩ (J b)).heap[w.heap.size+1+1]? = some (Jc #[.int .i64 0] 32 (0,0)):=(Below.heap_setCell _ _ _ _ (by simp)).trans ((Below.heap_setCell _ _ _ _ (by simp)).trans n_e);replace u:=(u.setCell (show w.heap.size≤(⟨w.heap.size+1,0,none⟩:Addr).block from Nat.le_succ _) (J a)).setCell (show w.heap.size≤(⟨w.heap.size+1,1,none⟩:Addr).block from Nat.le_succ _) (J b);clear d0 d1 g0 g1 n_r n_e c0 f0;generalize ((v2.setCell ⟨w.heap.size+1,0,none⟩ (J a)).setCell ⟨w.heap.size+1,1,none⟩ (J b))=W5 at *
   rw [set_same s_e];have c0:=En.Qaa s_e 0 (v:=.int .i64 0) rfl;have r0:=En.Qaa s_r 0 (v:=J a) rfl;have r1:=En.Qaa s_r 1 (v:=J b) rfl;refine leaves_cons (f := 108) (args:=#[.pointer (some ⟨w.heap.size+1+1,0,none⟩)]) (by simp) (by simp [go_sem]) ?_;refine (QqF ⟨w.heap.size+1+1,0,none⟩ _).mono ?_;rintro e u' w'' ⟨rfl,rfl,rfl⟩;show ∃ v,(results _ _).run _ _ = .ok v _∧AnsA _ _ _ _ _ _;exact ⟨.tuple #[.agg #[J a,J b],.int .i64 0],by simp [results,Tryz.results62, go_sem,r0,r1,c0],u,fun _=>⟨_,rfl,a,b,rfl,hv⟩,fun h=>absurd hok h⟩
  ·obtain rfl:=h2.bad hok;clear h2 cC;dsimp +zetaDelta only [Exit.then,Exit.inBlock];refine leaves_cons (f := 108) (args:=#[.pointer (some ⟨w.heap.size+1+1,0,none⟩)]) (by simp) (by simp [go_sem]) ?_;refine (QhC ⟨w.heap.size+1+1,0,none⟩ (.int .i64 0) [] _ c0 f0).mono ?_;rintro e u' w'' ⟨rfl,rfl,rfl⟩;have r0:(v2.setCell ⟨w.heap.size+1+1,0,none⟩ (.int .i64 60)).cell? ⟨w.heap.size+1,0,none⟩=some (J ⟨#[]⟩):=(World.cell?_setCell_other v2 ⟨w.heap.size+1+1,0,none⟩ ⟨w.heap.size+1,0,none⟩ _ (by simp)).trans (En.Qaa n_r 0 rfl);have r1:(v2.setCell ⟨w.heap.size+1+1,0,none⟩ (.int .i64 60)).cell? ⟨w.heap.size+1,1,none⟩=some (J ⟨#[]⟩):=(World.cell?_setCell_other v2 ⟨w.heap.size+1+1,0,none⟩ ⟨w.heap.size+1,1,none⟩ _ (by simp)).trans (En.Qaa n_r 1 rfl);have r4:=World.cell?_setCell_same v2 ⟨w.heap.size+1+1,0,none⟩ (.int .i64 60) c0;show ∃ v,(results _ _).run _ _ = .ok v _∧AnsA _ _ _ _ _ _;exact ⟨.tuple #[.agg #[J ⟨#[]⟩,J ⟨#[]⟩],.int .i64 60],by simp [results,Tryz.results62, go_sem,r0,r1,r4],u.setCell (show w.heap.size≤(⟨w.heap.size+1+1,0,none⟩:Addr).block from by simp only;omega) _,fun h=>absurd h hok,fun _=>rfl⟩
theorem Qkn (k:Nat) (caps:Array Value) (hk:Enters Tryz.prog k) {L:List (List Rat)} (hL:FitT L) (hn:L.length≤1000) {t:Value} (ok:Prop) (P:ByteArray→ByteArray→ByteArray→ByteArray→Prop)
  (w:World) (hg:Gl w) (ht:TwAt w t L) (hno:Qam [] L=none→¬ ok)
  (hC:∀ rs,Qam [] L=some rs→∀ W f,Below w.heap.size w W→Fd W f rs→Calls Tryz.prog k (#[f]++caps) W (AnsC ok (fun _ v=>∃ a b c d,v = .agg #[J a,J b,J c,J d]∧P a b c d) W)) :
  Calls Tryz.prog 69 #[t,.func (.func k) #[] caps] w (AnsA ok (fun _ v=>∃ a b c d,v = .agg #[J a,J b,J c,J d]∧P a b c d) (.agg #[J ⟨#[]⟩,J ⟨#[]⟩,J ⟨#[]⟩,J ⟨#[]⟩]) w):=by
 have hmf:=mkf;have HK:=fun W (u:Below w.heap.size w W)=>Qdl hL hn W (hg.keep u) (ht.keep u);obtain ⟨p,cap,rfl,h⟩:=ht.ex;clear h ht hL hn hg;generalize L.length=n at *
 generalize Qam [] L=O at *
 have CF:Sh _:=⟨HK⟩;have CC:Sh _:=⟨hC⟩;have HN:Sh _:=⟨hno⟩;clear HK hC hno
 go_enter_defers Tryz.func69, Tryz.ntmps69
 go_wp2_with fail;obtain ⟨_,n_r,n_e⟩:=En.new3 w (Jc #[.slice p n cap] 28) (Jc #[J ⟨#[]⟩,J ⟨#[]⟩,J ⟨#[]⟩,J ⟨#[]⟩] 55) (Jc #[.int .i64 0] 32);have u:=(((Below.refl w.heap.size w).alloc Lr (Jc #[.slice p n cap] 28)).alloc (by simp) (Jc #[J ⟨#[]⟩,J ⟨#[]⟩,J ⟨#[]⟩,J ⟨#[]⟩] 55)).alloc (by simp;omega) (Jc #[.int .i64 0] 32);generalize (((w.alloc (Jc #[.slice p n cap] 28)).alloc (Jc #[J ⟨#[]⟩,J ⟨#[]⟩,J ⟨#[]⟩,J ⟨#[]⟩] 55)).alloc (Jc #[.int .i64 0] 32))=W0 at *
 refine (CF.o W0 u).mono ?_;intro e v1 h1;replace u:=u.trans (h1.below.mono u.size);replace n_e:=En.Qac n_e h1.below;replace n_r:=En.Qac n_r h1.below;cases O with
 | none =>
  obtain rfl:=h1.bad rfl;have hok:=HN.o rfl;clear h1 CF CC HN;have c0:=En.Qaa n_e 0 (v:=.int .i64 0) rfl;have f0:=En.Qad n_e 0;dsimp +zetaDelta only [Exit.then,Exit.inBlock];refine leaves_cons (f := 119) (args:=#[.pointer (some ⟨w.heap.size+1+1,0,none⟩)]) (by simp) (by simp [go_sem]) ?_;refine (QhD ⟨w.heap.size+1+1,0,none⟩ (.int .i64 0) [] _ c0 f0).mono ?_;rintro e u' w'' ⟨rfl,rfl,rfl⟩;have r0:(v1.setCell ⟨w.heap.size+1+1,0,none⟩ (.int .i64 60)).cell? ⟨w.heap.size+1,0,none⟩=some (J ⟨#[]⟩):=(World.cell?_setCell_other v1 ⟨w.heap.size+1+1,0,none⟩ ⟨w.heap.size+1,0,none⟩ _ (by simp)).trans (En.Qaa n_r 0 rfl);have r1:(v1.setCell ⟨w.heap.size+1+1,0,none⟩ (.int .i64 60)).cell? ⟨w.heap.size+1,1,none⟩=some (J ⟨#[]⟩):=(World.cell?_setCell_other v1 ⟨w.heap.size+1+1,0,none⟩ ⟨w.heap.size+1,1,none⟩ _ (by simp)).trans (En.Qaa n_r 1 rfl);have r2:(v1.setCell ⟨w.heap.size+1+1,0,none⟩ (.int .i64 60)).cell? ⟨w.heap.size+1,2,none⟩=some (J ⟨#[]⟩):=(World.cell?_setCell_other v1 ⟨w.heap.size+1+1,0,none⟩ ⟨w.heap.size+1,2,none⟩ _ (by simp)).trans (En.Qaa n_r 2 rfl);have r3:(v1.setCell ⟨w.heap.size+1+1,0,none⟩ (.int .i64 60)).cell? ⟨w.heap.size+1,3,none⟩=some (J ⟨#[]⟩):=(World.cell?_setCell_other v1 ⟨w.heap.size+1+1,0,none⟩ ⟨w.heap.size+1,3,none⟩ _ (by simp)).trans (En.Qaa n_r 3 rfl);have r4:=World.cell?_setCell_same v1 ⟨w.heap.size+1+1,0,none⟩ (.int .i64 60) c0;show ∃ v,(results _ _).run _ _ = .ok v _∧AnsA _ _ _ _ _ _;exact ⟨.tuple #[.agg #[J ⟨#[]⟩,J ⟨#[]⟩,J ⟨#[]⟩,J ⟨#[]⟩],.int .i64 60],by simp [results,Tryz.results69, go_sem,r0,r1,r2,r3,r4],u.setCell (show w.heap.size≤(⟨w.heap.size+1+1,0,none⟩:Addr).block from by simp only;omega) _,fun h=>absurd h hok,fun _=>rfl⟩
 | some rs =>
  obtain ⟨f,rfl,hf⟩:=h1.good rs rfl;have cC:=CC.o rs rfl v1 f u hf;clear h1 CF CC hf;have hen:=fun a w=>hk a w;go_wp2_with fail;refine cC.mono ?_;intro e v2 h2;replace u:=u.trans (h2.below.mono u.size);replace n_e:=En.Qac n_e h2.below;replace n_r:=En.Qac n_r h2.below;have c0:=En.Qaa n_e 0 (v:=.int .i64 0) rfl;have f0:=En.Qad n_e 0;by_cases hok:ok
  ·obtain ⟨v,rfl,a,b,c,d,rfl,hv⟩:=h2.good hok;clear h2 cC;have d0:=En.Qaa n_r 0 (v:=J ⟨#[]⟩) rfl;have d1:=En.Qaa n_r 1 (v:=J ⟨#[]⟩) rfl;have d2:=En.Qaa n_r 2 (v:=J ⟨#[]⟩) rfl;have d3:=En.Qaa n_r 3 (v:=J ⟨#[]⟩) rfl;have g0:=En.Qad n_r 0;have g1:=En.Qad n_r 1;have g2:=En.Qad n_r 2;have g3:=En.Qad n_r 3;dsimp only
   go_wp
   have s_r:((((v2.setCell ⟨w.heap.size+1,0,none⟩ (J a)).setCell ⟨w.heap.size+1,1,none⟩ (J b)).setCell ⟨w.heap.size+1,2,none⟩ (J c)).setCell ⟨w.heap.size+1,3,none⟩ (J d)).heap[w.heap.size+1]? = some (Jc #[J a,J b,J c,J d] 55 (0,0)):=by
    have:=Qbo (Qbo (Qbo (Qbo n_r 0 (J a)) 1 (J b)) 2 (J c)) 3 (J d);simpa using this
   have s_e:((((v2.setCell ⟨w.heap.size+1,0,none⟩ (J a)).setCell ⟨w.heap.size+1,1,none⟩ (J b)).setCell ⟨w.heap.size+1,2,none⟩ (J c)).setCell ⟨w.heap.size+1,3,none⟩ (J d)).heap[w.heap.size+1+1]? = some (Jc #[.int .i64 0] 32 (0,0)):=(Below.heap_setCell _ _ _ _ (by simp)).trans ((Below.heap_setCell _ _ _ _ (by simp)).trans ((Below.heap_setCell _ _ _ _ (by simp)).trans ((Below.heap_setCell _ _ _ _ (by simp)).trans n_e)));replace u:=(((u.setCell (show w.heap.size≤(⟨w.heap.size+1,0,none⟩:Addr).block from Nat.le_succ _) (J a)).setCell (show w.heap.size≤(⟨w.heap.size+1,1,none⟩:Addr).block from Nat.le_succ _) (J b)).setCell (show w.heap.size≤(⟨w.heap.size+1,2,none⟩:Addr).block from Nat.le_succ _) (J c)).setCell (show w.heap.size≤(⟨w.heap.size+1,3,none⟩:Addr).block from Nat.le_succ _) (J d);clear d0 d1 d2 d3 g0 g1 g2 g3 n_r n_e c0 f0;generalize ((((v2.setCell ⟨w.heap.size+1,0,none⟩ (J a)).setCell ⟨w.heap.size+1,1,none⟩ (J b)).setCell ⟨w.heap.size+1,2,none⟩ (J c)).setCell ⟨w.heap.size+1,3,none⟩ (J d))=W5 at *
   rw [set_same s_e];have c0:=En.Qaa s_e 0 (v:=.int .i64 0) rfl;have r0:=En.Qaa s_r 0 (v:=J a) rfl;have r1:=En.Qaa s_r 1 (v:=J b) rfl;have r2:=En.Qaa s_r 2 (v:=J c) rfl;have r3:=En.Qaa s_r 3 (v:=J d) rfl;refine leaves_cons (f := 119) (args:=#[.pointer (some ⟨w.heap.size+1+1,0,none⟩)]) (by simp) (by simp [go_sem]) ?_;refine (QqG ⟨w.heap.size+1+1,0,none⟩ _).mono ?_;rintro e u' w'' ⟨rfl,rfl,rfl⟩;show ∃ v,(results _ _).run _ _ = .ok v _∧AnsA _ _ _ _ _ _;exact ⟨.tuple #[.agg #[J a,J b,J c,J d],.int .i64 0],by simp [results,Tryz.results69, go_sem,r0,r1,r2,r3,c0],u,fun _=>⟨_,rfl,a,b,c,d,rfl,hv⟩,fun h=>absurd hok h⟩
  ·obtain rfl:=h2.bad hok;clear h2 cC;dsimp +zetaDelta only [Exit.then,Exit.inBlock];refine leaves_cons (f := 119) (args:=#[.pointer (some ⟨w.heap.size+1+1,0,none⟩)]) (by simp) (by simp [go_sem]) ?_;refine (QhD ⟨w.heap.size+1+1,0,none⟩ (.int .i64 0) [] _ c0 f0).mono ?_;rintro e u' w'' ⟨rfl,rfl,rfl⟩;have r0:(v2.setCell ⟨w.heap.size+1+1,0,none⟩ (.int .i64 60)).cell? ⟨w.heap.size+1,0,none⟩=some (J ⟨#[]⟩):=(World.cell?_setCell_other v2 ⟨w.heap.size+1+1,0,none⟩ ⟨w.heap.size+1,0,none⟩ _ (by simp)).trans (En.Qaa n_r 0 rfl);have r1:(v2.setCell ⟨w.heap.size+1+1,0,none⟩ (.int .i64 60)).cell? ⟨w.heap.size+1,1,none⟩=some (J ⟨#[]⟩):=(World.cell?_setCell_other v2 ⟨w.heap.size+1+1,0,none⟩ ⟨w.heap.size+1,1,none⟩ _ (by simp)).trans (En.Qaa n_r 1 rfl);have r2:(v2.setCell ⟨w.heap.size+1+1,0,none⟩ (.int .i64 60)).cell? ⟨w.heap.size+1,2,none⟩=some (J ⟨#[]⟩):=(World.cell?_setCell_other v2 ⟨w.heap.size+1+1,0,none⟩ ⟨w.heap.size+1,2,none⟩ _ (by simp)).trans (En.Qaa n_r 2 rfl);have r3:(v2.setCell ⟨w.heap.size+1+1,0,none⟩ (.int .i64 60)).cell? ⟨w.heap.size+1,3,none⟩=some (J ⟨#[]⟩):=(World.cell?_setCell_other v2 ⟨w.heap.size+1+1,0,none⟩ ⟨w.heap.size+1,3,none⟩ _ (by simp)).trans (En.Qaa n_r 3 rfl);have r4:=World.cell?_setCell_same v2 ⟨w.heap.size+1+1,0,none⟩ (.int .i64 60) c0;show ∃ v,(results _ _).run _ _ = .ok v _∧AnsA _ _ _ _ _ _;exact ⟨.tuple #[.agg #[J ⟨#[]⟩,J ⟨#[]⟩,J ⟨#[]⟩,J ⟨#[]⟩],.int .i64 60],by simp [results,Tryz.results69, go_sem,r0,r1,r2,r3,r4],u.setCell (show w.heap.size≤(⟨w.heap.size+1+1,0,none⟩:Addr).block from by simp only;omega) _,fun h=>absurd h hok,fun _=>rfl⟩
noncomputable def QdO (rs:List (List Rat)) (x:List Rat) (k:Int):Option (Rat×Rat):=if 0≤k∧k≤20 then chk rs x ((encO rs (k.toNat+10) x).bind (rdO k.toNat)) else none
abbrev IsV (O:Option (Rat×Rat)) (_:World) (v:Value):Prop:=∃ Q,O=some Q∧v=ivS Q
theorem QoQ {rs:List (List Rat)} {x:List Rat} {f:Value} (pp pa:Nat) (k:Int) (hk:k<0∨20<k) (w:World) (cp:w.cell? ⟨pp,0,none⟩=some (.int .i64 k)) :
  Calls Tryz.prog 70 #[f,.pointer (some ⟨pp,0,none⟩),.pointer (some ⟨pa,0,none⟩)] w (AnsC (QdO rs x k≠none) (IsV (QdO rs x k)) w):=by
 obtain ⟨O,hO⟩:∃ O,O=QdO rs x k:=⟨_,rfl⟩;rw [←hO];have HO:Sh (O=none):=⟨by rw [hO,QdO,if_neg (by omega)]⟩;have u:=(Below.refl w.heap.size w).alloc Lr (Jc #[J ⟨#[]⟩,J ⟨#[]⟩,J ⟨#[]⟩,J ⟨#[]⟩] 55);have cp':=Qae cp u;have hr:=QaV (w.alloc (Jc #[J ⟨#[]⟩,J ⟨#[]⟩,J ⟨#[]⟩,J ⟨#[]⟩] 55));clear hO cp;rcases hk with h | h
 ·have h1:decide (k<0)=true:=decide_eq_true h;go_enter Tryz.func70, Tryz.ntmps70;go_wp2_with fail;refine hr.mono ?_;rintro e w' ⟨rfl,hw⟩;rw [hw];exact ⟨rfl,u,fun h=>absurd HO.o h,fun _=>rfl⟩
 ·have h1:decide (k<0)=false:=decide_eq_false (by omega);have h2:decide (20<k)=true:=decide_eq_true h;go_enter Tryz.func70, Tryz.ntmps70;go_wp2_with fail;refine hr.mono ?_;rintro e w' ⟨rfl,hw⟩;rw [hw];exact ⟨rfl,u,fun h=>absurd HO.o h,fun _=>rfl⟩
theorem QmH (a:Addr) {rs:List (List Rat)} (hk:rs.length≤4) (hfit:∀ d∈rs,FitL d) {x:List Rat} (hn:x.length≤1000) (fx:FitL x) {f vx:Value} (pp pa:Nat) (c:Nat) (hc:c≤20) (w:World) (hv:Ref a w) (hf:Fd w f rs) (cp:w.cell? ⟨pp,0,none⟩=some (.int .i64 (c:Int))) (ca:w.cell? ⟨pa,0,none⟩=some vx) (ex:El w vx x) :
  Calls Tryz.prog 70 #[f,.pointer (some ⟨pp,0,none⟩),.pointer (some ⟨pa,0,none⟩)] w (AnsC (QdO rs x (c:Int)≠none) (IsV (QdO rs x (c:Int))) w):=by
 have u:=(Below.refl w.heap.size w).alloc Lr (Jc #[J ⟨#[]⟩,J ⟨#[]⟩,J ⟨#[]⟩,J ⟨#[]⟩] 55);have n_r:=World.alloc_heap_new w (Jc #[J ⟨#[]⟩,J ⟨#[]⟩,J ⟨#[]⟩,J ⟨#[]⟩] 55);have cE:=Qfv a (c+10) (by omega) hk hfit (w.alloc (Jc #[J ⟨#[]⟩,J ⟨#[]⟩,J ⟨#[]⟩,J ⟨#[]⟩] 55)) (hv.keep u) (Fd.keep u hf);have hr:=Qbb (w.alloc (Jc #[J ⟨#[]⟩,J ⟨#[]⟩,J ⟨#[]⟩,J ⟨#[]⟩] 55));have cC:=fun (V:World) (hV:Below w.heap.size w V)=>Qbw hk hn fx V (Fd.keep hV hf) (ex.keep hV);have cp':=Qae cp u;have ca':=Qae ca u;have hO:QdO rs x (c:Int)=chk rs x ((encO rs (c+10) x).bind (rdO c)):=by rw [QdO,if_pos (by omega),Int.toNat_natCast]
 obtain ⟨O,hO2⟩:∃ O,O=QdO rs x (c:Int):=⟨_,rfl⟩;rw [←hO2];have HO:Sh (O=chk rs x ((encO rs (c+10) x).bind (rdO c))):=⟨hO2.trans hO⟩;have HX:Sh _:=⟨ex⟩;have HV:Sh _:=⟨hv⟩;have HC:Sh (c≤20∧FitL x):=⟨⟨hc,fx⟩⟩;have HF:Sh _:=⟨hfit⟩;have CC:Sh _:=⟨cC⟩;have ne1:w.heap.size≠pp:=World.new_ne w ⟨pp,0,none⟩ cp;have ne2:w.heap.size≠pa:=World.new_ne w ⟨pa,0,none⟩ ca;have h1:decide ((c:Int)<0)=false:=decide_eq_false (by omega);have h2:decide (20<(c:Int))=false:=decide_eq_false (by omega);have h3:IntKind.i64.wrap ((c:Int)+10)=((c+10:Nat):Int):=by simp [IntKind.wrap,IntKind.signed,IntKind.bits];omega
 obtain ⟨pf,rfl⟩:=hf.ptr;obtain ⟨bx,ox,cx,rfl,_,_⟩:=ex.ex;clear hO hO2 ex hv hc fx hfit cC hf hk hn cp ca;go_enter Tryz.func70, Tryz.ntmps70;go_wp2_with fail;refine hr.mono ?_;rintro e w' ⟨rfl,hw⟩;rw [hw];clear hw hr;go_wp2_with fail;refine cE.mono ?_;intro e v1 g1;replace u:=u.trans (g1.below.mono u.size);replace n_r:=En.Qac n_r g1.below;replace cp':=Qae cp' g1.below;replace ca':=Qae ca' g1.below;by_cases hR:RtOk (c+10) rs
 ·obtain ⟨fv,rfl,k,caps,rfl,hen,hQ⟩:=g1.good hR;have CQ:Sh (∀ V,Below v1.heap.size v1 V→x.length=2^rs.length→Calls Tryz.prog k (#[.slice (some ⟨bx,ox,none⟩) x.length cx]++caps) V (AnsI (encO rs (c+10) x) V)):=⟨fun V hV hl=>hQ V x _ (Fr.of_below hV) (HV.o.keep (u.trans (hV.mono u.size))) hl HC.o.2 (HX.o.keep (u.trans (hV.mono u.size)))⟩;have hen':=fun a w=>hen a w;clear hQ g1 cE
  have CR:Sh (∀ P,encO rs (c+10) x=some P→∀ V,Below w.heap.size w V→ICt 73 #[.agg #[J (txt P.1.num),J (txt (P.1.den:Int)),J (txt P.2.num),J (txt (P.2.den:Int))],.int .i64 (c:Int)] (rdO c P) V):=⟨fun P h V hV=>by
   have o:=Qeu (by have:=HC.o.1;omega) HF.o HC.o.2 h;exact IC.t (QoB a o.1 o.2.1 o.2.2 (by have:=HC.o.1;omega)) (HV.o.keep hV)⟩
  obtain ⟨E,hE⟩:∃ E,E=encO rs (c+10) x:=⟨_,rfl⟩;rw [←hE] at CQ CR HO;have CC2:Sh _:=⟨fun (V:World) (hV:Below w.heap.size w V)=>CC.o V hV⟩;have NR:Sh _:=⟨n_r⟩;have NP:Sh _:=⟨(⟨cp',ca'⟩:_∧_)⟩;clear CC hE hR h1 h2 h3 n_r;go_wp2_with fail
  go_region_held (fun X=>X.cell? ⟨pp,0,none⟩=some (.int .i64 (c:Int))∧X.cell? ⟨pa,0,none⟩=some (.slice (some ⟨bx,ox,none⟩) x.length cx)) (go_keep) (first | (go_at_call 39; have hq:=CC2.o v1.drew (QaS u);(with_reducible refine hq.mono ?_);intro e x1 g1;have k1:Below v1.heap.size v1 x1:=Qah g1.below;by_cases hl:x.length=2^rs.length;rotate_left;(obtain rfl:=g1.bad hl;dsimp +zetaDelta only [Exit.then,Exit.inBlock];exact ⟨rfl,u.trans (k1.mono u.size),fun h=>absurd (by rw [HO.o,chk,if_neg hl]) h,fun _=>rfl⟩);obtain rfl:=g1.good hl;have HO2:Sh (O=E.bind (rdO c)):=⟨by rw [HO.o,chk,if_pos hl]⟩;have CQ2:Sh _:=⟨fun (V:World) (hV:Below v1.heap.size v1 V)=>CQ.o V hV hl⟩;clear hl;have cp':=Qae NP.o.1 k1;have ca':=Qae NP.o.2 k1;clear g1 hq) | (have hq:=CQ2.o x1 k1;(with_reducible refine hq.mono ?_);intro e x2 g2;have k2:=k1.trans (g2.below.mono k1.size);rcases E with _ | P;(obtain rfl:=g2.bad rfl;dsimp +zetaDelta only [Exit.then,Exit.inBlock];exact ⟨rfl,u.trans (k2.mono u.size),fun h=>absurd HO2.o h,fun _=>rfl⟩);obtain rfl:=g2.good P rfl;have cp':=Qae NP.o.1 k2;have ca':=Qae NP.o.2 k2;clear g2 hq) | (go_at_call 73; have hq:=CR.o P rfl x2 (u.trans (k2.mono u.size));(with_reducible refine hq.mono ?_);rintro e x3 ⟨rfl,g3⟩;have k3:=k2.trans (g3.mono k2.size);have cp':=Qae NP.o.1 k3;have ca':=Qae NP.o.2 k3;clear hq) | (go_at_call 72; have hq:=Qet (rdO c P) x3;(with_reducible refine hq.mono ?_);intro e x4 g4;have k4:=k3.trans (g4.below.mono k3.size);rcases hM:rdO c P with _ | s;(obtain rfl:=g4.bad hM;dsimp +zetaDelta only [Exit.then,Exit.inBlock];exact ⟨rfl,u.trans (k4.mono u.size),fun h=>absurd (HO2.o.trans hM) h,fun _=>rfl⟩);obtain rfl:=g4.good s hM;have HZ:Sh (O=some s):=⟨HO2.o.trans hM⟩;have nr:=En.Qac NR.o k4;have r0:=En.Qaa nr 0 (v:=J ⟨#[]⟩) rfl;have r1:=En.Qaa nr 1 (v:=J ⟨#[]⟩) rfl;have r2:=En.Qaa nr 2 (v:=J ⟨#[]⟩) rfl;have r3:=En.Qaa nr 3 (v:=J ⟨#[]⟩) rfl;have f0:=En.Qad nr 0;have f1:=En.Qad nr 1;have f2:=En.Qad nr 2;have f3:=En.Qad nr 3;have cp':=Qae NP.o.1 k4;have ca':=Qae NP.o.2 k4;clear g4 hq) | fail)
  all_goals
   go_wp2_with fail;have s_r:=QaL (x:=J (txt s.1.num)) (y:=J (txt (s.1.den:Int))) (z:=J (txt s.2.num)) (t:=J (txt (s.2.den:Int))) nr;have y0:=En.Qaa s_r 0 (v:=J (txt s.1.num)) rfl;have y1:=En.Qaa s_r 1 (v:=J (txt (s.1.den:Int))) rfl;have y2:=En.Qaa s_r 2 (v:=J (txt s.2.num)) rfl;have y3:=En.Qaa s_r 3 (v:=J (txt (s.2.den:Int))) rfl;exact bodyPost_ret (v:=.agg #[J (txt s.1.num),J (txt (s.1.den:Int)),J (txt s.2.num),J (txt (s.2.den:Int))]) (by simp [results,Tryz.results70, go_sem,y0,y1,y2,y3]) rfl ⟨(((((u.trans (k4.mono u.size)).setCell Lr _).setCell Lr _).setCell Lr _).setCell Lr _),fun _=>⟨_,rfl,s,HZ.o,rfl⟩,fun h=>absurd (fun k=>by rw [HZ.o] at k;cases k) h⟩
 ·obtain rfl:=g1.bad hR;exact ⟨rfl,u,fun h=>absurd (by rw [HO.o,chk,Qll hR];split <;> rfl) h,fun _=>rfl⟩
def chk2 {T:Type} (rs:List (List Rat)) (x y:List Rat) (o:Option T):Option T:=if x.length=2^rs.length∧y.length=2^rs.length then o else none
theorem QuS {rs:List (List Rat)} (hk:rs.length≤4) {x y:List Rat} (hn:x.length≤1000) (hm:y.length≤1000) (fx:FitL x) (fy:FitL y) {f vx vy:Value} (pa pb:Addr) (w:World) (_:Gl w) (hf:Fd w f rs) (fa:w.cell? pa=some vx) (fb:w.cell? pb=some vy) (ex:El w vx x) (ey:El w vy y) :
  Calls Tryz.prog 40 #[f,.pointer (some pa),.pointer (some pb)] w (AnsC (chk2 rs x y (Qaj addQ x y)≠none) (IsE (chk2 rs x y (Qaj addQ x y))) w):=by
 obtain ⟨Q,hQ⟩:∃ Q,Q=chk2 rs x y (Qaj addQ x y):=⟨_,rfl⟩;rw [←hQ];have CX:Sh (∀ W,Below w.heap.size w W→Calls Tryz.prog 39 #[f,vx] W (AnsV (decide (x.length=2^rs.length)=true) vx W)):=⟨fun W u=>(Qbw hk hn fx W (Fd.keep u hf) (ex.keep u)).mono fun _ _ h=>⟨h.below,fun q=>h.good (of_decide_eq_true q),fun q=>h.bad (fun q'=>q (decide_eq_true q'))⟩⟩;have CY:Sh (∀ W,Below w.heap.size w W→Calls Tryz.prog 39 #[f,vy] W (AnsV (decide (y.length=2^rs.length)=true) vy W)):=⟨fun W u=>(Qbw hk hm fy W (Fd.keep u hf) (ey.keep u)).mono fun _ _ h=>⟨h.below,fun q=>h.good (of_decide_eq_true q),fun q=>h.bad (fun q'=>q (decide_eq_true q'))⟩⟩;have QX:Sh (decide (x.length=2^rs.length)=false→Q=none):=⟨fun q=>by rw [hQ,chk2,if_neg (fun h=>of_decide_eq_false q h.1)]⟩;have QY:Sh (decide (y.length=2^rs.length)=false→Q=none):=⟨fun q=>by rw [hQ,chk2,if_neg (fun h=>of_decide_eq_false q h.2)]⟩
 have CP:Sh (decide (x.length=2^rs.length)=true→decide (y.length=2^rs.length)=true→∀ W,Below w.heap.size w W→Calls Tryz.prog 41 #[vx,vy] W (AnsO Q W)):=⟨fun qx qy W u=>by
  have hx:=of_decide_eq_true qx;have hy:=of_decide_eq_true qy;rw [hQ,chk2,if_pos ⟨hx,hy⟩];exact Qjj (hx.trans hy.symm) hn fx fy W (ex.keep u) (ey.keep u)⟩
 clear hf ex ey fx fy hn hm hk hQ;generalize decide (x.length=2^rs.length)=bx at *
 generalize decide (y.length=2^rs.length)=by_ at *
 go_enter Tryz.func40, Tryz.ntmps40;go_wp2_with fail
 go_region_held (fun X=>X.cell? pa=some vx∧X.cell? pb=some vy) (go_keep) (first | (go_at_call 39; (with_reducible refine (CX.o _ (QaS (Below.refl _ _))).mono ?_);intro e v1 h1;have k1:Below w.heap.size w v1:=Qah h1.below;rcases bx with _ | _;(obtain rfl:=h1.bad (fun q=>by cases q);dsimp +zetaDelta only [Exit.then,Exit.inBlock];exact ⟨rfl,k1,fun h=>absurd (QX.o rfl) h,fun _=>rfl⟩);obtain rfl:=h1.good rfl;clear h1;have fa:=Qae fa k1;have fb:=Qae fb k1) | (go_at_call 39; (with_reducible refine (CY.o _ k1).mono ?_);intro e v2 h2;have k2:Below w.heap.size w v2:=k1.trans (h2.below.mono k1.size);rcases by_ with _ | _;(obtain rfl:=h2.bad (fun q=>by cases q);dsimp +zetaDelta only [Exit.then,Exit.inBlock];exact ⟨rfl,k2,fun h=>absurd (QY.o rfl) h,fun _=>rfl⟩);obtain rfl:=h2.good rfl;have fa:=Qae fa h2.below;have fb:=Qae fb h2.below;clear h2 k1) | (go_at_call 41; have cp:=CP.o (by trivial) (by trivial) _ k2;(with_reducible refine cp.mono ?_);clear cp;intro e v3 h3;have k3:Below w.heap.size w v3:=k2.trans (h3.below.mono k2.size);rcases Q with _ | z;(obtain rfl:=h3.bad rfl;dsimp +zetaDelta only [Exit.then,Exit.inBlock];exact ⟨rfl,k3,fun h=>(by simp at h),fun _=>rfl⟩);obtain ⟨v,rfl,ev⟩:=h3.good z rfl;have fa:=Qae fa h3.below;have fb:=Qae fb h3.below;clear h3))
 all_goals (go_wp2_with fail;go_ret;exact ⟨k3,fun _=>⟨_,rfl,z,rfl,ev⟩,fun h=>absurd (fun q=>by cases q) h⟩)
theorem QuU {rs:List (List Rat)} (hk:rs.length≤4) {x y:List Rat} (hn:x.length≤1000) (hm:y.length≤1000) (fx:FitL x) (fy:FitL y) {f vx vy:Value} (pa pb:Addr) (w:World) (hg:Gl w) (hf:Fd w f rs) (fa:w.cell? pa=some vx) (fb:w.cell? pb=some vy) (ex:El w vx x) (ey:El w vy y) :
  Calls Tryz.prog 37 #[f,.pointer (some pa),.pointer (some pb)] w (AnsC (chk2 rs x y (mulO rs x y)≠none) (IsE (chk2 rs x y (mulO rs x y))) w):=by
 obtain ⟨Q,hQ⟩:∃ Q,Q=chk2 rs x y (mulO rs x y):=⟨_,rfl⟩;rw [←hQ];have CX:Sh (∀ W,Below w.heap.size w W→Calls Tryz.prog 39 #[f,vx] W (AnsV (decide (x.length=2^rs.length)=true) vx W)):=⟨fun W u=>(Qbw hk hn fx W (Fd.keep u hf) (ex.keep u)).mono fun _ _ h=>⟨h.below,fun q=>h.good (of_decide_eq_true q),fun q=>h.bad (fun q'=>q (decide_eq_true q'))⟩⟩;have CY:Sh (∀ W,Below w.heap.size w W→Calls Tryz.prog 39 #[f,vy] W (AnsV (decide (y.length=2^rs.length)=true) vy W)):=⟨fun W u=>(Qbw hk hm fy W (Fd.keep u hf) (ey.keep u)).mono fun _ _ h=>⟨h.below,fun q=>h.good (of_decide_eq_true q),fun q=>h.bad (fun q'=>q (decide_eq_true q'))⟩⟩;have QX:Sh (decide (x.length=2^rs.length)=false→Q=none):=⟨fun q=>by rw [hQ,chk2,if_neg (fun h=>of_decide_eq_false q h.1)]⟩;have QY:Sh (decide (y.length=2^rs.length)=false→Q=none):=⟨fun q=>by rw [hQ,chk2,if_neg (fun h=>of_decide_eq_false q h.2)]⟩
 have CP:Sh (decide (x.length=2^rs.length)=true→decide (y.length=2^rs.length)=true→∀ W,Below w.heap.size w W→Calls Tryz.prog 38 #[f,vx,vy] W (AnsO Q W)):=⟨fun qx qy W u=>by
  have hx:=of_decide_eq_true qx;have hy:=of_decide_eq_true qy;rw [hQ,chk2,if_pos ⟨hx,hy⟩];exact Qdd hk hx hy fx fy W (hg.keep u) (Fd.keep u hf) (ex.keep u) (ey.keep u)⟩
 clear hg hf ex ey fx fy hn hm hk hQ;generalize decide (x.length=2^rs.length)=bx at *
 generalize decide (y.length=2^rs.length)=by_ at *
 go_enter Tryz.func37, Tryz.ntmps37;go_wp2_with fail
 go_region_held (fun X=>X.cell? pa=some vx∧X.cell? pb=some vy) (go_keep) (first | (go_at_call 39; (with_reducible refine (CX.o _ (QaS (Below.refl _ _))).mono ?_);intro e v1 h1;have k1:Below w.heap.size w v1:=Qah h1.below;rcases bx with _ | _;(obtain rfl:=h1.bad (fun q=>by cases q);dsimp +zetaDelta only [Exit.then,Exit.inBlock];exact ⟨rfl,k1,fun h=>absurd (QX.o rfl) h,fun _=>rfl⟩);obtain rfl:=h1.good rfl;clear h1;have fa:=Qae fa k1;have fb:=Qae fb k1) | (go_at_call 39; (with_reducible refine (CY.o _ k1).mono ?_);intro e v2 h2;have k2:Below w.heap.size w v2:=k1.trans (h2.below.mono k1.size);rcases by_ with _ | _;(obtain rfl:=h2.bad (fun q=>by cases q);dsimp +zetaDelta only [Exit.then,Exit.inBlock];exact ⟨rfl,k2,fun h=>absurd (QY.o rfl) h,fun _=>rfl⟩);obtain rfl:=h2.good rfl;have fa:=Qae fa h2.below;have fb:=Qae fb h2.below;clear h2 k1) | (go_at_call 38; have cp:=CP.o (by trivial) (by trivial) _ k2;(with_reducible refine cp.mono ?_);clear cp;intro e v3 h3;have k3:Below w.heap.size w v3:=k2.trans (h3.below.mono k2.size);rcases Q with _ | z;(obtain rfl:=h3.bad rfl;dsimp +zetaDelta only [Exit.then,Exit.inBlock];exact ⟨rfl,k3,fun h=>(by simp at h),fun _=>rfl⟩);obtain ⟨v,rfl,ev⟩:=h3.good z rfl;have fa:=Qae fa h3.below;have fb:=Qae fb h3.below;clear h3))
 all_goals (go_wp2_with fail;go_ret;exact ⟨k3,fun _=>⟨_,rfl,z,rfl,ev⟩,fun h=>absurd (fun q=>by cases q) h⟩)
theorem QuV {rs:List (List Rat)} (hk:rs.length≤4) {x:List Rat} (hn:x.length≤1000) (fx:FitL x) {f vx:Value} (pa:Addr) (w:World) (hg:Gl w) (hf:Fd w f rs) (ha:w.cell? pa=some vx) (ex:El w vx x) :
  Calls Tryz.prog 61 #[f,.pointer (some pa)] w (AnsC (embO rs x≠none) (IsE (embO rs x)) w):=by
 have cC:=Qij hk hn fx w hg hf ex;clear hg hf ex;obtain ⟨O,hO⟩:∃ O,O=embO rs x:=⟨_,rfl⟩;rw [←hO] at cC ⊢;clear hO;go_enter Tryz.func61, Tryz.ntmps61;go_wp2_with fail;refine cC.mono ?_;intro e v1 h1;have u:=h1.below;cases O with
 | none =>
  obtain rfl:=h1.bad rfl;exact ⟨rfl,u,fun h=>absurd rfl h,fun _=>rfl⟩
 | some s =>
  obtain ⟨v,rfl,ev⟩:=h1.good s rfl;clear h1 cC;go_wp2_with fail;go_ret;exact ⟨u,fun _=>⟨_,rfl,s,rfl,ev⟩,fun h=>absurd (fun q=>by cases q) h⟩
noncomputable def invS (rs:List (List Rat)) (x:List Rat):Option (List Rat):=(Qaw rs x).bind fun s=>if s=0 then none else invO rs x
theorem QuW {rs:List (List Rat)} (hk:rs.length≤4) {x:List Rat} (hn:x.length≤1000) (fx:FitL x) {f vx:Value} (pa:Addr) (w:World) (hg:Gl w) (hf:Fd w f rs) (ha:w.cell? pa=some vx) (ex:El w vx x) :
  Calls Tryz.prog 48 #[f,.pointer (some pa)] w (AnsC (chk rs x (invS rs x)≠none) (IsE (chk rs x (invS rs x))) w):=by
 have cC:=Qbw hk hn fx w hf ex;have CS:Sh (∀ (W:World),Below w.heap.size w W→x.length=2^rs.length→_):=⟨fun (W:World) (u:Below w.heap.size w W) (h:x.length=2^rs.length)=>QeU hk h fx W (hg.keep u) (Fd.keep u hf) (ex.keep u)⟩;have CI:Sh (∀ (W:World),Below w.heap.size w W→x.length=2^rs.length→_):=⟨fun (W:World) (u:Below w.heap.size w W) (h:x.length=2^rs.length)=>QoM hk h fx W (hg.keep u) (Fd.keep u hf) (ex.keep u)⟩;clear hg hf ex;obtain ⟨O,hO⟩:∃ O,O=chk rs x (invS rs x):=⟨_,rfl⟩;rw [←hO];have HO:Sh _:=⟨hO⟩;clear hO;go_enter Tryz.func48, Tryz.ntmps48;go_wp2_with fail;refine cC.mono ?_;intro e v1 h1;have u:=h1.below;by_cases hl:x.length=2^rs.length
 ·obtain rfl:=h1.good hl;have cG:=CS.o v1 u hl;have HI:Sh (∀ (W:World),Below w.heap.size w W→_):=⟨fun W u=>CI.o W u hl⟩;have ho:O=invS rs x:=by rw [HO.o,chk,if_pos hl]
  unfold invS at ho;have HQ:Sh _:=⟨ho⟩;clear h1 cC CS ho HO hl CI;generalize Qaw rs x=S at *
  generalize invO rs x=I at *
  go_wp2_with fail;refine cG.mono ?_;intro e v2 h2;replace u:=u.trans (h2.below.mono u.size);cases S with
  | none =>
   obtain rfl:=h2.bad rfl;exact ⟨rfl,u,fun h=>absurd HQ.o h,fun _=>rfl⟩
  | some s =>
   obtain rfl:=h2.good s rfl;clear h2 cG;by_cases hs:s=0
   ·have hb:(s == 0)=true:=by simp [hs]
    have hr:=QaV v2;have ho:Sh (O=none):=⟨by rw [HQ.o,Option.bind_some,if_pos hs]⟩;clear HQ HI;go_wp2_with fail;refine hr.mono ?_;rintro e w' ⟨rfl,rfl⟩;exact ⟨rfl,u,fun h=>absurd ho.o h,fun _=>rfl⟩
   ·have hb:(s == 0)=false:=by simp [hs]
    have hr:=Qbb v2;have ho:O=I:=by rw [HQ.o,Option.bind_some,if_neg hs]
    clear HQ;subst ho;go_wp2_with fail;refine hr.mono ?_;rintro e w' ⟨rfl,rfl⟩;have ha:=Qae ha u;have cI:=HI.o w' u;clear HI hr;go_wp2_with fail;refine cI.mono ?_;intro e v3 h3;replace u:=u.trans (h3.below.mono u.size);cases O with
    | none =>
     obtain rfl:=h3.bad rfl;exact ⟨rfl,u,fun h=>absurd rfl h,fun _=>rfl⟩
    | some z =>
     obtain ⟨v,rfl,ev⟩:=h3.good z rfl;clear h3 cI;go_wp2_with fail;go_ret;exact ⟨u,fun _=>⟨_,rfl,z,rfl,ev⟩,fun h=>absurd (fun q=>by cases q) h⟩
 ·obtain rfl:=h1.bad hl;have ho:O=none:=by rw [HO.o,chk,if_neg hl]
  exact ⟨rfl,u,fun h=>absurd ho h,fun _=>rfl⟩
theorem QoR {L:List (List Rat)} (hL:FitT L) (hn:L.length≤1000) {x:List Rat} (hx:x.length≤1000) (fx:FitL x) {t vx:Value} (w:World) (hg:Gl w) (ht:TwAt w t L) (ex:El w vx x) :
  Calls Tryz.prog 25 #[t,vx] w (AnsA (ovr L (fun rs=>embO rs x)≠none) (IsE (ovr L fun rs=>embO rs x)) (.slice none 0 0) w):=by
 have hmf:=mkf;have HT:Sh _:=⟨ht⟩;obtain ⟨p,cap,rfl,h⟩:=ht.ex;clear h ht;have HX:Sh _:=⟨ex⟩;obtain ⟨b,o,c,rfl,h1,h2⟩:=ex.ex;clear h1 h2 ex;have u:=((Below.refl w.heap.size w).alloc Lr (Jc #[.slice p L.length cap] 28)).alloc (by simp) (Jc #[.slice (some ⟨b,o,none⟩) x.length c] 29);have n_t:((w.alloc (Jc #[.slice p L.length cap] 28)).alloc (Jc #[.slice (some ⟨b,o,none⟩) x.length c] 29)).heap[w.heap.size]? = _:=(Below.heap_alloc (w.alloc (Jc #[.slice p L.length cap] 28)) _ w.heap.size (by simp)).trans (World.alloc_heap_new w _);have n_x:=En.QaP w (Jc #[.slice p L.length cap] 28) (Jc #[.slice (some ⟨b,o,none⟩) x.length c] 29);have t0:=En.Qaa n_t 0 (v:=.slice p L.length cap) rfl;obtain ⟨O,hO⟩:∃ O,O=ovr L (fun rs=>embO rs x):=⟨_,rfl⟩;rw [←hO];have HO:Sh _:=⟨hO⟩;clear hO;go_enter Tryz.func25, Tryz.ntmps25;go_wp2_with fail;generalize ((w.alloc (Jc #[.slice p L.length cap] 28)).alloc (Jc #[.slice (some ⟨b,o,none⟩) x.length c] 29))=W0 at *
 have cA:=Qcj 61 #[.pointer (some ⟨w.heap.size+1,0,none⟩)] (enters_of Tryz.func61 (by kernel_rfl) rfl) hL hn (O≠none) (IsE O) W0 (hg.keep u) (HT.o.keep u) (by rw [HO.o];exact Qco)
  (fun rs hrs W f hB hf=>by
   rw [HO.o,QaA hrs];exact QuV (QbB hrs) hx fx ⟨w.heap.size+1,0,none⟩ W ((hg.keep u).keep hB) hf (En.Qaa (En.Qac n_x hB) 0 rfl) ((HX.o.keep u).keep hB))
 refine cA.mono ?_;intro e v1 h1;replace u:=u.trans (h1.below.mono u.size);clear HX HT HO n_t n_x t0 cA;cases O with
 | none =>
  obtain rfl:=h1.bad (fun h=>h rfl);clear h1;go_wp2_with fail;exact bodyPost_ret (v:=.tuple #[.slice none 0 0,.int .i64 60]) (by simp [results,Tryz.results25, go_sem]) rfl ⟨u,fun h=>absurd rfl h,fun _=>rfl⟩
 | some s =>
  obtain ⟨v,rfl,hv⟩:=h1.good (fun q=>by cases q);clear h1;go_wp2_with fail;exact bodyPost_ret (v:=.tuple #[v,.int .i64 0]) (by simp [results,Tryz.results25, go_sem]) rfl ⟨u,fun _=>⟨v,rfl,hv⟩,fun h=>absurd (fun q=>by cases q) h⟩
theorem Qjn {L:List (List Rat)} (hL:FitT L) (hn:L.length≤1000) {x:List Rat} (hx:x.length≤1000) (fx:FitL x) {t vx:Value} (w:World) (hg:Gl w) (ht:TwAt w t L) (ex:El w vx x) :
  Calls Tryz.prog 17 #[t,vx] w (AnsA (ovr L (fun rs=>chk rs x (invS rs x))≠none) (IsE (ovr L fun rs=>chk rs x (invS rs x))) (.slice none 0 0) w):=by
 have hmf:=mkf;have HT:Sh _:=⟨ht⟩;obtain ⟨p,cap,rfl,h⟩:=ht.ex;clear h ht;have HX:Sh _:=⟨ex⟩;obtain ⟨b,o,c,rfl,h1,h2⟩:=ex.ex;clear h1 h2 ex;have u:=((Below.refl w.heap.size w).alloc Lr (Jc #[.slice p L.length cap] 28)).alloc (by simp) (Jc #[.slice (some ⟨b,o,none⟩) x.length c] 29);have n_t:((w.alloc (Jc #[.slice p L.length cap] 28)).alloc (Jc #[.slice (some ⟨b,o,none⟩) x.length c] 29)).heap[w.heap.size]? = _:=(Below.heap_alloc (w.alloc (Jc #[.slice p L.length cap] 28)) _ w.heap.size (by simp)).trans (World.alloc_heap_new w _);have n_x:=En.QaP w (Jc #[.slice p L.length cap] 28) (Jc #[.slice (some ⟨b,o,none⟩) x.length c] 29);have t0:=En.Qaa n_t 0 (v:=.slice p L.length cap) rfl;obtain ⟨O,hO⟩:∃ O,O=ovr L (fun rs=>chk rs x (invS rs x)):=⟨_,rfl⟩;rw [←hO];have HO:Sh _:=⟨hO⟩;clear hO;go_enter Tryz.func17, Tryz.ntmps17;go_wp2_with fail;generalize ((w.alloc (Jc #[.slice p L.length cap] 28)).alloc (Jc #[.slice (some ⟨b,o,none⟩) x.length c] 29))=W0 at *
 have cA:=Qcj 48 #[.pointer (some ⟨w.heap.size+1,0,none⟩)] (enters_of Tryz.func48 (by kernel_rfl) rfl) hL hn (O≠none) (IsE O) W0 (hg.keep u) (HT.o.keep u) (by rw [HO.o];exact Qco)
  (fun rs hrs W f hB hf=>by
   rw [HO.o,QaA hrs];exact QuW (QbB hrs) hx fx ⟨w.heap.size+1,0,none⟩ W ((hg.keep u).keep hB) hf (En.Qaa (En.Qac n_x hB) 0 rfl) ((HX.o.keep u).keep hB))
 refine cA.mono ?_;intro e v1 h1;replace u:=u.trans (h1.below.mono u.size);clear HX HT HO n_t n_x t0 cA;cases O with
 | none =>
  obtain rfl:=h1.bad (fun h=>h rfl);clear h1;go_wp2_with fail;exact bodyPost_ret (v:=.tuple #[.slice none 0 0,.int .i64 60]) (by simp [results,Tryz.results17, go_sem]) rfl ⟨u,fun h=>absurd rfl h,fun _=>rfl⟩
 | some s =>
  obtain ⟨v,rfl,hv⟩:=h1.good (fun q=>by cases q);clear h1;go_wp2_with fail;exact bodyPost_ret (v:=.tuple #[v,.int .i64 0]) (by simp [results,Tryz.results17, go_sem]) rfl ⟨u,fun _=>⟨v,rfl,hv⟩,fun h=>absurd (fun q=>by cases q) h⟩
end Tw
end
section
namespace Tw
open SR Go.Proofs.YtadcmepaniiciaaGreatDoor.Rt
theorem Qcc:∀ {xs acc rs:List (List Rat)},Qam acc xs=some rs→rs=xs.reverse++acc
 | [],acc,rs,h=>by cases h;rfl
 | x :: xs,acc,rs,h=>by
  rw [Qam] at h;split at h
  ·rw [Qcc h,List.reverse_cons,List.append_assoc];rfl
  ·cases h
theorem Qjo:∀ {xs acc rs:List (List Rat)},(∃ S R,IsT acc S R)→Qam acc xs=some rs→∃ S R,IsT rs S R
 | [],acc,rs,hS,h=>by cases h;exact hS
 | x :: xs,acc,rs,⟨S,R,hS⟩,h=>by
  rw [Qam] at h;split at h
  ·rename_i ha;obtain ⟨δ,hδ⟩:=hS.ex ha.2.1;exact Qjo ⟨_,_,.cons hS δ hδ (hS.sign hδ ha.2.2)⟩ h
  ·cases h
theorem QuX {L rs:List (List Rat)} (h:Qam [] L=some rs):∃ S R,IsT rs S R:=Qjo ⟨_,_,.nil⟩ h
theorem Qjp {K D:Nat}:∀ {xs acc rs:List (List Rat)},RadT K D acc→(∀ x∈xs,AllL K D x)→Qam acc xs=some rs→RadT K D rs
 | [],acc,rs,hS,_,h=>by cases h;exact hS
 | x :: xs,acc,rs,hS,hx,h=>by
  rw [Qam] at h;split at h
  ·rename_i ha;have hr:RadT K D (x :: acc):=⟨ha.2.1,hx x List.mem_cons_self,hS⟩;exact Qjp hr (fun y hy=>hx y (List.mem_cons_of_mem _ hy)) h
  ·cases h
theorem Qei:∀ {xs acc rs:List (List Rat)},Qdz acc→Qam acc xs=some rs→Qdz rs
 | [],acc,rs,hS,h=>by cases h;exact hS
 | x :: xs,acc,rs,hS,h=>by
  rw [Qam] at h;split at h
  ·rename_i ha;have hr:Qdz (x :: acc):=⟨ha.2.1,hS⟩;exact Qei hr h
  ·cases h
def mfit (K D k L M B C:Nat):Bool:=decide (2*(gr K D k*(B*C))*(L*M*K^ee k)<10^200) && decide ((L*M*K^ee k)*(L*M*K^ee k)<10^200)
theorem Qim {L B C n:Nat} {x y:List Rat} (hx:x.length=n) (hy:y.length=n) (ax:AllL L B x) (ay:AllL L C y) (hf:(decide ((B+C)*L<10^200) && decide (L*L<10^200))=true):∃ z,Qaj addQ x y=some z∧z.length=n∧AllL L (B+C) z:=by
 rw [Bool.and_eq_true] at hf;obtain ⟨z,e,hz,az⟩:=QfN (by rw [hx,hy]) ax ay (of_decide_eq_true hf.1) (of_decide_eq_true hf.2);exact ⟨z,e,hz.trans hx,az⟩
theorem QoT:∀ k,k<4→(mfit 1 7 k 6 6 30 30 && (mfit 1 7 k 36 6 (gr 1 7 k*900) 30 && (mfit 1 7 k 6 36 30 (gr 1 7 k*900) && (mfit 1 7 k 6 6 30 60 && (mfit 1 7 k 6 6 60 30 && (decide ((gr 1 7 k*900+gr 1 7 k*900)*36<10^200) && (sfit 1 7 k 6 30 && (sfit 1 7 k 36 (gr 1 7 k*900) && (sfit 1 7 k 6 60 && (sfit 1 7 k 6 120 && sfit 1 7 k 36 (gr 1 7 k*900+gr 1 7 k*900)))))))))))=true:=by decide +kernel
end Tw
end
section
namespace Tw
open Go.RowKit Go.Extern.Stop Go.Stop Go.Extern
open En Go.Proofs.YtadcmepaniiciaaGreatDoor.Nm Go.Proofs.YtadcmepaniiciaaGreatDoor.Rt
theorem new4 (w:World) (a b c d:Obj):((((w.alloc a).alloc b).alloc c).alloc d).heap[w.heap.size]? = some a∧((((w.alloc a).alloc b).alloc c).alloc d).heap[w.heap.size+1]? = some b∧((((w.alloc a).alloc b).alloc c).alloc d).heap[w.heap.size+1+1]? = some c∧((((w.alloc a).alloc b).alloc c).alloc d).heap[w.heap.size+1+1+1]? = some d:=by
 obtain ⟨h1,h2,h3⟩:=En.new3 w a b c;have e:(((w.alloc a).alloc b).alloc c).heap.size=w.heap.size+1+1+1:=by simp
 have h4:=World.alloc_heap_new (((w.alloc a).alloc b).alloc c) d;rw [e] at h4;exact ⟨(Below.heap_alloc _ d w.heap.size (by rw [e];omega)).trans h1,(Below.heap_alloc _ d (w.heap.size+1) (by rw [e];omega)).trans h2,(Below.heap_alloc _ d (w.heap.size+1+1) (by rw [e];omega)).trans h3,h4⟩
theorem QoU (a:Addr) {L:List (List Rat)} (hL:FitT L) (hn:L.length≤1000) {x:List Rat} (hx:x.length≤1000) (fx:FitL x) {t vx:Value} (k:Int) (w:World) (hg:Gl w) (hv:Ref a w) (ht:TwAt w t L) (ex:El w vx x) :
  Calls Tryz.prog 28 #[t,vx,.int .i64 k] w (AnsA (ovr L (fun rs=>QdO rs x k)≠none) (IsV (ovr L fun rs=>QdO rs x k)) ivl0 w):=by
 have hmf:=mkf;have HT:Sh _:=⟨ht⟩;have HX:Sh _:=⟨ex⟩;have HV:Sh _:=⟨hv⟩;obtain ⟨p,cap,rfl,h⟩:=ht.ex;obtain ⟨bx,ox,cx,rfl,_,_⟩:=ex.ex;clear h ht ex hv;have u:=((((Below.refl w.heap.size w).alloc Lr (Jc #[.slice p L.length cap] 28)).alloc (by simp) (Jc #[.slice (some ⟨bx,ox,none⟩) x.length cx] 29)).alloc (by simp;omega) (Jc #[.int .i64 k] 3)).alloc (by simp;omega) (Jc #[J ⟨#[]⟩,J ⟨#[]⟩,J ⟨#[]⟩,J ⟨#[]⟩] 55);obtain ⟨n_t,n_x,n_k,n_r⟩:=new4 w (Jc #[.slice p L.length cap] 28) (Jc #[.slice (some ⟨bx,ox,none⟩) x.length cx] 29) (Jc #[.int .i64 k] 3) (Jc #[J ⟨#[]⟩,J ⟨#[]⟩,J ⟨#[]⟩,J ⟨#[]⟩] 55);have t0:=En.Qaa n_t 0 (v:=.slice p L.length cap) rfl;obtain ⟨O,hO⟩:∃ O,O=ovr L (fun rs=>QdO rs x k):=⟨_,rfl⟩;rw [←hO];have HO:Sh _:=⟨hO⟩;clear hO;unfold ivl0 ivl;go_enter Tryz.func28, Tryz.ntmps28;go_wp2_with fail;generalize ((((w.alloc (Jc #[.slice p L.length cap] 28)).alloc (Jc #[.slice (some ⟨bx,ox,none⟩) x.length cx] 29)).alloc (Jc #[.int .i64 k] 3)).alloc (Jc #[J ⟨#[]⟩,J ⟨#[]⟩,J ⟨#[]⟩,J ⟨#[]⟩] 55))=W0 at *
 have cA:=Qkn 70 #[.pointer (some ⟨w.heap.size+1+1,0,none⟩),.pointer (some ⟨w.heap.size+1,0,none⟩)] (enters_of Tryz.func70 (by kernel_rfl) rfl) hL hn (O≠none)
  (fun s0 s1 s2 s3=>∃ Q,O=some Q∧s0=txt Q.1.num∧s1=txt (Q.1.den:Int)∧s2=txt Q.2.num∧s3=txt (Q.2.den:Int)) W0 (hg.keep u) (HT.o.keep u) (by rw [HO.o];exact Qco)
  (fun rs hrs W f hB hf=>by
   have e:O=QdO rs x k:=by rw [HO.o,QaA hrs]
   have hfit:∀ d∈rs,FitL d:=fun d hd=>by
    have:=Qcc hrs;rw [List.append_nil] at this;rw [this] at hd;exact (hL d (List.mem_reverse.1 hd)).1
   have c:Calls Tryz.prog 70 #[f,.pointer (some ⟨w.heap.size+1+1,0,none⟩),.pointer (some ⟨w.heap.size+1,0,none⟩)] W (AnsC (QdO rs x k≠none) (IsV (QdO rs x k)) W):=by
    by_cases hk:0≤k∧k≤20
    ·obtain ⟨c,rfl⟩:=Int.eq_ofNat_of_zero_le hk.1;exact QmH a (QbB hrs) hfit hx fx (w.heap.size+1+1) (w.heap.size+1) c (by omega) W ((HV.o.keep u).keep hB) hf (En.Qaa (En.Qac n_k hB) 0 rfl) (En.Qaa (En.Qac n_x hB) 0 rfl) ((HX.o.keep u).keep hB)
    ·exact QoQ (w.heap.size+1+1) (w.heap.size+1) k (by omega) W (En.Qaa (En.Qac n_k hB) 0 rfl)
   rw [←e] at c
   exact c.mono fun e' w' h=>⟨h.below,fun k=>by
    obtain ⟨v,h1,Q,h2,h3⟩:=h.good k;exact ⟨v,h1,_,_,_,_,h3,Q,h2,rfl,rfl,rfl,rfl⟩,h.bad⟩)
 refine cA.mono ?_;intro e v1 h1;replace u:=u.trans (h1.below.mono u.size);replace n_r:=En.Qac n_r h1.below;clear HT HO HX HV n_t n_x n_k t0 cA;have r0:=En.Qaa n_r 0 (v:=J ⟨#[]⟩) rfl;have r1:=En.Qaa n_r 1 (v:=J ⟨#[]⟩) rfl;have r2:=En.Qaa n_r 2 (v:=J ⟨#[]⟩) rfl;have r3:=En.Qaa n_r 3 (v:=J ⟨#[]⟩) rfl;have f0:=En.Qad n_r 0;have f1:=En.Qad n_r 1;have f2:=En.Qad n_r 2;have f3:=En.Qad n_r 3;have hle:w.heap.size≤w.heap.size+1+1+1:=by omega
 cases O with
 | none =>
  obtain rfl:=h1.bad (fun h=>h rfl);clear h1;go_wp2_with fail;have s_r:=QaL (x:=J ⟨#[]⟩) (y:=J ⟨#[]⟩) (z:=J ⟨#[]⟩) (t:=J ⟨#[]⟩) n_r;have y0:=En.Qaa s_r 0 (v:=J ⟨#[]⟩) rfl;have y1:=En.Qaa s_r 1 (v:=J ⟨#[]⟩) rfl;have y2:=En.Qaa s_r 2 (v:=J ⟨#[]⟩) rfl;have y3:=En.Qaa s_r 3 (v:=J ⟨#[]⟩) rfl;exact bodyPost_ret (v:=.tuple #[.agg #[J ⟨#[]⟩,J ⟨#[]⟩,J ⟨#[]⟩,J ⟨#[]⟩],.int .i64 60]) (by simp [results,Tryz.results28, go_sem,y0,y1,y2,y3]) rfl ⟨(((u.setCell hle _).setCell hle _).setCell hle _).setCell hle _,fun h=>absurd rfl h,fun _=>rfl⟩
 | some q =>
  obtain ⟨v,rfl,s0,s1,s2,s3,rfl,Q,hQ,rfl,rfl,rfl,rfl⟩:=h1.good (fun q=>by cases q);clear h1;go_wp2_with fail;have s_r:=QaL (x:=J (txt Q.1.num)) (y:=J (txt (Q.1.den:Int))) (z:=J (txt Q.2.num)) (t:=J (txt (Q.2.den:Int))) n_r;have y0:=En.Qaa s_r 0 (v:=J (txt Q.1.num)) rfl;have y1:=En.Qaa s_r 1 (v:=J (txt (Q.1.den:Int))) rfl;have y2:=En.Qaa s_r 2 (v:=J (txt Q.2.num)) rfl;have y3:=En.Qaa s_r 3 (v:=J (txt (Q.2.den:Int))) rfl;exact bodyPost_ret (v:=.tuple #[.agg #[J (txt Q.1.num),J (txt (Q.1.den:Int)),J (txt Q.2.num),J (txt (Q.2.den:Int))],.int .i64 0]) (by simp [results,Tryz.results28, go_sem,y0,y1,y2,y3]) rfl ⟨(((u.setCell hle _).setCell hle _).setCell hle _).setCell hle _,fun _=>⟨_,rfl,Q,hQ,rfl⟩,fun h=>absurd (fun q=>by cases q) h⟩
end Tw
end
section
namespace Tw
open Go.Proofs.YtadcmepaniiciaaGreatDoor.Nm Go.Proofs.YtadcmepaniiciaaGreatDoor.Rt
def fz (z:Int):Bool:=decide (z.natAbs<10^200)
theorem fz_iff {z:Int}:fz z=true↔Fits z:=⟨fun h=>Qas (of_decide_eq_true h),fun h=>decide_eq_true (QbU h)⟩
theorem QdP {α:Type} {P Q:Prop} [Decidable P] [Decidable Q] (h:P↔Q) (a b:α):(if P then a else b)=if Q then a else b:=by
 by_cases hp:P
 ·rw [if_pos hp,if_pos (h.1 hp)]
 ·rw [if_neg hp,if_neg (fun q=>hp (h.2 q))]
def mulC (p q:Rat):Option Rat:=if (fz (p.num*q.num) && fz ((p.den:Int)*q.den))=true then some (p*q) else none
def divC (p q:Rat):Option Rat:=if (fz (p.num*q.den) && (fz ((p.den:Int)*q.num) && decide (q≠0)))=true then some (p / q) else none
def addC (p q:Rat):Option Rat:=if (fz (p.num*q.den) && (fz (q.num*p.den) && (fz (p.num*q.den+q.num*p.den) && fz ((p.den:Int)*q.den))))=true then some (p+q) else none
def subC (p q:Rat):Option Rat:=if (fz (p.num*q.den) && (fz (q.num*p.den) && (fz (p.num*q.den-q.num*p.den) && fz ((p.den:Int)*q.den))))=true then some (p-q) else none
theorem QoV:mulQ=mulC:=by
 funext p q
 rw [mulQ,mulC];exact QdP (by rw [Bool.and_eq_true,fz_iff,fz_iff]) _ _
theorem QuY:divQ=divC:=by
 funext p q
 rw [divQ,divC];exact QdP (by rw [Bool.and_eq_true,Bool.and_eq_true,fz_iff,fz_iff,decide_eq_true_iff]) _ _
theorem Qlm:addQ=addC:=by
 funext p q
 rw [addQ,addC];exact QdP (by rw [Bool.and_eq_true,Bool.and_eq_true,Bool.and_eq_true,fz_iff,fz_iff,fz_iff,fz_iff]) _ _
theorem Qrz:subQ=subC:=by
 funext p q
 rw [subQ,subC];exact QdP (by rw [Bool.and_eq_true,Bool.and_eq_true,Bool.and_eq_true,fz_iff,fz_iff,fz_iff,fz_iff]) _ _
def QeY:List (List Rat)→List Rat→List Rat→Option (List Rat)
 | [],x,y=>if (QbQ x || QbQ y)=true then some (zeros x.length) else Qaj mulC x y
 | d :: rs,x,y=>if (QbQ x || QbQ y)=true then some (zeros x.length) else
  (QeY rs (hl x) (hl y)).bind fun ac=>(QeY rs (hr x) (hr y)).bind fun be=>(QeY rs be d).bind fun bed =>
  (Qaj addC ac bed).bind fun p=>(QeY rs (hl x) (hr y)).bind fun ae=>(QeY rs (hr x) (hl y)).bind fun bc =>
  (Qaj addC ae bc).map fun q=>p++q
theorem Qln:∀ (rs:List (List Rat)) (x y:List Rat),mulO rs x y=QeY rs x y
 | [],x,y=>by rw [mulO,QeY,QoV]
 | d :: rs,x,y=>by
  have ih:=Qln rs;rw [mulO,QeY];simp only [ih,Qlm]
def QqM (rs:List (List Rat)) (d x:List Rat):Option (List Rat) :=
 (QeY rs (hl x) (hl x)).bind fun aa=>(QeY rs (hr x) (hr x)).bind fun bb=>(QeY rs bb d).bind fun bbd=>Qaj subC aa bbd
theorem QrA (rs:List (List Rat)) (d x:List Rat):nrmO rs d x=QqM rs d x:=by
 rw [nrmO,QqM];simp only [Qln,Qrz]
def Qdm:List (List Rat)→List Rat→Option Int
 | [],x=>some (cmpQ (x.headD 0) 0)
 | d :: rs,x=>(Qdm rs (hl x)).bind fun s=>(Qdm rs (hr x)).bind fun t =>
  if t=0 then some s else if s=0∨s=t then some t else (QqM rs d x).bind fun n=>(Qdm rs n).map fun u=>s*u
theorem QdQ:∀ (rs:List (List Rat)) (x:List Rat),Qaw rs x=Qdm rs x
 | [],x=>by rw [Qaw,Qdm]
 | d :: rs,x=>by
  have ih:=QdQ rs;rw [Qaw,Qdm];simp only [ih,QrA]
def QmI:List (List Rat)→List Rat→Option (List Rat)
 | [],x=>Qaj divC [1] x
 | d :: rs,x=>(QqM rs d x).bind fun n=>(Qdm rs n).bind fun s=>if s=0 then (Qaj addC (hl x) (hl x)).bind fun aa=>(QmI rs aa).map fun u=>u++zeros d.length
  else (QmI rs n).bind fun m=>(QeY rs (hl x) m).bind fun p=>(Qaj subC (zeros (hr x).length) (hr x)).bind fun nb=>(QeY rs nb m).map fun q=>p++q
theorem QrB:∀ (rs:List (List Rat)) (x:List Rat),invO rs x=QmI rs x
 | [],x=>by rw [invO,QmI,QuY]
 | d :: rs,x=>by
  have ih:=QrB rs;rw [invO,QmI];simp only [ih,QrA,QdQ,Qln,Qlm,Qrz]
def QqN (rs:List (List Rat)) (x:List Rat):Option (List Rat):=(Qdm rs x).bind fun s=>if s=0 then none else QmI rs x
theorem QrC (rs:List (List Rat)) (x:List Rat):invS rs x=QqN rs x:=by rw [invS,QqN,QdQ,QrB]
def QgR:List (List Rat)→List (List Rat)→Option (List (List Rat))
 | acc, []=>some acc
 | acc,x :: xs=>if (decide (acc.length<4) && (decide (x.length=2^acc.length) && (Qdm acc x == some 1)))=true then QgR (x :: acc) xs else none
open Classical in
theorem QfP:∀ (acc L:List (List Rat)),Qam acc L=QgR acc L
 | acc, []=>rfl
 | acc,x :: xs=>by
  rw [Qam,QgR,QfP (x :: acc) xs];exact QdP (by rw [Adj,Bool.and_eq_true,Bool.and_eq_true,decide_eq_true_iff,decide_eq_true_iff,beq_iff_eq,QdQ]) _ _
theorem QgS {T:Type} (L:List (List Rat)) (o o':List (List Rat)→Option T) (h:∀ rs,o rs=o' rs):ovr L o=(QgR [] L).bind o':=by
 rw [ovr,QfP];congr 1;funext rs;exact h rs
end Tw
end
section
namespace Rt
open Go.RowKit Go.Proofs.YtadcmepaniiciaaGreatDoor.Nm
theorem QuZ (n d:Int) (n1 : -9223372036854775808≤n) (n2:n≤9223372036854775807) (d1 : -9223372036854775808≤d) (d2:d≤9223372036854775807) (w:World) :
  Calls Tryz.prog 53 #[.int .i64 n,.int .i64 d] w fun e w'=>e = .returned (bR (redR (txt n) (txt d)))∧Below w.heap.size w w':=by
 have f1:Fits n:=Qas (Nat.lt_trans (show n.natAbs<10^20 by omega) (by decide));have f2:Fits d:=Qas (Nat.lt_trans (show d.natAbs<10^20 by omega) (by decide));have cn:=fun W=>Qgj n n1 n2 W;have cd:=fun W=>Qgj d d1 d2 W;have hC:=fun W=>QkF (txt n) (txt d) (QaT f1) (QaT f2) W;obtain ⟨n',d',e0,ho⟩:=Qcw (redR (txt n) (txt d));rw [ho] at hC ⊢;clear ho;generalize txt n=a at *
 generalize txt d=b at *
 go_enter Tryz.func53, Tryz.ntmps53;go_wp2_with (first | (go_at_call 106; with_reducible refine (cn _).mono ?_;rintro e w1 ⟨rfl,hB1⟩) | (go_at_call 106; with_reducible refine (cd _).mono ?_;rintro e w2 ⟨rfl,hB2⟩) | (go_at_call 105; refine (hC _).mono ?_;rintro e w3 ⟨rfl,hB3⟩;obtain ⟨c0,c1,z0,z1⟩:=Qab ((hB3.block w.heap.size (by have h1:=hB1.size;rw [World.size_alloc] at h1;have h2:=hB2.size;omega)).trans ((hB2.block w.heap.size (by have h1:=hB1.size;rw [World.size_alloc] at h1;omega)).trans ((hB1.block w.heap.size (by simp)).trans (World.alloc_heap_new w _))))));have k0:=QaM w3 w.heap.size (J n') (J d') _ _ c0 c1;have h1:=hB1.size;rw [World.size_alloc] at h1;have h2:=hB2.size;have hB5:Below w.heap.size w w3:=((((Below.refl w.heap.size w).alloc Lr _).trans (hB1.mono (by simp))).trans (hB2.mono (by omega))).trans (hB3.mono (by omega));refine bodyPost_ret (v:=.tuple #[.agg #[J n',J d'],.int .i64 e0]) (by simp [results,Tryz.results53, go_sem,k0.1,k0.2]) rfl ⟨rfl,(hB5.setCell (by simp) _).setCell (by simp) _⟩
end Rt
end
section
namespace Tw
open Go.RowKit Go.Extern.Stop Go.Stop Go.Extern
open En Go.Proofs.YtadcmepaniiciaaGreatDoor.Nm Go.Proofs.YtadcmepaniiciaaGreatDoor.Rt
theorem Qva (n d:Int) (s t:ByteArray) (c:Int) (hO:Ret 53 #[.int .i64 n,.int .i64 d] (.tuple #[.agg #[J s,J t],.int .i64 c])):Ret 19 #[.int .i64 n,.int .i64 d] (frc s t):=by
 intro w;have n_r:(w.alloc (Jc #[J ⟨#[]⟩,J ⟨#[]⟩] 42)).heap[w.heap.size]? = _:=World.alloc_heap_new w _;have u:=(Below.refl w.heap.size w).alloc Lr (Jc #[J ⟨#[]⟩,J ⟨#[]⟩] 42);have CO:Sh _:=⟨hO⟩;clear hO;go_enter Tryz.func19, Tryz.ntmps19;go_wp2_with fail;refine (CO.o _).mono ?_;rintro e v1 ⟨rfl,g⟩;replace u:=u.trans (g.mono u.size);replace n_r:=En.Qac n_r g;clear g;have m_r:(v1.alloc (Jc #[J s,J t] 42)).heap[w.heap.size]? = _:=lold n_r;have m_b:=World.alloc_heap_new v1 (Jc #[J s,J t] 42);replace u:=u.alloc u.size (Jc #[J s,J t] 42);have k0:=En.Qaa m_r 0 (v:=J ⟨#[]⟩) rfl;have k1:=En.Qaa m_r 1 (v:=J ⟨#[]⟩) rfl;have f0:=En.Qad m_r 0;have f1:=En.Qad m_r 1;have b0:=En.Qaa m_b 0 (v:=J s) rfl;have b1:=En.Qaa m_b 1 (v:=J t) rfl;have s_r:=Qbc (x:=J s) (y:=J t) m_r;have z0:=En.Qaa s_r 0 (v:=J s) rfl;have z1:=En.Qaa s_r 1 (v:=J t) rfl;go_wp2_with fail;exact bodyPost_ret (v:=.agg #[J s,J t]) (by simp [results,Tryz.results19, go_sem,z0,z1]) rfl ⟨rfl,(u.setCell Lr _).setCell Lr _⟩
theorem of_q (n d:Int) (hn:n.natAbs≤1000000000000000) (hd:d.natAbs≤1000000000000000) (d0:d≠0):Ret 19 #[.int .i64 n,.int .i64 d] (frc (pq (Rat.divInt n d)).1 (pq (Rat.divInt n d)).2):=by
 have f1:Fits n:=Qas (Nat.lt_trans (show n.natAbs<10^20 by omega) (by decide));have f2:Fits d:=Qas (Nat.lt_trans (show d.natAbs<10^20 by omega) (by decide));refine Qva n d _ _ 0 (fun W => ?_);have:=QuZ n d (by omega) (by omega) (by omega) (by omega) W;rw [Qfz f1 f2 d0] at this;exact this
structure Ints (W:World) (b o:Nat) (l:List Int):Prop where
 at_:∀ i,i<l.length→W.cell? ⟨b,o+i,none⟩=some (.int .i64 (l.getD i 0))
theorem Ints.keep {W W':World} {b o:Nat} {l:List Int} (h:Ints W b o l) (hB:Below W.heap.size W W'):Ints W' b o l:=⟨fun i hi=>Qae (h.at_ i hi) hB⟩
def ratI (l:List Int):List Rat:=l.map fun z=>Rat.divInt z 1
theorem Qto (l:List Int) (i:Nat) (h:i<l.length):(ratI l).getD i 0=Rat.divInt (l.getD i 0) 1:=by
 rw [List.getD_eq_getElem?_getD,List.getD_eq_getElem?_getD,ratI,List.getElem?_map,List.getElem?_eq_getElem h];rfl
theorem Qlo (l:List Int):(ratI l).length=l.length:=List.length_map _
theorem Qvb {W:World} {base:Nat} {v:Value} {l:List Rat} (h:OwnL W base v l.length (pqs l)) (hl:0<l.length):El W v l:=by
 rcases h.2 with ⟨_,hn⟩ | ⟨g,cap,cur,rfl,hg,hgg,h1,h2,h3,h4⟩
 ·omega
 ·refine ⟨g,0,cap,rfl,h1,⟨fun i hi => ?_⟩⟩;have hc:=QdA (pqs l) l.length i hi;rw [←h4] at hc;rw [List.getElem?_take_of_lt (by omega),List.getElem?_take_of_lt (by omega),Array.getElem?_toList,Array.getElem?_toList] at hc;rw [Nat.zero_add];exact ⟨En.Qaa hgg _ hc.1,En.Qaa hgg _ hc.2⟩
theorem QoW (l:List Int) (hl:0<l.length) (hn:l.length≤100) (hb:∀ i,i<l.length→(l.getD i 0).natAbs≤1000000) (b o c:Nat) (w:World) (hx:Ints w b o l) :
  Calls Tryz.prog 32 #[.slice (some ⟨b,o,none⟩) l.length c] w fun e w'=>(∃ v,e = .returned v∧El w' v (ratI l))∧Below w.heap.size w w':=by
 have HX:Sh _:=⟨hx⟩
 have CO:Sh (∀ i,i<l.length→Ret 19 #[.int .i64 (l.getD i 0),.int .i64 1] (frc (pqs (ratI l) i).1 (pqs (ratI l) i).2)):=⟨fun i hi=>by
  rw [pqs,Qto l i hi];exact of_q _ 1 (by have:=hb i hi;omega) (by decide) (by decide)⟩
 have HE:Sh (∀ (W:World) (v:Value),OwnL W w.heap.size v l.length (pqs (ratI l))→El W v (ratI l)):=⟨fun W v h=>Qvb (by rw [Qlo];exact h) (by rw [Qlo];exact hl)⟩;clear hx hb;generalize pqs (ratI l)=L at *
 generalize ratI l=l' at *
 obtain ⟨n,hnn⟩:∃ n,n=l.length:=⟨_,rfl⟩;rw [←hnn] at hn CO HE ⊢;have HN:Sh (n=l.length):=⟨hnn⟩;clear hnn hl;generalize hz:(fun i=>l.getD i 0)=Z;have HZ:Sh (∀ i,l.getD i 0=Z i):=⟨fun i=>by rw [←hz]⟩;have CO:Sh (∀ i,i<n→Ret 19 #[.int .i64 (Z i),.int .i64 1] (frc (L i).1 (L i).2)):=⟨fun i hi=>by have:=CO.o i hi;rw [HZ.o] at this;exact this⟩;have HX:Sh (∀ W i,Below w.heap.size w W→i<n→W.cell? ⟨b,o+i,none⟩=some (.int .i64 (Z i))):=⟨fun W i u hi=>by have:=(HX.o.keep u).at_ i (by rw [←HN.o];exact hi);rw [HZ.o] at this;exact this⟩;clear hz HZ HN;go_enter Tryz.func32, Tryz.ntmps32;go_wp2_with fail
 go_loopw [3,4] (fun vv iv wr=>∃ i:Nat,i≤n∧iv = .int .i64 (i:Int)∧Sh (OwnL wr w.heap.size vv i L∧Below w.heap.size w wr)) (fun _ iv _=>n-(intOf iv).toNat)
 case atStart=>exact ⟨0,Nat.zero_le _,rfl,⟨OwnL.nil _ _ _,Below.refl _ _⟩⟩
 case round =>
  obtain ⟨i,hi,rfl,HF⟩:=hrel;obtain ⟨hO,u⟩:=HF.o;clear HF;by_cases hin:i=n
  ·subst hin;go_wp2_with fail;go_ret;exact ⟨⟨_,rfl,HE.o _ _ hO⟩,u⟩
  ·have hil:i<n:=by omega
   have hi2:(i:Int)<(n:Int):=by omega
   have hi3:(0:Int)≤(i:Int):=by omega
   have x0:=HX.o wr i u hil;have cO:=CO.o i hil;have hw1:IntKind.i64.wrap ((i:Int)+1)=(i:Int)+1:=by simp [IntKind.wrap,IntKind.signed,IntKind.bits];omega
   generalize Z i=zi at *
   go_wp2_with fail;refine (cO _).mono ?_;rintro e v1 ⟨rfl,g⟩;replace hO:=hO.below g;replace u:=u.trans (g.mono u.size);have ha:=((Below.refl v1.heap.size v1).alloc Lr (Jc #[J (L i).1,J (L i).2] 42));have n_n:(v1.alloc (Jc #[J (L i).1,J (L i).2] 42)).heap[v1.heap.size]? = some (Jc #[J (L i).1,J (L i).2] 42 (0,0)):=World.alloc_heap_new v1 _;replace hO:=hO.below ha;replace u:=u.trans (ha.mono u.size);clear ha g cO x0;dsimp only [frc];have hij:i≤1000:=by omega
   generalize hLi:L i=li at *
   go_wp2_with (at_builtin;go_must (refine En.Qbt rfl _ _ rfl w.heap.size _ i L rfl hO v1.heap.size _ rfl (by rw [hLi];exact n_n) hij u.size ?_);intro v' w' hO' hg hat);have u2:=QbA u Lr Lr hO hg;clear hO hg hat u n_n
   go_roundw
   case rel=>exact ⟨i+1,by omega,by first | rfl | go_num | simp,⟨hO',u2⟩⟩
   case measure=>simp [intOf];omega
def Row (W:World) (p:Option Addr) (n:Nat) (G:Nat→P2):Prop:=n=0∨∃ b o,p=some ⟨b,o,none⟩∧Cl W b o n G
theorem QoX {B:Nat} {w w':World} (h:Below B w w') {n:Nat}:Below B w (w'.drewN n):=⟨h.os,h.tape,h.output,h.size,h.block⟩
theorem Qtp {g h:P2} (hq:¬ g=h):(g.1.toList == h.1.toList)=false∨((g.1.toList == h.1.toList)=true∧(g.2.toList == h.2.toList)=false):=by
 rw [QcU,QcU];by_cases h1:g.1=h.1
 ·by_cases h2:g.2=h.2
  ·exact absurd (Prod.ext h1 h2) hq
  ·exact .inr ⟨decide_eq_true h1,decide_eq_false h2⟩
 ·exact .inl (decide_eq_false h1)
theorem QqO (p q:Option Addr) (n m c c':Nat) (h:n≠m) (w:World):Calls Tryz.prog 44 #[.slice p n c,.slice q m c'] w fun e w'=>e = .returned (.bool false)∧w'=w:=by
 have hb:((n:Int) != (m:Int))=true:=by simp;omega
 clear h;go_enter Tryz.func44, Tryz.ntmps44;go_wp2_with fail;go_ret;exact ⟨rfl,rfl⟩
theorem Qlp (p q:Option Addr) (c c':Nat) (w:World):Calls Tryz.prog 44 #[.slice p 0 c,.slice q 0 c'] w fun e w'=>e = .returned (.bool true)∧w'=w:=by
 go_enter Tryz.func44, Tryz.ntmps44;go_wp2_with fail;refine wp_loop_rounds 1 ?_;rw [rounds_succ];go_wp2_with fail;go_ret;exact ⟨rfl,rfl⟩
theorem Qtq (b o b2 o2 n c c':Nat) (hn:n≤1000) (G H:Nat→P2) (B:Bool) (hB:B=true↔∀ i,i<n→G i=H i) (w:World) (hx:Cl w b o n G) (hy:Cl w b2 o2 n H) :
  Calls Tryz.prog 44 #[.slice (some ⟨b,o,none⟩) n c,.slice (some ⟨b2,o2,none⟩) n c'] w fun e w'=>e = .returned (.bool B)∧Below w.heap.size w w':=by
 have HX:Sh _:=⟨hx⟩;have HY:Sh _:=⟨hy⟩;have HB:Sh _:=⟨hB⟩;have hb:((n:Int) != (n:Int))=false:=by simp
 clear hx hy hB;go_enter Tryz.func44, Tryz.ntmps44;go_wp2_with fail
 go_loopw [4,5] (fun rv iv wr=>rv = .bool false∧∃ i:Nat,i≤n∧iv = .int .i64 (i:Int)∧Sh (Below w.heap.size w wr)∧Sh (∀ j,j<i→G j=H j)) (fun _ iv _=>n-(intOf iv).toNat)
 case atStart=>exact ⟨rfl,0,Nat.zero_le _,rfl,⟨Below.refl _ _⟩,⟨fun j hj=>by omega⟩⟩
 case round =>
  obtain ⟨rfl,i,hi,rfl,U,HE⟩:=hrel;have u:=U.o;clear U;by_cases hin:i=n
  ·subst hin;go_wp2_with fail;go_ret;exact ⟨by rw [HB.o.2 HE.o];rfl,u⟩
  ·have hil:i<n:=by omega
   have hi2:(i:Int)<(n:Int):=by omega
   have hi3:(0:Int)≤(i:Int):=by omega
   have hi4:((i:Int)).toNat=i:=Int.toNat_natCast i;obtain ⟨x0,x1⟩:=(HX.o.keep (u.mono Lr)).at_ i hil;obtain ⟨y0,y1⟩:=(HY.o.keep (u.mono Lr)).at_ i hil;have hw1:IntKind.i64.wrap ((i:Int)+1)=(i:Int)+1:=by simp [IntKind.wrap,IntKind.signed,IntKind.bits];omega
   by_cases hq:G i=H i
   ·have HQ:Sh (∀ j,j=i→G j=H j):=⟨fun j e=>by rw [e];exact hq⟩;rw [hq] at x0 x1;clear hq;generalize H i=g at *
    have e0:(g.1.toList == g.1.toList)=true:=beq_self_eq_true _;have e1:(g.2.toList == g.2.toList)=true:=beq_self_eq_true _;go_wp2_with fail
    go_region
    all_goals (go_wp2_with fail;go_roundw)
    case rel=>exact ⟨rfl,i+1,by omega,by first | rfl | go_num | simp,⟨QoX u⟩,⟨fun j hj=>by
     rcases Nat.lt_or_ge j i with h1 | h1
     ·exact HE.o j h1
     ·exact HQ.o j (by omega)⟩⟩
    case measure=>simp [intOf];omega
   ·have hBf:B=false:=by
     cases hb':B with
     | false=>rfl
     | true=>exact absurd (HB.o.1 hb' i hil) hq
    subst hBf;have hq2:=Qtp hq;clear hq HB HE;generalize G i=g at *
    generalize H i=h at *
    rcases hq2 with e0 | ⟨e0,e1⟩
    ·go_wp2_with fail
     go_region
     all_goals (go_wp2_with fail;go_ret;exact ⟨rfl,QoX u⟩)
    ·go_wp2_with fail
     go_region
     all_goals (go_wp2_with fail;go_ret;exact ⟨rfl,QoX u⟩)
theorem QqP {p q:Option Addr} {n m c c':Nat} (hn:n≤1000) {G H:Nat→P2} (B:Bool) (hB:B=true↔n=m∧∀ i,i<n→G i=H i) (w:World) (hx:Row w p n G) (hy:Row w q m H) :
  Calls Tryz.prog 44 #[.slice p n c,.slice q m c'] w fun e w'=>e = .returned (.bool B)∧Below w.heap.size w w':=by
 by_cases hnm:n=m
 ·subst hnm;rcases hx with rfl | ⟨b,o,rfl,hx⟩
  ·have:B=true:=hB.2 ⟨rfl,fun i hi=>by omega⟩;rw [this];exact (Qlp p q c c' w).mono fun e w' h=>⟨h.1,by rw [h.2];exact Below.refl _ _⟩
  ·rcases hy with rfl | ⟨b2,o2,rfl,hy⟩
   ·have:B=true:=hB.2 ⟨rfl,fun i hi=>by omega⟩;rw [this];exact (Qlp _ q c c' w).mono fun e w' h=>⟨h.1,by rw [h.2];exact Below.refl _ _⟩
   ·exact Qtq b o b2 o2 n c c' hn G H B (by rw [hB];exact ⟨fun h=>h.2,fun h=>⟨rfl,h⟩⟩) w hx hy
 ·have:B=false:=by
   cases hb:B with
   | false=>rfl
   | true=>exact absurd (hB.1 hb).1 hnm
  rw [this];exact (QqO p q n m c c' hnm w).mono fun e w' h=>⟨h.1,by rw [h.2];exact Below.refl _ _⟩
theorem Qtr {l m:List Rat} (hl:l.length=m.length) (h:∀ i,i<l.length→pqs l i=pqs m i):l=m:=by
 refine List.ext_getElem hl fun i h1 h2 => ?_;have:=h i h1;rw [pqs,pqs,List.getD_eq_getElem?_getD,List.getD_eq_getElem?_getD,List.getElem?_eq_getElem h1,List.getElem?_eq_getElem h2] at this;exact QfJ this
theorem El.row {W:World} {v:Value} {l:List Rat} (h:El W v l):∃ p c,v = .slice p l.length c∧Row W p l.length (pqs l):=by
 obtain ⟨b,o,cap,e,_,h2⟩:=h.ex;exact ⟨_,cap,e,.inr ⟨b,o,rfl,h2⟩⟩
theorem QrD {l m:List Rat} (hn:l.length≤1000) {vx vy:Value} (w:World) (hx:El w vx l) (hy:El w vy m) :
  Calls Tryz.prog 15 #[vx,vy] w fun e w'=>e = .returned (.bool (decide (l=m)))∧Below w.heap.size w w':=by
 obtain ⟨p,c,rfl,hx2⟩:=hx.row;obtain ⟨q,c',rfl,hy2⟩:=hy.row
 have cS:=QqP (c:=c) (c':=c') hn (decide (l=m)) (by
  rw [decide_eq_true_iff];exact ⟨fun h=>by subst h;exact ⟨rfl,fun _ _=>rfl⟩,fun h=>Qtr h.1 h.2⟩) w hx2 hy2
 clear hx hy hx2 hy2;go_enter Tryz.func15, Tryz.ntmps15;go_wp2_with fail;refine cS.mono ?_;rintro e w' ⟨rfl,u⟩;go_wp2_with fail;go_ret;exact ⟨rfl,u⟩
theorem QqQ {L:List (List Rat)} (hL:FitT L) (hn:L.length≤1000) {x y:List Rat} (hx:x.length≤1000) (hy:y.length≤1000) (fx:FitL x) (fy:FitL y) {t vx vy:Value} (w:World) (hg:Gl w) (ht:TwAt w t L) (ex:El w vx x) (ey:El w vy y) :
  Calls Tryz.prog 13 #[t,vx,vy] w (AnsA (ovr L (fun rs=>chk2 rs x y (Qaj addQ x y))≠none) (IsE (ovr L fun rs=>chk2 rs x y (Qaj addQ x y))) (.slice none 0 0) w):=by
 have hmf:=mkf;have HT:Sh _:=⟨ht⟩;obtain ⟨p,cap,rfl,h⟩:=ht.ex;clear h ht;have HX:Sh _:=⟨ex⟩;obtain ⟨b,o,c,rfl,h1,h2⟩:=ex.ex;have HY:Sh _:=⟨ey⟩;obtain ⟨b2,o2,c2,rfl,h1',h2'⟩:=ey.ex;clear h1 h2 ex h1' h2' ey;have u:=(((Below.refl w.heap.size w).alloc Lr (Jc #[.slice p L.length cap] 28)).alloc (by simp) (Jc #[.slice (some ⟨b,o,none⟩) x.length c] 29)).alloc (by simp;omega) (Jc #[.slice (some ⟨b2,o2,none⟩) y.length c2] 29);obtain ⟨n_t,n_x,n_y⟩:=En.new3 w (Jc #[.slice p L.length cap] 28) (Jc #[.slice (some ⟨b,o,none⟩) x.length c] 29) (Jc #[.slice (some ⟨b2,o2,none⟩) y.length c2] 29);have t0:=En.Qaa n_t 0 (v:=.slice p L.length cap) rfl;obtain ⟨O,hO⟩:∃ O,O=ovr L (fun rs=>chk2 rs x y (Qaj addQ x y)):=⟨_,rfl⟩;rw [←hO];have HO:Sh _:=⟨hO⟩;clear hO;go_enter Tryz.func13, Tryz.ntmps13;go_wp2_with fail;generalize (((w.alloc (Jc #[.slice p L.length cap] 28)).alloc (Jc #[.slice (some ⟨b,o,none⟩) x.length c] 29)).alloc (Jc #[.slice (some ⟨b2,o2,none⟩) y.length c2] 29))=W0 at *
 have cA:=Qcj 40 #[.pointer (some ⟨w.heap.size+1,0,none⟩),.pointer (some ⟨w.heap.size+1+1,0,none⟩)] (enters_of Tryz.func40 (by kernel_rfl) rfl) hL hn (O≠none) (IsE O) W0 (hg.keep u) (HT.o.keep u) (by rw [HO.o];exact Qco)
  (fun rs hrs W f hB hf=>by
   rw [HO.o,QaA hrs];exact QuS (QbB hrs) hx hy fx fy ⟨w.heap.size+1,0,none⟩ ⟨w.heap.size+1+1,0,none⟩ W ((hg.keep u).keep hB) hf (En.Qaa (En.Qac n_x hB) 0 rfl) (En.Qaa (En.Qac n_y hB) 0 rfl) ((HX.o.keep u).keep hB) ((HY.o.keep u).keep hB))
 refine cA.mono ?_;intro e v1 h1;replace u:=u.trans (h1.below.mono u.size);clear HX HY HT HO n_t n_x n_y t0 cA;cases O with
 | none =>
  obtain rfl:=h1.bad (fun h=>h rfl);clear h1;go_wp2_with fail;exact bodyPost_ret (v:=.tuple #[.slice none 0 0,.int .i64 60]) (by simp [results,Tryz.results13, go_sem]) rfl ⟨u,fun h=>absurd rfl h,fun _=>rfl⟩
 | some s =>
  obtain ⟨v,rfl,hv⟩:=h1.good (fun q=>by cases q);clear h1;go_wp2_with fail;exact bodyPost_ret (v:=.tuple #[v,.int .i64 0]) (by simp [results,Tryz.results13, go_sem]) rfl ⟨u,fun _=>⟨v,rfl,hv⟩,fun h=>absurd (fun q=>by cases q) h⟩
theorem Qin {L:List (List Rat)} (hL:FitT L) (hn:L.length≤1000) {x y:List Rat} (hx:x.length≤1000) (hy:y.length≤1000) (fx:FitL x) (fy:FitL y) {t vx vy:Value} (w:World) (hg:Gl w) (ht:TwAt w t L) (ex:El w vx x) (ey:El w vy y) :
  Calls Tryz.prog 12 #[t,vx,vy] w (AnsA (ovr L (fun rs=>chk2 rs x y (mulO rs x y))≠none) (IsE (ovr L fun rs=>chk2 rs x y (mulO rs x y))) (.slice none 0 0) w):=by
 have hmf:=mkf;have HT:Sh _:=⟨ht⟩;obtain ⟨p,cap,rfl,h⟩:=ht.ex;clear h ht;have HX:Sh _:=⟨ex⟩;obtain ⟨b,o,c,rfl,h1,h2⟩:=ex.ex;have HY:Sh _:=⟨ey⟩;obtain ⟨b2,o2,c2,rfl,h1',h2'⟩:=ey.ex;clear h1 h2 ex h1' h2' ey;have u:=(((Below.refl w.heap.size w).alloc Lr (Jc #[.slice p L.length cap] 28)).alloc (by simp) (Jc #[.slice (some ⟨b,o,none⟩) x.length c] 29)).alloc (by simp;omega) (Jc #[.slice (some ⟨b2,o2,none⟩) y.length c2] 29);obtain ⟨n_t,n_x,n_y⟩:=En.new3 w (Jc #[.slice p L.length cap] 28) (Jc #[.slice (some ⟨b,o,none⟩) x.length c] 29) (Jc #[.slice (some ⟨b2,o2,none⟩) y.length c2] 29);have t0:=En.Qaa n_t 0 (v:=.slice p L.length cap) rfl;obtain ⟨O,hO⟩:∃ O,O=ovr L (fun rs=>chk2 rs x y (mulO rs x y)):=⟨_,rfl⟩;rw [←hO];have HO:Sh _:=⟨hO⟩;clear hO;go_enter Tryz.func12, Tryz.ntmps12;go_wp2_with fail;generalize (((w.alloc (Jc #[.slice p L.length cap] 28)).alloc (Jc #[.slice (some ⟨b,o,none⟩) x.length c] 29)).alloc (Jc #[.slice (some ⟨b2,o2,none⟩) y.length c2] 29))=W0 at *
 have cA:=Qcj 37 #[.pointer (some ⟨w.heap.size+1,0,none⟩),.pointer (some ⟨w.heap.size+1+1,0,none⟩)] (enters_of Tryz.func37 (by kernel_rfl) rfl) hL hn (O≠none) (IsE O) W0 (hg.keep u) (HT.o.keep u) (by rw [HO.o];exact Qco)
  (fun rs hrs W f hB hf=>by
   rw [HO.o,QaA hrs];exact QuU (QbB hrs) hx hy fx fy ⟨w.heap.size+1,0,none⟩ ⟨w.heap.size+1+1,0,none⟩ W ((hg.keep u).keep hB) hf (En.Qaa (En.Qac n_x hB) 0 rfl) (En.Qaa (En.Qac n_y hB) 0 rfl) ((HX.o.keep u).keep hB) ((HY.o.keep u).keep hB))
 refine cA.mono ?_;intro e v1 h1;replace u:=u.trans (h1.below.mono u.size);clear HX HY HT HO n_t n_x n_y t0 cA;cases O with
 | none =>
  obtain rfl:=h1.bad (fun h=>h rfl);clear h1;go_wp2_with fail;exact bodyPost_ret (v:=.tuple #[.slice none 0 0,.int .i64 60]) (by simp [results,Tryz.results12, go_sem]) rfl ⟨u,fun h=>absurd rfl h,fun _=>rfl⟩
 | some s =>
  obtain ⟨v,rfl,hv⟩:=h1.good (fun q=>by cases q);clear h1;go_wp2_with fail;exact bodyPost_ret (v:=.tuple #[v,.int .i64 0]) (by simp [results,Tryz.results12, go_sem]) rfl ⟨u,fun _=>⟨v,rfl,hv⟩,fun h=>absurd (fun q=>by cases q) h⟩
theorem QqR (f:Value) (w:World):Calls Tryz.prog 86 #[f] w (AnsC True (fun _ v=>v = .bool true) w):=by
 go_enter Tryz.func86, Tryz.ntmps86;go_wp2_with fail;go_ret;exact ⟨Below.refl _ _,fun _=>⟨_,rfl,rfl⟩,fun h=>absurd trivial h⟩
theorem Qts {L:List (List Rat)} (hL:FitT L) (hn:L.length≤1000) {t:Value} (w:World) (hg:Gl w) (ht:TwAt w t L) :
  Calls Tryz.prog 33 #[t] w fun e w'=>e = .returned (.bool (Qam [] L).isSome)∧Below w.heap.size w w':=by
 have HT:Sh _:=⟨ht⟩;obtain ⟨p,cap,rfl,h⟩:=ht.ex;clear h ht;have u:=(Below.refl w.heap.size w).alloc Lr (Jc #[.slice p L.length cap] 28);have n_t:(w.alloc (Jc #[.slice p L.length cap] 28)).heap[w.heap.size]? = _:=World.alloc_heap_new w _;have t0:=En.Qaa n_t 0 (v:=.slice p L.length cap) rfl;obtain ⟨O,hO⟩:∃ O,O=Qam [] L:=⟨_,rfl⟩;rw [←hO];have HO:Sh _:=⟨hO⟩;clear hO;go_enter Tryz.func33, Tryz.ntmps33;go_wp2_with fail;generalize (w.alloc (Jc #[.slice p L.length cap] 28))=W0 at *
 have cA:=Qkj 86 #[] (enters_of Tryz.func86 (by kernel_rfl) rfl) hL hn (O≠none) (fun _ v=>v = .bool true) W0 (hg.keep u) (HT.o.keep u) (by rw [HO.o];exact fun h q=>q h)
  (fun rs hrs W f hB hf=>(QqR f W).mono fun e w' h=>⟨h.below,fun _=>h.good trivial,fun q=>absurd (by rw [HO.o,hrs];exact fun q=>by cases q) q⟩)
 refine cA.mono ?_;intro e v1 h1;replace u:=u.trans (h1.below.mono u.size);clear HT HO n_t t0 cA;cases O with
 | none =>
  obtain rfl:=h1.bad (fun h=>h rfl);clear h1;go_wp2_with fail;go_ret;exact ⟨rfl,u⟩
 | some s =>
  obtain ⟨v,rfl,rfl⟩:=h1.good (fun q=>by cases q);clear h1;go_wp2_with fail;go_ret;exact ⟨rfl,u⟩
def ratE (x:List Rat):Option Rat:=if QbQ x.tail then some (x.headD 0) else none
abbrev IsQ (o:Option Rat) (a b:ByteArray):Prop:=∃ r,o=some r∧pq r=(a,b)
theorem Qvd {rs:List (List Rat)} (hk:rs.length≤4) {x:List Rat} (hn:x.length≤1000) (fx:FitL x) {f vx:Value} (pa:Addr) (w:World) (hg:Gl w) (hf:Fd w f rs) (ha:w.cell? pa=some vx) (ex:El w vx x) :
  Calls Tryz.prog 63 #[f,.pointer (some pa)] w (AnsC (chk rs x (ratE x)≠none) (fun _ v=>∃ a b,v = .agg #[J a,J b]∧IsQ (chk rs x (ratE x)) a b) w):=by
 have ua:=(Below.refl w.heap.size w).alloc Lr (Jc #[J ⟨#[]⟩,J ⟨#[]⟩] 42);have n_r:(w.alloc (Jc #[J ⟨#[]⟩,J ⟨#[]⟩] 42)).heap[w.heap.size]? = _:=World.alloc_heap_new w _;replace ha:=Qae ha ua;replace hg:=hg.keep ua;replace hf:=Fd.keep ua hf;replace ex:=ex.keep ua;have cC:=Qbw hk hn fx _ hf ex;obtain ⟨O,hO⟩:∃ O,O=chk rs x (ratE x):=⟨_,rfl⟩;rw [←hO];have HO:Sh _:=⟨hO⟩;have HG:Sh _:=⟨hg⟩;have HX:Sh _:=⟨ex⟩;clear hO hg hf ex;go_enter Tryz.func63, Tryz.ntmps63;go_wp2_with fail;generalize (w.alloc (Jc #[J ⟨#[]⟩,J ⟨#[]⟩] 42))=W0 at *
 refine cC.mono ?_;intro e v1 h1;have u:=ua.trans (h1.below.mono ua.size);by_cases hl:x.length=2^rs.length
 ·obtain rfl:=h1.good hl;have g1:=HG.o.keep h1.below;have e1:=HX.o.keep h1.below;replace ha:=Qae ha h1.below;replace n_r:=En.Qac n_r h1.below;have ho:O=ratE x:=by rw [HO.o,chk,if_pos hl]
  have hp:=QbG hk;rw [←hl] at hp;clear h1 cC HG HX HO hl ua;cases x with
  | nil=>simp at hp
  | cons q xs =>
   obtain ⟨b,o,cap,rfl,hc,hx⟩:=e1.ex;have hn2:xs.length+1≤16:=hp.2
   have cZ0:cap=1→Calls Tryz.prog 64 #[.slice (some ⟨b,o,none⟩) xs.length 0] v1 fun e w'=>e = .returned (.bool (QbQ xs))∧Below v1.heap.size v1 w':=fun h=>by
    have hc':xs.length+1≤cap:=hc;have hm:xs.length=0:=by omega
    have:=Qcg xs.length b o 0 (by omega) (pqs xs) v1 g1 ⟨fun i hi=>by omega⟩
    rwa [Qld xs xs.length Lr,List.take_length] at this
   have cZ:=Qcg xs.length b (o+2) (cap-1) (by omega) (pqs xs) v1 g1 ⟨fun i hi=>by
    have:=hx.at_ (i+1) (by simp;omega);rw [show o+(i+1)*2=o+2+i*2 by omega] at this;simpa [pqs] using this⟩
   rw [Qld xs xs.length Lr,List.take_length] at cZ;replace cZ:Calls Tryz.prog 64 #[.slice (some ⟨b,o+2,none⟩) xs.length (cap-1)] v1 fun e w'=>e = .returned (.bool (QbQ xs))∧Below v1.heap.size v1 w':=cZ;obtain ⟨q0,q1⟩:=hx.at_ 0 (by simp);have HQ:Sh (O=if QbQ xs=true then some q else none):=⟨ho⟩;have HS:Sh (pq q=((pqs (q :: xs) 0).1,(pqs (q :: xs) 0).2)):=⟨rfl⟩;generalize (pqs (q :: xs) 0).1=s0 at *
   generalize (pqs (q :: xs) 0).2=s1 at *
   rw [Nat.zero_mul] at q0 q1;simp only [Nat.add_zero,List.length_cons] at q0 q1 hc ha hn ⊢;clear e1 hx fx ho g1;generalize QbQ xs=Z at *
   generalize xs.length=m at *
   by_cases hcap:cap=1
   ·subst hcap;replace cZ:=cZ0 rfl;obtain rfl:m=0:=by omega
    clear cZ0;go_wp2_with fail;refine cZ.mono ?_;rintro e v2 ⟨rfl,g2⟩;have u:=u.trans (g2.mono u.size);have ha:=Qae ha g2;have n_r:=En.Qac n_r g2;have q0:=Qae q0 g2;have q1:=Qae q1 g2;clear g2 cZ;cases Z with
    | false =>
     have hr:=QaV v2;have ho:Sh (O=none):=⟨HQ.o.trans (if_neg (by decide))⟩;clear HQ;go_wp2_with fail;refine hr.mono ?_;rintro e w' ⟨rfl,rfl⟩;exact ⟨rfl,u,fun h=>absurd ho.o h,fun _=>rfl⟩
    | true =>
     have hr:=Qbb v2;have ho:Sh (O=some q):=⟨HQ.o.trans (if_pos rfl)⟩;clear HQ;go_wp2_with fail;refine hr.mono ?_;rintro e w' ⟨rfl,rfl⟩;clear hr;have d0:=En.Qaa n_r 0 (v:=J ⟨#[]⟩) rfl;have d1:=En.Qaa n_r 1 (v:=J ⟨#[]⟩) rfl;have g0:=En.Qad n_r 0;have g1:=En.Qad n_r 1;go_wp2_with fail
     have s_r:((w'.setCell ⟨w.heap.size,0,none⟩ (J s0)).setCell ⟨w.heap.size,1,none⟩ (J s1)).heap[w.heap.size]? = some (Jc #[J s0,J s1] 42 (0,0)):=by
      have:=Qbo (Qbo n_r 0 (J s0)) 1 (J s1);simpa using this
     have r0:=En.Qaa s_r 0 (v:=J s0) rfl;have r1:=En.Qaa s_r 1 (v:=J s1) rfl;have u2:=(u.setCell (show w.heap.size≤(⟨w.heap.size,0,none⟩:Addr).block from Nat.le_refl _) (J s0)).setCell (show w.heap.size≤(⟨w.heap.size,1,none⟩:Addr).block from Nat.le_refl _) (J s1);exact bodyPost_ret (v:=.agg #[J s0,J s1]) (by simp [results,Tryz.results63, go_sem,r0,r1]) rfl ⟨u2,fun _=>⟨_,rfl,s0,s1,rfl,q,ho.o,HS.o⟩,fun h=>absurd (fun q'=>by rw [ho.o] at q';cases q') h⟩
   ·clear cZ0;go_wp2_with fail;refine cZ.mono ?_;rintro e v2 ⟨rfl,g2⟩;have u:=u.trans (g2.mono u.size);have ha:=Qae ha g2;have n_r:=En.Qac n_r g2;have q0:=Qae q0 g2;have q1:=Qae q1 g2;clear g2 cZ;cases Z with
    | false =>
     have hr:=QaV v2;have ho:Sh (O=none):=⟨HQ.o.trans (if_neg (by decide))⟩;clear HQ;go_wp2_with fail;refine hr.mono ?_;rintro e w' ⟨rfl,rfl⟩;exact ⟨rfl,u,fun h=>absurd ho.o h,fun _=>rfl⟩
    | true =>
     have hr:=Qbb v2;have ho:Sh (O=some q):=⟨HQ.o.trans (if_pos rfl)⟩;clear HQ;go_wp2_with fail;refine hr.mono ?_;rintro e w' ⟨rfl,rfl⟩;clear hr;have d0:=En.Qaa n_r 0 (v:=J ⟨#[]⟩) rfl;have d1:=En.Qaa n_r 1 (v:=J ⟨#[]⟩) rfl;have g0:=En.Qad n_r 0;have g1:=En.Qad n_r 1;go_wp2_with fail
     have s_r:((w'.setCell ⟨w.heap.size,0,none⟩ (J s0)).setCell ⟨w.heap.size,1,none⟩ (J s1)).heap[w.heap.size]? = some (Jc #[J s0,J s1] 42 (0,0)):=by
      have:=Qbo (Qbo n_r 0 (J s0)) 1 (J s1);simpa using this
     have r0:=En.Qaa s_r 0 (v:=J s0) rfl;have r1:=En.Qaa s_r 1 (v:=J s1) rfl;have u2:=(u.setCell (show w.heap.size≤(⟨w.heap.size,0,none⟩:Addr).block from Nat.le_refl _) (J s0)).setCell (show w.heap.size≤(⟨w.heap.size,1,none⟩:Addr).block from Nat.le_refl _) (J s1);exact bodyPost_ret (v:=.agg #[J s0,J s1]) (by simp [results,Tryz.results63, go_sem,r0,r1]) rfl ⟨u2,fun _=>⟨_,rfl,s0,s1,rfl,q,ho.o,HS.o⟩,fun h=>absurd (fun q'=>by rw [ho.o] at q';cases q') h⟩
 ·obtain rfl:=h1.bad hl;have ho:O=none:=by rw [HO.o,chk,if_neg hl]
  exact ⟨rfl,u,fun h=>absurd ho h,fun _=>rfl⟩
structure AnsR (o:Option Rat) (w:World) (e:Ending) (w':World):Prop where
 below:Below w.heap.size w w'
 good:∀ r,o=some r→e = .returned (.tuple #[.agg #[J (pq r).1,J (pq r).2],.bool true])
 bad:o=none→e = .returned (.tuple #[.agg #[J ⟨#[]⟩,J ⟨#[]⟩],.bool false])
theorem Qjq (v:World) (B:Nat) (s0 s1:ByteArray) (h:v.heap[B]? = some (Jc #[J ⟨#[]⟩,J ⟨#[]⟩] 42 (0,0))) :
  (v.alloc (Jc #[J s0,J s1] 42)).heap[v.heap.size]? = some (Jc #[J s0,J s1] 42 (0,0))∧(v.alloc (Jc #[J s0,J s1] 42)).heap[B]? = some (Jc #[J ⟨#[]⟩,J ⟨#[]⟩] 42 (0,0))∧Below v.heap.size v (v.alloc (Jc #[J s0,J s1] 42)):=by
 have hB:B<v.heap.size:=(Array.getElem?_eq_some_iff.1 h).1;exact ⟨World.alloc_heap_new v _,(Below.heap_alloc v _ B hB).trans h,(Below.refl v.heap.size v).alloc Lr _⟩
theorem QmJ {L:List (List Rat)} (hL:FitT L) (hn:L.length≤1000) {x:List Rat} (hx:x.length≤1000) (fx:FitL x) {t vx:Value} (w:World) (hg:Gl w) (ht:TwAt w t L) (ex:El w vx x) :
  Calls Tryz.prog 26 #[t,vx] w (AnsR (ovr L fun rs=>chk rs x (ratE x)) w):=by
 have hmf:=mkf;have HT:Sh _:=⟨ht⟩;obtain ⟨p,cap,rfl,h⟩:=ht.ex;clear h ht;have HX:Sh _:=⟨ex⟩;obtain ⟨b,o,c,rfl,h1,h2⟩:=ex.ex;clear h1 h2 ex;have u:=(((Below.refl w.heap.size w).alloc Lr (Jc #[.slice p L.length cap] 28)).alloc (by simp) (Jc #[.slice (some ⟨b,o,none⟩) x.length c] 29)).alloc (by simp;omega) (Jc #[J ⟨#[]⟩,J ⟨#[]⟩] 42);obtain ⟨n_t,n_x,n_r⟩:=En.new3 w (Jc #[.slice p L.length cap] 28) (Jc #[.slice (some ⟨b,o,none⟩) x.length c] 29) (Jc #[J ⟨#[]⟩,J ⟨#[]⟩] 42);have t0:=En.Qaa n_t 0 (v:=.slice p L.length cap) rfl;obtain ⟨O,hO⟩:∃ O,O=ovr L (fun rs=>chk rs x (ratE x)):=⟨_,rfl⟩;rw [←hO];have HO:Sh _:=⟨hO⟩;clear hO;go_enter Tryz.func26, Tryz.ntmps26;go_wp2_with fail;generalize (((w.alloc (Jc #[.slice p L.length cap] 28)).alloc (Jc #[.slice (some ⟨b,o,none⟩) x.length c] 29)).alloc (Jc #[J ⟨#[]⟩,J ⟨#[]⟩] 42))=W0 at *
 have cA:=Qkm 63 #[.pointer (some ⟨w.heap.size+1,0,none⟩)] (enters_of Tryz.func63 (by kernel_rfl) rfl) hL hn (O≠none) (IsQ O) W0 (hg.keep u) (HT.o.keep u) (by rw [HO.o];exact Qco)
  (fun rs hrs W f hB hf=>by
   rw [HO.o,QaA hrs];exact Qvd (QbB hrs) hx fx ⟨w.heap.size+1,0,none⟩ W ((hg.keep u).keep hB) hf (En.Qaa (En.Qac n_x hB) 0 rfl) ((HX.o.keep u).keep hB))
 refine cA.mono ?_;intro e v1 h1;replace u:=u.trans (h1.below.mono u.size);replace n_r:=En.Qac n_r h1.below;clear HX HT HO n_t n_x t0 cA;cases O with
 | none =>
  obtain rfl:=h1.bad (fun h=>h rfl);clear h1;obtain ⟨e2,e3,k3⟩:=Qjq v1 (w.heap.size+1+1) ⟨#[]⟩ ⟨#[]⟩ n_r;have b0:=En.Qaa e2 0 (v:=J ⟨#[]⟩) rfl;have b1:=En.Qaa e2 1 (v:=J ⟨#[]⟩) rfl;have d0:=En.Qaa e3 0 (v:=J ⟨#[]⟩) rfl;have d1:=En.Qaa e3 1 (v:=J ⟨#[]⟩) rfl;have g0:=En.Qad e3 0;have g1:=En.Qad e3 1;replace u:=u.trans (k3.mono u.size);clear e2 n_r k3;go_wp2_with fail
  have s_r:(((v1.alloc (Jc #[J ⟨#[]⟩,J ⟨#[]⟩] 42)).setCell ⟨w.heap.size+1+1,0,none⟩ (J ⟨#[]⟩)).setCell ⟨w.heap.size+1+1,1,none⟩ (J ⟨#[]⟩)).heap[w.heap.size+1+1]? = some (Jc #[J ⟨#[]⟩,J ⟨#[]⟩] 42 (0,0)):=by
   have:=Qbo (Qbo e3 0 (J ⟨#[]⟩)) 1 (J ⟨#[]⟩);simpa using this
  have r0:=En.Qaa s_r 0 (v:=J ⟨#[]⟩) rfl;have r1:=En.Qaa s_r 1 (v:=J ⟨#[]⟩) rfl;have u2:=(u.setCell (show w.heap.size≤(⟨w.heap.size+1+1,0,none⟩:Addr).block from by simp only;omega) (J ⟨#[]⟩)).setCell (show w.heap.size≤(⟨w.heap.size+1+1,1,none⟩:Addr).block from by simp only;omega) (J ⟨#[]⟩);exact bodyPost_ret (v:=.tuple #[.agg #[J ⟨#[]⟩,J ⟨#[]⟩],.bool false]) (by simp [results,Tryz.results26, go_sem,r0,r1]) rfl ⟨u2,fun r h=>(by cases h),fun _=>rfl⟩
 | some r =>
  obtain ⟨v,rfl,s0,s1,rfl,hv⟩:=h1.good (fun q=>by cases q);clear h1;obtain ⟨e2,e3,k3⟩:=Qjq v1 (w.heap.size+1+1) s0 s1 n_r;have b0:=En.Qaa e2 0 (v:=J s0) rfl;have b1:=En.Qaa e2 1 (v:=J s1) rfl;have d0:=En.Qaa e3 0 (v:=J ⟨#[]⟩) rfl;have d1:=En.Qaa e3 1 (v:=J ⟨#[]⟩) rfl;have g0:=En.Qad e3 0;have g1:=En.Qad e3 1;replace u:=u.trans (k3.mono u.size);clear e2 n_r k3;go_wp2_with fail
  have s_r:(((v1.alloc (Jc #[J s0,J s1] 42)).setCell ⟨w.heap.size+1+1,0,none⟩ (J s0)).setCell ⟨w.heap.size+1+1,1,none⟩ (J s1)).heap[w.heap.size+1+1]? = some (Jc #[J s0,J s1] 42 (0,0)):=by
   have:=Qbo (Qbo e3 0 (J s0)) 1 (J s1);simpa using this
  have r0:=En.Qaa s_r 0 (v:=J s0) rfl;have r1:=En.Qaa s_r 1 (v:=J s1) rfl;have u2:=(u.setCell (show w.heap.size≤(⟨w.heap.size+1+1,0,none⟩:Addr).block from by simp only;omega) (J s0)).setCell (show w.heap.size≤(⟨w.heap.size+1+1,1,none⟩:Addr).block from by simp only;omega) (J s1);exact bodyPost_ret (v:=.tuple #[.agg #[J s0,J s1],.bool true]) (by simp [results,Tryz.results26, go_sem,r0,r1]) rfl ⟨u2,fun r' h=>(by cases h;obtain ⟨q,hq,hp⟩:=hv;cases hq;rw [hp]),fun h=>(by cases h)⟩
structure KP where
 P:World→Prop
 k:∀ W W',P W→Below W.heap.size W W'→P W'
def Ks (l:List KP) (W:World):Prop:=∀ x∈l,x.P W
theorem Ks.keep {l:List KP} {W W':World} (h:Ks l W) (hB:Below W.heap.size W W'):Ks l W':=fun x hx=>x.k W W' (h x hx) hB
theorem Ks.add {l:List KP} {W:World} (h:Ks l W) (x:KP) (hx:x.P W):Ks (x :: l) W:=fun y hy=>by
 rcases List.mem_cons.1 hy with rfl | hy
 ·exact hx
 ·exact h y hy
theorem Ks.nil (W:World):Ks [] W:=fun _ h=>by cases h
theorem Sh.kp {l:List KP} {W V:World} (h:Sh (Ks l W)) (g:Below W.heap.size W V):Sh (Ks l V):=⟨h.o.keep g⟩
theorem Sh.ad {l:List KP} {W:World} (h:Sh (Ks l W)) (x:KP) (hx:x.P W):Sh (Ks (x::l) W):=⟨h.o.add x hx⟩
def kEl (v:Value) (l:List Rat):KP:=⟨fun W=>El W v l,fun _ _ h hB=>h.keep hB⟩
def kTw (v:Value) (L:List (List Rat)):KP:=⟨fun W=>TwAt W v L,fun _ _ h hB=>h.keep hB⟩
def kBx (b:Nat) (o:Obj):KP:=⟨fun W=>W.heap[b]? = some o,fun _ _ h hB=>En.Qac h hB⟩
def kGl:KP:=⟨Gl,fun _ _ h hB=>h.keep hB⟩
def kRef (a:Addr):KP:=⟨Ref a,fun _ _ h hB=>h.keep hB⟩
def Say (f:Nat) (args:Array Value) (v:Value) (W:World):Prop:=Calls Tryz.prog f args W fun e W'=>e = .returned v∧Below W.heap.size W W'
theorem Say.run {f:Nat} {args:Array Value} {v:Value} {W:World} (h:Say f args v W):Calls Tryz.prog f args W fun e W'=>e = .returned v∧Below W.heap.size W W':=h
def SayE (f:Nat) (args:Array Value) (l:List Rat) (W:World):Prop:=Calls Tryz.prog f args W fun e W'=>(∃ v,e = .returned (.tuple #[v,.int .i64 0])∧El W' v l)∧Below W.heap.size W W'
theorem SayE.run {f:Nat} {args:Array Value} {l:List Rat} {W:World} (h:SayE f args l W):Calls Tryz.prog f args W fun e W'=>(∃ v,e = .returned (.tuple #[v,.int .i64 0])∧El W' v l)∧Below W.heap.size W W':=h
def SayT (f:Nat) (args:Array Value) (L:List (List Rat)) (W:World):Prop:=Calls Tryz.prog f args W fun e W'=>(∃ v,e = .returned (.tuple #[.agg #[v],.int .i64 0])∧TwAt W' (.agg #[v]) L)∧Below W.heap.size W W'
theorem SayT.run {f:Nat} {args:Array Value} {L:List (List Rat)} {W:World} (h:SayT f args L W):Calls Tryz.prog f args W fun e W'=>(∃ v,e = .returned (.tuple #[.agg #[v],.int .i64 0])∧TwAt W' (.agg #[v]) L)∧Below W.heap.size W W':=h
theorem AnsA.sayE {O:Option (List Rat)} {z:Value} {f:Nat} {args:Array Value} {W:World} (h:Calls Tryz.prog f args W (AnsA (O≠none) (IsE O) z W)) {l:List Rat} (hO:O=some l):SayE f args l W:=h.mono fun e W' h=>by
 obtain ⟨v,h1,l',h2,h3⟩:=h.good (by rw [hO];simp);rw [hO] at h2;cases h2;exact ⟨⟨v,h1,h3⟩,h.below⟩
theorem AnsA.sayI {O:Option Int} {z:Value} {f:Nat} {args:Array Value} {W:World} (h:Calls Tryz.prog f args W (AnsA (O≠none) (IsI O) z W)) {s:Int} (hO:O=some s):Say f args (.tuple #[.int .i64 s,.int .i64 0]) W:=h.mono fun e W' h=>by
 obtain ⟨v,h1,s',h2,h3⟩:=h.good (by rw [hO];simp);rw [hO] at h2;cases h2;exact ⟨by rw [h1,h3],h.below⟩
theorem AnsA.sayQ {O:Option (Rat×Rat)} {z:Value} {f:Nat} {args:Array Value} {W:World} (h:Calls Tryz.prog f args W (AnsA (O≠none) (IsV O) z W)) {s:Rat×Rat} (hO:O=some s):Say f args (.tuple #[ivS s,.int .i64 0]) W:=h.mono fun e W' h=>by
 obtain ⟨v,h1,s',h2,h3⟩:=h.good (by rw [hO];simp);rw [hO] at h2;cases h2;exact ⟨by rw [h1,h3],h.below⟩
theorem AnsA.sayT {O:Option (List (List Rat))} {z:Value} {f:Nat} {args:Array Value} {W:World} (h:Calls Tryz.prog f args W (AnsA (O≠none) (fun W v=>∃ l,O=some l∧TwAt W v l) z W)) {L:List (List Rat)} (hO:O=some L):SayT f args L W:=h.mono fun e W' h=>by
 obtain ⟨v,h1,l',h2,h3⟩:=h.good (by rw [hO];simp);rw [hO] at h2;cases h2;obtain ⟨p,cap,rfl,_⟩:=h3.ex;exact ⟨⟨_,h1,h3⟩,h.below⟩
theorem AnsA.sayN {T:Type} {O:Option T} {R:World→Value→Prop} {z:Value} {f:Nat} {args:Array Value} {W:World} (h:Calls Tryz.prog f args W (AnsA (O≠none) R z W)) (hO:O=none):Say f args (.tuple #[z,.int .i64 60]) W:=h.mono fun _ _ h=>⟨h.bad (fun k=>k hO),h.below⟩
def fitC (x:List Rat):Bool:=x.all fun q=>fz q.num && fz (q.den:Int)
theorem Qda {x:List Rat} (h:fitC x=true):FitL x:=fun q hq=>by
 have:=List.all_eq_true.1 h q hq;rw [Bool.and_eq_true] at this;exact ⟨fz_iff.1 this.1,fz_iff.1 this.2⟩
def QvS (L:List (List Rat)):Bool:=L.all fun x=>fitC x && decide (x.length≤1000)
theorem Qck {L:List (List Rat)} (h:QvS L=true):FitT L:=fun x hx=>by
 have:=List.all_eq_true.1 h x hx;rw [Bool.and_eq_true] at this;exact ⟨Qda this.1,of_decide_eq_true this.2⟩
def Qve (rs:List (List Rat)) (x:List Rat):Option (List (List Rat)):=if (decide (rs.length<4) && (decide (x.length=2^rs.length) && (Qdm rs x == some 1)))=true then some (x :: rs).reverse else none
open Classical in
theorem QrE (rs:List (List Rat)) (x:List Rat):extO rs x=Qve rs x:=by
 rw [extO,Qve];exact QdP (by rw [Adj,Bool.and_eq_true,Bool.and_eq_true,decide_eq_true_iff,decide_eq_true_iff,beq_iff_eq,QdQ]) _ _
theorem Qvf {W:World} (hg:Gl W) {t v:Value} (ht:TwAt W t [[2]]) (ex:El W v [3,2]):SayT 23 #[t,v] [[2], [3,2]] W :=
 AnsA.sayT (Qlk (Qck (by decide +kernel)) (by decide) (by decide) (Qda (by decide +kernel)) W hg ht ex) (by rw [QgS _ _ _ (fun rs=>QrE rs _)];decide +kernel)
theorem QrF {W:World} (hg:Gl W) {t v:Value} (ht:TwAt W t [[2]]) (ex:El W v [1, -1]):Say 23 #[t,v] (.tuple #[.agg #[.slice none 0 0],.int .i64 60]) W :=
 AnsA.sayN (Qlk (Qck (by decide +kernel)) (by decide) (by decide) (Qda (by decide +kernel)) W hg ht ex) (by rw [QgS _ _ _ (fun rs=>QrE rs _)];decide +kernel)
theorem Qtt {W:World} (hg:Gl W) {t v:Value} (ht:TwAt W t [[2]]) (ex:El W v [3, -2]):Say 16 #[t,v] (.tuple #[.int .i64 1,.int .i64 0]) W :=
 AnsA.sayI (QeV (Qck (by decide +kernel)) (by decide) (by decide) (Qda (by decide +kernel)) W hg ht ex) (by rw [QgS _ _ (fun rs=>chk rs _ (Qdm rs _)) (fun rs=>by rw [QdQ])];decide +kernel)
theorem Qtu {W:World} (hg:Gl W) {t v:Value} (ht:TwAt W t [[2]]) (ex:El W v [1, -1]):Say 16 #[t,v] (.tuple #[.int .i64 (-1),.int .i64 0]) W :=
 AnsA.sayI (QeV (Qck (by decide +kernel)) (by decide) (by decide) (Qda (by decide +kernel)) W hg ht ex) (by rw [QgS _ _ (fun rs=>chk rs _ (Qdm rs _)) (fun rs=>by rw [QdQ])];decide +kernel)
theorem Qtv {W:World} (hg:Gl W) {t v:Value} (ht:TwAt W t [[2], [3,2]]) (ex:El W v [1,1, -1,0]):Say 16 #[t,v] (.tuple #[.int .i64 0,.int .i64 0]) W :=
 AnsA.sayI (QeV (Qck (by decide +kernel)) (by decide) (by decide) (Qda (by decide +kernel)) W hg ht ex) (by rw [QgS _ _ (fun rs=>chk rs _ (Qdm rs _)) (fun rs=>by rw [QdQ])];decide +kernel)
theorem QvT {W:World} (hg:Gl W) {t v v':Value} (ht:TwAt W t [[2]]) (ex:El W v [1,1]) (ey:El W v' [1, -1]):SayE 12 #[t,v,v'] [-1,0] W :=
 AnsA.sayE (Qin (Qck (by decide +kernel)) (by decide) (by decide) (by decide) (Qda (by decide +kernel)) (Qda (by decide +kernel)) W hg ht ex ey) (by rw [QgS _ _ (fun rs=>chk2 rs _ _ (QeY rs _ _)) (fun rs=>by rw [Qln])];decide +kernel)
theorem Qvg {W:World} (hg:Gl W) {t v:Value} (ht:TwAt W t [[2]]) (ex:El W v [1,1]):SayE 17 #[t,v] [-1,1] W :=
 AnsA.sayE (Qjn (Qck (by decide +kernel)) (by decide) (by decide) (Qda (by decide +kernel)) W hg ht ex) (by rw [QgS _ _ (fun rs=>chk rs _ (QqN rs _)) (fun rs=>by rw [QrC])];decide +kernel)
theorem Qvh {W:World} (hg:Gl W) {t v:Value} (ht:TwAt W t [[2], [3,2]]) (ex:El W v [1,1,1,0]):SayE 17 #[t,v] [-1 / 2,1 / 2,0,0] W :=
 AnsA.sayE (Qjn (Qck (by decide +kernel)) (by decide) (by decide) (Qda (by decide +kernel)) W hg ht ex) (by rw [QgS _ _ (fun rs=>chk rs _ (QqN rs _)) (fun rs=>by rw [QrC])];decide +kernel)
theorem QvU {W:World} (hg:Gl W) {t v:Value} (ht:TwAt W t [[2], [3,2]]) (ex:El W v [5]):SayE 25 #[t,v] [5,0,0,0] W :=
 AnsA.sayE (QoR (Qck (by decide +kernel)) (by decide) (by decide) (Qda (by decide +kernel)) W hg ht ex) (by rw [QgS _ _ (fun rs=>embO rs _) (fun _=>rfl)];decide +kernel)
theorem Qvi {W:World} (hg:Gl W) {t v:Value} (ht:TwAt W t [[2], [3,2]]) (ex:El W v [1,2,3]):Say 25 #[t,v] (.tuple #[.slice none 0 0,.int .i64 60]) W :=
 AnsA.sayN (QoR (Qck (by decide +kernel)) (by decide) (by decide) (Qda (by decide +kernel)) W hg ht ex) (by rw [QgS _ _ (fun rs=>embO rs _) (fun _=>rfl)];decide +kernel)
theorem Qvj {W:World} (hg:Gl W) {t v:Value} (ht:TwAt W t [[2], [3,2]]) (ex:El W v [7,0,0,0]):Say 26 #[t,v] (.tuple #[.agg #[J ⟨#[55]⟩,J ⟨#[49]⟩],.bool true]) W :=
 (QmJ (Qck (by decide +kernel)) (by decide) (by decide) (Qda (by decide +kernel)) W hg ht ex).mono fun e W' h=>by
  have:=h.good 7 (by rw [QgS _ _ (fun rs=>chk rs _ (ratE _)) (fun _=>rfl)];decide +kernel);rw [this,show pq 7=(⟨#[55]⟩,⟨#[49]⟩) by decide +kernel];exact ⟨rfl,h.below⟩
theorem Qtw {W:World} (hg:Gl W) {t:Value} (ht:TwAt W t [[2], [3,2]]):Say 33 #[t] (.bool true) W :=
 (Qts (Qck (by decide +kernel)) (by decide) W hg ht).mono fun e W' h=>by
  rw [h.1,QfP,show (QgR [] [[2], [3,2]]).isSome=true by decide +kernel];exact ⟨rfl,h.2⟩
theorem QoY (p:Option Addr) (n c:Nat) (W:World):Say 21 #[.agg #[.slice p n c]] (.int .i64 (n:Int)) W:=by
 have u:=(Below.refl W.heap.size W).alloc Lr (Jc #[.slice p n c] 28);show Calls _ _ _ _ _;go_enter Tryz.func21, Tryz.ntmps21;go_wp2_with fail;go_ret;exact ⟨rfl,u⟩
def Qtx (p:Rat) (c:Nat):Option Rat:=if fz (p.num*10^c)=true then some (Rat.divInt (p.num*10^c / p.den) (10^c)) else none
theorem Qty:QjP=Qtx:=by
 funext p c
 rw [QjP,Qtx];exact QdP fz_iff.symm _ _
def upC (p:Rat) (c:Nat):Option Rat:=if (fz (p.num*10^c) && fz (upI (p.num*10^c) p.den))=true then some (Rat.divInt (upI (p.num*10^c) p.den) (10^c)) else none
theorem QvV:upQ=upC:=by
 funext p c
 rw [upQ,upC];exact QdP (by rw [Bool.and_eq_true,fz_iff,fz_iff]) _ _
def rdC (c:Nat) (P:Rat×Rat):Option (Rat×Rat):=Qjc (Qtx P.1 c) (upC P.2 c)
theorem Qvk:rdO=rdC:=by
 funext c P
 rw [rdO,rdC,Qty,QvV]
abbrev q1:Rat:=Rat.divInt 1414213562373 (10^12)
abbrev q2:Rat:=Rat.divInt 1414213562374 (10^12)
theorem Qvl {n k:Nat} (h1:k*k≤n) (h2:n<(k+1)*(k+1)):sqr n=k:=by
 obtain ⟨a,b⟩:=QbJ n;have l1:¬ sqr n<k:=fun h=>absurd (Nat.lt_of_lt_of_le b (Nat.le_trans (Nat.mul_le_mul h h) h1)) (Nat.lt_irrefl _);have l2:¬ k<sqr n:=fun h=>absurd (Nat.lt_of_lt_of_le h2 (Nat.le_trans (Nat.mul_le_mul h h) a)) (Nat.lt_irrefl _);omega
theorem Qvm:sqO 12 (2,2)=some (q1,q2):=by
 have h:¬(NoRt 2 12∨NoRt 2 12):=by
  have:¬ NoRt 2 12:=fun h=>h.elim (fun h=>absurd h (by decide +kernel)) (fun h=>h (fz_iff.1 (by decide +kernel)));exact fun h=>h.elim this this
 rw [sqO,if_neg h];have h0:(sqN 2 12).natAbs=2*10^24:=by decide +kernel
 have h1:rtN 2 12=1414213562373:=by rw [rtN,h0];exact Qvl (by decide +kernel) (by decide +kernel)
 have h2:upN 2 12=1414213562374:=by rw [upN,exN,h1];decide +kernel
 show some (Rat.divInt ((rtN 2 12:Nat):Int) (10^12),Rat.divInt (upN 2 12) (10^12))=_;rw [h1,h2];rfl
theorem Qvn:muO (1,1) (q1,q2)=some (q1,q2):=by
 have e1:mulQ 1 q1=some q1:=by rw [QoV];decide +kernel
 have e2:mulQ 1 q2=some q2:=by rw [QoV];decide +kernel
 have l:q1≤q2:=by decide +kernel
 refine QuI (.inr ⟨1,q1,1,q2,q1,q2,.inl rfl,.inl rfl,.inl rfl,.inr rfl,e1,e2,fun u v hu hv => ?_,rfl⟩);have hu1:u=1:=hu.elim id id;subst hu1;rcases hv with rfl | rfl
 ·exact ⟨_,e1,Rat.le_refl,l⟩
 ·exact ⟨_,e2,l,Rat.le_refl⟩
theorem Qtz:ovr [[2]] (fun rs=>QdO rs [0,1] 2)=some (141 / 100,142 / 100):=by
 have hf:Qam [] [[2]]=some [[2]]:=by rw [QfP];decide +kernel
 have e:encO [[2]] 12 [0,1]=some (q1,q2):=by
  have h1:encO [] 12 [2]=some (2,2):=rfl;have h2:encO [] 12 (hr [0,1])=some (1,1):=rfl;have h3:encO [] 12 (hl [0,1])=some (0,0):=rfl;have h4:adO (0,0) (q1,q2)=some (q1,q2):=by rw [adO,Qlm];decide +kernel
  have h5:rdO 12 (q1,q2)=some (q1,q2):=by rw [Qvk];decide +kernel
  rw [encO,h1,Option.bind_some,Qvm,Option.bind_some,h2,Option.bind_some,Qvn,Option.bind_some,h3,Option.bind_some,h4,Option.bind_some,h5]
 rw [QaA hf,QdO,if_pos (by decide),chk,if_pos (by decide)];show (encO [[2]] 12 [0,1]).bind (rdO 2)=_;rw [e,Option.bind_some,Qvk];decide +kernel
theorem Qvo (a:Addr) {W:World} (hg:Gl W) (hv:Ref a W) {t v:Value} (ht:TwAt W t [[2]]) (ex:El W v [0,1]):Say 28 #[t,v,.int .i64 2] (.tuple #[.agg #[J ⟨#[49,52,49]⟩,J ⟨#[49,48,48]⟩,J ⟨#[55,49]⟩,J ⟨#[53,48]⟩],.int .i64 0]) W:=by
 have:=AnsA.sayQ (QoU a (Qck (by decide +kernel)) (by decide) (by decide) (Qda (by decide +kernel)) 2 W hg hv ht ex) Qtz
 have e:ivS (141 / 100,142 / 100) = .agg #[J ⟨#[49,52,49]⟩,J ⟨#[49,48,48]⟩,J ⟨#[55,49]⟩,J ⟨#[53,48]⟩]:=by
  have h1:txt (141 / 100:Rat).num=⟨#[49,52,49]⟩:=by decide +kernel
  have h2:txt ((141 / 100:Rat).den:Int)=⟨#[49,48,48]⟩:=by decide +kernel
  have h3:txt (142 / 100:Rat).num=⟨#[55,49]⟩:=by decide +kernel
  have h4:txt ((142 / 100:Rat).den:Int)=⟨#[53,48]⟩:=by decide +kernel
  show Value.agg #[J (txt (141 / 100:Rat).num),J (txt ((141 / 100:Rat).den:Int)),J (txt (142 / 100:Rat).num),J (txt ((142 / 100:Rat).den:Int))]=_;rw [h1,h2,h3,h4]
 rw [e] at this;exact this
theorem D0 {w:World}:Below w.heap.size w w.drew:=QaS (Below.refl _ _)
theorem D1 {w:World} {o:Obj}:Below w.heap.size w (w.alloc o).drew:=QaS ((Below.refl _ _).alloc Lr _)
theorem D2 {w:World} {o p:Obj}:Below w.heap.size w ((w.alloc o).alloc p).drew:=QaS (((Below.refl _ _).alloc Lr _).alloc (by simp) _)
theorem dK1 {W x:World} {o:Obj} (g:Below (W.alloc o).drew.heap.size (W.alloc o).drew x):Below W.heap.size W x:=((Below.refl W.heap.size W).alloc Lr o).trans ((Qah g).mono (by first | (simp;done) | (simp;omega)))
theorem dK2 {W x:World} {o p:Obj} (g:Below ((W.alloc o).alloc p).drew.heap.size ((W.alloc o).alloc p).drew x):Below W.heap.size W x:=(((Below.refl W.heap.size W).alloc Lr o).alloc (by simp) p).trans ((Qah g).mono (by first | (simp;done) | (simp;omega)))
theorem Ks.alloc {l:List KP} {W:World} (h:Ks l W) (o:Obj):Ks l (W.alloc o):=h.keep ((Below.refl _ _).alloc Lr o)
theorem Ks.drew {l:List KP} {W:World} (h:Ks l W):Ks l W.drew:=h.keep (QaS (Below.refl _ _))
theorem QtA {V:World} {b:Nat} {l:List Int} (h:V.heap[b]? = some (.cells (l.map fun z=>Value.int .i64 z).toArray 3 (0,0))):Ints V b 0 l:=⟨fun i hi=>by
 rw [Nat.zero_add];refine En.Qaa h i ?_;rw [List.getElem?_toArray,List.getElem?_map,List.getElem?_eq_getElem hi,List.getD_eq_getElem?_getD,List.getElem?_eq_getElem hi];rfl⟩
theorem Qbq (l:List Int) (m:List Rat) (n:Nat) (hm:ratI l=m) (hln:l.length=n) (hl:(decide (0<l.length) && (decide (l.length≤100) && l.all fun z=>decide (z.natAbs≤1000000)))=true) {V:World} {b:Nat} (c:Nat) (h:V.heap[b]? = some (.cells (l.map fun z=>Value.int .i64 z).toArray 3 (0,0))) :
  Calls Tryz.prog 32 #[.slice (some ⟨b,0,none⟩) n c] V fun e W'=>(∃ v,e = .returned v∧El W' v m)∧Below V.heap.size V W':=by
 rw [Bool.and_eq_true,Bool.and_eq_true] at hl;rw [←hm,←hln];refine QoW l (of_decide_eq_true hl.1) (of_decide_eq_true hl.2.1) (fun i hi => ?_) b 0 c V (QtA h);have:=List.all_eq_true.1 hl.2.2 l[i] (List.getElem_mem hi);rw [List.getD_eq_getElem?_getD,List.getElem?_eq_getElem hi];exact of_decide_eq_true this
theorem QfQ {W:World} {l m:List Rat} {vx vy:Value} (hx:El W vx l) (hy:El W vy m) (h:(decide (l=m) && decide (l.length≤1000))=true):Say 15 #[vx,vy] (.bool true) W:=by
 rw [Bool.and_eq_true] at h;have:=QrD (of_decide_eq_true h.2) W hx hy;rw [h.1] at this;exact this
theorem Qfw (n d:Int) (s t:ByteArray) (h:pq (Rat.divInt n d)=(s,t)) (hn:n.natAbs≤1000000000000000) (hd:d.natAbs≤1000000000000000) (d0:d≠0) (W:World):Say 19 #[.int .i64 n,.int .i64 d] (frc s t) W:=by
 have:=of_q n d hn hd d0 W;rw [h] at this;exact this
theorem TwAt.set {W:World} {v:Value} {L:List (List Rat)} (h:TwAt W v L) {g:Nat} (y:Value) (hg:W.cell? ⟨g,0,none⟩=some (.slice none 0 0)):TwAt (W.setCell ⟨g,0,none⟩ y) v L:=by
 obtain ⟨p,cap,e,h⟩:=h.ex;refine ⟨p,cap,e, ?_⟩
 have hne:∀ (b i:Nat) (x:Value),W.cell? ⟨b,i,none⟩=some x→x ≠ .slice none 0 0→(W.setCell ⟨g,0,none⟩ y).cell? ⟨b,i,none⟩=some x:=fun b i x hx hn =>
  (World.cell?_setCell_other W ⟨g,0,none⟩ ⟨b,i,none⟩ y (fun e=>by rw [e,hx] at hg;injection hg with hg;exact hn hg)).trans hx
 rcases h with h | ⟨bt,ot,e,h⟩
 ·exact .inl h
 ·refine .inr ⟨bt,ot,e,fun i x hx => ?_⟩;obtain ⟨vi,h1,b,o,cp,rfl,h2,h3⟩:=h i x hx;refine ⟨_,hne _ _ _ h1 (by intro e;injection e with e;cases e),b,o,cp,rfl,h2,⟨fun j hj=>⟨hne _ _ _ (h3.at_ j hj).1 (by intro e;cases e),hne _ _ _ (h3.at_ j hj).2 (by intro e;cases e)⟩⟩⟩
end Tw
end
end Go.Proofs.YtadcmepaniiciaaGreatDoor
