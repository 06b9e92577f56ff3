import Derived.Test.YtihlgifojjeoaaaGreatDoorZ8L
import Derived.Test.YtihlgifojjeoaaaGreatDoorZ8G5
import Derived.Test.YtihlgifojjeoaaaGreatDoorZ8G4
import Derived.Test.YtihlgifojjeoaaaGreatDoorZ8G6
import Derived.Deep.RegionHeld
set_option maxRecDepth 1000000
set_option maxHeartbeats 40000000
open Go.Value renaming string→J
open Go.Obj renaming cells→Jc
namespace Go.Proofs.YtihlgifojjeoaaaGreatDoor
section
namespace Tw
open Go.RowKit Go.Extern.Stop Go.Stop Go.Extern
open En Go.Proofs.YtihlgifojjeoaaaGreatDoor.Nm Go.Proofs.YtihlgifojjeoaaaGreatDoor.Rt
theorem QqR (f:Value) (w:World):Calls Tryz.prog 86 #[f] w (AnsC True (fun _ v=>v = .bool true) w):=by
 go_enter Tryz.func86, Tryz.ntmps86;go_wp2_with fail;go_ret;exact ⟨Below.refl _ _,fun _=>⟨_,rfl,rfl⟩,fun h=>absurd trivial h⟩
theorem Qts {L:List (List Rat)} (hL:FitT L) (hn:L.length≤1000) {t:Value} (w:World) (hg:Gl w) (ht:TwAt w t L) :
  Calls Tryz.prog 33 #[t] w fun e w'=>e = .returned (.bool (Qam [] L).isSome)∧Below w.heap.size w w':=by
 have HT:Sh _:=⟨ht⟩;obtain ⟨p,cap,rfl,h⟩:=ht.ex;clear h ht;have u:=(Below.refl w.heap.size w).alloc Lr (Jc #[.slice p L.length cap] 28);have n_t:(w.alloc (Jc #[.slice p L.length cap] 28)).heap[w.heap.size]? = _:=World.alloc_heap_new w _;have t0:=En.Qaa n_t 0 (v:=.slice p L.length cap) rfl;obtain ⟨O,hO⟩:∃ O,O=Qam [] L:=⟨_,rfl⟩;rw [←hO];have HO:Sh _:=⟨hO⟩;clear hO;go_enter Tryz.func33, Tryz.ntmps33;go_wp2_with fail;generalize (w.alloc (Jc #[.slice p L.length cap] 28))=W0 at *
 have cA:=Qkj 86 #[] (enters_of Tryz.func86 (by kernel_rfl) rfl) hL hn (O≠none) (fun _ v=>v = .bool true) W0 (hg.keep u) (HT.o.keep u) (by rw [HO.o];exact fun h q=>q h)
  (fun rs hrs W f hB hf=>(QqR f W).mono fun e w' h=>⟨h.below,fun _=>h.good trivial,fun q=>absurd (by rw [HO.o,hrs];exact fun q=>by cases q) q⟩)
 refine cA.mono ?_;intro e v1 h1;replace u:=u.trans (h1.below.mono u.size);clear HT HO n_t t0 cA;cases O with
 | none =>
  obtain rfl:=h1.bad (fun h=>h rfl);clear h1;go_wp2_with fail;go_ret;exact ⟨rfl,u⟩
 | some s =>
  obtain ⟨v,rfl,rfl⟩:=h1.good (fun q=>by cases q);clear h1;go_wp2_with fail;go_ret;exact ⟨rfl,u⟩
def ratE (x:List Rat):Option Rat:=if QbQ x.tail then some (x.headD 0) else none
abbrev IsQ (o:Option Rat) (a b:ByteArray):Prop:=∃ r,o=some r∧pq r=(a,b)
theorem Qvd {rs:List (List Rat)} (hk:rs.length≤4) {x:List Rat} (hn:x.length≤1000) (fx:FitL x) {f vx:Value} (pa:Addr) (w:World) (hg:Gl w) (hf:Fd w f rs) (ha:w.cell? pa=some vx) (ex:El w vx x) :
  Calls Tryz.prog 63 #[f,.pointer (some pa)] w (AnsC (chk rs x (ratE x)≠none) (fun _ v=>∃ a b,v = .agg #[J a,J b]∧IsQ (chk rs x (ratE x)) a b) w):=by
 have ua:=(Below.refl w.heap.size w).alloc Lr (Jc #[J ⟨#[]⟩,J ⟨#[]⟩] 42);have n_r:(w.alloc (Jc #[J ⟨#[]⟩,J ⟨#[]⟩] 42)).heap[w.heap.size]? = _:=World.alloc_heap_new w _;replace ha:=Qae ha ua;replace hg:=hg.keep ua;replace hf:=Fd.keep ua hf;replace ex:=ex.keep ua;have cC:=Qbw hk hn fx _ hf ex;obtain ⟨O,hO⟩:∃ O,O=chk rs x (ratE x):=⟨_,rfl⟩;rw [←hO];have HO:Sh _:=⟨hO⟩;have HG:Sh _:=⟨hg⟩;have HX:Sh _:=⟨ex⟩;clear hO hg hf ex;go_enter Tryz.func63, Tryz.ntmps63;go_wp2_with fail;generalize (w.alloc (Jc #[J ⟨#[]⟩,J ⟨#[]⟩] 42))=W0 at *
 refine cC.mono ?_;intro e v1 h1;have u:=ua.trans (h1.below.mono ua.size);by_cases hl:x.length=2^rs.length
 ·obtain rfl:=h1.good hl;have g1:=HG.o.keep h1.below;have e1:=HX.o.keep h1.below;replace ha:=Qae ha h1.below;replace n_r:=En.Qac n_r h1.below;have ho:O=ratE x:=by rw [HO.o,chk,if_pos hl]
  have hp:=QbG hk;rw [←hl] at hp;clear h1 cC HG HX HO hl ua;cases x with
  | nil=>simp at hp
  | cons q xs =>
   obtain ⟨b,o,cap,rfl,hc,hx⟩:=e1.ex;have hn2:xs.length+1≤16:=hp.2
   have cZ0:cap=1→Calls Tryz.prog 64 #[.slice (some ⟨b,o,none⟩) xs.length 0] v1 fun e w'=>e = .returned (.bool (QbQ xs))∧Below v1.heap.size v1 w':=fun h=>by
    have hc':xs.length+1≤cap:=hc;have hm:xs.length=0:=by omega
    have:=Qcg xs.length b o 0 (by omega) (pqs xs) v1 g1 ⟨fun i hi=>by omega⟩
    rwa [Qld xs xs.length Lr,List.take_length] at this
   have cZ:=Qcg xs.length b (o+2) (cap-1) (by omega) (pqs xs) v1 g1 ⟨fun i hi=>by
    have:=hx.at_ (i+1) (by simp;omega);rw [show o+(i+1)*2=o+2+i*2 by omega] at this;simpa [pqs] using this⟩
   rw [Qld xs xs.length Lr,List.take_length] at cZ;replace cZ:Calls Tryz.prog 64 #[.slice (some ⟨b,o+2,none⟩) xs.length (cap-1)] v1 fun e w'=>e = .returned (.bool (QbQ xs))∧Below v1.heap.size v1 w':=cZ;obtain ⟨q0,q1⟩:=hx.at_ 0 (by simp);have HQ:Sh (O=if QbQ xs=true then some q else none):=⟨ho⟩;have HS:Sh (pq q=((pqs (q :: xs) 0).1,(pqs (q :: xs) 0).2)):=⟨rfl⟩;generalize (pqs (q :: xs) 0).1=s0 at *
   generalize (pqs (q :: xs) 0).2=s1 at *
   rw [Nat.zero_mul] at q0 q1;simp only [Nat.add_zero,List.length_cons] at q0 q1 hc ha hn ⊢;clear e1 hx fx ho g1;generalize QbQ xs=Z at *
   generalize xs.length=m at *
   by_cases hcap:cap=1
   ·subst hcap;replace cZ:=cZ0 rfl;obtain rfl:m=0:=by omega
    clear cZ0;go_wp2_with fail;refine cZ.mono ?_;rintro e v2 ⟨rfl,g2⟩;have u:=u.trans (g2.mono u.size);have ha:=Qae ha g2;have n_r:=En.Qac n_r g2;have q0:=Qae q0 g2;have q1:=Qae q1 g2;clear g2 cZ;cases Z with
    | false =>
     have hr:=QaV v2;have ho:Sh (O=none):=⟨HQ.o.trans (if_neg (by decide))⟩;clear HQ;go_wp2_with fail;refine hr.mono ?_;rintro e w' ⟨rfl,rfl⟩;exact ⟨rfl,u,fun h=>absurd ho.o h,fun _=>rfl⟩
    | true =>
     have hr:=Qbb v2;have ho:Sh (O=some q):=⟨HQ.o.trans (if_pos rfl)⟩;clear HQ;go_wp2_with fail;refine hr.mono ?_;rintro e w' ⟨rfl,rfl⟩;clear hr;have d0:=En.Qaa n_r 0 (v:=J ⟨#[]⟩) rfl;have d1:=En.Qaa n_r 1 (v:=J ⟨#[]⟩) rfl;have g0:=En.Qad n_r 0;have g1:=En.Qad n_r 1;go_wp2_with fail
     have s_r:((w'.setCell ⟨w.heap.size,0,none⟩ (J s0)).setCell ⟨w.heap.size,1,none⟩ (J s1)).heap[w.heap.size]? = some (Jc #[J s0,J s1] 42 (0,0)):=by
      have:=Qbo (Qbo n_r 0 (J s0)) 1 (J s1);simpa using this
     have r0:=En.Qaa s_r 0 (v:=J s0) rfl;have r1:=En.Qaa s_r 1 (v:=J s1) rfl;have u2:=(u.setCell (show w.heap.size≤(⟨w.heap.size,0,none⟩:Addr).block from Nat.le_refl _) (J s0)).setCell (show w.heap.size≤(⟨w.heap.size,1,none⟩:Addr).block from Nat.le_refl _) (J s1);exact bodyPost_ret (v:=.agg #[J s0,J s1]) (by simp [results,Tryz.results63, go_sem,r0,r1]) rfl ⟨u2,fun _=>⟨_,rfl,s0,s1,rfl,q,ho.o,HS.o⟩,fun h=>absurd (fun q'=>by rw [ho.o] at q';cases q') h⟩
   ·clear cZ0;go_wp2_with fail;refine cZ.mono ?_;rintro e v2 ⟨rfl,g2⟩;have u:=u.trans (g2.mono u.size);have ha:=Qae ha g2;have n_r:=En.Qac n_r g2;have q0:=Qae q0 g2;have q1:=Qae q1 g2;clear g2 cZ;cases Z with
    | false =>
     have hr:=QaV v2;have ho:Sh (O=none):=⟨HQ.o.trans (if_neg (by decide))⟩;clear HQ;go_wp2_with fail;refine hr.mono ?_;rintro e w' ⟨rfl,rfl⟩;exact ⟨rfl,u,fun h=>absurd ho.o h,fun _=>rfl⟩
    | true =>
     have hr:=Qbb v2;have ho:Sh (O=some q):=⟨HQ.o.trans (if_pos rfl)⟩;clear HQ;go_wp2_with fail;refine hr.mono ?_;rintro e w' ⟨rfl,rfl⟩;clear hr;have d0:=En.Qaa n_r 0 (v:=J ⟨#[]⟩) rfl;have d1:=En.Qaa n_r 1 (v:=J ⟨#[]⟩) rfl;have g0:=En.Qad n_r 0;have g1:=En.Qad n_r 1;go_wp2_with fail
     have s_r:((w'.setCell ⟨w.heap.size,0,none⟩ (J s0)).setCell ⟨w.heap.size,1,none⟩ (J s1)).heap[w.heap.size]? = some (Jc #[J s0,J s1] 42 (0,0)):=by
      have:=Qbo (Qbo n_r 0 (J s0)) 1 (J s1);simpa using this
     have r0:=En.Qaa s_r 0 (v:=J s0) rfl;have r1:=En.Qaa s_r 1 (v:=J s1) rfl;have u2:=(u.setCell (show w.heap.size≤(⟨w.heap.size,0,none⟩:Addr).block from Nat.le_refl _) (J s0)).setCell (show w.heap.size≤(⟨w.heap.size,1,none⟩:Addr).block from Nat.le_refl _) (J s1);exact bodyPost_ret (v:=.agg #[J s0,J s1]) (by simp [results,Tryz.results63, go_sem,r0,r1]) rfl ⟨u2,fun _=>⟨_,rfl,s0,s1,rfl,q,ho.o,HS.o⟩,fun h=>absurd (fun q'=>by rw [ho.o] at q';cases q') h⟩
 ·obtain rfl:=h1.bad hl;have ho:O=none:=by rw [HO.o,chk,if_neg hl]
  exact ⟨rfl,u,fun h=>absurd ho h,fun _=>rfl⟩
structure AnsR (o:Option Rat) (w:World) (e:Ending) (w':World):Prop where
 below:Below w.heap.size w w'
 good:∀ r,o=some r→e = .returned (.tuple #[.agg #[J (pq r).1,J (pq r).2],.bool true])
 bad:o=none→e = .returned (.tuple #[.agg #[J ⟨#[]⟩,J ⟨#[]⟩],.bool false])
theorem Qjq (v:World) (B:Nat) (s0 s1:ByteArray) (h:v.heap[B]? = some (Jc #[J ⟨#[]⟩,J ⟨#[]⟩] 42 (0,0))) :
  (v.alloc (Jc #[J s0,J s1] 42)).heap[v.heap.size]? = some (Jc #[J s0,J s1] 42 (0,0))∧(v.alloc (Jc #[J s0,J s1] 42)).heap[B]? = some (Jc #[J ⟨#[]⟩,J ⟨#[]⟩] 42 (0,0))∧Below v.heap.size v (v.alloc (Jc #[J s0,J s1] 42)):=by
 have hB:B<v.heap.size:=(Array.getElem?_eq_some_iff.1 h).1;exact ⟨World.alloc_heap_new v _,(Below.heap_alloc v _ B hB).trans h,(Below.refl v.heap.size v).alloc Lr _⟩
theorem QmJ {L:List (List Rat)} (hL:FitT L) (hn:L.length≤1000) {x:List Rat} (hx:x.length≤1000) (fx:FitL x) {t vx:Value} (w:World) (hg:Gl w) (ht:TwAt w t L) (ex:El w vx x) :
  Calls Tryz.prog 26 #[t,vx] w (AnsR (ovr L fun rs=>chk rs x (ratE x)) w):=by
 have hmf:=mkf;have HT:Sh _:=⟨ht⟩;obtain ⟨p,cap,rfl,h⟩:=ht.ex;clear h ht;have HX:Sh _:=⟨ex⟩;obtain ⟨b,o,c,rfl,h1,h2⟩:=ex.ex;clear h1 h2 ex;have u:=(((Below.refl w.heap.size w).alloc Lr (Jc #[.slice p L.length cap] 28)).alloc (by simp) (Jc #[.slice (some ⟨b,o,none⟩) x.length c] 29)).alloc (by simp;omega) (Jc #[J ⟨#[]⟩,J ⟨#[]⟩] 42);obtain ⟨n_t,n_x,n_r⟩:=En.new3 w (Jc #[.slice p L.length cap] 28) (Jc #[.slice (some ⟨b,o,none⟩) x.length c] 29) (Jc #[J ⟨#[]⟩,J ⟨#[]⟩] 42);have t0:=En.Qaa n_t 0 (v:=.slice p L.length cap) rfl;obtain ⟨O,hO⟩:∃ O,O=ovr L (fun rs=>chk rs x (ratE x)):=⟨_,rfl⟩;rw [←hO];have HO:Sh _:=⟨hO⟩;clear hO;go_enter Tryz.func26, Tryz.ntmps26;go_wp2_with fail;generalize (((w.alloc (Jc #[.slice p L.length cap] 28)).alloc (Jc #[.slice (some ⟨b,o,none⟩) x.length c] 29)).alloc (Jc #[J ⟨#[]⟩,J ⟨#[]⟩] 42))=W0 at *
 have cA:=Qkm 63 #[.pointer (some ⟨w.heap.size+1,0,none⟩)] (enters_of Tryz.func63 (by kernel_rfl) rfl) hL hn (O≠none) (IsQ O) W0 (hg.keep u) (HT.o.keep u) (by rw [HO.o];exact Qco)
  (fun rs hrs W f hB hf=>by
   rw [HO.o,QaA hrs];exact Qvd (QbB hrs) hx fx ⟨w.heap.size+1,0,none⟩ W ((hg.keep u).keep hB) hf (En.Qaa (En.Qac n_x hB) 0 rfl) ((HX.o.keep u).keep hB))
 refine cA.mono ?_;intro e v1 h1;replace u:=u.trans (h1.below.mono u.size);replace n_r:=En.Qac n_r h1.below;clear HX HT HO n_t n_x t0 cA;cases O with
 | none =>
  obtain rfl:=h1.bad (fun h=>h rfl);clear h1;obtain ⟨e2,e3,k3⟩:=Qjq v1 (w.heap.size+1+1) ⟨#[]⟩ ⟨#[]⟩ n_r;have b0:=En.Qaa e2 0 (v:=J ⟨#[]⟩) rfl;have b1:=En.Qaa e2 1 (v:=J ⟨#[]⟩) rfl;have d0:=En.Qaa e3 0 (v:=J ⟨#[]⟩) rfl;have d1:=En.Qaa e3 1 (v:=J ⟨#[]⟩) rfl;have g0:=En.Qad e3 0;have g1:=En.Qad e3 1;replace u:=u.trans (k3.mono u.size);clear e2 n_r k3;go_wp2_with fail
  have s_r:(((v1.alloc (Jc #[J ⟨#[]⟩,J ⟨#[]⟩] 42)).setCell ⟨w.heap.size+1+1,0,none⟩ (J ⟨#[]⟩)).setCell ⟨w.heap.size+1+1,1,none⟩ (J ⟨#[]⟩)).heap[w.heap.size+1+1]? = some (Jc #[J ⟨#[]⟩,J ⟨#[]⟩] 42 (0,0)):=by
   have:=Qbo (Qbo e3 0 (J ⟨#[]⟩)) 1 (J ⟨#[]⟩);simpa using this
  have r0:=En.Qaa s_r 0 (v:=J ⟨#[]⟩) rfl;have r1:=En.Qaa s_r 1 (v:=J ⟨#[]⟩) rfl;have u2:=(u.setCell (show w.heap.size≤(⟨w.heap.size+1+1,0,none⟩:Addr).block from by simp only;omega) (J ⟨#[]⟩)).setCell (show w.heap.size≤(⟨w.heap.size+1+1,1,none⟩:Addr).block from by simp only;omega) (J ⟨#[]⟩);exact bodyPost_ret (v:=.tuple #[.agg #[J ⟨#[]⟩,J ⟨#[]⟩],.bool false]) (by simp [results,Tryz.results26, go_sem,r0,r1]) rfl ⟨u2,fun r h=>(by cases h),fun _=>rfl⟩
 | some r =>
  obtain ⟨v,rfl,s0,s1,rfl,hv⟩:=h1.good (fun q=>by cases q);clear h1;obtain ⟨e2,e3,k3⟩:=Qjq v1 (w.heap.size+1+1) s0 s1 n_r;have b0:=En.Qaa e2 0 (v:=J s0) rfl;have b1:=En.Qaa e2 1 (v:=J s1) rfl;have d0:=En.Qaa e3 0 (v:=J ⟨#[]⟩) rfl;have d1:=En.Qaa e3 1 (v:=J ⟨#[]⟩) rfl;have g0:=En.Qad e3 0;have g1:=En.Qad e3 1;replace u:=u.trans (k3.mono u.size);clear e2 n_r k3;go_wp2_with fail
  have s_r:(((v1.alloc (Jc #[J s0,J s1] 42)).setCell ⟨w.heap.size+1+1,0,none⟩ (J s0)).setCell ⟨w.heap.size+1+1,1,none⟩ (J s1)).heap[w.heap.size+1+1]? = some (Jc #[J s0,J s1] 42 (0,0)):=by
   have:=Qbo (Qbo e3 0 (J s0)) 1 (J s1);simpa using this
  have r0:=En.Qaa s_r 0 (v:=J s0) rfl;have r1:=En.Qaa s_r 1 (v:=J s1) rfl;have u2:=(u.setCell (show w.heap.size≤(⟨w.heap.size+1+1,0,none⟩:Addr).block from by simp only;omega) (J s0)).setCell (show w.heap.size≤(⟨w.heap.size+1+1,1,none⟩:Addr).block from by simp only;omega) (J s1);exact bodyPost_ret (v:=.tuple #[.agg #[J s0,J s1],.bool true]) (by simp [results,Tryz.results26, go_sem,r0,r1]) rfl ⟨u2,fun r' h=>(by cases h;obtain ⟨q,hq,hp⟩:=hv;cases hq;rw [hp]),fun h=>(by cases h)⟩
structure KP where
 P:World→Prop
 k:∀ W W',P W→Below W.heap.size W W'→P W'
def Ks (l:List KP) (W:World):Prop:=∀ x∈l,x.P W
theorem Ks.keep {l:List KP} {W W':World} (h:Ks l W) (hB:Below W.heap.size W W'):Ks l W':=fun x hx=>x.k W W' (h x hx) hB
theorem Ks.add {l:List KP} {W:World} (h:Ks l W) (x:KP) (hx:x.P W):Ks (x :: l) W:=fun y hy=>by
 rcases List.mem_cons.1 hy with rfl | hy
 ·exact hx
 ·exact h y hy
theorem Ks.nil (W:World):Ks [] W:=fun _ h=>by cases h
theorem Sh.kp {l:List KP} {W V:World} (h:Sh (Ks l W)) (g:Below W.heap.size W V):Sh (Ks l V):=⟨h.o.keep g⟩
theorem Sh.ad {l:List KP} {W:World} (h:Sh (Ks l W)) (x:KP) (hx:x.P W):Sh (Ks (x::l) W):=⟨h.o.add x hx⟩
def kEl (v:Value) (l:List Rat):KP:=⟨fun W=>El W v l,fun _ _ h hB=>h.keep hB⟩
def kTw (v:Value) (L:List (List Rat)):KP:=⟨fun W=>TwAt W v L,fun _ _ h hB=>h.keep hB⟩
def kBx (b:Nat) (o:Obj):KP:=⟨fun W=>W.heap[b]? = some o,fun _ _ h hB=>En.Qac h hB⟩
def kGl:KP:=⟨Gl,fun _ _ h hB=>h.keep hB⟩
def kRef (a:Addr):KP:=⟨Ref a,fun _ _ h hB=>h.keep hB⟩
def Say (f:Nat) (args:Array Value) (v:Value) (W:World):Prop:=Calls Tryz.prog f args W fun e W'=>e = .returned v∧Below W.heap.size W W'
theorem Say.run {f:Nat} {args:Array Value} {v:Value} {W:World} (h:Say f args v W):Calls Tryz.prog f args W fun e W'=>e = .returned v∧Below W.heap.size W W':=h
def SayE (f:Nat) (args:Array Value) (l:List Rat) (W:World):Prop:=Calls Tryz.prog f args W fun e W'=>(∃ v,e = .returned (.tuple #[v,.int .i64 0])∧El W' v l)∧Below W.heap.size W W'
theorem SayE.run {f:Nat} {args:Array Value} {l:List Rat} {W:World} (h:SayE f args l W):Calls Tryz.prog f args W fun e W'=>(∃ v,e = .returned (.tuple #[v,.int .i64 0])∧El W' v l)∧Below W.heap.size W W':=h
def SayT (f:Nat) (args:Array Value) (L:List (List Rat)) (W:World):Prop:=Calls Tryz.prog f args W fun e W'=>(∃ v,e = .returned (.tuple #[.agg #[v],.int .i64 0])∧TwAt W' (.agg #[v]) L)∧Below W.heap.size W W'
theorem SayT.run {f:Nat} {args:Array Value} {L:List (List Rat)} {W:World} (h:SayT f args L W):Calls Tryz.prog f args W fun e W'=>(∃ v,e = .returned (.tuple #[.agg #[v],.int .i64 0])∧TwAt W' (.agg #[v]) L)∧Below W.heap.size W W':=h
theorem AnsA.sayE {O:Option (List Rat)} {z:Value} {f:Nat} {args:Array Value} {W:World} (h:Calls Tryz.prog f args W (AnsA (O≠none) (IsE O) z W)) {l:List Rat} (hO:O=some l):SayE f args l W:=h.mono fun e W' h=>by
 obtain ⟨v,h1,l',h2,h3⟩:=h.good (by rw [hO];simp);rw [hO] at h2;cases h2;exact ⟨⟨v,h1,h3⟩,h.below⟩
theorem AnsA.sayI {O:Option Int} {z:Value} {f:Nat} {args:Array Value} {W:World} (h:Calls Tryz.prog f args W (AnsA (O≠none) (IsI O) z W)) {s:Int} (hO:O=some s):Say f args (.tuple #[.int .i64 s,.int .i64 0]) W:=h.mono fun e W' h=>by
 obtain ⟨v,h1,s',h2,h3⟩:=h.good (by rw [hO];simp);rw [hO] at h2;cases h2;exact ⟨by rw [h1,h3],h.below⟩
theorem AnsA.sayQ {O:Option (Rat×Rat)} {z:Value} {f:Nat} {args:Array Value} {W:World} (h:Calls Tryz.prog f args W (AnsA (O≠none) (IsV O) z W)) {s:Rat×Rat} (hO:O=some s):Say f args (.tuple #[ivS s,.int .i64 0]) W:=h.mono fun e W' h=>by
 obtain ⟨v,h1,s',h2,h3⟩:=h.good (by rw [hO];simp);rw [hO] at h2;cases h2;exact ⟨by rw [h1,h3],h.below⟩
theorem AnsA.sayT {O:Option (List (List Rat))} {z:Value} {f:Nat} {args:Array Value} {W:World} (h:Calls Tryz.prog f args W (AnsA (O≠none) (fun W v=>∃ l,O=some l∧TwAt W v l) z W)) {L:List (List Rat)} (hO:O=some L):SayT f args L W:=h.mono fun e W' h=>by
 obtain ⟨v,h1,l',h2,h3⟩:=h.good (by rw [hO];simp);rw [hO] at h2;cases h2;obtain ⟨p,cap,rfl,_⟩:=h3.ex;exact ⟨⟨_,h1,h3⟩,h.below⟩
theorem AnsA.sayN {T:Type} {O:Option T} {R:World→Value→Prop} {z:Value} {f:Nat} {args:Array Value} {W:World} (h:Calls Tryz.prog f args W (AnsA (O≠none) R z W)) (hO:O=none):Say f args (.tuple #[z,.int .i64 60]) W:=h.mono fun _ _ h=>⟨h.bad (fun k=>k hO),h.below⟩
def fitC (x:List Rat):Bool:=x.all fun q=>fz q.num && fz (q.den:Int)
theorem Qda {x:List Rat} (h:fitC x=true):FitL x:=fun q hq=>by
 have:=List.all_eq_true.1 h q hq;rw [Bool.and_eq_true] at this;exact ⟨fz_iff.1 this.1,fz_iff.1 this.2⟩
def QvS (L:List (List Rat)):Bool:=L.all fun x=>fitC x && decide (x.length≤1000)
theorem Qck {L:List (List Rat)} (h:QvS L=true):FitT L:=fun x hx=>by
 have:=List.all_eq_true.1 h x hx;rw [Bool.and_eq_true] at this;exact ⟨Qda this.1,of_decide_eq_true this.2⟩
def Qve (rs:List (List Rat)) (x:List Rat):Option (List (List Rat)):=if (decide (rs.length<4) && (decide (x.length=2^rs.length) && (Qdm rs x == some 1)))=true then some (x :: rs).reverse else none
open Classical in
theorem QrE (rs:List (List Rat)) (x:List Rat):extO rs x=Qve rs x:=by
 rw [extO,Qve];exact QdP (by rw [Adj,Bool.and_eq_true,Bool.and_eq_true,decide_eq_true_iff,decide_eq_true_iff,beq_iff_eq,QdQ]) _ _
theorem Qvf {W:World} (hg:Gl W) {t v:Value} (ht:TwAt W t [[2]]) (ex:El W v [3,2]):SayT 23 #[t,v] [[2], [3,2]] W :=
 AnsA.sayT (Qlk (Qck (by decide +kernel)) (by decide) (by decide) (Qda (by decide +kernel)) W hg ht ex) (by rw [QgS _ _ _ (fun rs=>QrE rs _)];decide +kernel)
theorem QrF {W:World} (hg:Gl W) {t v:Value} (ht:TwAt W t [[2]]) (ex:El W v [1, -1]):Say 23 #[t,v] (.tuple #[.agg #[.slice none 0 0],.int .i64 60]) W :=
 AnsA.sayN (Qlk (Qck (by decide +kernel)) (by decide) (by decide) (Qda (by decide +kernel)) W hg ht ex) (by rw [QgS _ _ _ (fun rs=>QrE rs _)];decide +kernel)
theorem Qtt {W:World} (hg:Gl W) {t v:Value} (ht:TwAt W t [[2]]) (ex:El W v [3, -2]):Say 16 #[t,v] (.tuple #[.int .i64 1,.int .i64 0]) W :=
 AnsA.sayI (QeV (Qck (by decide +kernel)) (by decide) (by decide) (Qda (by decide +kernel)) W hg ht ex) (by rw [QgS _ _ (fun rs=>chk rs _ (Qdm rs _)) (fun rs=>by rw [QdQ])];decide +kernel)
theorem Qtu {W:World} (hg:Gl W) {t v:Value} (ht:TwAt W t [[2]]) (ex:El W v [1, -1]):Say 16 #[t,v] (.tuple #[.int .i64 (-1),.int .i64 0]) W :=
 AnsA.sayI (QeV (Qck (by decide +kernel)) (by decide) (by decide) (Qda (by decide +kernel)) W hg ht ex) (by rw [QgS _ _ (fun rs=>chk rs _ (Qdm rs _)) (fun rs=>by rw [QdQ])];decide +kernel)
theorem Qtv {W:World} (hg:Gl W) {t v:Value} (ht:TwAt W t [[2], [3,2]]) (ex:El W v [1,1, -1,0]):Say 16 #[t,v] (.tuple #[.int .i64 0,.int .i64 0]) W :=
 AnsA.sayI (QeV (Qck (by decide +kernel)) (by decide) (by decide) (Qda (by decide +kernel)) W hg ht ex) (by rw [QgS _ _ (fun rs=>chk rs _ (Qdm rs _)) (fun rs=>by rw [QdQ])];decide +kernel)
theorem QvT {W:World} (hg:Gl W) {t v v':Value} (ht:TwAt W t [[2]]) (ex:El W v [1,1]) (ey:El W v' [1, -1]):SayE 12 #[t,v,v'] [-1,0] W :=
 AnsA.sayE (Qin (Qck (by decide +kernel)) (by decide) (by decide) (by decide) (Qda (by decide +kernel)) (Qda (by decide +kernel)) W hg ht ex ey) (by rw [QgS _ _ (fun rs=>chk2 rs _ _ (QeY rs _ _)) (fun rs=>by rw [Qln])];decide +kernel)
theorem Qvg {W:World} (hg:Gl W) {t v:Value} (ht:TwAt W t [[2]]) (ex:El W v [1,1]):SayE 17 #[t,v] [-1,1] W :=
 AnsA.sayE (Qjn (Qck (by decide +kernel)) (by decide) (by decide) (Qda (by decide +kernel)) W hg ht ex) (by rw [QgS _ _ (fun rs=>chk rs _ (QqN rs _)) (fun rs=>by rw [QrC])];decide +kernel)
theorem Qvh {W:World} (hg:Gl W) {t v:Value} (ht:TwAt W t [[2], [3,2]]) (ex:El W v [1,1,1,0]):SayE 17 #[t,v] [-1 / 2,1 / 2,0,0] W :=
 AnsA.sayE (Qjn (Qck (by decide +kernel)) (by decide) (by decide) (Qda (by decide +kernel)) W hg ht ex) (by rw [QgS _ _ (fun rs=>chk rs _ (QqN rs _)) (fun rs=>by rw [QrC])];decide +kernel)
theorem QvU {W:World} (hg:Gl W) {t v:Value} (ht:TwAt W t [[2], [3,2]]) (ex:El W v [5]):SayE 25 #[t,v] [5,0,0,0] W :=
 AnsA.sayE (QoR (Qck (by decide +kernel)) (by decide) (by decide) (Qda (by decide +kernel)) W hg ht ex) (by rw [QgS _ _ (fun rs=>embO rs _) (fun _=>rfl)];decide +kernel)
theorem Qvi {W:World} (hg:Gl W) {t v:Value} (ht:TwAt W t [[2], [3,2]]) (ex:El W v [1,2,3]):Say 25 #[t,v] (.tuple #[.slice none 0 0,.int .i64 60]) W :=
 AnsA.sayN (QoR (Qck (by decide +kernel)) (by decide) (by decide) (Qda (by decide +kernel)) W hg ht ex) (by rw [QgS _ _ (fun rs=>embO rs _) (fun _=>rfl)];decide +kernel)
theorem Qvj {W:World} (hg:Gl W) {t v:Value} (ht:TwAt W t [[2], [3,2]]) (ex:El W v [7,0,0,0]):Say 26 #[t,v] (.tuple #[.agg #[J ⟨#[55]⟩,J ⟨#[49]⟩],.bool true]) W :=
 (QmJ (Qck (by decide +kernel)) (by decide) (by decide) (Qda (by decide +kernel)) W hg ht ex).mono fun e W' h=>by
  have:=h.good 7 (by rw [QgS _ _ (fun rs=>chk rs _ (ratE _)) (fun _=>rfl)];decide +kernel);rw [this,show pq 7=(⟨#[55]⟩,⟨#[49]⟩) by decide +kernel];exact ⟨rfl,h.below⟩
theorem Qtw {W:World} (hg:Gl W) {t:Value} (ht:TwAt W t [[2], [3,2]]):Say 33 #[t] (.bool true) W :=
 (Qts (Qck (by decide +kernel)) (by decide) W hg ht).mono fun e W' h=>by
  rw [h.1,QfP,show (QgR [] [[2], [3,2]]).isSome=true by decide +kernel];exact ⟨rfl,h.2⟩
theorem QoY (p:Option Addr) (n c:Nat) (W:World):Say 21 #[.agg #[.slice p n c]] (.int .i64 (n:Int)) W:=by
 have u:=(Below.refl W.heap.size W).alloc Lr (Jc #[.slice p n c] 28);show Calls _ _ _ _ _;go_enter Tryz.func21, Tryz.ntmps21;go_wp2_with fail;go_ret;exact ⟨rfl,u⟩
def Qtx (p:Rat) (c:Nat):Option Rat:=if fz (p.num*10^c)=true then some (Rat.divInt (p.num*10^c / p.den) (10^c)) else none
theorem Qty:QjP=Qtx:=by
 funext p c
 rw [QjP,Qtx];exact QdP fz_iff.symm _ _
def upC (p:Rat) (c:Nat):Option Rat:=if (fz (p.num*10^c) && fz (upI (p.num*10^c) p.den))=true then some (Rat.divInt (upI (p.num*10^c) p.den) (10^c)) else none
theorem QvV:upQ=upC:=by
 funext p c
 rw [upQ,upC];exact QdP (by rw [Bool.and_eq_true,fz_iff,fz_iff]) _ _
def rdC (c:Nat) (P:Rat×Rat):Option (Rat×Rat):=Qjc (Qtx P.1 c) (upC P.2 c)
theorem Qvk:rdO=rdC:=by
 funext c P
 rw [rdO,rdC,Qty,QvV]
abbrev q1:Rat:=Rat.divInt 1414213562373 (10^12)
abbrev q2:Rat:=Rat.divInt 1414213562374 (10^12)
theorem Qvl {n k:Nat} (h1:k*k≤n) (h2:n<(k+1)*(k+1)):sqr n=k:=by
 obtain ⟨a,b⟩:=QbJ n;have l1:¬ sqr n<k:=fun h=>absurd (Nat.lt_of_lt_of_le b (Nat.le_trans (Nat.mul_le_mul h h) h1)) (Nat.lt_irrefl _);have l2:¬ k<sqr n:=fun h=>absurd (Nat.lt_of_lt_of_le h2 (Nat.le_trans (Nat.mul_le_mul h h) a)) (Nat.lt_irrefl _);omega
theorem Qvm:sqO 12 (2,2)=some (q1,q2):=by
 have h:¬(NoRt 2 12∨NoRt 2 12):=by
  have:¬ NoRt 2 12:=fun h=>h.elim (fun h=>absurd h (by decide +kernel)) (fun h=>h (fz_iff.1 (by decide +kernel)));exact fun h=>h.elim this this
 rw [sqO,if_neg h];have h0:(sqN 2 12).natAbs=2*10^24:=by decide +kernel
 have h1:rtN 2 12=1414213562373:=by rw [rtN,h0];exact Qvl (by decide +kernel) (by decide +kernel)
 have h2:upN 2 12=1414213562374:=by rw [upN,exN,h1];decide +kernel
 show some (Rat.divInt ((rtN 2 12:Nat):Int) (10^12),Rat.divInt (upN 2 12) (10^12))=_;rw [h1,h2];rfl
theorem Qvn:muO (1,1) (q1,q2)=some (q1,q2):=by
 have e1:mulQ 1 q1=some q1:=by rw [QoV];decide +kernel
 have e2:mulQ 1 q2=some q2:=by rw [QoV];decide +kernel
 have l:q1≤q2:=by decide +kernel
 refine QuI (.inr ⟨1,q1,1,q2,q1,q2,.inl rfl,.inl rfl,.inl rfl,.inr rfl,e1,e2,fun u v hu hv => ?_,rfl⟩);have hu1:u=1:=hu.elim id id;subst hu1;rcases hv with rfl | rfl
 ·exact ⟨_,e1,Rat.le_refl,l⟩
 ·exact ⟨_,e2,l,Rat.le_refl⟩
theorem Qtz:ovr [[2]] (fun rs=>QdO rs [0,1] 2)=some (141 / 100,142 / 100):=by
 have hf:Qam [] [[2]]=some [[2]]:=by rw [QfP];decide +kernel
 have e:encO [[2]] 12 [0,1]=some (q1,q2):=by
  have h1:encO [] 12 [2]=some (2,2):=rfl;have h2:encO [] 12 (hr [0,1])=some (1,1):=rfl;have h3:encO [] 12 (hl [0,1])=some (0,0):=rfl;have h4:adO (0,0) (q1,q2)=some (q1,q2):=by rw [adO,Qlm];decide +kernel
  have h5:rdO 12 (q1,q2)=some (q1,q2):=by rw [Qvk];decide +kernel
  rw [encO,h1,Option.bind_some,Qvm,Option.bind_some,h2,Option.bind_some,Qvn,Option.bind_some,h3,Option.bind_some,h4,Option.bind_some,h5]
 rw [QaA hf,QdO,if_pos (by decide),chk,if_pos (by decide)];show (encO [[2]] 12 [0,1]).bind (rdO 2)=_;rw [e,Option.bind_some,Qvk];decide +kernel
theorem Qvo (a:Addr) {W:World} (hg:Gl W) (hv:Ref a W) {t v:Value} (ht:TwAt W t [[2]]) (ex:El W v [0,1]):Say 28 #[t,v,.int .i64 2] (.tuple #[.agg #[J ⟨#[49,52,49]⟩,J ⟨#[49,48,48]⟩,J ⟨#[55,49]⟩,J ⟨#[53,48]⟩],.int .i64 0]) W:=by
 have:=AnsA.sayQ (QoU a (Qck (by decide +kernel)) (by decide) (by decide) (Qda (by decide +kernel)) 2 W hg hv ht ex) Qtz
 have e:ivS (141 / 100,142 / 100) = .agg #[J ⟨#[49,52,49]⟩,J ⟨#[49,48,48]⟩,J ⟨#[55,49]⟩,J ⟨#[53,48]⟩]:=by
  have h1:txt (141 / 100:Rat).num=⟨#[49,52,49]⟩:=by decide +kernel
  have h2:txt ((141 / 100:Rat).den:Int)=⟨#[49,48,48]⟩:=by decide +kernel
  have h3:txt (142 / 100:Rat).num=⟨#[55,49]⟩:=by decide +kernel
  have h4:txt ((142 / 100:Rat).den:Int)=⟨#[53,48]⟩:=by decide +kernel
  show Value.agg #[J (txt (141 / 100:Rat).num),J (txt ((141 / 100:Rat).den:Int)),J (txt (142 / 100:Rat).num),J (txt ((142 / 100:Rat).den:Int))]=_;rw [h1,h2,h3,h4]
 rw [e] at this;exact this
theorem D0 {w:World}:Below w.heap.size w w.drew:=QaS (Below.refl _ _)
theorem D1 {w:World} {o:Obj}:Below w.heap.size w (w.alloc o).drew:=QaS ((Below.refl _ _).alloc Lr _)
theorem D2 {w:World} {o p:Obj}:Below w.heap.size w ((w.alloc o).alloc p).drew:=QaS (((Below.refl _ _).alloc Lr _).alloc (by simp) _)
theorem dK1 {W x:World} {o:Obj} (g:Below (W.alloc o).drew.heap.size (W.alloc o).drew x):Below W.heap.size W x:=((Below.refl W.heap.size W).alloc Lr o).trans ((Qah g).mono (by first | (simp;done) | (simp;omega)))
theorem dK2 {W x:World} {o p:Obj} (g:Below ((W.alloc o).alloc p).drew.heap.size ((W.alloc o).alloc p).drew x):Below W.heap.size W x:=(((Below.refl W.heap.size W).alloc Lr o).alloc (by simp) p).trans ((Qah g).mono (by first | (simp;done) | (simp;omega)))
theorem Ks.alloc {l:List KP} {W:World} (h:Ks l W) (o:Obj):Ks l (W.alloc o):=h.keep ((Below.refl _ _).alloc Lr o)
theorem Ks.drew {l:List KP} {W:World} (h:Ks l W):Ks l W.drew:=h.keep (QaS (Below.refl _ _))
theorem QtA {V:World} {b:Nat} {l:List Int} (h:V.heap[b]? = some (.cells (l.map fun z=>Value.int .i64 z).toArray 3 (0,0))):Ints V b 0 l:=⟨fun i hi=>by
 rw [Nat.zero_add];refine En.Qaa h i ?_;rw [List.getElem?_toArray,List.getElem?_map,List.getElem?_eq_getElem hi,List.getD_eq_getElem?_getD,List.getElem?_eq_getElem hi];rfl⟩
theorem Qbq (l:List Int) (m:List Rat) (n:Nat) (hm:ratI l=m) (hln:l.length=n) (hl:(decide (0<l.length) && (decide (l.length≤100) && l.all fun z=>decide (z.natAbs≤1000000)))=true) {V:World} {b:Nat} (c:Nat) (h:V.heap[b]? = some (.cells (l.map fun z=>Value.int .i64 z).toArray 3 (0,0))) :
  Calls Tryz.prog 32 #[.slice (some ⟨b,0,none⟩) n c] V fun e W'=>(∃ v,e = .returned v∧El W' v m)∧Below V.heap.size V W':=by
 rw [Bool.and_eq_true,Bool.and_eq_true] at hl;rw [←hm,←hln];refine QoW l (of_decide_eq_true hl.1) (of_decide_eq_true hl.2.1) (fun i hi => ?_) b 0 c V (QtA h);have:=List.all_eq_true.1 hl.2.2 l[i] (List.getElem_mem hi);rw [List.getD_eq_getElem?_getD,List.getElem?_eq_getElem hi];exact of_decide_eq_true this
theorem QfQ {W:World} {l m:List Rat} {vx vy:Value} (hx:El W vx l) (hy:El W vy m) (h:(decide (l=m) && decide (l.length≤1000))=true):Say 15 #[vx,vy] (.bool true) W:=by
 rw [Bool.and_eq_true] at h;have:=QrD (of_decide_eq_true h.2) W hx hy;rw [h.1] at this;exact this
theorem Qfw (n d:Int) (s t:ByteArray) (h:pq (Rat.divInt n d)=(s,t)) (hn:n.natAbs≤1000000000000000) (hd:d.natAbs≤1000000000000000) (d0:d≠0) (W:World):Say 19 #[.int .i64 n,.int .i64 d] (frc s t) W:=by
 have:=of_q n d hn hd d0 W;rw [h] at this;exact this
theorem TwAt.set {W:World} {v:Value} {L:List (List Rat)} (h:TwAt W v L) {g:Nat} (y:Value) (hg:W.cell? ⟨g,0,none⟩=some (.slice none 0 0)):TwAt (W.setCell ⟨g,0,none⟩ y) v L:=by
 obtain ⟨p,cap,e,h⟩:=h.ex;refine ⟨p,cap,e, ?_⟩
 have hne:∀ (b i:Nat) (x:Value),W.cell? ⟨b,i,none⟩=some x→x ≠ .slice none 0 0→(W.setCell ⟨g,0,none⟩ y).cell? ⟨b,i,none⟩=some x:=fun b i x hx hn =>
  (World.cell?_setCell_other W ⟨g,0,none⟩ ⟨b,i,none⟩ y (fun e=>by rw [e,hx] at hg;injection hg with hg;exact hn hg)).trans hx
 rcases h with h | ⟨bt,ot,e,h⟩
 ·exact .inl h
 ·refine .inr ⟨bt,ot,e,fun i x hx => ?_⟩;obtain ⟨vi,h1,b,o,cp,rfl,h2,h3⟩:=h i x hx;refine ⟨_,hne _ _ _ h1 (by intro e;injection e with e;cases e),b,o,cp,rfl,h2,⟨fun j hj=>⟨hne _ _ _ (h3.at_ j hj).1 (by intro e;cases e),hne _ _ _ (h3.at_ j hj).2 (by intro e;cases e)⟩⟩⟩
end Tw
end
end Go.Proofs.YtihlgifojjeoaaaGreatDoor
