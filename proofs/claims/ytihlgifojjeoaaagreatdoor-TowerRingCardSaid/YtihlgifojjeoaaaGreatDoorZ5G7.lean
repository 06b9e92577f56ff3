import Derived.Test.YtihlgifojjeoaaaGreatDoorZ5L
import Derived.Test.YtihlgifojjeoaaaGreatDoorZ5G5
import Derived.Test.YtihlgifojjeoaaaGreatDoorZ5G4
import Derived.Test.YtihlgifojjeoaaaGreatDoorZ5G6
set_option maxRecDepth 1000000
set_option maxHeartbeats 40000000
open Go.Value renaming string→J
open Go.Obj renaming cells→Jc
namespace Go.Proofs.YtihlgifojjeoaaaGreatDoor
section
namespace Tw
open Go.RowKit Go.Extern.Stop Go.Stop Go.Extern
open En Go.Proofs.YtihlgifojjeoaaaGreatDoor.Nm Go.Proofs.YtihlgifojjeoaaaGreatDoor.Rt
theorem validClo (f:Value) (w:World):Calls Tryz.prog 86 #[f] w (AnsC True (fun _ v=>v = .bool true) w):=by
 go_enter Tryz.func86, Tryz.ntmps86;go_wp2_with fail;go_ret;exact ⟨Below.refl _ _,fun _=>⟨_,rfl,rfl⟩,fun h=>absurd trivial h⟩
theorem Valid_O {L:List (List Rat)} (hL:FitT L) (hn:L.length≤1000) {t:Value} (w:World) (hg:Gl w) (ht:TwAt w t L) :
  Calls Tryz.prog 33 #[t] w fun e w'=>e = .returned (.bool (fieldO [] L).isSome)∧Below w.heap.size w w':=by
 have HT:Sh _:=⟨ht⟩;obtain ⟨p,cap,rfl,h⟩:=ht.ex;clear h ht;have u:=(Below.refl w.heap.size w).alloc Lr (Jc #[.slice p L.length cap] 28);have n_t:(w.alloc (Jc #[.slice p L.length cap] 28)).heap[w.heap.size]? = _:=World.alloc_heap_new w _;have t0:=En.lcell n_t 0 (v:=.slice p L.length cap) rfl;obtain ⟨O,hO⟩:∃ O,O=fieldO [] L:=⟨_,rfl⟩;rw [←hO];have HO:Sh _:=⟨hO⟩;clear hO;go_enter Tryz.func33, Tryz.ntmps33;go_wp2_with fail;generalize (w.alloc (Jc #[.slice p L.length cap] 28))=W0 at *
 have cA:=attempt_bol 86 #[] (enters_of Tryz.func86 (by kernel_rfl) rfl) hL hn (O≠none) (fun _ v=>v = .bool true) W0 (hg.keep u) (HT.o.keep u) (by rw [HO.o];exact fun h q=>q h)
  (fun rs hrs W f hB hf=>(validClo f W).mono fun e w' h=>⟨h.below,fun _=>h.good trivial,fun q=>absurd (by rw [HO.o,hrs];exact fun q=>by cases q) q⟩)
 refine cA.mono ?_;intro e v1 h1;replace u:=u.trans (h1.below.mono u.size);clear HT HO n_t t0 cA;cases O with
 | none =>
  obtain rfl:=h1.bad (fun h=>h rfl);clear h1;go_wp2_with fail;go_ret;exact ⟨rfl,u⟩
 | some s =>
  obtain ⟨v,rfl,rfl⟩:=h1.good (fun q=>by cases q);clear h1;go_wp2_with fail;go_ret;exact ⟨rfl,u⟩
def ratE (x:List Rat):Option Rat:=if zeroL x.tail then some (x.headD 0) else none
abbrev IsQ (o:Option Rat) (a b:ByteArray):Prop:=∃ r,o=some r∧pq r=(a,b)
theorem ratClo {rs:List (List Rat)} (hk:rs.length≤4) {x:List Rat} (hn:x.length≤1000) (fx:FitL x) {f vx:Value} (pa:Addr) (w:World) (hg:Gl w) (hf:Fd w f rs) (ha:w.cell? pa=some vx) (ex:El w vx x) :
  Calls Tryz.prog 63 #[f,.pointer (some pa)] w (AnsC (chk rs x (ratE x)≠none) (fun _ v=>∃ a b,v = .agg #[J a,J b]∧IsQ (chk rs x (ratE x)) a b) w):=by
 have ua:=(Below.refl w.heap.size w).alloc Lr (Jc #[J ⟨#[]⟩,J ⟨#[]⟩] 42);have n_r:(w.alloc (Jc #[J ⟨#[]⟩,J ⟨#[]⟩] 42)).heap[w.heap.size]? = _:=World.alloc_heap_new w _;replace ha:=kcell ha ua;replace hg:=hg.keep ua;replace hf:=Fd.keep ua hf;replace ex:=ex.keep ua;have cC:=checked_O hk hn fx _ hf ex;obtain ⟨O,hO⟩:∃ O,O=chk rs x (ratE x):=⟨_,rfl⟩;rw [←hO];have HO:Sh _:=⟨hO⟩;have HG:Sh _:=⟨hg⟩;have HX:Sh _:=⟨ex⟩;clear hO hg hf ex;go_enter Tryz.func63, Tryz.ntmps63;go_wp2_with fail;generalize (w.alloc (Jc #[J ⟨#[]⟩,J ⟨#[]⟩] 42))=W0 at *
 refine cC.mono ?_;intro e v1 h1;have u:=ua.trans (h1.below.mono ua.size);by_cases hl:x.length=2^rs.length
 ·obtain rfl:=h1.good hl;have g1:=HG.o.keep h1.below;have e1:=HX.o.keep h1.below;replace ha:=kcell ha h1.below;replace n_r:=En.lkeep n_r h1.below;have ho:O=ratE x:=by rw [HO.o,chk,if_pos hl]
  have hp:=pow_le hk;rw [←hl] at hp;clear h1 cC HG HX HO hl ua;cases x with
  | nil=>simp at hp
  | cons q xs =>
   obtain ⟨b,o,cap,rfl,hc,hx⟩:=e1.ex;have hn2:xs.length+1≤16:=hp.2
   have cZ0:cap=1→Calls Tryz.prog 64 #[.slice (some ⟨b,o,none⟩) xs.length 0] v1 fun e w'=>e = .returned (.bool (zeroL xs))∧Below v1.heap.size v1 w':=fun h=>by
    have hc':xs.length+1≤cap:=hc;have hm:xs.length=0:=by omega
    have:=isZero_any xs.length b o 0 (by omega) (pqs xs) v1 g1 ⟨fun i hi=>by omega⟩
    rwa [allZ_q xs xs.length Lr,List.take_length] at this
   have cZ:=isZero_any xs.length b (o+2) (cap-1) (by omega) (pqs xs) v1 g1 ⟨fun i hi=>by
    have:=hx.at_ (i+1) (by simp;omega);rw [show o+(i+1)*2=o+2+i*2 by omega] at this;simpa [pqs] using this⟩
   rw [allZ_q xs xs.length Lr,List.take_length] at cZ;replace cZ:Calls Tryz.prog 64 #[.slice (some ⟨b,o+2,none⟩) xs.length (cap-1)] v1 fun e w'=>e = .returned (.bool (zeroL xs))∧Below v1.heap.size v1 w':=cZ;obtain ⟨q0,q1⟩:=hx.at_ 0 (by simp);have HQ:Sh (O=if zeroL xs=true then some q else none):=⟨ho⟩;have HS:Sh (pq q=((pqs (q :: xs) 0).1,(pqs (q :: xs) 0).2)):=⟨rfl⟩;generalize (pqs (q :: xs) 0).1=s0 at *
   generalize (pqs (q :: xs) 0).2=s1 at *
   rw [Nat.zero_mul] at q0 q1;simp only [Nat.add_zero,List.length_cons] at q0 q1 hc ha hn ⊢;clear e1 hx fx ho g1;generalize zeroL xs=Z at *
   generalize xs.length=m at *
   by_cases hcap:cap=1
   ·subst hcap;replace cZ:=cZ0 rfl;obtain rfl:m=0:=by omega
    clear cZ0;go_wp2_with fail;refine cZ.mono ?_;rintro e v2 ⟨rfl,g2⟩;have u:=u.trans (g2.mono u.size);have ha:=kcell ha g2;have n_r:=En.lkeep n_r g2;have q0:=kcell q0 g2;have q1:=kcell q1 g2;clear g2 cZ;cases Z with
    | false =>
     have hr:=refuse_yes v2;have ho:Sh (O=none):=⟨HQ.o.trans (if_neg (by decide))⟩;clear HQ;go_wp2_with fail;refine hr.mono ?_;rintro e w' ⟨rfl,rfl⟩;exact ⟨rfl,u,fun h=>absurd ho.o h,fun _=>rfl⟩
    | true =>
     have hr:=refuse_no v2;have ho:Sh (O=some q):=⟨HQ.o.trans (if_pos rfl)⟩;clear HQ;go_wp2_with fail;refine hr.mono ?_;rintro e w' ⟨rfl,rfl⟩;clear hr;have d0:=En.lcell n_r 0 (v:=J ⟨#[]⟩) rfl;have d1:=En.lcell n_r 1 (v:=J ⟨#[]⟩) rfl;have g0:=En.lfree n_r 0;have g1:=En.lfree n_r 1;go_wp2_with fail
     have s_r:((w'.setCell ⟨w.heap.size,0,none⟩ (J s0)).setCell ⟨w.heap.size,1,none⟩ (J s1)).heap[w.heap.size]? = some (Jc #[J s0,J s1] 42 (0,0)):=by
      have:=set_heap (set_heap n_r 0 (J s0)) 1 (J s1);simpa using this
     have r0:=En.lcell s_r 0 (v:=J s0) rfl;have r1:=En.lcell s_r 1 (v:=J s1) rfl;have u2:=(u.setCell (show w.heap.size≤(⟨w.heap.size,0,none⟩:Addr).block from Nat.le_refl _) (J s0)).setCell (show w.heap.size≤(⟨w.heap.size,1,none⟩:Addr).block from Nat.le_refl _) (J s1);exact bodyPost_ret (v:=.agg #[J s0,J s1]) (by simp [results,Tryz.results63, go_sem,r0,r1]) rfl ⟨u2,fun _=>⟨_,rfl,s0,s1,rfl,q,ho.o,HS.o⟩,fun h=>absurd (fun q'=>by rw [ho.o] at q';cases q') h⟩
   ·clear cZ0;go_wp2_with fail;refine cZ.mono ?_;rintro e v2 ⟨rfl,g2⟩;have u:=u.trans (g2.mono u.size);have ha:=kcell ha g2;have n_r:=En.lkeep n_r g2;have q0:=kcell q0 g2;have q1:=kcell q1 g2;clear g2 cZ;cases Z with
    | false =>
     have hr:=refuse_yes v2;have ho:Sh (O=none):=⟨HQ.o.trans (if_neg (by decide))⟩;clear HQ;go_wp2_with fail;refine hr.mono ?_;rintro e w' ⟨rfl,rfl⟩;exact ⟨rfl,u,fun h=>absurd ho.o h,fun _=>rfl⟩
    | true =>
     have hr:=refuse_no v2;have ho:Sh (O=some q):=⟨HQ.o.trans (if_pos rfl)⟩;clear HQ;go_wp2_with fail;refine hr.mono ?_;rintro e w' ⟨rfl,rfl⟩;clear hr;have d0:=En.lcell n_r 0 (v:=J ⟨#[]⟩) rfl;have d1:=En.lcell n_r 1 (v:=J ⟨#[]⟩) rfl;have g0:=En.lfree n_r 0;have g1:=En.lfree n_r 1;go_wp2_with fail
     have s_r:((w'.setCell ⟨w.heap.size,0,none⟩ (J s0)).setCell ⟨w.heap.size,1,none⟩ (J s1)).heap[w.heap.size]? = some (Jc #[J s0,J s1] 42 (0,0)):=by
      have:=set_heap (set_heap n_r 0 (J s0)) 1 (J s1);simpa using this
     have r0:=En.lcell s_r 0 (v:=J s0) rfl;have r1:=En.lcell s_r 1 (v:=J s1) rfl;have u2:=(u.setCell (show w.heap.size≤(⟨w.heap.size,0,none⟩:Addr).block from Nat.le_refl _) (J s0)).setCell (show w.heap.size≤(⟨w.heap.size,1,none⟩:Addr).block from Nat.le_refl _) (J s1);exact bodyPost_ret (v:=.agg #[J s0,J s1]) (by simp [results,Tryz.results63, go_sem,r0,r1]) rfl ⟨u2,fun _=>⟨_,rfl,s0,s1,rfl,q,ho.o,HS.o⟩,fun h=>absurd (fun q'=>by rw [ho.o] at q';cases q') h⟩
 ·obtain rfl:=h1.bad hl;have ho:O=none:=by rw [HO.o,chk,if_neg hl]
  exact ⟨rfl,u,fun h=>absurd ho h,fun _=>rfl⟩
structure AnsR (o:Option Rat) (w:World) (e:Ending) (w':World):Prop where
 below:Below w.heap.size w w'
 good:∀ r,o=some r→e = .returned (.tuple #[.agg #[J (pq r).1,J (pq r).2],.bool true])
 bad:o=none→e = .returned (.tuple #[.agg #[J ⟨#[]⟩,J ⟨#[]⟩],.bool false])
theorem rat_facts (v:World) (B:Nat) (s0 s1:ByteArray) (h:v.heap[B]? = some (Jc #[J ⟨#[]⟩,J ⟨#[]⟩] 42 (0,0))) :
  (v.alloc (Jc #[J s0,J s1] 42)).heap[v.heap.size]? = some (Jc #[J s0,J s1] 42 (0,0))∧(v.alloc (Jc #[J s0,J s1] 42)).heap[B]? = some (Jc #[J ⟨#[]⟩,J ⟨#[]⟩] 42 (0,0))∧Below v.heap.size v (v.alloc (Jc #[J s0,J s1] 42)):=by
 have hB:B<v.heap.size:=(Array.getElem?_eq_some_iff.1 h).1;exact ⟨World.alloc_heap_new v _,(Below.heap_alloc v _ B hB).trans h,(Below.refl v.heap.size v).alloc Lr _⟩
theorem Rational_O {L:List (List Rat)} (hL:FitT L) (hn:L.length≤1000) {x:List Rat} (hx:x.length≤1000) (fx:FitL x) {t vx:Value} (w:World) (hg:Gl w) (ht:TwAt w t L) (ex:El w vx x) :
  Calls Tryz.prog 26 #[t,vx] w (AnsR (ovr L fun rs=>chk rs x (ratE x)) w):=by
 have hmf:=mkf;have HT:Sh _:=⟨ht⟩;obtain ⟨p,cap,rfl,h⟩:=ht.ex;clear h ht;have HX:Sh _:=⟨ex⟩;obtain ⟨b,o,c,rfl,h1,h2⟩:=ex.ex;clear h1 h2 ex;have u:=(((Below.refl w.heap.size w).alloc Lr (Jc #[.slice p L.length cap] 28)).alloc (by simp) (Jc #[.slice (some ⟨b,o,none⟩) x.length c] 29)).alloc (by simp;omega) (Jc #[J ⟨#[]⟩,J ⟨#[]⟩] 42);obtain ⟨n_t,n_x,n_r⟩:=En.new3 w (Jc #[.slice p L.length cap] 28) (Jc #[.slice (some ⟨b,o,none⟩) x.length c] 29) (Jc #[J ⟨#[]⟩,J ⟨#[]⟩] 42);have t0:=En.lcell n_t 0 (v:=.slice p L.length cap) rfl;obtain ⟨O,hO⟩:∃ O,O=ovr L (fun rs=>chk rs x (ratE x)):=⟨_,rfl⟩;rw [←hO];have HO:Sh _:=⟨hO⟩;clear hO;go_enter Tryz.func26, Tryz.ntmps26;go_wp2_with fail;generalize (((w.alloc (Jc #[.slice p L.length cap] 28)).alloc (Jc #[.slice (some ⟨b,o,none⟩) x.length c] 29)).alloc (Jc #[J ⟨#[]⟩,J ⟨#[]⟩] 42))=W0 at *
 have cA:=attempt_rat 63 #[.pointer (some ⟨w.heap.size+1,0,none⟩)] (enters_of Tryz.func63 (by kernel_rfl) rfl) hL hn (O≠none) (IsQ O) W0 (hg.keep u) (HT.o.keep u) (by rw [HO.o];exact ovr_none)
  (fun rs hrs W f hB hf=>by
   rw [HO.o,ovr_some hrs];exact ratClo (field_len hrs) hx fx ⟨w.heap.size+1,0,none⟩ W ((hg.keep u).keep hB) hf (En.lcell (En.lkeep n_x hB) 0 rfl) ((HX.o.keep u).keep hB))
 refine cA.mono ?_;intro e v1 h1;replace u:=u.trans (h1.below.mono u.size);replace n_r:=En.lkeep n_r h1.below;clear HX HT HO n_t n_x t0 cA;cases O with
 | none =>
  obtain rfl:=h1.bad (fun h=>h rfl);clear h1;obtain ⟨e2,e3,k3⟩:=rat_facts v1 (w.heap.size+1+1) ⟨#[]⟩ ⟨#[]⟩ n_r;have b0:=En.lcell e2 0 (v:=J ⟨#[]⟩) rfl;have b1:=En.lcell e2 1 (v:=J ⟨#[]⟩) rfl;have d0:=En.lcell e3 0 (v:=J ⟨#[]⟩) rfl;have d1:=En.lcell e3 1 (v:=J ⟨#[]⟩) rfl;have g0:=En.lfree e3 0;have g1:=En.lfree e3 1;replace u:=u.trans (k3.mono u.size);clear e2 n_r k3;go_wp2_with fail
  have s_r:(((v1.alloc (Jc #[J ⟨#[]⟩,J ⟨#[]⟩] 42)).setCell ⟨w.heap.size+1+1,0,none⟩ (J ⟨#[]⟩)).setCell ⟨w.heap.size+1+1,1,none⟩ (J ⟨#[]⟩)).heap[w.heap.size+1+1]? = some (Jc #[J ⟨#[]⟩,J ⟨#[]⟩] 42 (0,0)):=by
   have:=set_heap (set_heap e3 0 (J ⟨#[]⟩)) 1 (J ⟨#[]⟩);simpa using this
  have r0:=En.lcell s_r 0 (v:=J ⟨#[]⟩) rfl;have r1:=En.lcell s_r 1 (v:=J ⟨#[]⟩) rfl;have u2:=(u.setCell (show w.heap.size≤(⟨w.heap.size+1+1,0,none⟩:Addr).block from by simp only;omega) (J ⟨#[]⟩)).setCell (show w.heap.size≤(⟨w.heap.size+1+1,1,none⟩:Addr).block from by simp only;omega) (J ⟨#[]⟩);exact bodyPost_ret (v:=.tuple #[.agg #[J ⟨#[]⟩,J ⟨#[]⟩],.bool false]) (by simp [results,Tryz.results26, go_sem,r0,r1]) rfl ⟨u2,fun r h=>(by cases h),fun _=>rfl⟩
 | some r =>
  obtain ⟨v,rfl,s0,s1,rfl,hv⟩:=h1.good (fun q=>by cases q);clear h1;obtain ⟨e2,e3,k3⟩:=rat_facts v1 (w.heap.size+1+1) s0 s1 n_r;have b0:=En.lcell e2 0 (v:=J s0) rfl;have b1:=En.lcell e2 1 (v:=J s1) rfl;have d0:=En.lcell e3 0 (v:=J ⟨#[]⟩) rfl;have d1:=En.lcell e3 1 (v:=J ⟨#[]⟩) rfl;have g0:=En.lfree e3 0;have g1:=En.lfree e3 1;replace u:=u.trans (k3.mono u.size);clear e2 n_r k3;go_wp2_with fail
  have s_r:(((v1.alloc (Jc #[J s0,J s1] 42)).setCell ⟨w.heap.size+1+1,0,none⟩ (J s0)).setCell ⟨w.heap.size+1+1,1,none⟩ (J s1)).heap[w.heap.size+1+1]? = some (Jc #[J s0,J s1] 42 (0,0)):=by
   have:=set_heap (set_heap e3 0 (J s0)) 1 (J s1);simpa using this
  have r0:=En.lcell s_r 0 (v:=J s0) rfl;have r1:=En.lcell s_r 1 (v:=J s1) rfl;have u2:=(u.setCell (show w.heap.size≤(⟨w.heap.size+1+1,0,none⟩:Addr).block from by simp only;omega) (J s0)).setCell (show w.heap.size≤(⟨w.heap.size+1+1,1,none⟩:Addr).block from by simp only;omega) (J s1);exact bodyPost_ret (v:=.tuple #[.agg #[J s0,J s1],.bool true]) (by simp [results,Tryz.results26, go_sem,r0,r1]) rfl ⟨u2,fun r' h=>(by cases h;obtain ⟨q,hq,hp⟩:=hv;cases hq;rw [hp]),fun h=>(by cases h)⟩
structure KP where
 P:World→Prop
 k:∀ W W',P W→Below W.heap.size W W'→P W'
def Ks (l:List KP) (W:World):Prop:=∀ x∈l,x.P W
theorem Ks.keep {l:List KP} {W W':World} (h:Ks l W) (hB:Below W.heap.size W W'):Ks l W':=fun x hx=>x.k W W' (h x hx) hB
theorem Ks.add {l:List KP} {W:World} (h:Ks l W) (x:KP) (hx:x.P W):Ks (x :: l) W:=fun y hy=>by
 rcases List.mem_cons.1 hy with rfl | hy
 ·exact hx
 ·exact h y hy
theorem Ks.nil (W:World):Ks [] W:=fun _ h=>by cases h
theorem Sh.kp {l:List KP} {W V:World} (h:Sh (Ks l W)) (g:Below W.heap.size W V):Sh (Ks l V):=⟨h.o.keep g⟩
theorem Sh.ad {l:List KP} {W:World} (h:Sh (Ks l W)) (x:KP) (hx:x.P W):Sh (Ks (x::l) W):=⟨h.o.add x hx⟩
def kEl (v:Value) (l:List Rat):KP:=⟨fun W=>El W v l,fun _ _ h hB=>h.keep hB⟩
def kTw (v:Value) (L:List (List Rat)):KP:=⟨fun W=>TwAt W v L,fun _ _ h hB=>h.keep hB⟩
def kBx (b:Nat) (o:Obj):KP:=⟨fun W=>W.heap[b]? = some o,fun _ _ h hB=>En.lkeep h hB⟩
def kGl:KP:=⟨Gl,fun _ _ h hB=>h.keep hB⟩
def kRef (a:Addr):KP:=⟨Ref a,fun _ _ h hB=>h.keep hB⟩
def Say (f:Nat) (args:Array Value) (v:Value) (W:World):Prop:=Calls Tryz.prog f args W fun e W'=>e = .returned v∧Below W.heap.size W W'
theorem Say.run {f:Nat} {args:Array Value} {v:Value} {W:World} (h:Say f args v W):Calls Tryz.prog f args W fun e W'=>e = .returned v∧Below W.heap.size W W':=h
def SayE (f:Nat) (args:Array Value) (l:List Rat) (W:World):Prop:=Calls Tryz.prog f args W fun e W'=>(∃ v,e = .returned (.tuple #[v,.int .i64 0])∧El W' v l)∧Below W.heap.size W W'
theorem SayE.run {f:Nat} {args:Array Value} {l:List Rat} {W:World} (h:SayE f args l W):Calls Tryz.prog f args W fun e W'=>(∃ v,e = .returned (.tuple #[v,.int .i64 0])∧El W' v l)∧Below W.heap.size W W':=h
def SayT (f:Nat) (args:Array Value) (L:List (List Rat)) (W:World):Prop:=Calls Tryz.prog f args W fun e W'=>(∃ v,e = .returned (.tuple #[.agg #[v],.int .i64 0])∧TwAt W' (.agg #[v]) L)∧Below W.heap.size W W'
theorem SayT.run {f:Nat} {args:Array Value} {L:List (List Rat)} {W:World} (h:SayT f args L W):Calls Tryz.prog f args W fun e W'=>(∃ v,e = .returned (.tuple #[.agg #[v],.int .i64 0])∧TwAt W' (.agg #[v]) L)∧Below W.heap.size W W':=h
theorem AnsA.sayE {O:Option (List Rat)} {z:Value} {f:Nat} {args:Array Value} {W:World} (h:Calls Tryz.prog f args W (AnsA (O≠none) (IsE O) z W)) {l:List Rat} (hO:O=some l):SayE f args l W:=h.mono fun e W' h=>by
 obtain ⟨v,h1,l',h2,h3⟩:=h.good (by rw [hO];simp);rw [hO] at h2;cases h2;exact ⟨⟨v,h1,h3⟩,h.below⟩
theorem AnsA.sayI {O:Option Int} {z:Value} {f:Nat} {args:Array Value} {W:World} (h:Calls Tryz.prog f args W (AnsA (O≠none) (IsI O) z W)) {s:Int} (hO:O=some s):Say f args (.tuple #[.int .i64 s,.int .i64 0]) W:=h.mono fun e W' h=>by
 obtain ⟨v,h1,s',h2,h3⟩:=h.good (by rw [hO];simp);rw [hO] at h2;cases h2;exact ⟨by rw [h1,h3],h.below⟩
theorem AnsA.sayQ {O:Option (Rat×Rat)} {z:Value} {f:Nat} {args:Array Value} {W:World} (h:Calls Tryz.prog f args W (AnsA (O≠none) (IsV O) z W)) {s:Rat×Rat} (hO:O=some s):Say f args (.tuple #[ivS s,.int .i64 0]) W:=h.mono fun e W' h=>by
 obtain ⟨v,h1,s',h2,h3⟩:=h.good (by rw [hO];simp);rw [hO] at h2;cases h2;exact ⟨by rw [h1,h3],h.below⟩
theorem AnsA.sayT {O:Option (List (List Rat))} {z:Value} {f:Nat} {args:Array Value} {W:World} (h:Calls Tryz.prog f args W (AnsA (O≠none) (fun W v=>∃ l,O=some l∧TwAt W v l) z W)) {L:List (List Rat)} (hO:O=some L):SayT f args L W:=h.mono fun e W' h=>by
 obtain ⟨v,h1,l',h2,h3⟩:=h.good (by rw [hO];simp);rw [hO] at h2;cases h2;obtain ⟨p,cap,rfl,_⟩:=h3.ex;exact ⟨⟨_,h1,h3⟩,h.below⟩
theorem AnsA.sayN {T:Type} {O:Option T} {R:World→Value→Prop} {z:Value} {f:Nat} {args:Array Value} {W:World} (h:Calls Tryz.prog f args W (AnsA (O≠none) R z W)) (hO:O=none):Say f args (.tuple #[z,.int .i64 60]) W:=h.mono fun _ _ h=>⟨h.bad (fun k=>k hO),h.below⟩
def fitC (x:List Rat):Bool:=x.all fun q=>fz q.num && fz (q.den:Int)
theorem fit_of {x:List Rat} (h:fitC x=true):FitL x:=fun q hq=>by
 have:=List.all_eq_true.1 h q hq;rw [Bool.and_eq_true] at this;exact ⟨fz_iff.1 this.1,fz_iff.1 this.2⟩
def fitTC (L:List (List Rat)):Bool:=L.all fun x=>fitC x && decide (x.length≤1000)
theorem fitT_of {L:List (List Rat)} (h:fitTC L=true):FitT L:=fun x hx=>by
 have:=List.all_eq_true.1 h x hx;rw [Bool.and_eq_true] at this;exact ⟨fit_of this.1,of_decide_eq_true this.2⟩
def extOC (rs:List (List Rat)) (x:List Rat):Option (List (List Rat)):=if (decide (rs.length<4) && (decide (x.length=2^rs.length) && (signOC rs x == some 1)))=true then some (x :: rs).reverse else none
open Classical in
theorem extO_C (rs:List (List Rat)) (x:List Rat):extO rs x=extOC rs x:=by
 rw [extO,extOC];exact ite_iff (by rw [Adj,Bool.and_eq_true,Bool.and_eq_true,decide_eq_true_iff,decide_eq_true_iff,beq_iff_eq,signO_C]) _ _
theorem s_ext {W:World} (hg:Gl W) {t v:Value} (ht:TwAt W t [[2]]) (ex:El W v [3,2]):SayT 23 #[t,v] [[2], [3,2]] W :=
 AnsA.sayT (Extend_O (fitT_of (by decide +kernel)) (by decide) (by decide) (fit_of (by decide +kernel)) W hg ht ex) (by rw [ovr_C _ _ _ (fun rs=>extO_C rs _)];decide +kernel)
theorem s_extn {W:World} (hg:Gl W) {t v:Value} (ht:TwAt W t [[2]]) (ex:El W v [1, -1]):Say 23 #[t,v] (.tuple #[.agg #[.slice none 0 0],.int .i64 60]) W :=
 AnsA.sayN (Extend_O (fitT_of (by decide +kernel)) (by decide) (by decide) (fit_of (by decide +kernel)) W hg ht ex) (by rw [ovr_C _ _ _ (fun rs=>extO_C rs _)];decide +kernel)
theorem s_sign1 {W:World} (hg:Gl W) {t v:Value} (ht:TwAt W t [[2]]) (ex:El W v [3, -2]):Say 16 #[t,v] (.tuple #[.int .i64 1,.int .i64 0]) W :=
 AnsA.sayI (Sign_O (fitT_of (by decide +kernel)) (by decide) (by decide) (fit_of (by decide +kernel)) W hg ht ex) (by rw [ovr_C _ _ (fun rs=>chk rs _ (signOC rs _)) (fun rs=>by rw [signO_C])];decide +kernel)
theorem s_sign2 {W:World} (hg:Gl W) {t v:Value} (ht:TwAt W t [[2]]) (ex:El W v [1, -1]):Say 16 #[t,v] (.tuple #[.int .i64 (-1),.int .i64 0]) W :=
 AnsA.sayI (Sign_O (fitT_of (by decide +kernel)) (by decide) (by decide) (fit_of (by decide +kernel)) W hg ht ex) (by rw [ovr_C _ _ (fun rs=>chk rs _ (signOC rs _)) (fun rs=>by rw [signO_C])];decide +kernel)
theorem s_sign3 {W:World} (hg:Gl W) {t v:Value} (ht:TwAt W t [[2], [3,2]]) (ex:El W v [1,1, -1,0]):Say 16 #[t,v] (.tuple #[.int .i64 0,.int .i64 0]) W :=
 AnsA.sayI (Sign_O (fitT_of (by decide +kernel)) (by decide) (by decide) (fit_of (by decide +kernel)) W hg ht ex) (by rw [ovr_C _ _ (fun rs=>chk rs _ (signOC rs _)) (fun rs=>by rw [signO_C])];decide +kernel)
theorem s_mul {W:World} (hg:Gl W) {t v v':Value} (ht:TwAt W t [[2]]) (ex:El W v [1,1]) (ey:El W v' [1, -1]):SayE 12 #[t,v,v'] [-1,0] W :=
 AnsA.sayE (Mul_O (fitT_of (by decide +kernel)) (by decide) (by decide) (by decide) (fit_of (by decide +kernel)) (fit_of (by decide +kernel)) W hg ht ex ey) (by rw [ovr_C _ _ (fun rs=>chk2 rs _ _ (mulOC rs _ _)) (fun rs=>by rw [mulO_C])];decide +kernel)
theorem s_inv1 {W:World} (hg:Gl W) {t v:Value} (ht:TwAt W t [[2]]) (ex:El W v [1,1]):SayE 17 #[t,v] [-1,1] W :=
 AnsA.sayE (Inverse_O (fitT_of (by decide +kernel)) (by decide) (by decide) (fit_of (by decide +kernel)) W hg ht ex) (by rw [ovr_C _ _ (fun rs=>chk rs _ (invSC rs _)) (fun rs=>by rw [invS_C])];decide +kernel)
theorem s_inv2 {W:World} (hg:Gl W) {t v:Value} (ht:TwAt W t [[2], [3,2]]) (ex:El W v [1,1,1,0]):SayE 17 #[t,v] [-1 / 2,1 / 2,0,0] W :=
 AnsA.sayE (Inverse_O (fitT_of (by decide +kernel)) (by decide) (by decide) (fit_of (by decide +kernel)) W hg ht ex) (by rw [ovr_C _ _ (fun rs=>chk rs _ (invSC rs _)) (fun rs=>by rw [invS_C])];decide +kernel)
theorem s_emb {W:World} (hg:Gl W) {t v:Value} (ht:TwAt W t [[2], [3,2]]) (ex:El W v [5]):SayE 25 #[t,v] [5,0,0,0] W :=
 AnsA.sayE (Embed_O (fitT_of (by decide +kernel)) (by decide) (by decide) (fit_of (by decide +kernel)) W hg ht ex) (by rw [ovr_C _ _ (fun rs=>embO rs _) (fun _=>rfl)];decide +kernel)
theorem s_embn {W:World} (hg:Gl W) {t v:Value} (ht:TwAt W t [[2], [3,2]]) (ex:El W v [1,2,3]):Say 25 #[t,v] (.tuple #[.slice none 0 0,.int .i64 60]) W :=
 AnsA.sayN (Embed_O (fitT_of (by decide +kernel)) (by decide) (by decide) (fit_of (by decide +kernel)) W hg ht ex) (by rw [ovr_C _ _ (fun rs=>embO rs _) (fun _=>rfl)];decide +kernel)
theorem s_rat {W:World} (hg:Gl W) {t v:Value} (ht:TwAt W t [[2], [3,2]]) (ex:El W v [7,0,0,0]):Say 26 #[t,v] (.tuple #[.agg #[J ⟨#[55]⟩,J ⟨#[49]⟩],.bool true]) W :=
 (Rational_O (fitT_of (by decide +kernel)) (by decide) (by decide) (fit_of (by decide +kernel)) W hg ht ex).mono fun e W' h=>by
  have:=h.good 7 (by rw [ovr_C _ _ (fun rs=>chk rs _ (ratE _)) (fun _=>rfl)];decide +kernel);rw [this,show pq 7=(⟨#[55]⟩,⟨#[49]⟩) by decide +kernel];exact ⟨rfl,h.below⟩
theorem s_valid {W:World} (hg:Gl W) {t:Value} (ht:TwAt W t [[2], [3,2]]):Say 33 #[t] (.bool true) W :=
 (Valid_O (fitT_of (by decide +kernel)) (by decide) W hg ht).mono fun e W' h=>by
  rw [h.1,fieldO_C,show (fieldOC [] [[2], [3,2]]).isSome=true by decide +kernel];exact ⟨rfl,h.2⟩
theorem level_any (p:Option Addr) (n c:Nat) (W:World):Say 21 #[.agg #[.slice p n c]] (.int .i64 (n:Int)) W:=by
 have u:=(Below.refl W.heap.size W).alloc Lr (Jc #[.slice p n c] 28);show Calls _ _ _ _ _;go_enter Tryz.func21, Tryz.ntmps21;go_wp2_with fail;go_ret;exact ⟨rfl,u⟩
end Tw
end
end Go.Proofs.YtihlgifojjeoaaaGreatDoor
