import Derived.Test.YtihlgifojjeoaaaGreatDoorZ8L
import Derived.Test.YtihlgifojjeoaaaGreatDoorZ8F9
import Derived.Test.YtihlgifojjeoaaaGreatDoorZ8F1
set_option maxRecDepth 1000000
set_option maxHeartbeats 40000000
open Go.Value renaming string→J
open Go.Obj renaming cells→Jc
namespace Go.Proofs.YtihlgifojjeoaaaGreatDoor
section
namespace Tw
open Go.RowKit Go.Extern.Stop Go.Stop Go.Extern
open En Go.Proofs.YtihlgifojjeoaaaGreatDoor.Nm Go.Proofs.YtihlgifojjeoaaaGreatDoor.Rt
def chk {T:Type} (rs:List (List Rat)) (x:List Rat) (o:Option T):Option T:=if x.length=2^rs.length then o else none
abbrev IsI (o:Option Int) (_:World) (v:Value):Prop:=∃ s,o=some s∧v = .int .i64 s
abbrev IsE (o:Option (List Rat)) (W:World) (v:Value):Prop:=∃ z,o=some z∧El W v z
theorem Qti {rs:List (List Rat)} (hk:rs.length≤4) {x:List Rat} (hn:x.length≤1000) (fx:FitL x) {f vx:Value} (pa:Addr) (w:World) (hg:Gl w) (hf:Fd w f rs) (ha:w.cell? pa=some vx) (ex:El w vx x) :
  Calls Tryz.prog 46 #[f,.pointer (some pa)] w (AnsC (chk rs x (Qaw rs x)≠none) (IsI (chk rs x (Qaw rs x))) w):=by
 have cC:=Qbw hk hn fx w hf ex;have cS:=fun (W:World) (u:Below w.heap.size w W) (h:x.length=2^rs.length)=>QeU hk h fx W (hg.keep u) (Fd.keep u hf) (ex.keep u);have CS:Sh _:=⟨cS⟩;clear cS hg hf ex;obtain ⟨O,hO⟩:∃ O,O=chk rs x (Qaw rs x):=⟨_,rfl⟩;rw [←hO];have HO:Sh _:=⟨hO⟩;clear hO;go_enter Tryz.func46, Tryz.ntmps46;go_wp2_with fail;refine cC.mono ?_;intro e v1 h1;have u:=h1.below;by_cases hl:x.length=2^rs.length
 ·obtain rfl:=h1.good hl;have cG:=CS.o v1 u hl;have ho:O=Qaw rs x:=by rw [HO.o,chk,if_pos hl]
  rw [←ho] at cG;clear h1 cC CS ho HO hl;go_wp2_with fail;refine cG.mono ?_;intro e v2 h2;replace u:=u.trans (h2.below.mono u.size);cases O with
  | none =>
   obtain rfl:=h2.bad rfl;exact ⟨rfl,u,fun h=>absurd rfl h,fun _=>rfl⟩
  | some s =>
   obtain rfl:=h2.good s rfl;clear h2 cG;go_wp2_with fail;go_ret;exact ⟨u,fun _=>⟨_,rfl,s,rfl,rfl⟩,fun h=>absurd (fun q=>by cases q) h⟩
 ·obtain rfl:=h1.bad hl;have ho:O=none:=by rw [HO.o,chk,if_neg hl]
  exact ⟨rfl,u,fun h=>absurd ho h,fun _=>rfl⟩
noncomputable def ovr {T:Type} (L:List (List Rat)) (o:List (List Rat)→Option T):Option T:=(Qam [] L).bind o
theorem Qco {T:Type} {L:List (List Rat)} {o:List (List Rat)→Option T} (h:Qam [] L=none):¬(ovr L o≠none):=fun q=>q (by rw [ovr,h];rfl)
theorem QaA {T:Type} {L rs:List (List Rat)} {o:List (List Rat)→Option T} (h:Qam [] L=some rs):ovr L o=o rs:=by rw [ovr,h];rfl
theorem QbB {L rs:List (List Rat)} (h:Qam [] L=some rs):rs.length≤4:=by
 obtain ⟨h1,h2⟩:=Qeh h;by_cases h0:L = []
 ·subst h0;rw [h1];simp
 ·exact h2 h0
theorem QeV {L:List (List Rat)} (hL:FitT L) (hn:L.length≤1000) {x:List Rat} (hx:x.length≤1000) (fx:FitL x) {t vx:Value} (w:World) (hg:Gl w) (ht:TwAt w t L) (ex:El w vx x) :
  Calls Tryz.prog 16 #[t,vx] w (AnsA (ovr L (fun rs=>chk rs x (Qaw rs x))≠none) (IsI (ovr L fun rs=>chk rs x (Qaw rs x))) (.int .i64 0) w):=by
 have hmf:=mkf;have HT:Sh _:=⟨ht⟩;obtain ⟨p,cap,rfl,h⟩:=ht.ex;clear h ht;have HX:Sh _:=⟨ex⟩;obtain ⟨b,o,c,rfl,h1,h2⟩:=ex.ex;clear h1 h2 ex;have u:=((Below.refl w.heap.size w).alloc Lr (Jc #[.slice p L.length cap] 28)).alloc (by simp) (Jc #[.slice (some ⟨b,o,none⟩) x.length c] 29);have n_t:((w.alloc (Jc #[.slice p L.length cap] 28)).alloc (Jc #[.slice (some ⟨b,o,none⟩) x.length c] 29)).heap[w.heap.size]? = _:=(Below.heap_alloc (w.alloc (Jc #[.slice p L.length cap] 28)) _ w.heap.size (by simp)).trans (World.alloc_heap_new w _);have n_x:=En.QaP w (Jc #[.slice p L.length cap] 28) (Jc #[.slice (some ⟨b,o,none⟩) x.length c] 29);have t0:=En.Qaa n_t 0 (v:=.slice p L.length cap) rfl;obtain ⟨O,hO⟩:∃ O,O=ovr L (fun rs=>chk rs x (Qaw rs x)):=⟨_,rfl⟩;rw [←hO];have HO:Sh _:=⟨hO⟩;clear hO;go_enter Tryz.func16, Tryz.ntmps16;go_wp2_with fail;generalize ((w.alloc (Jc #[.slice p L.length cap] 28)).alloc (Jc #[.slice (some ⟨b,o,none⟩) x.length c] 29))=W0 at *
 have cA:=Qki 46 #[.pointer (some ⟨w.heap.size+1,0,none⟩)] (enters_of Tryz.func46 (by kernel_rfl) rfl) hL hn (O≠none) (IsI O) W0 (hg.keep u) (HT.o.keep u) (by rw [HO.o];exact Qco)
  (fun rs hrs W f hB hf=>by
   rw [HO.o,QaA hrs];exact Qti (QbB hrs) hx fx ⟨w.heap.size+1,0,none⟩ W ((hg.keep u).keep hB) hf (En.Qaa (En.Qac n_x hB) 0 rfl) ((HX.o.keep u).keep hB))
 refine cA.mono ?_;intro e v1 h1;replace u:=u.trans (h1.below.mono u.size);clear HX HT HO n_t n_x t0 cA;cases O with
 | none =>
  obtain rfl:=h1.bad (fun h=>h rfl);clear h1;go_wp2_with fail;exact bodyPost_ret (v:=.tuple #[.int .i64 0,.int .i64 60]) (by simp [results,Tryz.results16, go_sem]) rfl ⟨u,fun h=>absurd rfl h,fun _=>rfl⟩
 | some s =>
  obtain ⟨v,rfl,hv⟩:=h1.good (fun q=>by cases q);clear h1;go_wp2_with fail;exact bodyPost_ret (v:=.tuple #[v,.int .i64 0]) (by simp [results,Tryz.results16, go_sem]) rfl ⟨u,fun _=>⟨v,rfl,hv⟩,fun h=>absurd (fun q=>by cases q) h⟩
def TwN (base:Nat) (W:World) (v:Value) (L:List (List Rat)):Prop:=∃ p cap,v = .agg #[.slice p L.length cap]∧(L = []∨∃ bt,p=some ⟨bt,0,none⟩∧base≤bt∧∀ i x,L[i]? = some x→∃ vi,W.cell? ⟨bt,i,none⟩=some vi∧Yng base W vi x)
theorem TwN.at_ {base:Nat} {W:World} {v:Value} {L:List (List Rat)} (h:TwN base W v L):TwAt W v L:=by
 obtain ⟨p,cap,e,h⟩:=h;refine ⟨p,cap,e, ?_⟩;rcases h with h | ⟨bt,e,_,h⟩
 ·exact .inl h
 ·exact .inr ⟨bt,0,e,fun i x hx=>by
   obtain ⟨vi,h1,h2⟩:=h i x hx;exact ⟨vi,by rw [Nat.zero_add];exact h1,h2.el⟩⟩
theorem TwN.set {base:Nat} {W:World} {v:Value} {L:List (List Rat)} (h:TwN base W v L) {b:Nat} (hb:b<base) (y:Value):TwN base (W.setCell ⟨b,0,none⟩ y) v L:=by
 obtain ⟨p,cap,e,h⟩:=h;refine ⟨p,cap,e, ?_⟩
 have hc:∀ g i x,base≤g→W.cell? ⟨g,i,none⟩=some x→(W.setCell ⟨b,0,none⟩ y).cell? ⟨g,i,none⟩=some x:=fun g i x hg hx =>
  (World.cell?_setCell_other W ⟨b,0,none⟩ ⟨g,i,none⟩ y (by intro e;injection e with e1 _ _;omega)).trans hx
 rcases h with h | ⟨bt,e,hbt,h⟩
 ·exact .inl h
 ·refine .inr ⟨bt,e,hbt,fun i x hx => ?_⟩;obtain ⟨vi,h1,b',cp,h2,h3,h4,h5⟩:=h i x hx;exact ⟨vi,hc _ _ _ hbt h1,b',cp,h2,h3,h4,⟨fun j hj=>⟨hc _ _ _ h4 (h5.at_ j hj).1,hc _ _ _ h4 (h5.at_ j hj).2⟩⟩⟩
theorem Rds.tw {base:Nat} {W:World} {v:Value} {L:List (List Rat)} {V:Nat→Value} (h:Rds base W v L V):TwN base W (.agg #[v]) L:=by
 cases L with
 | nil =>
  rcases h.own.2 with ⟨rfl,_⟩ | ⟨g,cap,cur,rfl,_⟩
  ·exact ⟨none,0,rfl,.inl rfl⟩
  ·exact ⟨_,cap,rfl,.inl rfl⟩
 | cons d ds =>
  obtain ⟨g,cap,rfl,hg,_,_,cur,hgg,h0⟩:=h.own.shape (fun i _=>rfl);refine ⟨_,cap,rfl,.inr ⟨g,rfl,hg,fun i x hx => ?_⟩⟩
  have hi:i<(d :: ds).length:=by
   rcases Nat.lt_or_ge i (d :: ds).length with h | h
   ·exact h
   ·rw [List.getElem?_eq_none h] at hx;cases hx
  have:=h0 i 0 hi (by omega);rw [Nat.mul_one,Nat.add_zero] at this;exact ⟨V i,En.Qaa hgg i this,h.el i x hx⟩
open Classical in
noncomputable def extO (rs:List (List Rat)) (x:List Rat):Option (List (List Rat)):=if Adj rs x then some (x :: rs).reverse else none
theorem QoN {rs:List (List Rat)} (hk:rs.length≤4) {x:List Rat} (hn:x.length≤1000) (fx:FitL x) {f vx:Value} (pa:Addr) (w:World) (hg:Gl w) (hf:Fd w f rs) (ha:w.cell? pa=some vx) (ex:El w vx x) :
  Calls Tryz.prog 56 #[f,.pointer (some pa)] w (AnsC (Adj rs x) (fun W v=>TwN w.heap.size W v (x :: rs).reverse) w):=by
 have u:=(Below.refl w.heap.size w).alloc Lr (Jc #[.slice none 0 0] 28);have n_r:(w.alloc (Jc #[.slice none 0 0] 28)).heap[w.heap.size]? = _:=World.alloc_heap_new w _;have cE:=Qhw hk hn fx (w.alloc (Jc #[.slice none 0 0] 28)) (hg.keep u) (Fd.keep u hf) (ex.keep u);have ha':=Qae ha u;have HA:Sh (Adj rs x→rs.length<4):=⟨fun h=>h.1⟩;clear hg hf ex fx hn hk ha;obtain ⟨A,hA⟩:∃ A,A=Adj rs x:=⟨_,rfl⟩;rw [←hA] at cE HA ⊢;clear hA;go_enter Tryz.func56, Tryz.ntmps56;go_wp2_with fail;refine cE.mono ?_;intro e v1 h1;replace u:=u.trans (h1.below.mono u.size);replace n_r:=En.Qac n_r h1.below;by_cases hok:A
 ·obtain ⟨f2,rfl,hf2⟩:=h1.good hok;have hl:=HA.o hok;have cR:=QgQ (rs:=x :: rs) (by simp;omega) v1 hf2;have hsz:w.heap.size+1≤v1.heap.size:=by have:=h1.below.size;simpa using this
  clear h1 cE ha' hf2;go_wp2_with fail;refine cR.mono ?_;intro e v2 h2;replace u:=u.trans (h2.below.mono u.size);replace n_r:=En.Qac n_r h2.below;obtain ⟨v,V,rfl,hV⟩:=h2.good;have hT:=hV.tw;have k0:=En.Qaa n_r 0 (v:=.slice none 0 0) rfl;have k1:=En.Qad n_r 0;clear h2 cR
  have hT2:TwN w.heap.size v2 (.agg #[v]) (x :: rs).reverse:=by
   obtain ⟨p,cap,e,h⟩:=hT;refine ⟨p,cap,e, ?_⟩;rcases h with h | ⟨bt,e,hbt,h⟩
   ·exact .inl h
   ·exact .inr ⟨bt,e,by omega,fun i x hx=>by
     obtain ⟨vi,h1,b',cp,h2,h3,h4,h5⟩:=h i x hx;exact ⟨vi,h1,b',cp,h2,h3,by omega,h5⟩⟩
  obtain ⟨p,n,cp,rfl⟩:∃ p n cp,v = .slice p n cp:=by
   obtain ⟨p,cap,e,_⟩:=hT2;injection e with e;exact ⟨p,_,cap,by simpa using e⟩
  have HT:Sh (TwN (w.heap.size+1) v2 (.agg #[.slice p n cp]) (x :: rs).reverse):=⟨by
   obtain ⟨p,cap,e,h⟩:=hT;refine ⟨p,cap,e, ?_⟩;rcases h with h | ⟨bt,e,hbt,h⟩
   ·exact .inl h
   ·exact .inr ⟨bt,e,by omega,fun i x hx=>by
     obtain ⟨vi,h1,b',cp,h2,h3,h4,h5⟩:=h i x hx;exact ⟨vi,h1,b',cp,h2,h3,by omega,h5⟩⟩⟩
  clear hT hT2 hV;go_wp2_with fail;have s_r:=World.cell?_setCell_same v2 ⟨w.heap.size,0,none⟩ (.slice p n cp) k0;have HT2:=HT.o.set (b:=w.heap.size) (by omega) (.slice p n cp)
  exact bodyPost_ret (v:=.agg #[.slice p n cp]) (by simp [results,Tryz.results56, go_sem,s_r]) rfl ⟨u.setCell Lr _,fun _=>⟨_,rfl,by
   obtain ⟨p,cap,e,h⟩:=HT2;refine ⟨p,cap,e, ?_⟩;rcases h with h | ⟨bt,e,hbt,h⟩
   ·exact .inl h
   ·exact .inr ⟨bt,e,by omega,fun i x hx=>by
     obtain ⟨vi,h1,b',cp,h2,h3,h4,h5⟩:=h i x hx;exact ⟨vi,h1,b',cp,h2,h3,by omega,h5⟩⟩⟩,fun h=>absurd hok h⟩
 ·obtain rfl:=h1.bad hok;exact ⟨rfl,u,fun h=>absurd h hok,fun _=>rfl⟩
theorem Qlk {L:List (List Rat)} (hL:FitT L) (hn:L.length≤1000) {x:List Rat} (hx:x.length≤1000) (fx:FitL x) {t vx:Value} (w:World) (hg:Gl w) (ht:TwAt w t L) (ex:El w vx x) :
  Calls Tryz.prog 23 #[t,vx] w (AnsA (ovr L (fun rs=>extO rs x)≠none) (fun W v=>∃ l,ovr L (fun rs=>extO rs x)=some l∧TwAt W v l) (.agg #[.slice none 0 0]) w):=by
 have hmf:=mkf;have HT:Sh _:=⟨ht⟩;have HX:Sh _:=⟨ex⟩;obtain ⟨p,cap,rfl,h⟩:=ht.ex;obtain ⟨bx,ox,cx,rfl,_,_⟩:=ex.ex;clear h ht ex;have u:=(((Below.refl w.heap.size w).alloc Lr (Jc #[.slice p L.length cap] 28)).alloc (by simp) (Jc #[.slice (some ⟨bx,ox,none⟩) x.length cx] 29)).alloc (by simp;omega) (Jc #[.slice none 0 0] 28);obtain ⟨n_t,n_x,n_r⟩:=En.new3 w (Jc #[.slice p L.length cap] 28) (Jc #[.slice (some ⟨bx,ox,none⟩) x.length cx] 29) (Jc #[.slice none 0 0] 28);have t0:=En.Qaa n_t 0 (v:=.slice p L.length cap) rfl;obtain ⟨O,hO⟩:∃ O,O=ovr L (fun rs=>extO rs x):=⟨_,rfl⟩;rw [←hO];have HO:Sh _:=⟨hO⟩;clear hO;go_enter Tryz.func23, Tryz.ntmps23;go_wp2_with fail;generalize (((w.alloc (Jc #[.slice p L.length cap] 28)).alloc (Jc #[.slice (some ⟨bx,ox,none⟩) x.length cx] 29)).alloc (Jc #[.slice none 0 0] 28))=W0 at *
 have cA:=Qkk 56 #[.pointer (some ⟨w.heap.size+1,0,none⟩)] (enters_of Tryz.func56 (by kernel_rfl) rfl) hL hn (O≠none) W0
  (fun W W' v=>∃ l,O=some l∧TwN W.heap.size W' v l)
  (fun W W' v b y _ hb h=>by obtain ⟨l,e,h⟩:=h;exact ⟨l,e,h.set hb y⟩)
  (fun W W' v h=>by obtain ⟨l,e,p,cap,e2,_⟩:=h;exact ⟨_,_,_,e2⟩)
  (hg.keep u) (HT.o.keep u) (by rw [HO.o];exact Qco)
  (fun rs hrs W f hB hf=>by
   have c:=QoN (QbB hrs) hx fx ⟨w.heap.size+1,0,none⟩ W ((hg.keep u).keep hB) hf (En.Qaa (En.Qac n_x hB) 0 rfl) ((HX.o.keep u).keep hB);have e:O=extO rs x:=by rw [HO.o,QaA hrs]
   by_cases ha:Adj rs x
   ·have e1:O=some (x :: rs).reverse:=by rw [e,extO,if_pos ha]
    refine c.mono fun e' w' h=>⟨h.below,fun _ => ?_,fun k=>absurd (by rw [e1];simp) k⟩;obtain ⟨v,h1,h2⟩:=h.good ha;exact ⟨v,h1,_,e1,h2⟩
   ·have e1:O=none:=by rw [e,extO,if_neg ha]
    refine c.mono fun e' w' h=>⟨h.below,fun k=>absurd e1 k,fun _=>h.bad ha⟩)
 have hb0:w.heap.size+1+1<W0.heap.size:=(Array.getElem?_eq_some_iff.1 n_r).1;refine cA.mono ?_;intro e v1 h1;replace u:=u.trans (h1.below.mono u.size);replace n_r:=En.Qac n_r h1.below;clear HT HO HX n_t n_x t0 cA;have k0:=En.Qaa n_r 0 (v:=.slice none 0 0) rfl;have k1:=En.Qad n_r 0;cases O with
 | none =>
  obtain rfl:=h1.bad (fun h=>h rfl);clear h1;go_wp2_with fail;have s_r:=World.cell?_setCell_same v1 ⟨w.heap.size+1+1,0,none⟩ (.slice none 0 0) k0;exact bodyPost_ret (v:=.tuple #[.agg #[.slice none 0 0],.int .i64 60]) (by simp [results,Tryz.results23, go_sem,s_r]) rfl ⟨u.setCell (by show w.heap.size≤w.heap.size+1+1;omega) _,fun h=>absurd rfl h,fun _=>rfl⟩
 | some s =>
  obtain ⟨v,rfl,W,hW,l,hl,hv⟩:=h1.good (fun q=>by cases q);cases hl;clear h1;obtain ⟨p',n',c',rfl⟩:∃ p n cp,v = .agg #[.slice p n cp]:=by obtain ⟨p,cap,e,_⟩:=hv;exact ⟨_,_,_,e⟩
  have hbig:w.heap.size+1+1<W.heap.size:=Nat.lt_of_lt_of_le hb0 hW.size;have HV:Sh _:=⟨hv.set hbig (.slice p' n' c')⟩;clear hv;go_wp2_with fail;have s_r:=World.cell?_setCell_same v1 ⟨w.heap.size+1+1,0,none⟩ (.slice p' n' c') k0;exact bodyPost_ret (v:=.tuple #[.agg #[.slice p' n' c'],.int .i64 0]) (by simp [results,Tryz.results23, go_sem,s_r]) rfl ⟨u.setCell (by show w.heap.size≤w.heap.size+1+1;omega) _,fun _=>⟨_,rfl,_,rfl,HV.o.at_⟩,fun h=>absurd (fun q=>by cases q) h⟩
def OkI (P:Rat×Rat):Prop:=FitQ P.1∧FitQ P.2∧P.1≤P.2
abbrev ivS (P:Rat×Rat):Value:=.agg #[J (txt P.1.num),J (txt (P.1.den:Int)),J (txt P.2.num),J (txt (P.2.den:Int))]
def ivO:Option (Rat×Rat)→Value
 | some P=>ivS P
 | none=>ivl0
def cI:Option (Rat×Rat)→Int
 | some _=>0
 | none=>50
theorem Qtj (o:Option (Rat×Rat)):resI o = .tuple #[ivO o,.int .i64 (cI o)]:=by cases o <;> rfl
structure AnsI (o:Option (Rat×Rat)) (w:World) (e:Ending) (w':World):Prop where
 below:Below w.heap.size w w'
 good:∀ P,o=some P→e = .returned (ivS P)
 bad:o=none→e = .panicked twP
theorem QqH (x0 x1 x2 x3:ByteArray) (w:World):Calls Tryz.prog 72 #[ivl x0 x1 x2 x3,.int .i64 0] w fun e w'=>e = .returned (ivl x0 x1 x2 x3)∧Below w.heap.size w w':=by
 have hr:=Qbb;unfold ivl;go_enter Tryz.func72, Tryz.ntmps72;go_wp2_with (go_at_call 49; refine (hr _).mono ?_;rintro e w' ⟨rfl,rfl⟩);have n_r:=En.QaP w (Jc #[J x0,J x1,J x2,J x3] 55) (Jc #[J x0,J x1,J x2,J x3] 55);have u:=((Below.refl w.heap.size w).alloc Lr (Jc #[J x0,J x1,J x2,J x3] 55)).alloc (by simp) (Jc #[J x0,J x1,J x2,J x3] 55);have z0:=En.Qaa n_r 0 (v:=J x0) rfl;have z1:=En.Qaa n_r 1 (v:=J x1) rfl;have z2:=En.Qaa n_r 2 (v:=J x2) rfl;have z3:=En.Qaa n_r 3 (v:=J x3) rfl;exact bodyPost_ret (v:=.agg #[J x0,J x1,J x2,J x3]) (by simp [results,Tryz.results72, go_sem]) rfl ⟨rfl,u⟩
theorem QqI (x0 x1 x2 x3:ByteArray) (c:Int) (hc:c≠0) (w:World):Calls Tryz.prog 72 #[ivl x0 x1 x2 x3,.int .i64 c] w fun e w'=>e = .panicked twP∧Below w.heap.size w w':=by
 have hb:(c != 0)=true:=by simp [hc]
 unfold ivl;go_enter Tryz.func72, Tryz.ntmps72;have u:=((Below.refl w.heap.size w).alloc Lr (Jc #[J x0,J x1,J x2,J x3] 55)).alloc (by simp) (Jc #[J ⟨#[]⟩,J ⟨#[]⟩,J ⟨#[]⟩,J ⟨#[]⟩] 55);have hr:=QaV ((w.alloc (Jc #[J x0,J x1,J x2,J x3] 55)).alloc (Jc #[J ⟨#[]⟩,J ⟨#[]⟩,J ⟨#[]⟩,J ⟨#[]⟩] 55));go_wp2_with (go_at_call 49; refine hr.mono ?_;rintro e w' ⟨rfl,rfl⟩);exact ⟨rfl,rfl,u⟩
theorem Qet (o:Option (Rat×Rat)) (w:World):Calls Tryz.prog 72 #[ivO o,.int .i64 (cI o)] w (AnsI o w):=by
 cases o with
 | some P=>exact (QqH _ _ _ _ w).mono fun e w' h=>⟨h.2,fun Q hQ=>by cases hQ;exact h.1,fun h=>by cases h⟩
 | none=>exact (QqI _ _ _ _ 50 (by decide) w).mono fun e w' h=>⟨h.2,fun Q hQ=>(by cases hQ),fun _=>h.1⟩
noncomputable def encO:List (List Rat)→Nat→List Rat→Option (Rat×Rat)
 | [],_,x=>some (x.headD 0,x.headD 0)
 | d :: rs,p,x=>(encO rs p d).bind fun D=>(sqO p D).bind fun s=>(encO rs p (hr x)).bind fun b=>(muO b s).bind fun m=>(encO rs p (hl x)).bind fun a=>(adO a m).bind fun t=>rdO p t
end Tw
namespace En
open Go.Proofs.YtihlgifojjeoaaaGreatDoor.Nm Go.Proofs.YtihlgifojjeoaaaGreatDoor.Rt
theorem QhE {n d m c:Int} (hd:0<d) (hc:0<c) (h:n*c<m*d):Rat.divInt n d<Rat.divInt m c:=by
 have e:=QkQ (n:=n) (m:=m) hd hc;rw [cmpZ,if_pos h] at e;rcases Qcs (Rat.divInt n d) (Rat.divInt m c) with ⟨_,h1⟩ | ⟨h1,_⟩ | ⟨h1,_⟩
 ·exact h1
 ·rw [h1] at e;exact absurd e (by decide)
 ·rw [h1] at e;exact absurd e (by decide)
theorem Qfn {n d m c:Int} (hd:0<d) (hc:0<c) (h:n*c≤m*d):Rat.divInt n d≤Rat.divInt m c:=by
 rcases Int.lt_or_eq_of_le h with h1 | h1
 ·exact Rat.le_of_lt (QhE hd hc h1)
 ·have e:=QkQ (n:=n) (m:=m) hd hc;rw [cmpZ,if_neg (by omega),if_pos h1] at e;rcases Qcs (Rat.divInt n d) (Rat.divInt m c) with ⟨h2,_⟩ | ⟨_,h2⟩ | ⟨h2,_⟩
  ·rw [h2] at e;exact absurd e (by decide)
  ·rw [h2];exact Rat.le_refl
  ·rw [h2] at e;exact absurd e (by decide)
theorem QoO {r:Rat} (h:0≤r.num) (c:Nat):0≤xN r c:=Int.mul_nonneg (Int.mul_nonneg h (Int.le_of_lt (Int.pow_pos (by decide)))) (Int.le_of_lt (Int.pow_pos (by decide)))
theorem Qik {x d k:Int} (hd:0<d) (h:x / d<k):x<k*d:=by
 have h1:=Int.mul_ediv_add_emod x d;have h2:=Int.emod_lt_of_pos x hd;have h3:=Int.mul_le_mul_of_nonneg_right (show x / d+1≤k by omega) (Int.le_of_lt hd);rw [Int.add_mul,Int.one_mul,Int.mul_comm (x / d)] at h3;omega
theorem QeW {x d k:Int} (hd:0<d) (h:k≤x / d):k*d≤x:=by
 have h1:=Int.mul_ediv_add_emod x d;have h2:=Int.emod_nonneg x (show d≠0 by omega);have h3:=Int.mul_le_mul_of_nonneg_right h (Int.le_of_lt hd);rw [Int.mul_comm (x / d)] at h3;omega
theorem QoP {r : Rat} (h : 0 ≤ r.num) (c : Nat) : ((rtN r c : Nat) : Int) * ((rtN r c : Nat) : Int) * (r.den : Int) ≤ xN r c ∧ xN r c < (((rtN r c : Nat) : Int) + 1) * (((rtN r c : Nat) : Int) + 1) * (r.den : Int) := by
  have hD : 0 < (r.den : Int) := by have := r.den_pos; omega
  have h0 : 0 ≤ sqN r c := Int.ediv_nonneg (QoO h c) (Int.le_of_lt hD);obtain ⟨s1, s2⟩ := QbJ (sqN r c).natAbs;have e : ((sqN r c).natAbs : Int) = sqN r c := by omega
  have t1 : ((rtN r c : Nat) : Int) * ((rtN r c : Nat) : Int) ≤ sqN r c := by rw [← e]; exact_mod_cast s1
  have t2 : sqN r c < (((rtN r c : Nat) : Int) + 1) * (((rtN r c : Nat) : Int) + 1) := by conv => lhs; rw [← e]
                                                                                          exact_mod_cast s2
  exact ⟨QeW hD t1, Qik hD t2⟩
theorem Qtk {r:Rat} (h:0≤r.num) (c:Nat):0≤upN r c∧xN r c≤upN r c*upN r c*(r.den:Int)∧(upN r c=0∨(upN r c-1)*(upN r c-1)*(r.den:Int)<xN r c):=by
 have hD:0<(r.den:Int):=by have:=r.den_pos;omega
 obtain ⟨s1,s2⟩:=QoP h c;have n0:(0:Int)≤((rtN r c:Nat):Int):=by omega
 have hx:=Int.mul_ediv_add_emod (xN r c) (r.den:Int)
 have hex:exN r c=true↔((rtN r c:Nat):Int)*((rtN r c:Nat):Int)*(r.den:Int)=xN r c:=by
  rw [exN,Bool.and_eq_true,decide_eq_true_eq,decide_eq_true_eq];constructor
  ·rintro ⟨h1,h2⟩;have h3:xN r c % (r.den:Int)=0:=h1;have h4:((rtN r c:Nat):Int)*((rtN r c:Nat):Int)=xN r c / (r.den:Int):=h2;rw [h4,Int.mul_comm];omega
  ·intro h1;have h2:xN r c % (r.den:Int)=0:=by rw [←h1];exact Int.mul_emod_left _ _
   refine ⟨h2, ?_⟩;show _=xN r c / (r.den:Int);rw [←h1,Int.mul_ediv_cancel _ (by omega)]
 rw [upN];by_cases hc:exN r c=true
 ·rw [if_pos hc];have h1:=hex.1 hc;refine ⟨n0,by omega, ?_⟩;by_cases hz:((rtN r c:Nat):Int)=0
  ·exact .inl hz
  ·right;rw [←h1]
   have h2:(((rtN r c:Nat):Int)-1)*(((rtN r c:Nat):Int)-1)<((rtN r c:Nat):Int)*((rtN r c:Nat):Int):=by
    generalize ((rtN r c:Nat):Int)=k at *
    rw [Int.sub_mul,Int.mul_sub];omega
   exact Int.mul_lt_mul_of_pos_right h2 hD
 ·rw [if_neg hc];refine ⟨by omega,Int.le_of_lt s2,.inr ?_⟩;rw [Int.add_sub_cancel];exact Int.lt_iff_le_and_ne.2 ⟨s1,fun h2=>hc (hex.2 h2)⟩
theorem Qtl {p q:Rat} (h:p≤q) (c:Nat):xN p c*q.den≤xN q c*p.den:=by
 have h1:=(Rat.le_iff p q).1 h;have hP:0≤(10:Int)^c:=Int.le_of_lt (Int.pow_pos (by decide));have h2:=Int.mul_le_mul_of_nonneg_right (Int.mul_le_mul_of_nonneg_right h1 hP) hP;unfold xN;rw [show p.num*10^c*10^c*(q.den:Int)=p.num*q.den*10^c*10^c by ac_rfl,show q.num*10^c*10^c*(p.den:Int)=q.num*p.den*10^c*10^c by ac_rfl];exact h2
theorem QvP {a b:Int} (h:a*a<b*b) (hb:0≤b):a<b:=by
 refine Int.not_le.1 (fun h1 => ?_);exact absurd (Int.mul_le_mul h1 h1 hb (Int.le_trans hb h1)) (Int.not_le.2 h)
theorem QqJ {a b x y d e:Int} (hd:0<d) (he:0<e) (hb:0≤b) (h1:a*a*d≤x) (h2:x*e≤y*d) (h3:y<b*b*e):a<b:=by
 refine QvP ?_ hb;have g1:=Int.mul_le_mul_of_nonneg_right h1 (Int.le_of_lt he);have g2:=Int.mul_lt_mul_of_pos_right h3 hd;have g3:a*a*d*e<b*b*e*d:=Int.lt_of_le_of_lt (Int.le_trans g1 h2) g2;rw [show a*a*d*e=a*a*(d*e) by ac_rfl,show b*b*e*d=b*b*(d*e) by ac_rfl] at g3;exact Int.lt_of_mul_lt_mul_right g3 (Int.le_of_lt (Int.mul_pos hd he))
theorem Qdw (r:Rat):0<(r.den:Int):=by have:=r.den_pos;omega
theorem QvQ {p q:Rat} (hp:0≤p.num) (h:p≤q) (c:Nat):((rtN p c:Nat):Int)≤upN q c:=by
 have hq:0≤q.num:=Rat.num_nonneg.2 (Rat.le_trans (Rat.num_nonneg.1 hp) h);obtain ⟨b1,b2,b3⟩:=Qtk hq c;have:=QqJ (b:=upN q c+1) (Qdw p) (Qdw q) (by omega) (QoP hp c).1 (Qtl h c) (Int.lt_of_le_of_lt b2 (Int.mul_lt_mul_of_pos_right (by rw [Int.add_mul,Int.mul_add];omega) (Qdw q)));omega
theorem Qtm {k m:Int} (h:k≤m) (c:Nat):Rat.divInt k (10^c)≤Rat.divInt m (10^c) :=
 Qfn (Int.pow_pos (by decide)) (Int.pow_pos (by decide)) (Int.mul_le_mul_of_nonneg_right h (Int.le_of_lt (Int.pow_pos (by decide))))
theorem QmG {p r:Rat} {c:Nat} (hc:c≤30) (h:QjP p c=some r):FitQ r∧r≤p:=by
 rw [QjP] at h;split at h
 ·rename_i f;injection h with h;subst h;refine ⟨FitQ.div (QaX f) (Qcm c hc) (Int.ne_of_gt (QgC c hc).2), ?_⟩
  conv=>rhs;rw [←Rat.num_divInt_den p]
  exact Qfn (Int.pow_pos (by decide)) (Qdw p) (QeW (Qdw p) (Int.le_refl _))
 ·cases h
theorem QqK {p r:Rat} {c:Nat} (hc:c≤30) (h:upQ p c=some r):FitQ r∧p≤r:=by
 rw [upQ] at h;split at h
 ·rename_i f;injection h with h;subst h;refine ⟨FitQ.div f.2 (Qcm c hc) (Int.ne_of_gt (QgC c hc).2), ?_⟩
  conv=>lhs;rw [←Rat.num_divInt_den p]
  refine Qfn (Qdw p) (Int.pow_pos (by decide)) ?_;have h1:=Int.mul_ediv_add_emod (p.num*10^c) (p.den:Int);have h2:=Int.emod_lt_of_pos (p.num*10^c) (Qdw p);rw [upI];split
  ·rename_i h3;rw [h3] at h1;rw [Int.mul_comm (p.num*10^c / (p.den:Int))];omega
  ·rw [Int.add_mul,Int.one_mul,Int.mul_comm (p.num*10^c / (p.den:Int))];omega
 ·cases h
end En
namespace Tw
open Go.RowKit Go.Extern.Stop Go.Stop Go.Extern
open En Go.Proofs.YtihlgifojjeoaaaGreatDoor.Nm Go.Proofs.YtihlgifojjeoaaaGreatDoor.Rt
theorem QuO {c:Nat} (hc:c≤30) {P Q:Rat×Rat} (hP:OkI P) (h:sqO c P=some Q):OkI Q∧0≤P.1.num∧0≤P.2.num:=by
 rw [sqO] at h;split at h
 ·cases h
 ·rename_i k;injection h with h;subst h;have np:¬ P.1.num<0:=fun q=>k (.inl (.inl q));have nq:¬ P.2.num<0:=fun q=>k (.inr (.inl q));have fp:Fits (xN P.1 c):=Decidable.byContradiction fun q=>k (.inl (.inr q));have fq:Fits (xN P.2 c):=Decidable.byContradiction fun q=>k (.inr (.inr q));have hne:((10:Int)^c)≠0:=Int.ne_of_gt (QgC c hc).2
  have hup:Fits (upN P.2 c):=by
   rw [upN];split
   ·exact (Qfi (by omega) fq).1
   ·exact QjZ (by omega) fq
  exact ⟨⟨FitQ.div (Qfi (by omega) fp).1 (Qcm c hc) hne,FitQ.div hup (Qcm c hc) hne,Qtm (QvQ (by omega) hP.2.2 c) c⟩,by omega,by omega⟩
theorem QvR {c:Nat} (hc:c≤30) {P Q:Rat×Rat} (hP:OkI P) (h:rdO c P=some Q):OkI Q∧Q.1≤P.1∧P.2≤Q.2:=by
 rw [rdO,Qjc] at h;obtain ⟨r,h1,h⟩:=Option.bind_eq_some_iff.1 h;obtain ⟨s,h2,h⟩:=Option.bind_eq_some_iff.1 h;injection h with h;subst h;have a:=QmG hc h1;have b:=QqK hc h2;exact ⟨⟨a.1,b.1,Rat.le_trans a.2 (Rat.le_trans hP.2.2 b.2)⟩,a.2,b.2⟩
theorem QuP {P Q T:Rat×Rat} (hP:OkI P) (hQ:OkI Q) (h:adO P Q=some T):OkI T∧T=(P.1+Q.1,P.2+Q.2):=by
 rw [adO,Qjc] at h;obtain ⟨r,h1,h⟩:=Option.bind_eq_some_iff.1 h;obtain ⟨s,h2,h⟩:=Option.bind_eq_some_iff.1 h;injection h with h;subst h;have e1:=QjW h1;have e2:=QjW h2;refine ⟨⟨FitQ.addQ h1,FitQ.addQ h2, ?_⟩,by rw [e1,e2]⟩;show r≤s;rw [e1,e2];exact Rat.le_trans (Rat.add_le_add_right.2 hP.2.2) (Rat.add_le_add_left.2 hQ.2.2)
theorem QuQ {P Q T:Rat×Rat} (hF:FourR mulQ P.1 P.2 Q.1 Q.2 (some T)):OkI T∧∀ u v,(u=P.1∨u=P.2)→(v=Q.1∨v=Q.2)→T.1≤u*v∧u*v≤T.2:=by
 rcases hF with ⟨_,h⟩ | ⟨x,y,x',y',lo,hi,hx,hy,hx',hy',e1,e2,hall,h⟩
 ·cases h
 ·injection h with h;subst h;obtain ⟨r,er,h1,h2⟩:=hall x y hx hy;refine ⟨⟨FitQ.mulQ e1,FitQ.mulQ e2,Rat.le_trans h1 h2⟩,fun u v hu hv => ?_⟩;obtain ⟨r,er,h1,h2⟩:=hall u v hu hv;rw [←QjX er];exact ⟨h1,h2⟩
theorem Qeu {p:Nat} (hp:p≤30):∀ {rs:List (List Rat)},(∀ d∈rs,FitL d)→∀ {x:List Rat} {P:Rat×Rat},FitL x→encO rs p x=some P→OkI P
 | [],_,x,P,fx,h=>by
  rw [encO] at h;injection h with h;subst h
  have:FitQ (x.headD 0):=by
   cases x with
   | nil=>exact fit0
   | cons a l=>exact fx a List.mem_cons_self
  exact ⟨this,this,Rat.le_refl⟩
 | d :: rs,hr_,x,P,fx,h=>by
  rw [encO] at h;have h1:∀ d∈rs,FitL d:=fun y hy=>hr_ y (List.mem_cons_of_mem _ hy);obtain ⟨D,eD,h⟩:=Option.bind_eq_some_iff.1 h;obtain ⟨s,es,h⟩:=Option.bind_eq_some_iff.1 h;obtain ⟨b,eb,h⟩:=Option.bind_eq_some_iff.1 h;obtain ⟨m,em,h⟩:=Option.bind_eq_some_iff.1 h;obtain ⟨a,ea,h⟩:=Option.bind_eq_some_iff.1 h;obtain ⟨t,et,h⟩:=Option.bind_eq_some_iff.1 h;have oD:=Qeu hp h1 (hr_ d List.mem_cons_self) eD;have os:=(QuO hp oD es).1;have ob:=Qeu hp h1 (x:=hr x) (fun q hq=>fx q (List.mem_of_mem_drop hq)) eb;have oa:=Qeu hp h1 (x:=hl x) (fun q hq=>fx q (List.mem_of_mem_take hq)) ea;have om:=(QsY ⟨0,0,none⟩ ob.1 ob.2.1 os.1 os.2.1 ob.2.2 os.2.2).1;rw [em] at om;exact (QvR hp (QuP oa (QuQ om).1 et).1 h).1
theorem enc1 {x:List Rat} {vx:Value} (hx:x.length=1) (fx:FitL x) (w:World) (ex:El w vx x):Calls Tryz.prog 120 #[vx] w (AnsI (some (x.headD 0,x.headD 0)) w):=by
 obtain ⟨r,rfl⟩:∃ r,x = [r]:=by
  match x,hx with
  | [r],_=>exact ⟨r,rfl⟩
 have fr:FitQ r:=fx r List.mem_cons_self;obtain ⟨b,o,c,rfl,h1,h2⟩:=ex.ex;have u:=(Below.refl w.heap.size w).alloc Lr (Jc #[J ⟨#[]⟩,J ⟨#[]⟩,J ⟨#[]⟩,J ⟨#[]⟩] 55);have n_r:(w.alloc (Jc #[J ⟨#[]⟩,J ⟨#[]⟩,J ⟨#[]⟩,J ⟨#[]⟩] 55)).heap[w.heap.size]? = _:=World.alloc_heap_new w _;obtain ⟨k0,k1⟩:=(h2.keep u).at_ 0 (by simp);have e:pqs [r] 0=(txt r.num,txt (r.den:Int)):=rfl;rw [e] at k0 k1;rw [Nat.zero_mul,Nat.add_zero] at k0 k1;have cP:=QsO fr;unfold iq at cP;show Calls _ _ _ _ (AnsI (some (r,r)) w);have HR:Sh (∀ (w':World),Below w.heap.size w w'→AnsI (some (r,r)) w (.returned (.agg #[J (txt r.num),J (txt (r.den:Int)),J (txt r.num),J (txt (r.den:Int))])) w'):=⟨fun w' u=>⟨u,fun P h=>(by cases h;rfl),fun h=>(by cases h)⟩⟩;clear h1 h2 ex fr fx hx e;generalize txt r.num=s at *
 generalize txt (r.den:Int)=t at *
 go_enter Tryz.func120, Tryz.ntmps120;go_wp2_with fail;refine (cP _).mono ?_;rintro e v1 ⟨rfl,g⟩;replace u:=u.trans (g.mono u.size);replace n_r:=En.Qac n_r g;have z0:=En.Qaa n_r 0 (v:=J ⟨#[]⟩) rfl;have z1:=En.Qaa n_r 1 (v:=J ⟨#[]⟩) rfl;have z2:=En.Qaa n_r 2 (v:=J ⟨#[]⟩) rfl;have z3:=En.Qaa n_r 3 (v:=J ⟨#[]⟩) rfl;have g0:=En.Qad n_r 0;have g1:=En.Qad n_r 1;have g2:=En.Qad n_r 2;have g3:=En.Qad n_r 3;have s_r:=QaL (x:=J s) (y:=J t) (z:=J s) (t:=J t) n_r;have y0:=En.Qaa s_r 0 (v:=J s) rfl;have y1:=En.Qaa s_r 1 (v:=J t) rfl;have y2:=En.Qaa s_r 2 (v:=J s) rfl;have y3:=En.Qaa s_r 3 (v:=J t) rfl;clear g k0 k1 cP;go_wp2_with fail;exact bodyPost_ret (v:=.agg #[J s,J t,J s,J t]) (by simp [results,Tryz.results120, go_sem,y0,y1,y2,y3]) rfl (HR.o _ ((((u.setCell Lr _).setCell Lr _).setCell Lr _).setCell Lr _))
end Tw
end
end Go.Proofs.YtihlgifojjeoaaaGreatDoor
