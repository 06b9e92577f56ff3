/-
  Package tower: Embed, Inverse.
-/
import Derived.Test.YtihlgifojjeoaaaGreatDoorZ3G4
import Derived.Test.YtihlgifojjeoaaaGreatDoorZ3F4
set_option maxRecDepth 1000000
set_option maxHeartbeats 40000000
open Go.Value renaming string→J
open Go.Obj renaming cells→Jc
namespace Go.Proofs.YtihlgifojjeoaaaGreatDoor
section
namespace Tw
open Go.RowKit Go.Extern.Stop Go.Stop Go.Extern
open En Go.Proofs.YtihlgifojjeoaaaGreatDoor.Nm Go.Proofs.YtihlgifojjeoaaaGreatDoor.Rt
theorem embClo {rs:List (List Rat)} (hk:rs.length≤4) {x:List Rat} (hn:x.length≤1000) (fx:FitL x) {f vx:Value} (pa:Addr) (w:World) (hg:Gl w) (hf:Fd w f rs) (ha:w.cell? pa=some vx) (ex:El w vx x) :
  Calls Tryz.prog 61 #[f,.pointer (some pa)] w (AnsC (embO rs x≠none) (IsE (embO rs x)) w):=by
 have cC:=emb_any hk hn fx w hg hf ex
 clear hg hf ex
 obtain ⟨O,hO⟩:∃ O,O=embO rs x:=⟨_,rfl⟩
 rw [←hO] at cC ⊢
 clear hO
 go_enter Tryz.func61, Tryz.ntmps61
 go_wp2_with fail
 refine cC.mono ?_
 intro e v1 h1
 have u:=h1.below
 cases O with
 | none =>
  obtain rfl:=h1.bad rfl
  exact ⟨rfl,u,fun h=>absurd rfl h,fun _=>rfl⟩
 | some s =>
  obtain ⟨v,rfl,ev⟩:=h1.good s rfl
  clear h1 cC
  go_wp2_with fail
  go_ret
  exact ⟨u,fun _=>⟨_,rfl,s,rfl,ev⟩,fun h=>absurd (fun q=>by cases q) h⟩
noncomputable def invS (rs:List (List Rat)) (x:List Rat):Option (List Rat):=(signO rs x).bind fun s=>if s=0 then none else invO rs x
theorem invClo {rs:List (List Rat)} (hk:rs.length≤4) {x:List Rat} (hn:x.length≤1000) (fx:FitL x) {f vx:Value} (pa:Addr) (w:World) (hg:Gl w) (hf:Fd w f rs) (ha:w.cell? pa=some vx) (ex:El w vx x) :
  Calls Tryz.prog 48 #[f,.pointer (some pa)] w (AnsC (chk rs x (invS rs x)≠none) (IsE (chk rs x (invS rs x))) w):=by
 have cC:=checked_O hk hn fx w hf ex
 have CS:Sh (∀ (W:World),Below w.heap.size w W→x.length=2^rs.length→_):=⟨fun (W:World) (u:Below w.heap.size w W) (h:x.length=2^rs.length)=>sign_any hk h fx W (hg.keep u) (Fd.keep u hf) (ex.keep u)⟩
 have CI:Sh (∀ (W:World),Below w.heap.size w W→x.length=2^rs.length→_):=⟨fun (W:World) (u:Below w.heap.size w W) (h:x.length=2^rs.length)=>inv_any hk h fx W (hg.keep u) (Fd.keep u hf) (ex.keep u)⟩
 clear hg hf ex
 obtain ⟨O,hO⟩:∃ O,O=chk rs x (invS rs x):=⟨_,rfl⟩
 rw [←hO]
 have HO:Sh _:=⟨hO⟩
 clear hO
 go_enter Tryz.func48, Tryz.ntmps48
 go_wp2_with fail
 refine cC.mono ?_
 intro e v1 h1
 have u:=h1.below
 by_cases hl:x.length=2^rs.length
 ·obtain rfl:=h1.good hl
  have cG:=CS.o v1 u hl
  have HI:Sh (∀ (W:World),Below w.heap.size w W→_):=⟨fun W u=>CI.o W u hl⟩
  have ho:O=invS rs x:=by rw [HO.o,chk,if_pos hl]
  unfold invS at ho
  have HQ:Sh _:=⟨ho⟩
  clear h1 cC CS ho HO hl CI
  generalize signO rs x=S at *
  generalize invO rs x=I at *
  go_wp2_with fail
  refine cG.mono ?_
  intro e v2 h2
  replace u:=u.trans (h2.below.mono u.size)
  cases S with
  | none =>
   obtain rfl:=h2.bad rfl
   exact ⟨rfl,u,fun h=>absurd HQ.o h,fun _=>rfl⟩
  | some s =>
   obtain rfl:=h2.good s rfl
   clear h2 cG
   by_cases hs:s=0
   ·have hb:(s == 0)=true:=by simp [hs]
    have hr:=refuse_yes v2
    have ho:Sh (O=none):=⟨by rw [HQ.o,Option.bind_some,if_pos hs]⟩
    clear HQ HI
    go_wp2_with fail
    refine hr.mono ?_
    rintro e w' ⟨rfl,rfl⟩
    exact ⟨rfl,u,fun h=>absurd ho.o h,fun _=>rfl⟩
   ·have hb:(s == 0)=false:=by simp [hs]
    have hr:=refuse_no v2
    have ho:O=I:=by rw [HQ.o,Option.bind_some,if_neg hs]
    clear HQ
    subst ho
    go_wp2_with fail
    refine hr.mono ?_
    rintro e w' ⟨rfl,rfl⟩
    have ha:=kcell ha u
    have cI:=HI.o w' u
    clear HI hr
    go_wp2_with fail
    refine cI.mono ?_
    intro e v3 h3
    replace u:=u.trans (h3.below.mono u.size)
    cases O with
    | none =>
     obtain rfl:=h3.bad rfl
     exact ⟨rfl,u,fun h=>absurd rfl h,fun _=>rfl⟩
    | some z =>
     obtain ⟨v,rfl,ev⟩:=h3.good z rfl
     clear h3 cI
     go_wp2_with fail
     go_ret
     exact ⟨u,fun _=>⟨_,rfl,z,rfl,ev⟩,fun h=>absurd (fun q=>by cases q) h⟩
 ·obtain rfl:=h1.bad hl
  have ho:O=none:=by rw [HO.o,chk,if_neg hl]
  exact ⟨rfl,u,fun h=>absurd ho h,fun _=>rfl⟩
theorem Embed_O {L:List (List Rat)} (hL:FitT L) (hn:L.length≤1000) {x:List Rat} (hx:x.length≤1000) (fx:FitL x) {t vx:Value} (w:World) (hg:Gl w) (ht:TwAt w t L) (ex:El w vx x) :
  Calls Tryz.prog 25 #[t,vx] w (AnsA (ovr L (fun rs=>embO rs x)≠none) (IsE (ovr L fun rs=>embO rs x)) (.slice none 0 0) w):=by
 have hmf:∀ (fn:Fn) (first cap:Array Value) (w:World),(Instr.makeFunc fn first cap).run Tryz.prog w = .ok (.func fn first cap) w:=fun _ _ _ _=>rfl
 have HT:Sh _:=⟨ht⟩
 obtain ⟨p,cap,rfl,h⟩:=ht.ex
 clear h ht
 have HX:Sh _:=⟨ex⟩
 obtain ⟨b,o,c,rfl,h1,h2⟩:=ex.ex
 clear h1 h2 ex
 have u:=((Below.refl w.heap.size w).alloc (Nat.le_refl _) (Jc #[.slice p L.length cap] 28)).alloc (by simp) (Jc #[.slice (some ⟨b,o,none⟩) x.length c] 29)
 have n_t:((w.alloc (Jc #[.slice p L.length cap] 28)).alloc (Jc #[.slice (some ⟨b,o,none⟩) x.length c] 29)).heap[w.heap.size]? = _:=(Below.heap_alloc (w.alloc (Jc #[.slice p L.length cap] 28)) _ w.heap.size (by simp)).trans (World.alloc_heap_new w _)
 have n_x:=En.res_two w (Jc #[.slice p L.length cap] 28) (Jc #[.slice (some ⟨b,o,none⟩) x.length c] 29)
 have t0:=En.lcell n_t 0 (v:=.slice p L.length cap) rfl
 obtain ⟨O,hO⟩:∃ O,O=ovr L (fun rs=>embO rs x):=⟨_,rfl⟩
 rw [←hO]
 have HO:Sh _:=⟨hO⟩
 clear hO
 go_enter Tryz.func25, Tryz.ntmps25
 go_wp2_with fail
 generalize ((w.alloc (Jc #[.slice p L.length cap] 28)).alloc (Jc #[.slice (some ⟨b,o,none⟩) x.length c] 29))=W0 at *
 have cA:=attempt_lst 61 #[.pointer (some ⟨w.heap.size+1,0,none⟩)] (enters_of Tryz.func61 (by kernel_rfl) rfl) hL hn (O≠none) (IsE O) W0 (hg.keep u) (HT.o.keep u) (by rw [HO.o];exact ovr_none)
  (fun rs hrs W f hB hf=>by
   rw [HO.o,ovr_some hrs]
   exact embClo (field_len hrs) hx fx ⟨w.heap.size+1,0,none⟩ W ((hg.keep u).keep hB) hf (En.lcell (En.lkeep n_x hB) 0 rfl) ((HX.o.keep u).keep hB))
 refine cA.mono ?_
 intro e v1 h1
 replace u:=u.trans (h1.below.mono u.size)
 clear HX HT HO n_t n_x t0 cA
 cases O with
 | none =>
  obtain rfl:=h1.bad (fun h=>h rfl)
  clear h1
  go_wp2_with fail
  exact bodyPost_ret (v:=.tuple #[.slice none 0 0,.int .i64 60]) (by simp [results,Tryz.results25, go_sem]) rfl ⟨u,fun h=>absurd rfl h,fun _=>rfl⟩
 | some s =>
  obtain ⟨v,rfl,hv⟩:=h1.good (fun q=>by cases q)
  clear h1
  go_wp2_with fail
  exact bodyPost_ret (v:=.tuple #[v,.int .i64 0]) (by simp [results,Tryz.results25, go_sem]) rfl ⟨u,fun _=>⟨v,rfl,hv⟩,fun h=>absurd (fun q=>by cases q) h⟩
theorem Inverse_O {L:List (List Rat)} (hL:FitT L) (hn:L.length≤1000) {x:List Rat} (hx:x.length≤1000) (fx:FitL x) {t vx:Value} (w:World) (hg:Gl w) (ht:TwAt w t L) (ex:El w vx x) :
  Calls Tryz.prog 17 #[t,vx] w (AnsA (ovr L (fun rs=>chk rs x (invS rs x))≠none) (IsE (ovr L fun rs=>chk rs x (invS rs x))) (.slice none 0 0) w):=by
 have hmf:∀ (fn:Fn) (first cap:Array Value) (w:World),(Instr.makeFunc fn first cap).run Tryz.prog w = .ok (.func fn first cap) w:=fun _ _ _ _=>rfl
 have HT:Sh _:=⟨ht⟩
 obtain ⟨p,cap,rfl,h⟩:=ht.ex
 clear h ht
 have HX:Sh _:=⟨ex⟩
 obtain ⟨b,o,c,rfl,h1,h2⟩:=ex.ex
 clear h1 h2 ex
 have u:=((Below.refl w.heap.size w).alloc (Nat.le_refl _) (Jc #[.slice p L.length cap] 28)).alloc (by simp) (Jc #[.slice (some ⟨b,o,none⟩) x.length c] 29)
 have n_t:((w.alloc (Jc #[.slice p L.length cap] 28)).alloc (Jc #[.slice (some ⟨b,o,none⟩) x.length c] 29)).heap[w.heap.size]? = _:=(Below.heap_alloc (w.alloc (Jc #[.slice p L.length cap] 28)) _ w.heap.size (by simp)).trans (World.alloc_heap_new w _)
 have n_x:=En.res_two w (Jc #[.slice p L.length cap] 28) (Jc #[.slice (some ⟨b,o,none⟩) x.length c] 29)
 have t0:=En.lcell n_t 0 (v:=.slice p L.length cap) rfl
 obtain ⟨O,hO⟩:∃ O,O=ovr L (fun rs=>chk rs x (invS rs x)):=⟨_,rfl⟩
 rw [←hO]
 have HO:Sh _:=⟨hO⟩
 clear hO
 go_enter Tryz.func17, Tryz.ntmps17
 go_wp2_with fail
 generalize ((w.alloc (Jc #[.slice p L.length cap] 28)).alloc (Jc #[.slice (some ⟨b,o,none⟩) x.length c] 29))=W0 at *
 have cA:=attempt_lst 48 #[.pointer (some ⟨w.heap.size+1,0,none⟩)] (enters_of Tryz.func48 (by kernel_rfl) rfl) hL hn (O≠none) (IsE O) W0 (hg.keep u) (HT.o.keep u) (by rw [HO.o];exact ovr_none)
  (fun rs hrs W f hB hf=>by
   rw [HO.o,ovr_some hrs]
   exact invClo (field_len hrs) hx fx ⟨w.heap.size+1,0,none⟩ W ((hg.keep u).keep hB) hf (En.lcell (En.lkeep n_x hB) 0 rfl) ((HX.o.keep u).keep hB))
 refine cA.mono ?_
 intro e v1 h1
 replace u:=u.trans (h1.below.mono u.size)
 clear HX HT HO n_t n_x t0 cA
 cases O with
 | none =>
  obtain rfl:=h1.bad (fun h=>h rfl)
  clear h1
  go_wp2_with fail
  exact bodyPost_ret (v:=.tuple #[.slice none 0 0,.int .i64 60]) (by simp [results,Tryz.results17, go_sem]) rfl ⟨u,fun h=>absurd rfl h,fun _=>rfl⟩
 | some s =>
  obtain ⟨v,rfl,hv⟩:=h1.good (fun q=>by cases q)
  clear h1
  go_wp2_with fail
  exact bodyPost_ret (v:=.tuple #[v,.int .i64 0]) (by simp [results,Tryz.results17, go_sem]) rfl ⟨u,fun _=>⟨v,rfl,hv⟩,fun h=>absurd (fun q=>by cases q) h⟩
end Tw
end
section
namespace Tw
open Go.RowKit Go.Extern.Stop Go.Stop Go.Extern
open En Go.Proofs.YtihlgifojjeoaaaGreatDoor.Nm Go.Proofs.YtihlgifojjeoaaaGreatDoor.Rt
theorem el_one {W:World} {b:Nat} {n d:ByteArray} {T:TypeId} {r:Rat} (hr:pq r=(n,d)) (h:W.heap[b]? = some (Jc #[J n,J d] T (0,0))):El W (.slice (some ⟨b,0,none⟩) 1 1) [r] :=
 ⟨b,0,1,rfl,Nat.le_refl _,⟨fun i hi=>by
  obtain rfl:i=0:=by simp at hi;exact hi
  have e:pqs [r] 0=(n,d):=hr
  rw [e]
  exact ⟨En.lcell h 0 rfl,En.lcell h 1 rfl⟩⟩⟩
theorem fromClo {rs:List (List Rat)} (hk:rs.length≤4) {r:Rat} (fr:FitQ r) {n d:ByteArray} (hr:pq r=(n,d)) {f:Value} (pa:Nat) (w:World) (hg:Gl w) (hf:Fd w f rs) (ha:w.heap[pa]? = some (Jc #[J n,J d] 42 (0,0))) :
  Calls Tryz.prog 51 #[f,.pointer (some ⟨pa,0,none⟩)] w (AnsC (embO rs [r]≠none) (IsE (embO rs [r])) w):=by
 have ua:=(Below.refl w.heap.size w).alloc (Nat.le_refl _) (Jc #[J n,J d] 42)
 have cC:=emb_any (x := [r]) hk (by simp) (fun q hq=>by rw [List.mem_singleton.1 hq];exact fr) (w.alloc (Jc #[J n,J d] 42)) (hg.keep ua) (Fd.keep ua hf) (el_one hr (World.alloc_heap_new w _))
 have a0:=En.lcell ha 0 (v:=J n) rfl
 have a1:=En.lcell ha 1 (v:=J d) rfl
 clear hg hf hr fr
 obtain ⟨O,hO⟩:∃ O,O=embO rs [r]:=⟨_,rfl⟩
 rw [←hO] at cC ⊢
 clear hO
 go_enter Tryz.func51, Tryz.ntmps51
 go_wp2_with fail
 refine cC.mono ?_
 intro e v1 h1
 have u:=ua.trans (h1.below.mono ua.size)
 cases O with
 | none =>
  obtain rfl:=h1.bad rfl
  exact ⟨rfl,u,fun h=>absurd rfl h,fun _=>rfl⟩
 | some s =>
  obtain ⟨v,rfl,ev⟩:=h1.good s rfl
  clear h1 cC
  go_wp2_with fail
  go_ret
  exact ⟨u,fun _=>⟨_,rfl,s,rfl,ev⟩,fun h=>absurd (fun q=>by cases q) h⟩
theorem FromRatio_O {L:List (List Rat)} (hL:FitT L) (hn:L.length≤1000) {r:Rat} (fr:FitQ r) {n d:ByteArray} (hr:pq r=(n,d)) {t:Value} (w:World) (hg:Gl w) (ht:TwAt w t L) :
  Calls Tryz.prog 18 #[t,.agg #[J n,J d]] w (AnsA (ovr L (fun rs=>embO rs [r])≠none) (IsE (ovr L fun rs=>embO rs [r])) (.slice none 0 0) w):=by
 have hmf:∀ (fn:Fn) (first cap:Array Value) (w:World),(Instr.makeFunc fn first cap).run Tryz.prog w = .ok (.func fn first cap) w:=fun _ _ _ _=>rfl
 have HT:Sh _:=⟨ht⟩
 obtain ⟨p,cap,rfl,h⟩:=ht.ex
 clear h ht
 have u:=((Below.refl w.heap.size w).alloc (Nat.le_refl _) (Jc #[.slice p L.length cap] 28)).alloc (by simp) (Jc #[J n,J d] 42)
 have n_t:((w.alloc (Jc #[.slice p L.length cap] 28)).alloc (Jc #[J n,J d] 42)).heap[w.heap.size]? = _:=(Below.heap_alloc (w.alloc (Jc #[.slice p L.length cap] 28)) _ w.heap.size (by simp)).trans (World.alloc_heap_new w _)
 have n_x:=En.res_two w (Jc #[.slice p L.length cap] 28) (Jc #[J n,J d] 42)
 have t0:=En.lcell n_t 0 (v:=.slice p L.length cap) rfl
 obtain ⟨O,hO⟩:∃ O,O=ovr L (fun rs=>embO rs [r]):=⟨_,rfl⟩
 rw [←hO]
 have HO:Sh _:=⟨hO⟩
 clear hO
 go_enter Tryz.func18, Tryz.ntmps18
 go_wp2_with fail
 generalize ((w.alloc (Jc #[.slice p L.length cap] 28)).alloc (Jc #[J n,J d] 42))=W0 at *
 have cA:=attempt_lst 51 #[.pointer (some ⟨w.heap.size+1,0,none⟩)] (enters_of Tryz.func51 (by kernel_rfl) rfl) hL hn (O≠none) (IsE O) W0 (hg.keep u) (HT.o.keep u) (by rw [HO.o];exact ovr_none)
  (fun rs hrs W f hB hf=>by
   rw [HO.o,ovr_some hrs]
   exact fromClo (field_len hrs) fr hr (w.heap.size+1) W ((hg.keep u).keep hB) hf (En.lkeep n_x hB))
 refine cA.mono ?_
 intro e v1 h1
 replace u:=u.trans (h1.below.mono u.size)
 clear HT HO n_t n_x t0 cA
 cases O with
 | none =>
  obtain rfl:=h1.bad (fun h=>h rfl)
  clear h1
  go_wp2_with fail
  exact bodyPost_ret (v:=.tuple #[.slice none 0 0,.int .i64 60]) (by simp [results,Tryz.results18, go_sem]) rfl ⟨u,fun h=>absurd rfl h,fun _=>rfl⟩
 | some s =>
  obtain ⟨v,rfl,hv⟩:=h1.good (fun q=>by cases q)
  clear h1
  go_wp2_with fail
  exact bodyPost_ret (v:=.tuple #[v,.int .i64 0]) (by simp [results,Tryz.results18, go_sem]) rfl ⟨u,fun _=>⟨v,rfl,hv⟩,fun h=>absurd (fun q=>by cases q) h⟩
end Tw
end
section
namespace Tw
open Go.RowKit Go.Extern.Stop Go.Stop Go.Extern
open En Go.Proofs.YtihlgifojjeoaaaGreatDoor.Nm Go.Proofs.YtihlgifojjeoaaaGreatDoor.Rt
def rootO:List (List Rat)→Option (List Rat)
 | []=>none
 | d :: rs=>(embO rs [1]).map fun z=>Tw.zeros d.length++z
theorem fitOne:FitL [1]:=fun q hq=>by rw [List.mem_singleton.1 hq];exact fit1
theorem root_O {rs:List (List Rat)} (hk:rs.length≤3) (d:List Rat) {f:Value} (w:World) (hg:Gl w) (hf:Fd w f (d :: rs)) :
  Calls Tryz.prog 60 #[f] w (AnsO (rootO (d :: rs)) w):=by
 have hp:=pow_le (show rs.length≤4 by omega)
 have hrad:=hf.rad
 obtain ⟨fb,lv,rv,rfl,n_f,hl,er,hd,fd⟩:=hf
 have cI:=fun (W:World) (v:Value) (u:Below w.heap.size w W) (ev:El W v [1])=>emb_any (rs:=rs) (x := [1]) (by omega) (by simp) fitOne W (hg.keep u) (Fd.keep u hl) ev
 have cZ:=fun (W:World) (u:Below w.heap.size w W)=>zeros_O d.length (by omega) W (hg.keep u)
 have hs:rootO (d :: rs)=(embO rs [1]).map fun z=>Tw.zeros d.length++z:=rfl
 rw [hs]
 have LE:Sh (∀ z,embO rs [1]=some z→z.length=2^rs.length):=⟨fun z h=>embO_len hrad.2 h⟩
 have HP:Sh (1≤2^rs.length∧2^rs.length≤16∧d.length=2^rs.length):=⟨⟨hp.1,hp.2,hd⟩⟩
 have CI:Sh _:=⟨cI⟩
 have CZ:Sh _:=⟨cZ⟩
 obtain ⟨br,orr,cr,rfl,_,_⟩:=er.ex
 have o0:=hg.o0
 have o1:=hg.o1
 have G0:Sh (Gl w):=⟨hg⟩
 clear hs cI cZ hrad hg hl er fd hk hp hd
 generalize embO rs [1]=E at *
 generalize 2^rs.length=n at *
 have f0:=En.lcell n_f 0 (v:=lv) rfl
 have f1:=En.lcell n_f 1 (v:=.slice (some ⟨br,orr,none⟩) d.length cr) rfl
 go_enter Tryz.func60, Tryz.ntmps60
 go_wp2_with fail
 go_region_held (fun X=>(X.cell? ⟨fb,0,none⟩=some lv∧X.cell? ⟨fb,1,none⟩=some (.slice (some ⟨br,orr,none⟩) d.length cr))∧X.cell? ⟨1, 0,none⟩=some (J ⟨#[49]⟩)∧X.cell? ⟨1, 1,none⟩=some (J ⟨#[49]⟩)) (go_keep) (first
  | (go_at_call 93; (with_reducible refine (CZ.o w.drew (ldrew (Below.refl _ _))).mono ?_);intro e v1 h1;have u1:Below w.heap.size w v1:=lundrew2 h1.below;obtain ⟨vq,rfl,eq⟩:=h1.good _ rfl;obtain ⟨bq,oq,cq,rfl,_,_⟩:=eq.ex;clear h1;have f0:=kcell f0 u1;have f1:=kcell f1 u1;have o0:=kcell o0 u1;have o1:=kcell o1 u1;have UB:=(Below.refl v1.heap.size v1).alloc (Nat.le_refl _) (Jc #[J ⟨#[49]⟩,J ⟨#[49]⟩] 42);have eq:=eq.keep UB;have CE:=CI.o _ _ (u1.trans (UB.mono u1.size)) (el_one pq1 (World.alloc_heap_new v1 (Jc #[J ⟨#[49]⟩,J ⟨#[49]⟩] 42)));have U1:Sh _:=⟨u1.trans (UB.mono u1.size)⟩;clear UB)
  | (go_at_call 93; (with_reducible refine (CZ.o _ (ldrew ((Below.refl _ _).alloc (Nat.le_refl _) _))).mono ?_);intro e v1 h1;have u1:Below w.heap.size w v1:=((Below.refl w.heap.size w).alloc (Nat.le_refl _) _).trans ((lundrew2 h1.below).mono (by simp));obtain ⟨vq,rfl,eq⟩:=h1.good _ rfl;obtain ⟨bq,oq,cq,rfl,_,_⟩:=eq.ex;have hq:=En.lkeep (show (w.alloc (Jc #[J ⟨#[49]⟩,J ⟨#[49]⟩] 42)).drew.heap[w.heap.size]? = some _ from World.alloc_heap_new w _) h1.below;clear h1;have f0:=kcell f0 u1;have f1:=kcell f1 u1;have o0:=kcell o0 u1;have o1:=kcell o1 u1;have CE:=CI.o v1 _ u1 (el_one pq1 hq);have U1:Sh _:=⟨u1⟩;clear hq)
  | (go_at_call 52; (with_reducible refine CE.mono ?_);intro e v2 h2;have u2:Below w.heap.size w v2:=U1.o.trans (h2.below.mono U1.o.size);rcases E with _ | z;(obtain rfl:=h2.bad rfl;dsimp +zetaDelta only [Exit.then,Exit.inBlock];exact ⟨rfl,u2,fun z hz=>(by cases hz),fun _=>rfl⟩);obtain ⟨vz,rfl,ez⟩:=h2.good z rfl;obtain ⟨bz,oz,cz,rfl,_,_⟩:=ez.ex;have UA:=(Below.refl v2.heap.size v2).alloc (Nat.le_refl _) (Jc #[.slice (some ⟨bq,oq,none⟩) (Tw.zeros d.length).length cq,.slice (some ⟨bz,oz,none⟩) z.length cz] 67);have CT:=concat_O (a:=Tw.zeros d.length) (b:=z) (by rw [zeros_len];have:=HP.o;omega) (by have:=LE.o z rfl;have:=HP.o;omega) v2.heap.size 2 _ (World.alloc_heap_new v2 _) ((eq.keep h2.below).keep UA) (ez.keep UA);have U3:Sh _:=⟨u2.trans (UA.mono u2.size)⟩;have f0:v2.cell? ⟨fb,0,none⟩=_:=kcell (En.lcell n_f 0 rfl) u2;have f1:v2.cell? ⟨fb,1,none⟩=_:=kcell (En.lcell n_f 1 rfl) u2;have o0:v2.cell? ⟨1, 0,none⟩=_:=kcell G0.o.o0 u2;have o1:v2.cell? ⟨1, 1,none⟩=_:=kcell G0.o.o1 u2;clear h2 ez eq UA CE)
  | (go_at_call 98; (with_reducible refine CT.mono ?_);intro e v3 h3;have u3:=U3.o.trans (h3.below.mono U3.o.size);obtain ⟨vt,rfl,et⟩:=h3.good _ rfl;clear h3;have f0:v3.cell? ⟨fb,0,none⟩=_:=kcell (En.lcell n_f 0 rfl) u3;have f1:v3.cell? ⟨fb,1,none⟩=_:=kcell (En.lcell n_f 1 rfl) u3;have o0:v3.cell? ⟨1, 0,none⟩=_:=kcell G0.o.o0 u3;have o1:v3.cell? ⟨1, 1,none⟩=_:=kcell G0.o.o1 u3))
 all_goals (go_wp2_with fail;go_ret;exact ⟨u3,fun z hz=>(by cases hz;exact ⟨_,rfl,et⟩),fun hn=>(by cases hn)⟩)
end Tw
end
section
namespace Tw
open Go.RowKit Go.Extern.Stop Go.Stop Go.Extern
open En Go.Proofs.YtihlgifojjeoaaaGreatDoor.Nm Go.Proofs.YtihlgifojjeoaaaGreatDoor.Rt
theorem rootClo {rs:List (List Rat)} (hk:rs.length≤4) {f:Value} (w:World) (hg:Gl w) (hf:Fd w f rs) :
  Calls Tryz.prog 59 #[f] w (AnsC (rootO rs≠none) (IsE (rootO rs)) w):=by
 cases rs with
 | nil =>
  obtain rfl:f = .pointer none:=hf
  have hr:=refuse_yes w
  have ho:Sh (rootO []=none):=⟨rfl⟩
  clear hg hk
  go_enter Tryz.func59, Tryz.ntmps59
  go_wp2_with fail
  refine hr.mono ?_
  rintro e w' ⟨rfl,rfl⟩
  exact ⟨rfl,Below.refl _ _,fun h=>absurd ho.o h,fun _=>rfl⟩
 | cons d rs =>
  have cR:=root_O (by simpa using hk) d w hg hf
  obtain ⟨fb,lv,rv,rfl,n_f,_,_,_,_⟩:=hf
  have hr:=refuse_no w
  obtain ⟨O,hO⟩:∃ O,O=rootO (d :: rs):=⟨_,rfl⟩
  rw [←hO] at cR ⊢
  clear hO hg hk n_f
  go_enter Tryz.func59, Tryz.ntmps59
  go_wp2_with fail
  refine hr.mono ?_
  rintro e w' ⟨rfl,rfl⟩
  clear hr
  go_wp2_with fail
  refine cR.mono ?_
  intro e v1 h1
  have u:=h1.below
  cases O with
  | none =>
   obtain rfl:=h1.bad rfl
   exact ⟨rfl,u,fun h=>absurd rfl h,fun _=>rfl⟩
  | some s =>
   obtain ⟨v,rfl,ev⟩:=h1.good s rfl
   clear h1 cR
   go_wp2_with fail
   go_ret
   exact ⟨u,fun _=>⟨_,rfl,s,rfl,ev⟩,fun h=>absurd (fun q=>by cases q) h⟩
theorem Root_O {L:List (List Rat)} (hL:FitT L) (hn:L.length≤1000) {t:Value} (w:World) (hg:Gl w) (ht:TwAt w t L) :
  Calls Tryz.prog 24 #[t] w (AnsA (ovr L rootO≠none) (IsE (ovr L rootO)) (.slice none 0 0) w):=by
 have HT:Sh _:=⟨ht⟩
 obtain ⟨p,cap,rfl,h⟩:=ht.ex
 clear h ht
 have u:=(Below.refl w.heap.size w).alloc (Nat.le_refl _) (Jc #[.slice p L.length cap] 28)
 have n_t:(w.alloc (Jc #[.slice p L.length cap] 28)).heap[w.heap.size]? = _:=World.alloc_heap_new w _
 have t0:=En.lcell n_t 0 (v:=.slice p L.length cap) rfl
 obtain ⟨O,hO⟩:∃ O,O=ovr L rootO:=⟨_,rfl⟩
 rw [←hO]
 have HO:Sh _:=⟨hO⟩
 clear hO
 go_enter Tryz.func24, Tryz.ntmps24
 go_wp2_with fail
 generalize (w.alloc (Jc #[.slice p L.length cap] 28))=W0 at *
 have cA:=attempt_lst 59 #[] (enters_of Tryz.func59 (by kernel_rfl) rfl) hL hn (O≠none) (IsE O) W0 (hg.keep u) (HT.o.keep u) (by rw [HO.o];exact ovr_none)
  (fun rs hrs W f hB hf=>by
   rw [HO.o,ovr_some hrs]
   exact rootClo (field_len hrs) W ((hg.keep u).keep hB) hf)
 refine cA.mono ?_
 intro e v1 h1
 replace u:=u.trans (h1.below.mono u.size)
 clear HT HO n_t t0 cA
 cases O with
 | none =>
  obtain rfl:=h1.bad (fun h=>h rfl)
  clear h1
  go_wp2_with fail
  exact bodyPost_ret (v:=.tuple #[.slice none 0 0,.int .i64 60]) (by simp [results,Tryz.results24, go_sem]) rfl ⟨u,fun h=>absurd rfl h,fun _=>rfl⟩
 | some s =>
  obtain ⟨v,rfl,hv⟩:=h1.good (fun q=>by cases q)
  clear h1
  go_wp2_with fail
  exact bodyPost_ret (v:=.tuple #[v,.int .i64 0]) (by simp [results,Tryz.results24, go_sem]) rfl ⟨u,fun _=>⟨v,rfl,hv⟩,fun h=>absurd (fun q=>by cases q) h⟩
end Tw
end
section
namespace Tw
open Go.Proofs.YtihlgifojjeoaaaGreatDoor.Rt SR
theorem sgn_opp {S:SR} {x y:S.T} (h:S.sgn (x+y)=0):S.sgn x = - S.sgn y:=by
 have:x=(x+y) + -y:=by rw [add_assoc,add_neg,add_zer]
 rw [this,sgn_add_nil h,sgn_neg]
theorem sgn_near {S:SR} {x y:S.T} (h:S.sgn (x + -y)=0):S.sgn x=S.sgn y:=by
 have:=sgn_opp h
 rw [sgn_neg] at this
 omega
theorem IsT.inv {rs:List (List Rat)} {S:SR} {R:List Rat→S.T→Prop} (h:IsT rs S R):∀ {l u x},R l x→S.sgn x≠0→invO rs l=some u→∃ y,R u y∧S.sgn (S.add (S.mul x y) (S.neg S.one))=0:=by
 induction h with
 | nil =>
  rintro l u x rfl h0 e
  obtain ⟨r,hr,e⟩:=Option.bind_eq_some_iff.1 e
  cases e
  obtain ⟨rfl,hx⟩:=divQ_eq hr
  have key:∀ q:Rat,q≠0→ratS.sgn ((q*(1 / q) + -1:Rat))=0:=fun q hq=>by
   have:q*(1 / q)=1:=by rw [Rat.div_def,Rat.one_mul,Rat.mul_inv_cancel q hq]
   rw [this,Rat.add_neg_cancel];exact sgR_zero
  exact ⟨_,rfl,key x hx⟩
 | @cons rs S R d h δ hR hd ih =>
  rintro l u x ⟨a,b,rfl,ha,hb⟩ hne k
  obtain ⟨x1,x2⟩:=x
  replace ha:R a x1:=ha
  replace hb:R b x2:=hb
  replace hne:sg2 δ (x1,x2)≠0:=hne
  rw [invO,(half_of (by rw [h.len ha,h.len hb])).1,(half_of (by rw [h.len ha,h.len hb])).2] at k
  obtain ⟨n,h1,k⟩:=Option.bind_eq_some_iff.1 k
  obtain ⟨s,h2,k⟩:=Option.bind_eq_some_iff.1 k
  have hn:=h.norm hR ha hb h1
  have hs:=h.sign hn h2
  split at k
  ·rename_i hs0
   rw [hs0] at hs
   obtain ⟨aa,h3,k⟩:=Option.bind_eq_some_iff.1 k
   obtain ⟨v,h4,rfl⟩:=Option.map_eq_some_iff.1 k
   rcases sg2_z hd hs with ⟨e1,e2⟩ | ⟨_,_,e2⟩
   ·have h10:S.sgn x1≠0:=by rw [←e2];exact hne
    obtain ⟨y,hy,hy1⟩:=ih (h.add ha ha h3) (by show S.sgn (x1+x1)≠0;rw [sgn_same rfl];exact h10) h4
    replace hy1:S.sgn ((x1+x1)*y + -S.one)=0:=hy1
    refine ⟨(y,S.zer),⟨_,_,rfl,hy,by rw [h.len hR];exact h.zero⟩, ?_⟩
    show sg2 δ ((x1*y+x2*S.zer * δ) + -S.one,(x1*S.zer+x2*y) + -S.zer)=0
    rw [mul_zer,zer_mul,add_zer,mul_zer,zer_add,neg_zer,add_zer]
    have f1:S.sgn (x1*y)=1:=by
     have:=sgn_near hy1
     rw [add_mul,sgn_same rfl] at this
     rw [this];exact S.sgn_one
    have f2:S.sgn (x1*y + -S.one) = -1:=by
     rw [sgn_opp (y:=x1*y),f1]
     rw [add_mul] at hy1
     rw [add_assoc,add_comm (-S.one),←add_assoc];exact hy1
    have f3:S.sgn (x2*y)=1:=by rw [SR.sgn_mul,←e1,←SR.sgn_mul,f1]
    have f4:S.sgn (nrm δ (x1*y + -S.one) (x2*y))=0:=by
     have:nrm δ (x1*y + -S.one) (x2*y)=y*y*nrm δ x1 x2 + -((x1+x1)*y + -S.one):=by
      simp only [nrm,mul_add,mul_neg,neg_add,neg_neg,mul_one,mul_comm,mul_left_comm,add_comm,add_left_comm,add_assoc]
     rw [this]
     exact sgn_nil (by rw [SR.sgn_mul,hs,Int.mul_zero]) (by rw [sgn_neg,hy1];rfl)
    rw [sg2_char hd,f4,f2,f3];rfl
   ·exact absurd e2 hne
  ·rename_i hs0
   obtain ⟨m,h3,k⟩:=Option.bind_eq_some_iff.1 k
   obtain ⟨p,h4,k⟩:=Option.bind_eq_some_iff.1 k
   obtain ⟨nb,h5,k⟩:=Option.bind_eq_some_iff.1 k
   obtain ⟨q,h6,rfl⟩:=Option.map_eq_some_iff.1 k
   obtain ⟨μ,hμ,hμ1⟩:=ih hn (by rw [hs];exact hs0) h3
   have r1:=h.mul ha hμ h4
   have r2:=h.sub (by rw [h.len hb];exact h.zero) hb h5
   have r3:=h.mul r2 hμ h6
   refine ⟨(x1 * μ,(S.zer + -x2) * μ),⟨_,_,rfl,r1,r3⟩, ?_⟩
   show sg2 δ ((x1*(x1 * μ)+x2*((S.zer + -x2) * μ) * δ) + -S.one,(x1*((S.zer + -x2) * μ)+x2*(x1 * μ)) + -S.zer)=0
   rw [zer_add,neg_zer,add_zer,neg_mul,mul_neg x2,mul_neg x1,mul_left_comm x2 x1,neg_add_self]
   rw [sg2,if_pos sgn_zer]
   have:x1*(x1 * μ) + -(x2*(x2 * μ)) * δ + -S.one=nrm δ x1 x2 * μ + -S.one:=by
    simp only [nrm,mul_add,mul_neg,mul_comm,mul_left_comm,add_comm,add_left_comm]
   show S.sgn (x1*(x1 * μ) + -(x2*(x2 * μ)) * δ + -S.one)=0
   rw [this];exact hμ1
end Tw
end
section
namespace Tw
open SR Go.Proofs.YtihlgifojjeoaaaGreatDoor.Rt
theorem field_rev:∀ {xs acc rs:List (List Rat)},fieldO acc xs=some rs→rs=xs.reverse++acc
 | [],acc,rs,h=>by cases h;rfl
 | x :: xs,acc,rs,h=>by
  rw [fieldO] at h
  split at h
  ·rw [field_rev h,List.reverse_cons,List.append_assoc];rfl
  ·cases h
theorem field_isT:∀ {xs acc rs:List (List Rat)},(∃ S R,IsT acc S R)→fieldO acc xs=some rs→∃ S R,IsT rs S R
 | [],acc,rs,hS,h=>by cases h;exact hS
 | x :: xs,acc,rs,⟨S,R,hS⟩,h=>by
  rw [fieldO] at h
  split at h
  ·rename_i ha
   obtain ⟨δ,hδ⟩:=hS.ex ha.2.1
   exact field_isT ⟨_,_,.cons hS δ hδ (hS.sign hδ ha.2.2)⟩ h
  ·cases h
theorem isT_of {L rs:List (List Rat)} (h:fieldO [] L=some rs):∃ S R,IsT rs S R:=field_isT ⟨_,_,.nil⟩ h
theorem field_rad {K D:Nat}:∀ {xs acc rs:List (List Rat)},RadT K D acc→(∀ x∈xs,AllL K D x)→fieldO acc xs=some rs→RadT K D rs
 | [],acc,rs,hS,_,h=>by cases h;exact hS
 | x :: xs,acc,rs,hS,hx,h=>by
  rw [fieldO] at h
  split at h
  ·rename_i ha
   have hr:RadT K D (x :: acc):=⟨ha.2.1,hx x List.mem_cons_self,hS⟩
   exact field_rad hr (fun y hy=>hx y (List.mem_cons_of_mem _ hy)) h
  ·cases h
theorem field_rad0:∀ {xs acc rs:List (List Rat)},RadT0 acc→fieldO acc xs=some rs→RadT0 rs
 | [],acc,rs,hS,h=>by cases h;exact hS
 | x :: xs,acc,rs,hS,h=>by
  rw [fieldO] at h
  split at h
  ·rename_i ha
   have hr:RadT0 (x :: acc):=⟨ha.2.1,hS⟩
   exact field_rad0 hr h
  ·cases h
def mfit (K D k L M B C:Nat):Bool:=decide (2*(gr K D k*(B*C))*(L*M*K^ee k)<10^200) && decide ((L*M*K^ee k)*(L*M*K^ee k)<10^200)
theorem mul_fit {K D:Nat} (hK:0<K) {rs:List (List Rat)} (h:RadT K D rs) {L M B C:Nat} {x y:List Rat} (hx:x.length=2^rs.length) (hy:y.length=2^rs.length) (hL:0<L) (hM:0<M) (ax:AllL L B x) (ay:AllL M C y) (hf:mfit K D rs.length L M B C=true) :
  ∃ z,mulO rs x y=some z∧z.length=2^rs.length∧AllL (L*M*K^ee rs.length) (gr K D rs.length*(B*C)) z:=by
 rw [mfit,Bool.and_eq_true] at hf
 exact mul_lat hK h hx hy hL hM ax ay (of_decide_eq_true hf.1) (of_decide_eq_true hf.2)
theorem mul_fit1 {D:Nat} {rs:List (List Rat)} (h:RadT 1 D rs) {L M B C:Nat} {x y:List Rat} (hx:x.length=2^rs.length) (hy:y.length=2^rs.length) (hL:0<L) (hM:0<M) (ax:AllL L B x) (ay:AllL M C y) (hf:mfit 1 D rs.length L M B C=true) :
  ∃ z,mulO rs x y=some z∧z.length=2^rs.length∧AllL (L*M) (gr 1 D rs.length*(B*C)) z:=by
 have:=mul_fit (by decide) h hx hy hL hM ax ay hf
 rwa [Nat.one_pow,Nat.mul_one] at this
theorem add_fit {L B C n:Nat} {x y:List Rat} (hx:x.length=n) (hy:y.length=n) (ax:AllL L B x) (ay:AllL L C y) (hf:(decide ((B+C)*L<10^200) && decide (L*L<10^200))=true):∃ z,pairO addQ x y=some z∧z.length=n∧AllL L (B+C) z:=by
 rw [Bool.and_eq_true] at hf
 obtain ⟨z,e,hz,az⟩:=pair_add (by rw [hx,hy]) ax ay (of_decide_eq_true hf.1) (of_decide_eq_true hf.2)
 exact ⟨z,e,hz.trans hx,az⟩
theorem sub_fit {L B C n:Nat} {x y:List Rat} (hx:x.length=n) (hy:y.length=n) (ax:AllL L B x) (ay:AllL L C y) (hf:(decide ((B+C)*L<10^200) && decide (L*L<10^200))=true):∃ z,pairO subQ x y=some z∧z.length=n∧AllL L (B+C) z:=by
 rw [Bool.and_eq_true] at hf
 obtain ⟨z,e,hz,az⟩:=pair_sub (by rw [hx,hy]) ax ay (of_decide_eq_true hf.1) (of_decide_eq_true hf.2)
 exact ⟨z,e,hz.trans hx,az⟩
theorem ring_all {rs:List (List Rat)} {S:SR} {R:List Rat→S.T→Prop} (h:IsT rs S R) {a b d ab ba bd one two sum left ad right back other:List Rat} (la:a.length=2^rs.length) (lb:b.length=2^rs.length) (ld:d.length=2^rs.length)
  (e1:mulO rs a b=some ab) (e2:mulO rs b a=some ba) (e3:mulO rs b d=some bd) (e4:mulO rs ab d=some one) (e5:mulO rs a bd=some two) (e6:pairO addQ b d=some sum) (e7:mulO rs a sum=some left) (e8:mulO rs a d=some ad) (e9:pairO addQ ab ad=some right) (e10:pairO subQ sum d=some back) (e11:pairO addQ d b=some other) :
  ab=ba∧one=two∧left=right∧back=b∧sum=other:=by
 obtain ⟨x,hx⟩:=h.ex la
 obtain ⟨y,hy⟩:=h.ex lb
 obtain ⟨z,hz⟩:=h.ex ld
 have f1:R ab (x*y):=h.mul hx hy e1
 have f2:R ba (y*x):=h.mul hy hx e2
 have f3:R bd (y*z):=h.mul hy hz e3
 have f4:R one (x*y*z):=h.mul f1 hz e4
 have f5:R two (x*(y*z)):=h.mul hx f3 e5
 have f6:R sum (y+z):=h.add hy hz e6
 have f7:R left (x*(y+z)):=h.mul hx f6 e7
 have f8:R ad (x*z):=h.mul hx hz e8
 have f9:R right (x*y+x*z):=h.add f1 f8 e9
 have f10:R back (y+z + -z):=h.sub f6 hz e10
 have f11:R other (z+y):=h.add hz hy e11
 rw [SR.mul_comm y x] at f2
 rw [SR.mul_assoc] at f4
 rw [SR.mul_add] at f7
 rw [SR.add_assoc,SR.add_neg,SR.add_zer] at f10
 rw [SR.add_comm z y] at f11
 exact ⟨h.inj f1 f2,h.inj f4 f5,h.inj f7 f9,h.inj f10 hy,h.inj f6 f11⟩
theorem bounds3:∀ k,k<4→(mfit 1 7 k 6 6 30 30 && (mfit 1 7 k 36 6 (gr 1 7 k*900) 30 && (mfit 1 7 k 6 36 30 (gr 1 7 k*900) && (mfit 1 7 k 6 6 30 60 && (mfit 1 7 k 6 6 60 30 && (decide ((gr 1 7 k*900+gr 1 7 k*900)*36<10^200) && (sfit 1 7 k 6 30 && (sfit 1 7 k 36 (gr 1 7 k*900) && (sfit 1 7 k 6 60 && (sfit 1 7 k 6 120 && sfit 1 7 k 36 (gr 1 7 k*900+gr 1 7 k*900)))))))))))=true:=by decide +kernel
end Tw
end
end Go.Proofs.YtihlgifojjeoaaaGreatDoor
