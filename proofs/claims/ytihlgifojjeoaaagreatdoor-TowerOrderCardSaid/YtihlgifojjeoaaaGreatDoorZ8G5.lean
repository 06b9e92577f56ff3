import Derived.Test.YtihlgifojjeoaaaGreatDoorZ8L
import Derived.Test.YtihlgifojjeoaaaGreatDoorZ8G4
import Derived.Test.YtihlgifojjeoaaaGreatDoorZ8F4
set_option maxRecDepth 1000000
set_option maxHeartbeats 40000000
open Go.Value renaming string→J
open Go.Obj renaming cells→Jc
namespace Go.Proofs.YtihlgifojjeoaaaGreatDoor
section
namespace Tw
open Go.RowKit Go.Extern.Stop Go.Stop Go.Extern
open En Go.Proofs.YtihlgifojjeoaaaGreatDoor.Nm Go.Proofs.YtihlgifojjeoaaaGreatDoor.Rt
theorem QuV {rs:List (List Rat)} (hk:rs.length≤4) {x:List Rat} (hn:x.length≤1000) (fx:FitL x) {f vx:Value} (pa:Addr) (w:World) (hg:Gl w) (hf:Fd w f rs) (ha:w.cell? pa=some vx) (ex:El w vx x) :
  Calls Tryz.prog 61 #[f,.pointer (some pa)] w (AnsC (embO rs x≠none) (IsE (embO rs x)) w):=by
 have cC:=Qij hk hn fx w hg hf ex;clear hg hf ex;obtain ⟨O,hO⟩:∃ O,O=embO rs x:=⟨_,rfl⟩;rw [←hO] at cC ⊢;clear hO;go_enter Tryz.func61, Tryz.ntmps61;go_wp2_with fail;refine cC.mono ?_;intro e v1 h1;have u:=h1.below;cases O with
 | none =>
  obtain rfl:=h1.bad rfl;exact ⟨rfl,u,fun h=>absurd rfl h,fun _=>rfl⟩
 | some s =>
  obtain ⟨v,rfl,ev⟩:=h1.good s rfl;clear h1 cC;go_wp2_with fail;go_ret;exact ⟨u,fun _=>⟨_,rfl,s,rfl,ev⟩,fun h=>absurd (fun q=>by cases q) h⟩
noncomputable def invS (rs:List (List Rat)) (x:List Rat):Option (List Rat):=(Qaw rs x).bind fun s=>if s=0 then none else invO rs x
theorem QuW {rs:List (List Rat)} (hk:rs.length≤4) {x:List Rat} (hn:x.length≤1000) (fx:FitL x) {f vx:Value} (pa:Addr) (w:World) (hg:Gl w) (hf:Fd w f rs) (ha:w.cell? pa=some vx) (ex:El w vx x) :
  Calls Tryz.prog 48 #[f,.pointer (some pa)] w (AnsC (chk rs x (invS rs x)≠none) (IsE (chk rs x (invS rs x))) w):=by
 have cC:=Qbw hk hn fx w hf ex;have CS:Sh (∀ (W:World),Below w.heap.size w W→x.length=2^rs.length→_):=⟨fun (W:World) (u:Below w.heap.size w W) (h:x.length=2^rs.length)=>QeU hk h fx W (hg.keep u) (Fd.keep u hf) (ex.keep u)⟩;have CI:Sh (∀ (W:World),Below w.heap.size w W→x.length=2^rs.length→_):=⟨fun (W:World) (u:Below w.heap.size w W) (h:x.length=2^rs.length)=>QoM hk h fx W (hg.keep u) (Fd.keep u hf) (ex.keep u)⟩;clear hg hf ex;obtain ⟨O,hO⟩:∃ O,O=chk rs x (invS rs x):=⟨_,rfl⟩;rw [←hO];have HO:Sh _:=⟨hO⟩;clear hO;go_enter Tryz.func48, Tryz.ntmps48;go_wp2_with fail;refine cC.mono ?_;intro e v1 h1;have u:=h1.below;by_cases hl:x.length=2^rs.length
 ·obtain rfl:=h1.good hl;have cG:=CS.o v1 u hl;have HI:Sh (∀ (W:World),Below w.heap.size w W→_):=⟨fun W u=>CI.o W u hl⟩;have ho:O=invS rs x:=by rw [HO.o,chk,if_pos hl]
  unfold invS at ho;have HQ:Sh _:=⟨ho⟩;clear h1 cC CS ho HO hl CI;generalize Qaw rs x=S at *
  generalize invO rs x=I at *
  go_wp2_with fail;refine cG.mono ?_;intro e v2 h2;replace u:=u.trans (h2.below.mono u.size);cases S with
  | none =>
   obtain rfl:=h2.bad rfl;exact ⟨rfl,u,fun h=>absurd HQ.o h,fun _=>rfl⟩
  | some s =>
   obtain rfl:=h2.good s rfl;clear h2 cG;by_cases hs:s=0
   ·have hb:(s == 0)=true:=by simp [hs]
    have hr:=QaV v2;have ho:Sh (O=none):=⟨by rw [HQ.o,Option.bind_some,if_pos hs]⟩;clear HQ HI;go_wp2_with fail;refine hr.mono ?_;rintro e w' ⟨rfl,rfl⟩;exact ⟨rfl,u,fun h=>absurd ho.o h,fun _=>rfl⟩
   ·have hb:(s == 0)=false:=by simp [hs]
    have hr:=Qbb v2;have ho:O=I:=by rw [HQ.o,Option.bind_some,if_neg hs]
    clear HQ;subst ho;go_wp2_with fail;refine hr.mono ?_;rintro e w' ⟨rfl,rfl⟩;have ha:=Qae ha u;have cI:=HI.o w' u;clear HI hr;go_wp2_with fail;refine cI.mono ?_;intro e v3 h3;replace u:=u.trans (h3.below.mono u.size);cases O with
    | none =>
     obtain rfl:=h3.bad rfl;exact ⟨rfl,u,fun h=>absurd rfl h,fun _=>rfl⟩
    | some z =>
     obtain ⟨v,rfl,ev⟩:=h3.good z rfl;clear h3 cI;go_wp2_with fail;go_ret;exact ⟨u,fun _=>⟨_,rfl,z,rfl,ev⟩,fun h=>absurd (fun q=>by cases q) h⟩
 ·obtain rfl:=h1.bad hl;have ho:O=none:=by rw [HO.o,chk,if_neg hl]
  exact ⟨rfl,u,fun h=>absurd ho h,fun _=>rfl⟩
theorem QoR {L:List (List Rat)} (hL:FitT L) (hn:L.length≤1000) {x:List Rat} (hx:x.length≤1000) (fx:FitL x) {t vx:Value} (w:World) (hg:Gl w) (ht:TwAt w t L) (ex:El w vx x) :
  Calls Tryz.prog 25 #[t,vx] w (AnsA (ovr L (fun rs=>embO rs x)≠none) (IsE (ovr L fun rs=>embO rs x)) (.slice none 0 0) w):=by
 have hmf:=mkf;have HT:Sh _:=⟨ht⟩;obtain ⟨p,cap,rfl,h⟩:=ht.ex;clear h ht;have HX:Sh _:=⟨ex⟩;obtain ⟨b,o,c,rfl,h1,h2⟩:=ex.ex;clear h1 h2 ex;have u:=((Below.refl w.heap.size w).alloc Lr (Jc #[.slice p L.length cap] 28)).alloc (by simp) (Jc #[.slice (some ⟨b,o,none⟩) x.length c] 29);have n_t:((w.alloc (Jc #[.slice p L.length cap] 28)).alloc (Jc #[.slice (some ⟨b,o,none⟩) x.length c] 29)).heap[w.heap.size]? = _:=(Below.heap_alloc (w.alloc (Jc #[.slice p L.length cap] 28)) _ w.heap.size (by simp)).trans (World.alloc_heap_new w _);have n_x:=En.QaP w (Jc #[.slice p L.length cap] 28) (Jc #[.slice (some ⟨b,o,none⟩) x.length c] 29);have t0:=En.Qaa n_t 0 (v:=.slice p L.length cap) rfl;obtain ⟨O,hO⟩:∃ O,O=ovr L (fun rs=>embO rs x):=⟨_,rfl⟩;rw [←hO];have HO:Sh _:=⟨hO⟩;clear hO;go_enter Tryz.func25, Tryz.ntmps25;go_wp2_with fail;generalize ((w.alloc (Jc #[.slice p L.length cap] 28)).alloc (Jc #[.slice (some ⟨b,o,none⟩) x.length c] 29))=W0 at *
 have cA:=Qcj 61 #[.pointer (some ⟨w.heap.size+1,0,none⟩)] (enters_of Tryz.func61 (by kernel_rfl) rfl) hL hn (O≠none) (IsE O) W0 (hg.keep u) (HT.o.keep u) (by rw [HO.o];exact Qco)
  (fun rs hrs W f hB hf=>by
   rw [HO.o,QaA hrs];exact QuV (QbB hrs) hx fx ⟨w.heap.size+1,0,none⟩ W ((hg.keep u).keep hB) hf (En.Qaa (En.Qac n_x hB) 0 rfl) ((HX.o.keep u).keep hB))
 refine cA.mono ?_;intro e v1 h1;replace u:=u.trans (h1.below.mono u.size);clear HX HT HO n_t n_x t0 cA;cases O with
 | none =>
  obtain rfl:=h1.bad (fun h=>h rfl);clear h1;go_wp2_with fail;exact bodyPost_ret (v:=.tuple #[.slice none 0 0,.int .i64 60]) (by simp [results,Tryz.results25, go_sem]) rfl ⟨u,fun h=>absurd rfl h,fun _=>rfl⟩
 | some s =>
  obtain ⟨v,rfl,hv⟩:=h1.good (fun q=>by cases q);clear h1;go_wp2_with fail;exact bodyPost_ret (v:=.tuple #[v,.int .i64 0]) (by simp [results,Tryz.results25, go_sem]) rfl ⟨u,fun _=>⟨v,rfl,hv⟩,fun h=>absurd (fun q=>by cases q) h⟩
theorem Qjn {L:List (List Rat)} (hL:FitT L) (hn:L.length≤1000) {x:List Rat} (hx:x.length≤1000) (fx:FitL x) {t vx:Value} (w:World) (hg:Gl w) (ht:TwAt w t L) (ex:El w vx x) :
  Calls Tryz.prog 17 #[t,vx] w (AnsA (ovr L (fun rs=>chk rs x (invS rs x))≠none) (IsE (ovr L fun rs=>chk rs x (invS rs x))) (.slice none 0 0) w):=by
 have hmf:=mkf;have HT:Sh _:=⟨ht⟩;obtain ⟨p,cap,rfl,h⟩:=ht.ex;clear h ht;have HX:Sh _:=⟨ex⟩;obtain ⟨b,o,c,rfl,h1,h2⟩:=ex.ex;clear h1 h2 ex;have u:=((Below.refl w.heap.size w).alloc Lr (Jc #[.slice p L.length cap] 28)).alloc (by simp) (Jc #[.slice (some ⟨b,o,none⟩) x.length c] 29);have n_t:((w.alloc (Jc #[.slice p L.length cap] 28)).alloc (Jc #[.slice (some ⟨b,o,none⟩) x.length c] 29)).heap[w.heap.size]? = _:=(Below.heap_alloc (w.alloc (Jc #[.slice p L.length cap] 28)) _ w.heap.size (by simp)).trans (World.alloc_heap_new w _);have n_x:=En.QaP w (Jc #[.slice p L.length cap] 28) (Jc #[.slice (some ⟨b,o,none⟩) x.length c] 29);have t0:=En.Qaa n_t 0 (v:=.slice p L.length cap) rfl;obtain ⟨O,hO⟩:∃ O,O=ovr L (fun rs=>chk rs x (invS rs x)):=⟨_,rfl⟩;rw [←hO];have HO:Sh _:=⟨hO⟩;clear hO;go_enter Tryz.func17, Tryz.ntmps17;go_wp2_with fail;generalize ((w.alloc (Jc #[.slice p L.length cap] 28)).alloc (Jc #[.slice (some ⟨b,o,none⟩) x.length c] 29))=W0 at *
 have cA:=Qcj 48 #[.pointer (some ⟨w.heap.size+1,0,none⟩)] (enters_of Tryz.func48 (by kernel_rfl) rfl) hL hn (O≠none) (IsE O) W0 (hg.keep u) (HT.o.keep u) (by rw [HO.o];exact Qco)
  (fun rs hrs W f hB hf=>by
   rw [HO.o,QaA hrs];exact QuW (QbB hrs) hx fx ⟨w.heap.size+1,0,none⟩ W ((hg.keep u).keep hB) hf (En.Qaa (En.Qac n_x hB) 0 rfl) ((HX.o.keep u).keep hB))
 refine cA.mono ?_;intro e v1 h1;replace u:=u.trans (h1.below.mono u.size);clear HX HT HO n_t n_x t0 cA;cases O with
 | none =>
  obtain rfl:=h1.bad (fun h=>h rfl);clear h1;go_wp2_with fail;exact bodyPost_ret (v:=.tuple #[.slice none 0 0,.int .i64 60]) (by simp [results,Tryz.results17, go_sem]) rfl ⟨u,fun h=>absurd rfl h,fun _=>rfl⟩
 | some s =>
  obtain ⟨v,rfl,hv⟩:=h1.good (fun q=>by cases q);clear h1;go_wp2_with fail;exact bodyPost_ret (v:=.tuple #[v,.int .i64 0]) (by simp [results,Tryz.results17, go_sem]) rfl ⟨u,fun _=>⟨v,rfl,hv⟩,fun h=>absurd (fun q=>by cases q) h⟩
end Tw
end
section
namespace Tw
open SR Go.Proofs.YtihlgifojjeoaaaGreatDoor.Rt
theorem Qcc:∀ {xs acc rs:List (List Rat)},Qam acc xs=some rs→rs=xs.reverse++acc
 | [],acc,rs,h=>by cases h;rfl
 | x :: xs,acc,rs,h=>by
  rw [Qam] at h;split at h
  ·rw [Qcc h,List.reverse_cons,List.append_assoc];rfl
  ·cases h
theorem Qjo:∀ {xs acc rs:List (List Rat)},(∃ S R,IsT acc S R)→Qam acc xs=some rs→∃ S R,IsT rs S R
 | [],acc,rs,hS,h=>by cases h;exact hS
 | x :: xs,acc,rs,⟨S,R,hS⟩,h=>by
  rw [Qam] at h;split at h
  ·rename_i ha;obtain ⟨δ,hδ⟩:=hS.ex ha.2.1;exact Qjo ⟨_,_,.cons hS δ hδ (hS.sign hδ ha.2.2)⟩ h
  ·cases h
theorem QuX {L rs:List (List Rat)} (h:Qam [] L=some rs):∃ S R,IsT rs S R:=Qjo ⟨_,_,.nil⟩ h
theorem Qjp {K D:Nat}:∀ {xs acc rs:List (List Rat)},RadT K D acc→(∀ x∈xs,AllL K D x)→Qam acc xs=some rs→RadT K D rs
 | [],acc,rs,hS,_,h=>by cases h;exact hS
 | x :: xs,acc,rs,hS,hx,h=>by
  rw [Qam] at h;split at h
  ·rename_i ha;have hr:RadT K D (x :: acc):=⟨ha.2.1,hx x List.mem_cons_self,hS⟩;exact Qjp hr (fun y hy=>hx y (List.mem_cons_of_mem _ hy)) h
  ·cases h
theorem Qei:∀ {xs acc rs:List (List Rat)},Qdz acc→Qam acc xs=some rs→Qdz rs
 | [],acc,rs,hS,h=>by cases h;exact hS
 | x :: xs,acc,rs,hS,h=>by
  rw [Qam] at h;split at h
  ·rename_i ha;have hr:Qdz (x :: acc):=⟨ha.2.1,hS⟩;exact Qei hr h
  ·cases h
def mfit (K D k L M B C:Nat):Bool:=decide (2*(gr K D k*(B*C))*(L*M*K^ee k)<10^200) && decide ((L*M*K^ee k)*(L*M*K^ee k)<10^200)
theorem Qtn {K D:Nat} (hK:0<K) {rs:List (List Rat)} (h:RadT K D rs) {L M B C:Nat} {x y:List Rat} (hx:x.length=2^rs.length) (hy:y.length=2^rs.length) (hL:0<L) (hM:0<M) (ax:AllL L B x) (ay:AllL M C y) (hf:mfit K D rs.length L M B C=true) :
  ∃ z,mulO rs x y=some z∧z.length=2^rs.length∧AllL (L*M*K^ee rs.length) (gr K D rs.length*(B*C)) z:=by
 rw [mfit,Bool.and_eq_true] at hf;exact Qkd hK h hx hy hL hM ax ay (of_decide_eq_true hf.1) (of_decide_eq_true hf.2)
theorem Qcp {D:Nat} {rs:List (List Rat)} (h:RadT 1 D rs) {L M B C:Nat} {x y:List Rat} (hx:x.length=2^rs.length) (hy:y.length=2^rs.length) (hL:0<L) (hM:0<M) (ax:AllL L B x) (ay:AllL M C y) (hf:mfit 1 D rs.length L M B C=true) :
  ∃ z,mulO rs x y=some z∧z.length=2^rs.length∧AllL (L*M) (gr 1 D rs.length*(B*C)) z:=by
 have:=Qtn (by decide) h hx hy hL hM ax ay hf
 rwa [Nat.one_pow,Nat.mul_one] at this
theorem Qim {L B C n:Nat} {x y:List Rat} (hx:x.length=n) (hy:y.length=n) (ax:AllL L B x) (ay:AllL L C y) (hf:(decide ((B+C)*L<10^200) && decide (L*L<10^200))=true):∃ z,Qaj addQ x y=some z∧z.length=n∧AllL L (B+C) z:=by
 rw [Bool.and_eq_true] at hf;obtain ⟨z,e,hz,az⟩:=QfN (by rw [hx,hy]) ax ay (of_decide_eq_true hf.1) (of_decide_eq_true hf.2);exact ⟨z,e,hz.trans hx,az⟩
theorem QoS {L B C n:Nat} {x y:List Rat} (hx:x.length=n) (hy:y.length=n) (ax:AllL L B x) (ay:AllL L C y) (hf:(decide ((B+C)*L<10^200) && decide (L*L<10^200))=true):∃ z,Qaj subQ x y=some z∧z.length=n∧AllL L (B+C) z:=by
 rw [Bool.and_eq_true] at hf;obtain ⟨z,e,hz,az⟩:=Qig (by rw [hx,hy]) ax ay (of_decide_eq_true hf.1) (of_decide_eq_true hf.2);exact ⟨z,e,hz.trans hx,az⟩
theorem QqL {rs:List (List Rat)} {S:SR} {R:List Rat→S.T→Prop} (h:IsT rs S R) {a b d ab ba bd one two sum left ad right back other:List Rat} (la:a.length=2^rs.length) (lb:b.length=2^rs.length) (ld:d.length=2^rs.length)
  (e1:mulO rs a b=some ab) (e2:mulO rs b a=some ba) (e3:mulO rs b d=some bd) (e4:mulO rs ab d=some one) (e5:mulO rs a bd=some two) (e6:Qaj addQ b d=some sum) (e7:mulO rs a sum=some left) (e8:mulO rs a d=some ad) (e9:Qaj addQ ab ad=some right) (e10:Qaj subQ sum d=some back) (e11:Qaj addQ d b=some other) :
  ab=ba∧one=two∧left=right∧back=b∧sum=other:=by
 obtain ⟨x,hx⟩:=h.ex la;obtain ⟨y,hy⟩:=h.ex lb;obtain ⟨z,hz⟩:=h.ex ld;have f1:R ab (x*y):=h.mul hx hy e1;have f2:R ba (y*x):=h.mul hy hx e2;have f3:R bd (y*z):=h.mul hy hz e3;have f4:R one (x*y*z):=h.mul f1 hz e4;have f5:R two (x*(y*z)):=h.mul hx f3 e5;have f6:R sum (y+z):=h.add hy hz e6;have f7:R left (x*(y+z)):=h.mul hx f6 e7;have f8:R ad (x*z):=h.mul hx hz e8;have f9:R right (x*y+x*z):=h.add f1 f8 e9;have f10:R back (y+z + -z):=h.sub f6 hz e10;have f11:R other (z+y):=h.add hz hy e11;rw [SR.mul_comm y x] at f2;rw [SR.mul_assoc] at f4;rw [SR.mul_add] at f7;rw [SR.add_assoc,SR.Qby,SR.Qbh] at f10;rw [SR.add_comm z y] at f11;exact ⟨h.inj f1 f2,h.inj f4 f5,h.inj f7 f9,h.inj f10 hy,h.inj f6 f11⟩
theorem QoT:∀ k,k<4→(mfit 1 7 k 6 6 30 30 && (mfit 1 7 k 36 6 (gr 1 7 k*900) 30 && (mfit 1 7 k 6 36 30 (gr 1 7 k*900) && (mfit 1 7 k 6 6 30 60 && (mfit 1 7 k 6 6 60 30 && (decide ((gr 1 7 k*900+gr 1 7 k*900)*36<10^200) && (sfit 1 7 k 6 30 && (sfit 1 7 k 36 (gr 1 7 k*900) && (sfit 1 7 k 6 60 && (sfit 1 7 k 6 120 && sfit 1 7 k 36 (gr 1 7 k*900+gr 1 7 k*900)))))))))))=true:=by decide +kernel
end Tw
end
end Go.Proofs.YtihlgifojjeoaaaGreatDoor
