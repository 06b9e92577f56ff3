import Derived.Test.YtadcmepaniiciaaGreatDoorZp
import Derived.Deep.MidRow
import Derived.ChangeSame
import Derived.Carry
set_option maxRecDepth 1000000
set_option maxHeartbeats 40000000
open Go.Value renaming string→J
open Go.Obj renaming cells→Jc
open List renaming getElem_toArray→J1,getElem_cons_zero→J2,getElem_cons_succ→J3,setIfInBounds_toArray→J4,set_cons_zero→J5,set_cons_succ→J6
namespace Go.Proofs.YtadcmepaniiciaaGreatDoor
section
namespace Tw
open Go.RowKit Go.Extern.Stop Go.Stop Go.Extern
open En Go.Proofs.YtadcmepaniiciaaGreatDoor.Nm Go.Proofs.YtadcmepaniiciaaGreatDoor.Rt
structure C65 (cs:Array Value) (c:Nat→Int):Prop where
 size:cs.size=65
 at_:∀ k,k<65→cs[k]? = some (.int .i64 (c k))
 bd:∀ k,k<65 → -9223372036854775808≤c k∧c k≤9223372036854775807
theorem C65.cell {cs:Array Value} {c:Nat→Int} (h:C65 cs c) {W:World} {b:Nat} {T:TypeId} (hb:W.heap[b]? = some (.cells cs T (0,0))) (k:Nat) (hk:k<65):W.cell? ⟨b,k,none⟩=some (.int .i64 (c k)):=En.Qaa hb k (h.at_ k hk)
theorem C65.ar {cs:Array Value} {c:Nat→Int} (h:C65 cs c) (o:Nat) (ho:o+16≤65):Ar #[.int .i64 (c (o+0)),.int .i64 (c (o+1)),.int .i64 (c (o+2)),.int .i64 (c (o+3)),.int .i64 (c (o+4)),.int .i64 (c (o+5)),.int .i64 (c (o+6)),.int .i64 (c (o+7)),.int .i64 (c (o+8)),.int .i64 (c (o+9)),.int .i64 (c (o+10)),.int .i64 (c (o+11)),.int .i64 (c (o+12)),.int .i64 (c (o+13)),.int .i64 (c (o+14)),.int .i64 (c (o+15))] (fun i=>c (o+i)):=⟨rfl,fun i hi=>by
 refine ⟨?_,h.bd _ (by omega)⟩;rcases (by omega:i=0∨i=1∨i=2∨i=3∨i=4∨i=5∨i=6∨i=7∨i=8∨i=9∨i=10∨i=11∨i=12∨i=13∨i=14∨i=15) with rfl | rfl | rfl | rfl | rfl | rfl | rfl | rfl | rfl | rfl | rfl | rfl | rfl | rfl | rfl | rfl <;> rfl⟩
def rw16 (c:Nat→Int) (o:Nat):List Value:=(List.range 16).map fun i => .int .i64 (c (o+i))
theorem QtM {c:Nat→Int} {o j:Nat} {v:Value} (h:(rw16 c o)[j]? = some v):j<16∧v = .int .i64 (c (o+j)):=by
 rw [rw16,List.getElem?_map] at h;rcases Nat.lt_or_ge j 16 with h1 | h1
 ·rw [List.getElem?_range h1] at h;injection h with h;exact ⟨h1,h.symm⟩
 ·rw [List.getElem?_eq_none (by rw [List.length_range];exact h1)] at h;cases h
theorem C65.arl {cs:Array Value} {c:Nat→Int} (h:C65 cs c) (o:Nat) (ho:o+16≤65):Ar (rw16 c o).toArray (fun i=>c (o+i)):=⟨by simp [rw16],fun i hi=>⟨by
 rw [List.getElem?_toArray,rw16,List.getElem?_map,List.getElem?_range hi];rfl,h.bd _ (by omega)⟩⟩
theorem C65.range {cs:Array Value} {c:Nat→Int} (h:C65 cs c) {W:World} {b:Nat} {T:TypeId} (hb:W.heap[b]? = some (.cells cs T (0,0))) (o:Nat) (ho:o+16≤65):W.rangeAt b o (rw16 c o):=fun j v hv=>by
 obtain ⟨h1,rfl⟩:=QtM hv;exact h.cell hb (o+j) (by omega)
theorem El.set1 {W:World} {v y:Value} {l:List Rat} {b n cp:Nat} {p:Option Addr} {T:TypeId} (h:El W v l) (hb:W.heap[b]? = some (Jc #[.slice p n cp] T (0,0))):El (W.setCell ⟨b,0,none⟩ y) v l:=by
 obtain ⟨bk,o,cap,rfl,h1,h2⟩:=h
 have hne:∀ {k:Nat} {s:ByteArray},W.cell? ⟨bk,k,none⟩=some (J s)→bk≠b:=by
  rintro k s hk rfl;have:W.cell? ⟨bk,k,none⟩=(#[.slice p n cp]:Array Value)[k]? := by simp [World.cell?,hb]
  rw [this] at hk
  match k,hk with
  | 0,hk=>simp at hk
  | k+1,hk=>simp at hk
 exact ⟨bk,o,cap,rfl,h1,⟨fun i hi=>⟨Qba (Qar 0 y) (h2.at_ i hi).1 (fun e=>hne (h2.at_ i hi).1 (by injection e with e;exact e.symm)),Qba (Qar 0 y) (h2.at_ i hi).2 (fun e=>hne (h2.at_ i hi).1 (by injection e with e;exact e.symm))⟩⟩⟩
theorem QrJ {cs:Array Value} {c:Nat→Int} (hC:C65 cs c) (w:World) :
  Calls Tryz.prog 11 #[.agg cs] w fun e w'=>(∃ L vt va vb vd,e = .returned (.tuple #[vt,va,vb,vd])∧TwC w' vt L∧MadeT L (QaG (c 0) 4)∧El w' va (elL (fun i=>c (17+i)) (2^L.length))∧El w' vb (elL (fun i=>c (33+i)) (2^L.length))∧El w' vd (elL (fun i=>c (49+i)) (2^L.length)))∧Below w.heap.size w w':=by
 have u0:=((Below.refl w.heap.size w).alloc Lr (.cells cs 24)).alloc (by simp) (Jc #[.slice none 0 0] 28);have n0:((w.alloc (.cells cs 24)).alloc (Jc #[.slice none 0 0] 28)).heap[w.heap.size]? = _:=lold (World.alloc_heap_new w _);have n1:((w.alloc (.cells cs 24)).alloc (Jc #[.slice none 0 0] 28)).heap[w.heap.size+1]? = some (Jc #[.slice none 0 0] 28 (0,0)):=(by have:=World.alloc_heap_new (w.alloc (.cells cs 24)) (Jc #[.slice none 0 0] 28);simpa using this);have hz:((w.alloc (.cells cs 24)).alloc (Jc #[.slice none 0 0] 28)).heap.size=w.heap.size+2:=by simp
 have HC:Sh _:=⟨hC⟩;have hq:=Qvy (hC.ar 1 (by decide)) (c 0) (hC.bd 0 (by decide)).1 (hC.bd 0 (by decide)).2;have HQ:Sh _:=⟨hq⟩;clear hq hC;have x0:=HC.o.cell n0 0 (by decide);have x1:=HC.o.cell n0 1 (by decide);have x2:=HC.o.cell n0 2 (by decide);have x3:=HC.o.cell n0 3 (by decide);have x4:=HC.o.cell n0 4 (by decide);have x5:=HC.o.cell n0 5 (by decide);have x6:=HC.o.cell n0 6 (by decide);have x7:=HC.o.cell n0 7 (by decide);have x8:=HC.o.cell n0 8 (by decide);have x9:=HC.o.cell n0 9 (by decide);have x10:=HC.o.cell n0 10 (by decide);have x11:=HC.o.cell n0 11 (by decide);have x12:=HC.o.cell n0 12 (by decide);have x13:=HC.o.cell n0 13 (by decide);have x14:=HC.o.cell n0 14 (by decide);have x15:=HC.o.cell n0 15 (by decide);have x16:=HC.o.cell n0 16 (by decide);go_enter Tryz.func11, Tryz.ntmps11;go_wp2_with fail;refine (HQ.o _).mono ?_;rintro e V2 ⟨⟨L,vt,rfl,⟨hT,hN⟩,hM⟩,g⟩;have HM:Sh (MadeT L (QaG (c 0) 4)):=⟨hM⟩;have u2:=u0.trans (g.mono u0.size);have n02:=En.Qac n0 g;have n12:=En.Qac n1 g;rw [hz] at hN;have hb2:w.heap.size+2≤V2.heap.size:=by rw [←hz];exact g.size
 clear x0 x1 x2 x3 x4 x5 x6 x7 x8 x9 x10 x11 x12 x13 x14 x15 x16 g u0 n0 n1 hz HQ hM;obtain ⟨p,cap,rfl,_⟩:=hT.parts;have hn4:L.length≤4:=by rw [HM.o.len];have:=QbM (c 0) (n:=4) (by decide);omega
 obtain ⟨n,hn⟩:∃ n,n=L.length:=⟨_,rfl⟩;rw [←hn] at hn4;have HN:Sh (n=L.length):=⟨hn⟩;rw [←hn] at hT hN;have uA:=(Below.refl V2.heap.size V2).alloc Lr (Jc #[.slice p n cap] 28);have n3:(V2.alloc (Jc #[.slice p n cap] 28)).heap[V2.heap.size]? = some (Jc #[.slice p n cap] 28 (0,0)):=World.alloc_heap_new V2 _;have u3:=u2.trans (uA.mono u2.size);have n03:=En.Qac n02 uA;have n13:=En.Qac n12 uA;have TC:Sh (TwC (V2.alloc (Jc #[.slice p n cap] 28)) (.agg #[.slice p n cap]) L∧TwN (w.heap.size+2) (V2.alloc (Jc #[.slice p n cap] 28)) (.agg #[.slice p n cap]) L):=⟨hT.keep uA,hN.keep uA⟩;rw [←hn];clear hT hN uA n02 n12 hn u2;go_wp2_with fail;generalize V2.alloc (Jc #[.slice p n cap] 28)=V3 at *
 generalize V2.heap.size=bt at *
 have SS:Sh (∀ X,V3.grownBy X (some (w.heap.size+1))→X.cell? ⟨bt,0,none⟩=some (.slice p n cap)∧X.rangeAt w.heap.size 17 (rw16 c 17)∧X.rangeAt w.heap.size 33 (rw16 c 33)∧X.rangeAt w.heap.size 49 (rw16 c 49)):=⟨fun X g=>by
  have b0:X.heap[w.heap.size]? = some (.cells cs 24 (0,0)):=QbK g n03 (fun e=>by injection e with e;omega);have b3:X.heap[bt]? = some (Jc #[.slice p n cap] 28 (0,0)):=QbK g n3 (fun e=>by injection e with e;omega);exact ⟨En.Qaa b3 0 rfl,HC.o.range b0 17 (by decide),HC.o.range b0 33 (by decide),HC.o.range b0 49 (by decide)⟩⟩
 obtain ⟨la,hla⟩:∃ l,l=rw16 c 17:=⟨_,rfl⟩;obtain ⟨lb,hlb⟩:∃ l,l=rw16 c 33:=⟨_,rfl⟩;obtain ⟨ld,hld⟩:∃ l,l=rw16 c 49:=⟨_,rfl⟩;rw [←hla,←hlb,←hld] at SS;have Ea:Sh (∀ W:World,Calls Tryz.prog 35 #[.agg #[.slice p n cap],.agg la.toArray] W fun e w'=>(∃ v,e = .returned v∧El w' v (elL (fun i=>c (17+i)) (2^n)))∧Below W.heap.size W w'):=⟨fun W=>by rw [hla];exact QgW (HC.o.arl 17 (by decide)) hn4 W⟩;have Eb:Sh (∀ W:World,Calls Tryz.prog 35 #[.agg #[.slice p n cap],.agg lb.toArray] W fun e w'=>(∃ v,e = .returned v∧El w' v (elL (fun i=>c (33+i)) (2^n)))∧Below W.heap.size W w'):=⟨fun W=>by rw [hlb];exact QgW (HC.o.arl 33 (by decide)) hn4 W⟩;have Ed:Sh (∀ W:World,Calls Tryz.prog 35 #[.agg #[.slice p n cap],.agg ld.toArray] W fun e w'=>(∃ v,e = .returned v∧El w' v (elL (fun i=>c (49+i)) (2^n)))∧Below W.heap.size W w'):=⟨fun W=>by rw [hld];exact QgW (HC.o.arl 49 (by decide)) hn4 W⟩;have H3:Sh _:=⟨n03⟩;have h13:V3.heap[w.heap.size+1]? = some (Jc #[.slice none 0 0] 28 (0,0)):=n13;have hu22:Tryz.prog.underlying 22 = some (.array 16 3):=Tryz.underlying22;have hi16:(Tryz.prog.info? 22).map (·.size)=some 16:=by kernel_rfl
 have hia:(Tryz.prog.info? 22).map (·.size)=some la.length:=by rw [hi16,hla];simp [rw16]
 have hib:(Tryz.prog.info? 22).map (·.size)=some lb.length:=by rw [hi16,hlb];simp [rw16]
 have hid:(Tryz.prog.info? 22).map (·.size)=some ld.length:=by rw [hi16,hld];simp [rw16]
 clear n03 n13 n3 HC hla hlb hld hi16;refine wp_region_held_drew (S:=fun X=>X.cell? ⟨bt,0,none⟩=some (.slice p n cap)∧X.rangeAt w.heap.size 17 la∧X.rangeAt w.heap.size 33 lb∧X.rangeAt w.heap.size 49 ld) (by kernel_rfl) ?_ (fun hHeld => ?_)
 ·exact SS.o _ (of_below (QaS (Below.refl _ _)) _)
 refine wpAnyH_take (i:=0) (v := ?_) rfl (by kernel_rfl) (by kernel_rfl) (by kernel_rfl) (fun _ _ _ h=>h) (Or.inl ⟨by rfl, ?_⟩) (by assumption) ?_
 rotate_left
 focus (intro w hSw;(try dsimp only at hSw);go_split_ands;go_simp;first | done | with_reducible rfl)
 refine wpAnyH_take (i:=1) (v := ?_) rfl (by kernel_rfl) (by kernel_rfl) (by kernel_rfl) (fun _ _ _ h=>h) (Or.inl ⟨by rfl, ?_⟩) (by assumption) ?_
 rotate_left
 focus (intro w hSw;(try dsimp only at hSw);go_split_ands;go_simp;first | done | with_reducible rfl)
 simp only [Act.put,J1,J2,J3,J4,J5,J6];refine wpAnyH_take (i:=2) (v := ?_) rfl (by kernel_rfl) (by kernel_rfl) (by kernel_rfl) (fun _ _ _ h=>h) (Or.inl ⟨by rfl, ?_⟩) (by assumption) ?_
 rotate_left
 focus (intro w hSw;(try dsimp only at hSw);go_split_ands;go_simp;first | done | with_reducible rfl)
 simp only [Act.put,J1,J2,J3,J4,J5,J6];refine wpAnyH_take (i:=3) (v:=.agg la.toArray) rfl (by kernel_rfl) (by kernel_rfl) (by kernel_rfl) (fun _ _ _ h=>h) (yieldsIf_load_mid (by rfl) _ _ rfl _ _ rfl _ _ (fun _ hw=>hw.2.1) hu22 rfl hia) (by assumption) ?_;simp only [Act.put,J1,J2,J3,J4,J5,J6];refine wpAnyH_take (i:=5) (v := ?_) rfl (by kernel_rfl) (by kernel_rfl) (by kernel_rfl) (fun _ _ _ h=>h) (Or.inl ⟨by rfl, ?_⟩) (by assumption) ?_
 rotate_left
 focus (intro w hSw;(try dsimp only at hSw);go_split_ands;go_simp;first | done | with_reducible rfl)
 simp only [Act.put,J1,J2,J3,J4,J5,J6];refine wpAnyH_take (i:=6) (v := ?_) rfl (by kernel_rfl) (by kernel_rfl) (by kernel_rfl) (fun _ _ _ h=>h) (Or.inl ⟨by rfl, ?_⟩) (by assumption) ?_
 rotate_left
 focus (intro w hSw;(try dsimp only at hSw);go_split_ands;go_simp;first | done | with_reducible rfl)
 simp only [Act.put,J1,J2,J3,J4,J5,J6];refine wpAnyH_take (i:=7) (v:=.agg lb.toArray) rfl (by kernel_rfl) (by kernel_rfl) (by kernel_rfl) (fun _ _ _ h=>h) (yieldsIf_load_mid (by rfl) _ _ rfl _ _ rfl _ _ (fun _ hw=>hw.2.2.1) hu22 rfl hib) (by assumption) ?_;simp only [Act.put,J1,J2,J3,J4,J5,J6];refine wpAnyH_take (i:=9) (v := ?_) rfl (by kernel_rfl) (by kernel_rfl) (by kernel_rfl) (fun _ _ _ h=>h) (Or.inl ⟨by rfl, ?_⟩) (by assumption) ?_
 rotate_left
 focus (intro w hSw;(try dsimp only at hSw);go_split_ands;go_simp;first | done | with_reducible rfl)
 simp only [Act.put,J1,J2,J3,J4,J5,J6];refine wpAnyH_take (i:=10) (v := ?_) rfl (by kernel_rfl) (by kernel_rfl) (by kernel_rfl) (fun _ _ _ h=>h) (Or.inl ⟨by rfl, ?_⟩) (by assumption) ?_
 rotate_left
 focus (intro w hSw;(try dsimp only at hSw);go_split_ands;go_simp;first | done | with_reducible rfl)
 simp only [Act.put,J1,J2,J3,J4,J5,J6];refine wpAnyH_take (i:=11) (v:=.agg ld.toArray) rfl (by kernel_rfl) (by kernel_rfl) (by kernel_rfl) (fun _ _ _ h=>h) (yieldsIf_load_mid (by rfl) _ _ rfl _ _ rfl _ _ (fun _ hw=>hw.2.2.2) hu22 rfl hid) (by assumption) ?_;simp only [Act.put,J1,J2,J3,J4,J5,J6];refine wpAnyH_ready (rs := [4]) (by kernel_rfl) (by simp) ?_;refine AllReadyH.cons rfl (fun K hK => ?_) AllReadyH.nil;go_simp
 (with_reducible refine (Ea.o V3.drew).mono ?_)
 rintro e V4 ⟨⟨va,rfl,ea⟩,g⟩;have u4:Below V3.heap.size V3 V4:=Qah g;have Ear:Sh _:=⟨ea⟩;clear g ea;go_wp2_with fail;refine hK.out _ _ ?_ (fun hHeld => ?_)
 ·exact SS.o _ (of_below u4 _)
 clear hK K;refine wpAnyH_ready (rs := [8]) (by kernel_rfl) (by simp) ?_;refine AllReadyH.cons rfl (fun K hK => ?_) AllReadyH.nil;go_simp
 (with_reducible refine (Eb.o V4).mono ?_)
 rintro e V5 ⟨⟨vb,rfl,eb⟩,g⟩;have u5:Below V3.heap.size V3 V5:=u4.trans (g.mono u4.size);replace Ear:Sh _:=⟨Ear.o.keep g⟩;have Ebr:Sh _:=⟨eb⟩;clear g eb;go_wp2_with fail;refine hK.out _ _ ?_ (fun hHeld => ?_)
 ·exact SS.o _ (of_below u5 _)
 clear hK K;refine wpAnyH_ready (rs := [12]) (by kernel_rfl) (by simp) ?_;refine AllReadyH.cons rfl (fun K hK => ?_) AllReadyH.nil;go_simp
 (with_reducible refine (Ed.o V5).mono ?_)
 rintro e V6 ⟨⟨vd,rfl,ed⟩,g⟩;have u6:Below V3.heap.size V3 V6:=u5.trans (g.mono u5.size);replace Ear:Sh _:=⟨Ear.o.keep g⟩;replace Ebr:Sh _:=⟨Ebr.o.keep g⟩;have Edr:Sh _:=⟨ed⟩;clear g ed;go_wp2_with fail;refine hK.out _ _ ?_ (fun hHeld => ?_)
 ·exact SS.o _ (of_below u6 _)
 clear hK K;have xs6:=En.Qaa (En.Qac h13 u6) 0 (v:=.slice none 0 0) rfl;have ys6:=En.Qad (En.Qac h13 u6) 0;refine wpAnyH_ready (rs := [13]) (by kernel_rfl) (by simp) ?_;refine AllReadyH.cons rfl (fun K hK => ?_) AllReadyH.nil;go_simp;refine hK.out _ _ ?_ (fun hHeld => ?_)
 ·exact SS.o _ (World.grownBy.trans (of_below u6 _) (Qar 0 _))
 clear hK K;clear xs6 ys6;refine wpAnyH_take (i:=14) (v := ?_) rfl (by kernel_rfl) (by kernel_rfl) (by kernel_rfl) (fun _ _ _ h=>h) (Or.inl ⟨by rfl, ?_⟩) (by assumption) ?_
 rotate_left
 focus (intro w hSw;(try dsimp only at hSw);go_split_ands;go_simp;first | done | with_reducible rfl)
 simp only [Act.put,J1,J2,J3,J4,J5,J6];refine wpAnyH_take (i:=15) (v := ?_) rfl (by kernel_rfl) (by kernel_rfl) (by kernel_rfl) (fun _ _ _ h=>h) (Or.inl ⟨by rfl, ?_⟩) (by assumption) ?_
 rotate_left
 focus (intro w hSw;(try dsimp only at hSw);go_split_ands;go_simp;first | done | with_reducible rfl)
 simp only [Act.put,J1,J2,J3,J4,J5,J6];refine wpAnyH_take (i:=16) (v := ?_) rfl (by kernel_rfl) (by kernel_rfl) (by kernel_rfl) (fun _ _ _ h=>h) (Or.inl ⟨by rfl, ?_⟩) (by assumption) ?_
 rotate_left
 focus (intro w hSw;(try dsimp only at hSw);go_split_ands;go_simp;first | done | with_reducible rfl)
 simp only [Act.put,J1,J2,J3,J4,J5,J6];refine wpAnyH_done (by kernel_rfl) ?_ _
 all_goals
  clear SS Ea Eb Ed;have h16:=En.Qac h13 u6;have b1:=QbH (y:=.slice p n cap) h16;have z1:=En.Qaa b1 0 (v:=.slice p n cap) rfl;have hN6:=(TC.o.2.keep u6).set (b:=w.heap.size+1) (by omega) (.slice p n cap);have RF:Sh (TwC (V6.setCell ⟨w.heap.size+1,0,none⟩ (.slice p n cap)) (.agg #[.slice p n cap]) L∧MadeT L (QaG (c 0) 4)∧El (V6.setCell ⟨w.heap.size+1,0,none⟩ (.slice p n cap)) va (elL (fun i=>c (17+i)) (2^n))∧El (V6.setCell ⟨w.heap.size+1,0,none⟩ (.slice p n cap)) vb (elL (fun i=>c (33+i)) (2^n))∧El (V6.setCell ⟨w.heap.size+1,0,none⟩ (.slice p n cap)) vd (elL (fun i=>c (49+i)) (2^n))):=⟨(TC.o.1.keep u6).of hN6 (by simp [World.setCell]),HM.o,Ear.o.set1 h16,Ebr.o.set1 h16,Edr.o.set1 h16⟩;have uF:Sh (Below w.heap.size w (V6.setCell ⟨w.heap.size+1,0,none⟩ (.slice p n cap))):=⟨(u3.trans (u6.mono u3.size)).setCell (p:=⟨w.heap.size+1,0,none⟩) (Nat.le_succ _) _⟩;clear h16 b1 hN6 Ear Ebr Edr TC;go_wp2_with fail;exact bodyPost_ret (v:=.tuple #[.agg #[.slice p n cap],va,vb,vd]) (by simp [results,Tryz.results11, go_sem,z1]) rfl ⟨⟨L,_,va,vb,vd,rfl,by rw [←HN.o];exact RF.o⟩,uF.o⟩
end Tw
end
section
namespace Tw
open Go.RowKit Go.ChangeShapes Go.WideShapes
section
variable {H:Type} {enc:TypeId×Value→H} {P:Program} {w:World} {base:Nat} {spare:Nat→Bool} {held:Bool}
theorem Qvz {l:List Value} {i:Nat} {v:Value} (h:(l.drop i).take 1 = [v]):l[i]? = some v:=by
 have:=congrArg (fun q:List Value=>q[0]?) h;simpa [List.getElem?_take,List.getElem?_drop] using this
theorem QfT {t e:TypeId} {k:IntKind} {n:Nat} (ht:P.underlying t=some (.array n e)) (he:P.underlying e=some (.int k)) (hc:P.cellsOf e=1) {fuel:Nat} {l:List Value} {x:DataW H×List MemPlace}
  (h:DataW.trod enc P w base spare held fuel t l=some x):x.2 = []∧∀ i,i<n→∃ a,l[i]? = some (.int k a)∧(Lit.int k a).wf=true:=by
 obtain ⟨xs,m,_,rfl,_,hlen,hg⟩:=DataW.trod_array ht h;rw [hc] at hg
 have hy:∀ i,i<n→∃ a,l[i]? = some (.int k a)∧(Lit.int k a).wf=true∧xs[i]? = some (.lit (.int k a), []):=fun i hi=>by
  have hx:xs[i]? = some xs[i]:=List.getElem?_eq_getElem (by omega);have h1:=hg i hi;rw [hx,Nat.mul_one] at h1;obtain ⟨a,e1,e2,e3⟩:=DataW.trod_int he h1;exact ⟨a,Qvz e1,e3,by rw [hx,e2]⟩
 refine ⟨List.flatMap_eq_nil_iff.2 fun y hy' => ?_,fun i hi => ?_⟩
 ·obtain ⟨i,hi⟩:=List.getElem?_of_mem hy'
  have hl:i<xs.length:=by
   rcases Nat.lt_or_ge i xs.length with h | h
   ·exact h
   ·rw [List.getElem?_eq_none h] at hi;cases hi
  obtain ⟨a,_,_,e⟩:=hy i (by omega);rw [e] at hi;injection hi with hi;rw [←hi]
 ·obtain ⟨a,h1,h2,_⟩:=hy i hi;exact ⟨a,h1,h2⟩
end
theorem wf64 {a:Int} (h:(Lit.int .i64 a).wf=true) : -9223372036854775808≤a∧a≤9223372036854775807:=Joins.in64_of_wf h
theorem Qjy {H:Type} {enc:TypeId×Value→H} {w:World} {base:Nat} {spare:Nat→Bool} {held:Bool} {r:Reach} {b0:Nat} {v:Value} {d:DataW H} {p:List MemPlace}
  (hv:Value.okWide Tryz.prog w r b0 24 v) (h:DataW.Trod enc Tryz.prog w base spare held 24 v d p):∃ cs c,v = .agg cs∧p = []∧C65 cs c:=by
 obtain ⟨cs,rfl,hsz⟩:∃ cs:Array Value,v = .agg cs∧cs.size=Tryz.prog.cellsOf 24 := by
  simp only [Value.okWide,Tryz.underlying24] at hv;obtain ⟨cs,h1,h2,_⟩:=hv;exact ⟨cs,h1,h2⟩
 have hn:cs.size=65:=hsz.trans (by kernel_rfl);obtain ⟨fuel,hf⟩:=h;obtain ⟨xs,m,_,hx,_,hlen,hg⟩:=DataW.trod_struct Tryz.underlying24 hf;have c3:Tryz.prog.cellsOf 3 = 1:=by kernel_rfl
 have c22:Tryz.prog.cellsOf 22 = 16:=by kernel_rfl
 match xs,hlen with
 | [y0,y1,y2,y3,y4],_ =>
  have g0:DataW.trod enc Tryz.prog w base spare held m 3 ((cs.toList.drop 0).take (Tryz.prog.cellsOf 3))=some y0:=hg 0 _ rfl;rw [c3] at g0;have g1:DataW.trod enc Tryz.prog w base spare held m 22 ((cs.toList.drop 1).take (Tryz.prog.cellsOf 22))=some y1:=hg 1 _ rfl;rw [c22] at g1;have g2:DataW.trod enc Tryz.prog w base spare held m 22 ((cs.toList.drop 17).take (Tryz.prog.cellsOf 22))=some y2:=hg 2 _ rfl;rw [c22] at g2;have g3:DataW.trod enc Tryz.prog w base spare held m 22 ((cs.toList.drop 33).take (Tryz.prog.cellsOf 22))=some y3:=hg 3 _ rfl;rw [c22] at g3;have g4:DataW.trod enc Tryz.prog w base spare held m 22 ((cs.toList.drop 49).take (Tryz.prog.cellsOf 22))=some y4:=hg 4 _ rfl;rw [c22] at g4;obtain ⟨a0,e0,f0,w0⟩:=DataW.trod_int Tryz.underlying3 g0;obtain ⟨p1,h1⟩:=QfT Tryz.underlying22 Tryz.underlying3 c3 g1;obtain ⟨p2,h2⟩:=QfT Tryz.underlying22 Tryz.underlying3 c3 g2;obtain ⟨p3,h3⟩:=QfT Tryz.underlying22 Tryz.underlying3 c3 g3;obtain ⟨p4,h4⟩:=QfT Tryz.underlying22 Tryz.underlying3 c3 g4
  have hp:p = []:=by
   have:=congrArg (fun q=>q.2) hx;simpa [p1,p2,p3,p4,f0] using this
  have key:∀ k,k<65→∃ a,cs[k]? = some (.int .i64 a)∧(Lit.int .i64 a).wf=true:=fun k hk=>by
   have tk:∀ o i,i<16→(((cs.toList.drop o).take 16))[i]? = cs[o+i]? := fun o i hi=>by
    rw [List.getElem?_take_of_lt hi,List.getElem?_drop,Array.getElem?_toList]
   rcases (by omega:k=0∨(1≤k∧k<17)∨(17≤k∧k<33)∨(33≤k∧k<49)∨(49≤k∧k<65)) with rfl | ⟨l,u⟩ | ⟨l,u⟩ | ⟨l,u⟩ | ⟨l,u⟩
   ·exact ⟨a0,by have:=Qvz e0;rwa [Array.getElem?_toList] at this,w0⟩
   ·obtain ⟨a,q1,q2⟩:=h1 (k-1) (by omega);exact ⟨a,by rw [←q1];exact ((tk 1 (k-1) (by omega)).trans (by rw [show 1+(k-1)=k by omega])).symm,q2⟩
   ·obtain ⟨a,q1,q2⟩:=h2 (k-17) (by omega);exact ⟨a,by rw [←q1];exact ((tk 17 (k-17) (by omega)).trans (by rw [show 17+(k-17)=k by omega])).symm,q2⟩
   ·obtain ⟨a,q1,q2⟩:=h3 (k-33) (by omega);exact ⟨a,by rw [←q1];exact ((tk 33 (k-33) (by omega)).trans (by rw [show 33+(k-33)=k by omega])).symm,q2⟩
   ·obtain ⟨a,q1,q2⟩:=h4 (k-49) (by omega);exact ⟨a,by rw [←q1];exact ((tk 49 (k-49) (by omega)).trans (by rw [show 49+(k-49)=k by omega])).symm,q2⟩
  refine ⟨cs,fun k=>match cs[k]? with | some (.int _ a)=>a | _=>0,rfl,hp,hn,fun k hk => ?_,fun k hk => ?_⟩
  ·obtain ⟨a,e,_⟩:=key k hk;simp only [e]
  ·obtain ⟨a,e,hw⟩:=key k hk;simp only [e];exact wf64 hw
end Tw
end
section
namespace Tw
open Go.RowKit Go.Extern.Stop Go.Stop Go.Extern
open En Go.Proofs.YtadcmepaniiciaaGreatDoor.Nm Go.Proofs.YtadcmepaniiciaaGreatDoor.Rt
theorem C65.size24 {cs:Array Value} {c:Nat→Int} (h:C65 cs c):(Tryz.prog.info? 24).map (·.size)=some cs.toList.length:=by
 rw [show (Tryz.prog.info? 24).map (·.size)=some 65 by kernel_rfl,Array.length_toList,h.size]
theorem Qjz {L:List (List Rat)} {k:Nat} (h:MadeT L k):∃ rs S R,Qam [] L=some rs∧IsT rs S R∧RadT 1 7 rs∧rs.length=k∧Qdz rs:=by
 obtain ⟨rs,hf⟩:=h.fld;obtain ⟨S,R,hT⟩:=QuX hf;refine ⟨rs,S,R,hf,hT,Qjp (acc := []) trivial h.lat hf, ?_,Qei (acc := []) trivial hf⟩;rw [Qcc hf,List.append_nil,List.length_reverse,h.len]
structure Fs (x:List Rat):Prop where
 f:FitL x
 n:x.length≤1000
theorem Fs.mul {rs:List (List Rat)} {x y z:List Rat} (e:mulO rs x y=some z) (hl:z.length=2^rs.length) (hk:rs.length≤4):Fs z:=⟨QbL e,by have:=QbG hk;omega⟩
theorem Fs.add {x y z:List Rat} (e:Qaj addQ x y=some z) (hl:z.length≤1000):Fs z:=⟨FitL.pair (fun _ _ _ h=>FitQ.addQ h) e,hl⟩
theorem Fs.sub {x y z:List Rat} (e:Qaj subQ x y=some z) (hl:z.length≤1000):Fs z:=⟨FitL.pair (fun _ _ _ h=>FitQ.subQ h) e,hl⟩
theorem Fs.el {x:List Rat} {k:Nat} (h:AllL 6 30 x) (hl:x.length=2^k) (hk:k≤4):Fs x:=⟨h.fit (by decide +kernel),by have:=QbG hk;omega⟩
end Tw
end
end Go.Proofs.YtadcmepaniiciaaGreatDoor
