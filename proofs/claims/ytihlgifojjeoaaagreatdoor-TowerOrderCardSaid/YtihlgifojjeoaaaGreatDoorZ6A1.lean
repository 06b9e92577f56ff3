import Derived.Test.YtihlgifojjeoaaaGreatDoorRows
import Derived.Test.YtihlgifojjeoaaaGreatDoorZ6L
import Derived.WalkKit
import Derived.WalkLawsBesides
import Derived.LaidEql
import Derived.Stop.Asserts
import Derived.RowKitTokens
import Derived.Defers
import Derived.Recover
import Derived.Below
import Derived.RangeFuncRecord
import Derived.Shelf.Abstract
import Derived.IntWalk
import Derived.LoopIn
import Derived.RowKit
set_option maxRecDepth 1000000
set_option maxHeartbeats 40000000
open Go.Value renaming string→Z
open Go.Obj renaming cells→O
namespace Go.Proofs.YtihlgifojjeoaaaGreatDoor
section
namespace En
open Go.RowKit Go.Extern.Stop Go.Stop Go.Extern

theorem isTypeOf (v:Value) (w:World):(Extern.ReflectliteType.typeOf #[.iface 258 v]).run Tryz.prog w = .ok (.iface 239 (.agg #[.pointer (some ⟨4, 258, none⟩)])) w:=by kernel_rfl
theorem Qev (v:Value) (n:Nat) (w:World):(Go.method (n+1) 239 v "Comparable").run Tryz.prog w = .ok (266, v) w:=by kernel_rfl
theorem QtQ:(Tryz.prog.info? 258).map (·.comparable)=some true:=by kernel_rfl
theorem QtR:(Tryz.prog.info? 280).map (·.size)=some 1:=by kernel_rfl
theorem QrM (v:Value) (xT:TypeId) (w:World):(Instr.typeAssert (.iface 258 v) xT 144 true).run Tryz.prog w = .ok (.tuple #[.iface 258 v,.bool true]) w:=run_typeAssert_hasB Tryz.underlying144 (by kernel_rfl) v xT w
theorem isComparable (w:World):((Extern.ReflectliteType.method fun t=>do Extern.Rtype.noPackHeld "Comparable" t;(fun a=>Value.bool a.comparable) <$> typeInfo t) #[.agg #[.pointer (some ⟨4, 258, none⟩)]]).run Tryz.prog w = .ok (.bool true) w:=by kernel_rfl
theorem QrN (a:Addr) (w:World) :
  Calls Tryz.prog 167 #[.iface 258 (.pointer (some a)),.iface 258 (.pointer (some a))] w fun e w'=>e = .returned (.bool true)∧w'=w:=by
 obtain ⟨i,hi,hcmp⟩:=Option.map_eq_some_iff.1 QtQ;obtain ⟨j,hj,hjs⟩:=Option.map_eq_some_iff.1 QtR;have h8:=@run_callFunc_extern Tryz.prog 205 _ Extern.ReflectliteType.typeOf Tryz.func205 (by kernel_rfl) (by kernel_rfl) (by kernel_rfl) (by kernel_rfl);have h32:=@run_callFunc_extern Tryz.prog 266 _ (Extern.ReflectliteType.method fun t=>do Extern.Rtype.noPackHeld "Comparable" t;pure (.bool (←typeInfo t).comparable)) Tryz.func266 (by kernel_rfl) (by kernel_rfl) (by kernel_rfl) (by kernel_rfl);have tT:=isTypeOf;have cT:=isComparable;have mR:=Qev;have heq:=run_eql_iface_ptr_same (P:=Tryz.prog) w a Tryz.underlying144 Tryz.underlying258 hi hcmp hj;go_enter Tryz.func167, Tryz.ntmps167;go_wp2;refine wp_loop_rounds 1 ?_;rw [rounds_succ];go_wp2;go_ret;exact ⟨rfl,rfl⟩
abbrev refV (a:Addr):Value:=.iface 258 (.pointer (some a))
abbrev refP (a:Addr):List PanicEntry := [{v:=refV a,recovered:=false}]
theorem QlA (w:World):Calls Tryz.prog 128 #[.nilIface] w fun e w'=>e = .returned (.int .i64 0)∧w'=w:=by
 have hn:∀ w:World,(binOp BinOp.eql 20 .nilIface .nilIface).run Tryz.prog w = .ok (.bool true) w:=fun _=>by kernel_rfl
 go_enter Tryz.func128, Tryz.ntmps128;go_wp2;go_ret;exact ⟨rfl,rfl⟩
theorem QlB (a:Addr) (w:World) (hv:w.cell? ⟨2, 0,none⟩=some (refV a)):Calls Tryz.prog 128 #[refV a] w fun e w'=>e = .returned (.int .i64 50)∧w'=w:=by
 have hI:=QrM;have hs:=QrN a w;unfold refV at hv hs ⊢;go_enter Tryz.func128, Tryz.ntmps128;go_wp2_with (go_at_call 167; refine hs.mono ?_;rintro e w' ⟨rfl,rfl⟩);go_ret;exact ⟨rfl,rfl⟩
theorem Qbb (w:World):Calls Tryz.prog 81 #[.bool false] w fun e w'=>e = .returned (.tuple #[])∧w'=w:=by
 go_enter Tryz.func81, Tryz.ntmps81;go_wp2
 go_end0
 exact ⟨rfl,rfl⟩
theorem QaV (a:Addr) (w:World) (hv:w.cell? ⟨2, 0,none⟩=some (refV a)):Calls Tryz.prog 81 #[.bool true] w fun e w'=>e = .panicked (refP a)∧w'=w:=by
 unfold refV at hv;go_enter Tryz.func81, Tryz.ntmps81;go_wp2;exact ⟨rfl,rfl,rfl⟩
def Ref (a:Addr) (W:World):Prop:=W.cell? ⟨2, 0,none⟩=some (refV a)
theorem Ref.keep {a:Addr} {W W':World} (h:Ref a W) (hB:Below W.heap.size W W'):Ref a W':=(hB.cell (p:=⟨2, 0,none⟩) (World.block_lt_of_cell? W _ h)).trans h
theorem QaP (w:World) (a r:Obj):((w.alloc a).alloc r).heap[w.heap.size+1]? = some r:=by
 have:=World.alloc_heap_new (w.alloc a) r
 rwa [World.size_alloc] at this
theorem Qaa {W:World} {b:Nat} {cs:Array Value} {T:TypeId} (h:W.heap[b]? = some (.cells cs T (0,0))) (i:Nat) {v:Value} (hv:cs[i]? = some v):W.cell? ⟨b,i,none⟩=some v:=by simp [World.cell?,h,hv]
theorem Qad {W:World} {b:Nat} {cs:Array Value} {T:TypeId} (h:W.heap[b]? = some (.cells cs T (0,0))) (i:Nat):W.frozen? ⟨b,i,none⟩=false:=by simp [World.frozen?,h]
theorem Qac {w w':World} {b:Nat} {o:Obj} (h:w.heap[b]? = some o) (hB:Below w.heap.size w w'):w'.heap[b]? = some o:=(hB.block b (Array.getElem?_eq_some_iff.1 h).1).trans h
theorem QaL {W:World} {b:Nat} {a0 a1 a2 a3 x y z t:Value} {T:TypeId} (h:W.heap[b]? = some (O #[a0,a1,a2,a3] T (0,0))):((((W.setCell ⟨b,0,none⟩ x).setCell ⟨b,1,none⟩ y).setCell ⟨b,2,none⟩ z).setCell ⟨b,3,none⟩ t).heap[b]? = some (O #[x,y,z,t] T (0,0)):=by
 obtain ⟨hl,hg⟩:=Array.getElem?_eq_some_iff.1 h;simp [World.setCell,hl,Array.getElem_modify,hg]
theorem QbH {W:World} {b:Nat} {a0 x:Value} {T:TypeId} (h:W.heap[b]? = some (O #[a0] T (0,0))):(W.setCell ⟨b,0,none⟩ x).heap[b]? = some (O #[x] T (0,0)):=by
 obtain ⟨hl,hg⟩:=Array.getElem?_eq_some_iff.1 h;simp [World.setCell,hl,Array.getElem_modify,hg]
theorem Qel (n d:ByteArray) (w:World):Calls Tryz.prog 76 #[.agg #[Z n,Z d],.int .i64 0] w fun e w'=>e = .returned (.agg #[Z n,Z d])∧Below w.heap.size w w':=by
 have hr:=Qbb;go_enter Tryz.func76, Tryz.ntmps76;go_wp2_with (go_at_call 81; refine (hr _).mono ?_;rintro e w' ⟨rfl,rfl⟩);have n_r:=QaP w (O #[Z n,Z d] 42) (O #[Z n,Z d] 42);have u:=((Below.refl w.heap.size w).alloc Lr (O #[Z n,Z d] 42)).alloc (by simp) (O #[Z n,Z d] 42);have z0:=Qaa n_r 0 (v:=Z n) rfl;have z1:=Qaa n_r 1 (v:=Z d) rfl;exact bodyPost_ret (v:=.agg #[Z n,Z d]) (by simp [results,Tryz.results76, go_sem]) rfl ⟨rfl,u⟩
theorem QjC (a:Addr) (n d:ByteArray) (c:Int) (hc:c≠0) (w:World) (hv:Ref a w):Calls Tryz.prog 76 #[.agg #[Z n,Z d],.int .i64 c] w fun e w'=>e = .panicked (refP a)∧Below w.heap.size w w':=by
 have hb:(c != 0)=true:=by simp [hc]
 go_enter Tryz.func76, Tryz.ntmps76;have u:=((Below.refl w.heap.size w).alloc Lr (O #[Z n,Z d] 42)).alloc (by simp) (O #[Z ⟨#[]⟩,Z ⟨#[]⟩] 42);have hr:=QaV a _ (hv.keep u);go_wp2_with (go_at_call 81; refine hr.mono ?_;rintro e w' ⟨rfl,rfl⟩);exact ⟨rfl,rfl,u⟩
theorem QvG (p:Addr) (x:Value) (w:World) (hc:w.cell? p=some x) (hz:w.frozen? p=false) :
  CallsD Tryz.prog 127 #[.pointer (some p)] .returning w fun e u' w'=>e = .returned (.tuple #[])∧u' = .returning∧w'=w.setCell p (.int .i64 0):=by
 have hn:=QlA w;refine callsD_of_wpS Tryz.func127 rfl fun c₀ cs hu => ?_;apply wpS_region;simp [wpOpsS,go_sem,recoverD,hu,Tryz.ntmps127];refine hn.mono ?_;rintro e w' ⟨rfl,rfl⟩;cases c₀
 simp_all [go_sem,bodyPostS,results,Tryz.results127]
theorem QmQ (a:Addr) (p:Addr) (x:Value) (older:List PanicEntry) (w:World) (hv:Ref a w) (hc:w.cell? p=some x) (hz:w.frozen? p=false) :
  CallsD Tryz.prog 127 #[.pointer (some p)] (.panicking ({v:=refV a,recovered:=false} :: older)) w fun e u' w'=>e = .returned (.tuple #[])∧u' = .panicking ({v:=refV a,recovered:=true} :: older)∧w'=w.setCell p (.int .i64 50):=by
 have hn:=QlB a w hv;clear hv;unfold refV at *
 refine callsD_of_wpS Tryz.func127 rfl fun c₀ cs hu => ?_;apply wpS_region;simp [wpOpsS,go_sem,recoverD,hu,Tryz.ntmps127];refine hn.mono ?_;rintro e w' ⟨rfl,rfl⟩;simp [go_sem,hc,hz,bodyPostS,results,Tryz.results127]
structure Shut (p:Prop):Prop where o:p
abbrev ivl (a b c d:ByteArray):Value:=.agg #[Z a,Z b,Z c,Z d]
abbrev ivl0:Value:=ivl ⟨#[]⟩ ⟨#[]⟩ ⟨#[]⟩ ⟨#[]⟩
theorem QfB (k:Nat) (caps:Array Value) (hk:Enters Tryz.prog k) (a:Addr) (I:World→Prop) (hI:∀ W W',I W→Below W.heap.size W W'→I W')
  (x y z t:ByteArray) (bad:Bool)
  (n bi cap:Nat) (G:Nat→ByteArray) (ok:Nat→Bool) (hn:n≤9223372036854775807)
  (hC:(∀ j,j<n→ok j=true)→∀ W,Ref a W→I W→Calls Tryz.prog k caps W fun e W'=>e=(if bad then .panicked (refP a) else .returned (ivl x y z t))∧Below W.heap.size W W')
  (hV:∀ j,j<n→∀ W,Calls Tryz.prog 129 #[ivl (G (j*4)) (G (j*4+1)) (G (j*4+2)) (G (j*4+3))] W fun e W'=>e = .returned (.bool (ok j))∧Below W.heap.size W W')
  (w:World) (hR:Ref a w) (hIw:I w) (hcs:∀ W,Below w.heap.size w W→∀ j,j<n*4→W.cell? ⟨bi,j,none⟩=some (Z (G j))) :
  Calls Tryz.prog 74 #[.func (.func k) #[] caps,.slice (some ⟨bi,0,none⟩) n cap] w fun e w'=>e = .returned (if (∀ j,j<n→ok j=true)∧bad=false then .tuple #[ivl x y z t,.int .i64 0] else .tuple #[ivl0,.int .i64 50])∧Below w.heap.size w w':=by
 have hmf:∀ (fn:Fn) (first cap:Array Value) (w:World),(Instr.makeFunc fn first cap).run Tryz.prog w = .ok (.func fn first cap) w:=fun _ _ _ _=>rfl;have CC:Shut _:=⟨hC⟩;have CV:Shut _:=⟨hV⟩;have HCS:Shut _:=⟨hcs⟩;have HR:Shut _:=⟨hR⟩;have HI:Shut _:=⟨hI⟩;have HW:Shut _:=⟨hIw⟩;clear hC hV hcs hR hI hIw
 go_enter_defers Tryz.func74, Tryz.ntmps74
 go_wp2_with fail;have n_r:((w.alloc (O #[Z ⟨#[]⟩,Z ⟨#[]⟩,Z ⟨#[]⟩,Z ⟨#[]⟩] 55)).alloc (O #[.int .i64 0] 32)).heap[w.heap.size]? = _:=(Below.heap_alloc (w.alloc (O #[Z ⟨#[]⟩,Z ⟨#[]⟩,Z ⟨#[]⟩,Z ⟨#[]⟩] 55)) _ w.heap.size (by simp)).trans (World.alloc_heap_new w _);have n_e:=QaP w (O #[Z ⟨#[]⟩,Z ⟨#[]⟩,Z ⟨#[]⟩,Z ⟨#[]⟩] 55) (O #[.int .i64 0] 32);have u:=((Below.refl w.heap.size w).alloc Lr (O #[Z ⟨#[]⟩,Z ⟨#[]⟩,Z ⟨#[]⟩,Z ⟨#[]⟩] 55)).alloc (by simp) (O #[.int .i64 0] 32);generalize ((w.alloc (O #[Z ⟨#[]⟩,Z ⟨#[]⟩,Z ⟨#[]⟩,Z ⟨#[]⟩] 55)).alloc (O #[.int .i64 0] 32))=W0 at *
 have NR:Shut _:=⟨n_r⟩;have NE:Shut _:=⟨n_e⟩;have U0:Shut _:=⟨u⟩;clear n_r n_e u
 go_loopw [11] (fun jv wr=>∃ j:Nat,j≤n∧jv = .int .i64 (j:Int)∧Shut (wr.heap[w.heap.size]? = some (O #[Z ⟨#[]⟩,Z ⟨#[]⟩,Z ⟨#[]⟩,Z ⟨#[]⟩] 55 (0,0))∧wr.heap[w.heap.size+1]? = some (O #[.int .i64 0] 32 (0,0))∧Below w.heap.size w wr)∧Shut (∀ i,i<j→ok i=true)) (fun jv _=>n-(intOf jv).toNat)
 case atStart=>exact ⟨0,Nat.zero_le _,rfl,⟨NR.o,NE.o,U0.o⟩,⟨fun i h=>by omega⟩⟩
 case round =>
  obtain ⟨j,hj,rfl,H,HO⟩:=hrel;clear NR NE U0;obtain ⟨n_r,n_e,u⟩:=H.o;clear H;have hen:=fun a w=>hk a w;by_cases hjn:j=n
  ·subst hjn;have cC:=CC.o (fun i hi=>HO.o i hi) wr (HR.o.keep u) (HI.o _ _ HW.o u);cases bad with
   | true =>
    rw [if_pos rfl] at cC;go_wp2_with fail;refine cC.mono ?_;rintro e v1 ⟨rfl,g⟩;replace u:=u.trans (g.mono u.size);replace n_r:=Qac n_r g;replace n_e:=Qac n_e g;clear g cC;have c0:=Qaa n_e 0 (v:=.int .i64 0) rfl;have f0:=Qad n_e 0;dsimp +zetaDelta only [Exit.then,Exit.inBlock];refine leaves_cons (f := 127) (args:=#[.pointer (some ⟨w.heap.size+1,0,none⟩)]) (by simp) (by simp [go_sem]) ?_;refine (QmQ a ⟨w.heap.size+1,0,none⟩ (.int .i64 0) [] _ (HR.o.keep u) c0 f0).mono ?_;rintro e u' w'' ⟨rfl,rfl,rfl⟩;have r0:(v1.setCell ⟨w.heap.size+1,0,none⟩ (.int .i64 50)).cell? ⟨w.heap.size,0,none⟩=some (Z ⟨#[]⟩):=(World.cell?_setCell_other v1 ⟨w.heap.size+1,0,none⟩ ⟨w.heap.size,0,none⟩ _ (by simp)).trans (Qaa n_r 0 rfl);have r1:(v1.setCell ⟨w.heap.size+1,0,none⟩ (.int .i64 50)).cell? ⟨w.heap.size,1,none⟩=some (Z ⟨#[]⟩):=(World.cell?_setCell_other v1 ⟨w.heap.size+1,0,none⟩ ⟨w.heap.size,1,none⟩ _ (by simp)).trans (Qaa n_r 1 rfl);have r2:(v1.setCell ⟨w.heap.size+1,0,none⟩ (.int .i64 50)).cell? ⟨w.heap.size,2,none⟩=some (Z ⟨#[]⟩):=(World.cell?_setCell_other v1 ⟨w.heap.size+1,0,none⟩ ⟨w.heap.size,2,none⟩ _ (by simp)).trans (Qaa n_r 2 rfl);have r3:(v1.setCell ⟨w.heap.size+1,0,none⟩ (.int .i64 50)).cell? ⟨w.heap.size,3,none⟩=some (Z ⟨#[]⟩):=(World.cell?_setCell_other v1 ⟨w.heap.size+1,0,none⟩ ⟨w.heap.size,3,none⟩ _ (by simp)).trans (Qaa n_r 3 rfl);have r4:=World.cell?_setCell_same v1 ⟨w.heap.size+1,0,none⟩ (.int .i64 50) c0;show ∃ v,(results _ _).run _ _ = .ok v _∧(_∧_);refine ⟨.tuple #[ivl ⟨#[]⟩ ⟨#[]⟩ ⟨#[]⟩ ⟨#[]⟩,.int .i64 50],by simp [results,Tryz.results74, go_sem,r0,r1,r2,r3,r4], ?_,u.setCell (show w.heap.size≤(⟨w.heap.size+1,0,none⟩:Addr).block from Nat.le_succ _) _⟩;rw [if_neg (fun h=>by cases h.2)]
   | false =>
    rw [if_neg (by decide)] at cC;go_wp2_with fail;refine cC.mono ?_;rintro e v1 ⟨rfl,g⟩;replace u:=u.trans (g.mono u.size);replace n_r:=Qac n_r g;replace n_e:=Qac n_e g;clear g cC;have c0:=Qaa n_e 0 (v:=.int .i64 0) rfl;have f0:=Qad n_e 0;have d0:=Qaa n_r 0 (v:=Z ⟨#[]⟩) rfl;have d1:=Qaa n_r 1 (v:=Z ⟨#[]⟩) rfl;have d2:=Qaa n_r 2 (v:=Z ⟨#[]⟩) rfl;have d3:=Qaa n_r 3 (v:=Z ⟨#[]⟩) rfl;have h0:=Qad n_r 0;have h1:=Qad n_r 1;have h2:=Qad n_r 2;have h3:=Qad n_r 3;dsimp only;unfold ivl
    go_wp
    have s_r:=QaL (x:=Z x) (y:=Z y) (z:=Z z) (t:=Z t) n_r;have s_e:((((v1.setCell ⟨w.heap.size,0,none⟩ (Z x)).setCell ⟨w.heap.size,1,none⟩ (Z y)).setCell ⟨w.heap.size,2,none⟩ (Z z)).setCell ⟨w.heap.size,3,none⟩ (Z t)).heap[w.heap.size+1]? = _:=(Below.heap_setCell _ _ _ _ (by simp)).trans ((Below.heap_setCell _ _ _ _ (by simp)).trans ((Below.heap_setCell _ _ _ _ (by simp)).trans ((Below.heap_setCell _ _ _ _ (by simp)).trans n_e)));have m_e:=QbH (x:=.int .i64 0) s_e;have m_r:(((((v1.setCell ⟨w.heap.size,0,none⟩ (Z x)).setCell ⟨w.heap.size,1,none⟩ (Z y)).setCell ⟨w.heap.size,2,none⟩ (Z z)).setCell ⟨w.heap.size,3,none⟩ (Z t)).setCell ⟨w.heap.size+1,0,none⟩ (.int .i64 0)).heap[w.heap.size]? = _:=(Below.heap_setCell _ _ _ _ (by simp)).trans s_r;have hb:∀ i,w.heap.size≤(⟨w.heap.size,i,none⟩:Addr).block:=fun _=>Nat.le_refl _;replace u:=((((u.setCell (hb 0) (Z x)).setCell (hb 1) (Z y)).setCell (hb 2) (Z z)).setCell (hb 3) (Z t)).setCell (show w.heap.size≤(⟨w.heap.size+1,0,none⟩:Addr).block from Nat.le_succ _) (.int .i64 0);clear s_r s_e n_r n_e c0 f0 d0 d1 d2 d3 h0 h1 h2 h3;generalize (((((v1.setCell ⟨w.heap.size,0,none⟩ (Z x)).setCell ⟨w.heap.size,1,none⟩ (Z y)).setCell ⟨w.heap.size,2,none⟩ (Z z)).setCell ⟨w.heap.size,3,none⟩ (Z t)).setCell ⟨w.heap.size+1,0,none⟩ (.int .i64 0))=W5 at *
    have c0:=Qaa m_e 0 (v:=.int .i64 0) rfl;have f0:=Qad m_e 0;refine leaves_cons (f := 127) (args:=#[.pointer (some ⟨w.heap.size+1,0,none⟩)]) (by simp) (by simp [go_sem]) ?_;refine (QvG ⟨w.heap.size+1,0,none⟩ (.int .i64 0) _ c0 f0).mono ?_;rintro e u' w'' ⟨rfl,rfl,rfl⟩;have r0:(W5.setCell ⟨w.heap.size+1,0,none⟩ (.int .i64 0)).cell? ⟨w.heap.size,0,none⟩=some (Z x):=(World.cell?_setCell_other W5 ⟨w.heap.size+1,0,none⟩ ⟨w.heap.size,0,none⟩ _ (by simp)).trans (Qaa m_r 0 rfl);have r1:(W5.setCell ⟨w.heap.size+1,0,none⟩ (.int .i64 0)).cell? ⟨w.heap.size,1,none⟩=some (Z y):=(World.cell?_setCell_other W5 ⟨w.heap.size+1,0,none⟩ ⟨w.heap.size,1,none⟩ _ (by simp)).trans (Qaa m_r 1 rfl);have r2:(W5.setCell ⟨w.heap.size+1,0,none⟩ (.int .i64 0)).cell? ⟨w.heap.size,2,none⟩=some (Z z):=(World.cell?_setCell_other W5 ⟨w.heap.size+1,0,none⟩ ⟨w.heap.size,2,none⟩ _ (by simp)).trans (Qaa m_r 2 rfl);have r3:(W5.setCell ⟨w.heap.size+1,0,none⟩ (.int .i64 0)).cell? ⟨w.heap.size,3,none⟩=some (Z t):=(World.cell?_setCell_other W5 ⟨w.heap.size+1,0,none⟩ ⟨w.heap.size,3,none⟩ _ (by simp)).trans (Qaa m_r 3 rfl);have r4:=World.cell?_setCell_same W5 ⟨w.heap.size+1,0,none⟩ (.int .i64 0) c0;show ∃ v,(results _ _).run _ _ = .ok v _∧(_∧_);refine ⟨.tuple #[ivl x y z t,.int .i64 0],by simp [results,Tryz.results74, go_sem,r0,r1,r2,r3,r4], ?_,u.setCell (show w.heap.size≤(⟨w.heap.size+1,0,none⟩:Addr).block from Nat.le_succ _) _⟩;rw [if_pos ⟨fun i hi=>HO.o i hi,rfl⟩]
  ·have hj2:(j:Int)<(n:Int):=by omega
   have hj3:(0:Int)≤(j:Int):=by omega
   have hcs:=HCS.o wr u;have y0:=hcs (j*4) (by omega);have y1:=hcs (j*4+1) (by omega);have y2:=hcs (j*4+2) (by omega);have y3:=hcs (j*4+3) (by omega);have cV:=CV.o j (by omega);clear hcs;generalize G (j*4)=g0 at *
   generalize G (j*4+1)=g1 at *
   generalize G (j*4+2)=g2 at *
   generalize G (j*4+3)=g3 at *
   go_wp2_with fail;refine (cV _).mono ?_;rintro e v1 ⟨rfl,g⟩;have q:Below wr.heap.size wr v1:=((Below.refl wr.heap.size wr).alloc Lr (O #[Z g0,Z g1,Z g2,Z g3] 55)).trans (g.mono (by simp));replace u:=u.trans (q.mono u.size);replace n_r:=Qac n_r q;replace n_e:=Qac n_e q;clear q g y0 y1 y2 y3 cV;cases hok:ok j with
   | true =>
    have hr:=Qbb v1;have hw1:IntKind.i64.wrap ((j:Int)+1)=(j:Int)+1:=by simp [IntKind.wrap,IntKind.signed,IntKind.bits];omega
    go_wp2_with fail;refine hr.mono ?_;rintro e w' ⟨rfl,rfl⟩;clear hr;go_wp2_with fail
    go_roundw
    case rel=>exact ⟨j+1,by omega,by first | rfl | go_num | simp,⟨n_r,n_e,u⟩,⟨fun i hi=>by
     rcases Nat.lt_or_ge i j with h | h
     ·exact HO.o i h
     ·obtain rfl:i=j:=by omega
      exact hok⟩⟩
    case measure=>simp [intOf];omega
   | false =>
    have hr:=QaV a v1 (HR.o.keep u);go_wp2_with fail;refine hr.mono ?_;rintro e w' ⟨rfl,rfl⟩;have c0:=Qaa n_e 0 (v:=.int .i64 0) rfl;have f0:=Qad n_e 0;clear hr;dsimp +zetaDelta only [Exit.then,Exit.inBlock];refine leaves_cons (f := 127) (args:=#[.pointer (some ⟨w.heap.size+1,0,none⟩)]) (by simp) (by simp [go_sem]) ?_;refine (QmQ a ⟨w.heap.size+1,0,none⟩ (.int .i64 0) [] _ (HR.o.keep u) c0 f0).mono ?_;rintro e u' w'' ⟨rfl,rfl,rfl⟩;have r0:(w'.setCell ⟨w.heap.size+1,0,none⟩ (.int .i64 50)).cell? ⟨w.heap.size,0,none⟩=some (Z ⟨#[]⟩):=(World.cell?_setCell_other w' ⟨w.heap.size+1,0,none⟩ ⟨w.heap.size,0,none⟩ _ (by simp)).trans (Qaa n_r 0 rfl);have r1:(w'.setCell ⟨w.heap.size+1,0,none⟩ (.int .i64 50)).cell? ⟨w.heap.size,1,none⟩=some (Z ⟨#[]⟩):=(World.cell?_setCell_other w' ⟨w.heap.size+1,0,none⟩ ⟨w.heap.size,1,none⟩ _ (by simp)).trans (Qaa n_r 1 rfl);have r2:(w'.setCell ⟨w.heap.size+1,0,none⟩ (.int .i64 50)).cell? ⟨w.heap.size,2,none⟩=some (Z ⟨#[]⟩):=(World.cell?_setCell_other w' ⟨w.heap.size+1,0,none⟩ ⟨w.heap.size,2,none⟩ _ (by simp)).trans (Qaa n_r 2 rfl);have r3:(w'.setCell ⟨w.heap.size+1,0,none⟩ (.int .i64 50)).cell? ⟨w.heap.size,3,none⟩=some (Z ⟨#[]⟩):=(World.cell?_setCell_other w' ⟨w.heap.size+1,0,none⟩ ⟨w.heap.size,3,none⟩ _ (by simp)).trans (Qaa n_r 3 rfl);have r4:=World.cell?_setCell_same w' ⟨w.heap.size+1,0,none⟩ (.int .i64 50) c0;show ∃ v,(results _ _).run _ _ = .ok v _∧(_∧_);refine ⟨.tuple #[ivl0,.int .i64 50],by simp [results,Tryz.results74, go_sem,r0,r1,r2,r3,r4], ?_,u.setCell (show w.heap.size≤(⟨w.heap.size+1,0,none⟩:Addr).block from Nat.le_succ _) _⟩;rw [if_neg (fun h=>by rw [h.1 j (by omega)] at hok;cases hok)]
abbrev frc (a b:ByteArray):Value:=.agg #[Z a,Z b]
theorem QhI (s:ByteArray) (w:World):Calls Tryz.prog 161 #[Z s,.int .i64 0] w fun e w'=>e = .returned (Z s)∧Below w.heap.size w w':=by
 have hr:=Qbb;go_enter Tryz.func161, Tryz.ntmps161;go_wp2_with (go_at_call 81; refine (hr _).mono ?_;rintro e w' ⟨rfl,rfl⟩);go_ret;exact ⟨rfl,Below.refl _ _⟩
theorem Qpp (a:Addr) (s:ByteArray) (c:Int) (hc:c≠0) (w:World) (hv:Ref a w):Calls Tryz.prog 161 #[Z s,.int .i64 c] w fun e w'=>e = .panicked (refP a)∧Below w.heap.size w w':=by
 have hb:(c != 0)=true:=by simp [hc]
 go_enter Tryz.func161, Tryz.ntmps161;have hr:=QaV a _ hv;go_wp2_with (go_at_call 81; refine hr.mono ?_;rintro e w' ⟨rfl,rfl⟩);exact ⟨rfl,rfl,Below.refl _ _⟩
theorem Qdo (a:Addr) (n d:ByteArray) (c:Int) (w:World) (hv:Ref a w):Calls Tryz.prog 76 #[.agg #[Z n,Z d],.int .i64 c] w fun e w'=>e=(if c=0 then .returned (.agg #[Z n,Z d]) else .panicked (refP a))∧Below w.heap.size w w':=by
 by_cases hc:c=0
 ·subst hc;exact Qel n d w
 ·rw [if_neg hc];exact QjC a n d c hc w hv
def g4 (a b c d:ByteArray):Nat→ByteArray
 | 0=>a | 1=>b | 2=>c | _=>d
theorem new3 (w:World) (a b c:Obj):(((w.alloc a).alloc b).alloc c).heap[w.heap.size]? = some a∧(((w.alloc a).alloc b).alloc c).heap[w.heap.size+1]? = some b∧(((w.alloc a).alloc b).alloc c).heap[w.heap.size+1+1]? = some c:=by
 refine ⟨(Below.heap_alloc _ _ _ (by simp;omega)).trans ((Below.heap_alloc _ _ _ (by simp)).trans (World.alloc_heap_new w a)),(Below.heap_alloc _ _ _ (by simp)).trans (QaP w a b), ?_⟩;have:=QaP (w.alloc a) b c
 rwa [World.size_alloc] at this
theorem QlC (x0 x1:ByteArray) (v:Bool) (hV:∀ W:World,Calls Tryz.prog 65 #[.agg #[Z x0,Z x1]] W fun e W'=>e = .returned (.bool v)∧Below W.heap.size W W') (w:World) :
  Calls Tryz.prog 129 #[.agg #[Z x0,Z x1,Z x0,Z x1]] w fun e w'=>e = .returned (.bool v)∧Below w.heap.size w w':=by
 have n_x:(w.alloc (O #[Z x0,Z x1,Z x0,Z x1] 55)).heap[w.heap.size]? = _:=World.alloc_heap_new w _;have u:=(Below.refl w.heap.size w).alloc Lr (O #[Z x0,Z x1,Z x0,Z x1] 55);have CV:Shut _:=⟨hV⟩;clear hV;go_enter Tryz.func129, Tryz.ntmps129;have y0:=Qaa n_x 0 (v:=Z x0) rfl;have y1:=Qaa n_x 1 (v:=Z x1) rfl;have y2:=Qaa n_x 2 (v:=Z x0) rfl;have y3:=Qaa n_x 3 (v:=Z x1) rfl;have e0:(x0.toList == x0.toList)=true:=beq_self_eq_true _;have e1:(x1.toList == x1.toList)=true:=beq_self_eq_true _;go_wp2_with fail;refine (CV.o _).mono ?_;rintro e v1 ⟨rfl,g⟩;replace u:=u.trans (g.mono (by simp));clear g y0 y1 y2 y3 e0 e1 n_x;go_wp2_with fail;go_ret;exact ⟨rfl,u⟩
theorem QjD (x0 x1 x2 x3:ByteArray) (k:Int) (hC:∀ W:World,Calls Tryz.prog 27 #[.agg #[Z x0,Z x1],.agg #[Z x2,Z x3]] W fun e W'=>e = .returned (.int .i64 k)∧Below W.heap.size W W')
  (hne:(x0.toList == x2.toList)=false∨((x0.toList == x2.toList)=true∧(x1.toList == x3.toList)=false)) (w:World) :
  Calls Tryz.prog 129 #[.agg #[Z x0,Z x1,Z x2,Z x3]] w fun e w'=>e = .returned (.bool (decide (k<0)))∧Below w.heap.size w w':=by
 have n_x:(w.alloc (O #[Z x0,Z x1,Z x2,Z x3] 55)).heap[w.heap.size]? = _:=World.alloc_heap_new w _;have u:=(Below.refl w.heap.size w).alloc Lr (O #[Z x0,Z x1,Z x2,Z x3] 55);have CC:Shut _:=⟨hC⟩;clear hC;go_enter Tryz.func129, Tryz.ntmps129;have y0:=Qaa n_x 0 (v:=Z x0) rfl;have y1:=Qaa n_x 1 (v:=Z x1) rfl;have y2:=Qaa n_x 2 (v:=Z x2) rfl;have y3:=Qaa n_x 3 (v:=Z x3) rfl;rcases hne with e0 | ⟨e0,e1⟩
 ·go_wp2_with fail;refine (CC.o _).mono ?_;rintro e v1 ⟨rfl,g⟩;replace u:=u.trans (g.mono (by simp));clear g y0 y1 y2 y3 e0 n_x;go_wp2_with fail;go_ret;exact ⟨rfl,u⟩
 ·go_wp2_with fail;refine (CC.o _).mono ?_;rintro e v1 ⟨rfl,g⟩;replace u:=u.trans (g.mono (by simp));clear g y0 y1 y2 y3 e0 e1 n_x;go_wp2_with fail;go_ret;exact ⟨rfl,u⟩
end En
end
end Go.Proofs.YtihlgifojjeoaaaGreatDoor
