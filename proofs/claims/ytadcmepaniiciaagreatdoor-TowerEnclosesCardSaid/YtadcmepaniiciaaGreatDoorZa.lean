import Derived.Test.YtadcmepaniiciaaGreatDoorZz
import Derived.WalkKit
import Derived.WalkLawsBesides
import Derived.LaidEql
import Derived.Stop.Asserts
import Derived.RowKitTokens
import Derived.Defers
import Derived.Recover
import Derived.Below
import Derived.RangeFuncRecord
import Derived.Shelf.Abstract
import Derived.IntWalk
import Derived.LoopIn
import Derived.RowKit
import Derived.Deep.RegionHeld
import Derived.Maps.AppendAt
set_option maxRecDepth 1000000
set_option maxHeartbeats 40000000
open Go.Value renaming string→Z
open Go.Obj renaming cells→O
namespace Go.Proofs.YtadcmepaniiciaaGreatDoor
section
namespace En
open Go.RowKit Go.Extern.Stop Go.Stop Go.Extern
theorem isTypeOf (v:Value) (w:World):(Extern.ReflectliteType.typeOf #[.iface 258 v]).run Tryz.prog w = .ok (.iface 239 (.agg #[.pointer (some ⟨4, 258, none⟩)])) w:=by kernel_rfl
theorem Qev (v:Value) (n:Nat) (w:World):(Go.method (n+1) 239 v "Comparable").run Tryz.prog w = .ok (266, v) w:=by kernel_rfl
theorem QtQ:(Tryz.prog.info? 258).map (·.comparable)=some true:=by kernel_rfl
theorem QtR:(Tryz.prog.info? 280).map (·.size)=some 1:=by kernel_rfl
theorem QrM (v:Value) (xT:TypeId) (w:World):(Instr.typeAssert (.iface 258 v) xT 144 true).run Tryz.prog w = .ok (.tuple #[.iface 258 v,.bool true]) w:=run_typeAssert_hasB Tryz.underlying144 (by kernel_rfl) v xT w
theorem isComparable (w:World):((Extern.ReflectliteType.method fun t=>do Extern.Rtype.noPackHeld "Comparable" t;(fun a=>Value.bool a.comparable) <$> typeInfo t) #[.agg #[.pointer (some ⟨4, 258, none⟩)]]).run Tryz.prog w = .ok (.bool true) w:=by kernel_rfl
theorem QrN (a:Addr) (w:World) :
  Calls Tryz.prog 167 #[.iface 258 (.pointer (some a)),.iface 258 (.pointer (some a))] w fun e w'=>e = .returned (.bool true)∧w'=w:=by
 obtain ⟨i,hi,hcmp⟩:=Option.map_eq_some_iff.1 QtQ;obtain ⟨j,hj,hjs⟩:=Option.map_eq_some_iff.1 QtR;have h8:=@run_callFunc_extern Tryz.prog 205 _ Extern.ReflectliteType.typeOf Tryz.func205 (by kernel_rfl) (by kernel_rfl) (by kernel_rfl) (by kernel_rfl);have h32:=@run_callFunc_extern Tryz.prog 266 _ (Extern.ReflectliteType.method fun t=>do Extern.Rtype.noPackHeld "Comparable" t;pure (.bool (←typeInfo t).comparable)) Tryz.func266 (by kernel_rfl) (by kernel_rfl) (by kernel_rfl) (by kernel_rfl);have tT:=isTypeOf;have cT:=isComparable;have mR:=Qev;have heq:=run_eql_iface_ptr_same (P:=Tryz.prog) w a Tryz.underlying144 Tryz.underlying258 hi hcmp hj;go_enter Tryz.func167, Tryz.ntmps167;go_wp2;refine wp_loop_rounds 1 ?_;rw [rounds_succ];go_wp2;go_ret;exact ⟨rfl,rfl⟩
abbrev refV (a:Addr):Value:=.iface 258 (.pointer (some a))
abbrev refP (a:Addr):List PanicEntry := [{v:=refV a,recovered:=false}]
theorem QlA (w:World):Calls Tryz.prog 128 #[.nilIface] w fun e w'=>e = .returned (.int .i64 0)∧w'=w:=by
 have hn:∀ w:World,(binOp BinOp.eql 20 .nilIface .nilIface).run Tryz.prog w = .ok (.bool true) w:=fun _=>by kernel_rfl
 go_enter Tryz.func128, Tryz.ntmps128;go_wp2;go_ret;exact ⟨rfl,rfl⟩
theorem QlB (a:Addr) (w:World) (hv:w.cell? ⟨2, 0,none⟩=some (refV a)):Calls Tryz.prog 128 #[refV a] w fun e w'=>e = .returned (.int .i64 50)∧w'=w:=by
 have hI:=QrM;have hs:=QrN a w;unfold refV at hv hs ⊢;go_enter Tryz.func128, Tryz.ntmps128;go_wp2_with (go_at_call 167; refine hs.mono ?_;rintro e w' ⟨rfl,rfl⟩);go_ret;exact ⟨rfl,rfl⟩
theorem Qbb (w:World):Calls Tryz.prog 81 #[.bool false] w fun e w'=>e = .returned (.tuple #[])∧w'=w:=by
 go_enter Tryz.func81, Tryz.ntmps81;go_wp2
 go_end0
 exact ⟨rfl,rfl⟩
theorem QaV (a:Addr) (w:World) (hv:w.cell? ⟨2, 0,none⟩=some (refV a)):Calls Tryz.prog 81 #[.bool true] w fun e w'=>e = .panicked (refP a)∧w'=w:=by
 unfold refV at hv;go_enter Tryz.func81, Tryz.ntmps81;go_wp2;exact ⟨rfl,rfl,rfl⟩
def Ref (a:Addr) (W:World):Prop:=W.cell? ⟨2, 0,none⟩=some (refV a)
theorem Ref.keep {a:Addr} {W W':World} (h:Ref a W) (hB:Below W.heap.size W W'):Ref a W':=(hB.cell (p:=⟨2, 0,none⟩) (World.block_lt_of_cell? W _ h)).trans h
theorem QaP (w:World) (a r:Obj):((w.alloc a).alloc r).heap[w.heap.size+1]? = some r:=by
 have:=World.alloc_heap_new (w.alloc a) r
 rwa [World.size_alloc] at this
theorem Qaa {W:World} {b:Nat} {cs:Array Value} {T:TypeId} (h:W.heap[b]? = some (.cells cs T (0,0))) (i:Nat) {v:Value} (hv:cs[i]? = some v):W.cell? ⟨b,i,none⟩=some v:=by simp [World.cell?,h,hv]
theorem Qad {W:World} {b:Nat} {cs:Array Value} {T:TypeId} (h:W.heap[b]? = some (.cells cs T (0,0))) (i:Nat):W.frozen? ⟨b,i,none⟩=false:=by simp [World.frozen?,h]
theorem Qc4 {W:World} {b:Nat} {T:TypeId} {x y z t:Value} (h:W.heap[b]? = some (O #[x,y,z,t] T (0,0))):W.cell? ⟨b,0,none⟩=some x∧W.cell? ⟨b,1,none⟩=some y∧W.cell? ⟨b,2,none⟩=some z∧W.cell? ⟨b,3,none⟩=some t:=⟨Qaa h 0 rfl,Qaa h 1 rfl,Qaa h 2 rfl,Qaa h 3 rfl⟩
theorem Qf4 {W:World} {b:Nat} {T:TypeId} {x y z t:Value} (h:W.heap[b]? = some (O #[x,y,z,t] T (0,0))):W.frozen? ⟨b,0,none⟩=false∧W.frozen? ⟨b,1,none⟩=false∧W.frozen? ⟨b,2,none⟩=false∧W.frozen? ⟨b,3,none⟩=false:=⟨Qad h 0,Qad h 1,Qad h 2,Qad h 3⟩
theorem Qc2 {W:World} {b:Nat} {T:TypeId} {x y:Value} (h:W.heap[b]? = some (O #[x,y] T (0,0))):W.cell? ⟨b,0,none⟩=some x∧W.cell? ⟨b,1,none⟩=some y:=⟨Qaa h 0 rfl,Qaa h 1 rfl⟩
theorem Qf2 {W:World} {b:Nat} {T:TypeId} {x y:Value} (h:W.heap[b]? = some (O #[x,y] T (0,0))):W.frozen? ⟨b,0,none⟩=false∧W.frozen? ⟨b,1,none⟩=false:=⟨Qad h 0,Qad h 1⟩
theorem Qac {w w':World} {b:Nat} {o:Obj} (h:w.heap[b]? = some o) (hB:Below w.heap.size w w'):w'.heap[b]? = some o:=(hB.block b (Array.getElem?_eq_some_iff.1 h).1).trans h
theorem QaL {W:World} {b:Nat} {a0 a1 a2 a3 x y z t:Value} {T:TypeId} (h:W.heap[b]? = some (O #[a0,a1,a2,a3] T (0,0))):((((W.setCell ⟨b,0,none⟩ x).setCell ⟨b,1,none⟩ y).setCell ⟨b,2,none⟩ z).setCell ⟨b,3,none⟩ t).heap[b]? = some (O #[x,y,z,t] T (0,0)):=by
 obtain ⟨hl,hg⟩:=Array.getElem?_eq_some_iff.1 h;simp [World.setCell,hl,Array.getElem_modify,hg]
theorem QbH {W:World} {b:Nat} {a0 x:Value} {T:TypeId} (h:W.heap[b]? = some (O #[a0] T (0,0))):(W.setCell ⟨b,0,none⟩ x).heap[b]? = some (O #[x] T (0,0)):=by
 obtain ⟨hl,hg⟩:=Array.getElem?_eq_some_iff.1 h;simp [World.setCell,hl,Array.getElem_modify,hg]
theorem Qel (n d:ByteArray) (w:World):Calls Tryz.prog 76 #[.agg #[Z n,Z d],.int .i64 0] w fun e w'=>e = .returned (.agg #[Z n,Z d])∧Below w.heap.size w w':=by
 have hr:=Qbb;go_enter Tryz.func76, Tryz.ntmps76;go_wp2_with (go_at_call 81; refine (hr _).mono ?_;rintro e w' ⟨rfl,rfl⟩);have n_r:=QaP w (O #[Z n,Z d] 42) (O #[Z n,Z d] 42);have u:=((Below.refl w.heap.size w).alloc Lr (O #[Z n,Z d] 42)).alloc (by simp) (O #[Z n,Z d] 42);obtain ⟨z0,z1⟩:=Qc2 n_r;exact bodyPost_ret (v:=.agg #[Z n,Z d]) (by simp [results,Tryz.results76, go_sem]) rfl ⟨rfl,u⟩
theorem QjC (a:Addr) (n d:ByteArray) (c:Int) (hc:c≠0) (w:World) (hv:Ref a w):Calls Tryz.prog 76 #[.agg #[Z n,Z d],.int .i64 c] w fun e w'=>e = .panicked (refP a)∧Below w.heap.size w w':=by
 have hb:(c != 0)=true:=by simp [hc]
 go_enter Tryz.func76, Tryz.ntmps76;have u:=((Below.refl w.heap.size w).alloc Lr (O #[Z n,Z d] 42)).alloc (by simp) (O #[Z ⟨#[]⟩,Z ⟨#[]⟩] 42);have hr:=QaV a _ (hv.keep u);go_wp2_with (go_at_call 81; refine hr.mono ?_;rintro e w' ⟨rfl,rfl⟩);exact ⟨rfl,rfl,u⟩
theorem QvG (p:Addr) (x:Value) (w:World) (hc:w.cell? p=some x) (hz:w.frozen? p=false) :
  CallsD Tryz.prog 127 #[.pointer (some p)] .returning w fun e u' w'=>e = .returned (.tuple #[])∧u' = .returning∧w'=w.setCell p (.int .i64 0):=by
 have hn:=QlA w;refine callsD_of_wpS Tryz.func127 rfl fun c₀ cs hu => ?_;apply wpS_region;simp [wpOpsS,go_sem,recoverD,hu,Tryz.ntmps127];refine hn.mono ?_;rintro e w' ⟨rfl,rfl⟩;cases c₀
 simp_all [go_sem,bodyPostS,results,Tryz.results127]
theorem QmQ (a:Addr) (p:Addr) (x:Value) (older:List PanicEntry) (w:World) (hv:Ref a w) (hc:w.cell? p=some x) (hz:w.frozen? p=false) :
  CallsD Tryz.prog 127 #[.pointer (some p)] (.panicking ({v:=refV a,recovered:=false} :: older)) w fun e u' w'=>e = .returned (.tuple #[])∧u' = .panicking ({v:=refV a,recovered:=true} :: older)∧w'=w.setCell p (.int .i64 50):=by
 have hn:=QlB a w hv;clear hv;unfold refV at *
 refine callsD_of_wpS Tryz.func127 rfl fun c₀ cs hu => ?_;apply wpS_region;simp [wpOpsS,go_sem,recoverD,hu,Tryz.ntmps127];refine hn.mono ?_;rintro e w' ⟨rfl,rfl⟩;simp [go_sem,hc,hz,bodyPostS,results,Tryz.results127]
structure Shut (p:Prop):Prop where o:p
abbrev ivl (a b c d:ByteArray):Value:=.agg #[Z a,Z b,Z c,Z d]
abbrev ivl0:Value:=ivl ⟨#[]⟩ ⟨#[]⟩ ⟨#[]⟩ ⟨#[]⟩
theorem QfB (k:Nat) (caps:Array Value) (hk:Enters Tryz.prog k) (a:Addr) (I:World→Prop) (hI:∀ W W',I W→Below W.heap.size W W'→I W')
  (x y z t:ByteArray) (bad:Bool)
  (n bi cap:Nat) (G:Nat→ByteArray) (ok:Nat→Bool) (hn:n≤9223372036854775807)
  (hC:(∀ j,j<n→ok j=true)→∀ W,Ref a W→I W→Calls Tryz.prog k caps W fun e W'=>e=(if bad then .panicked (refP a) else .returned (ivl x y z t))∧Below W.heap.size W W')
  (hV:∀ j,j<n→∀ W,Calls Tryz.prog 129 #[ivl (G (j*4)) (G (j*4+1)) (G (j*4+2)) (G (j*4+3))] W fun e W'=>e = .returned (.bool (ok j))∧Below W.heap.size W W')
  (w:World) (hR:Ref a w) (hIw:I w) (hcs:∀ W,Below w.heap.size w W→∀ j,j<n*4→W.cell? ⟨bi,j,none⟩=some (Z (G j))) :
  Calls Tryz.prog 74 #[.func (.func k) #[] caps,.slice (some ⟨bi,0,none⟩) n cap] w fun e w'=>e = .returned (if (∀ j,j<n→ok j=true)∧bad=false then .tuple #[ivl x y z t,.int .i64 0] else .tuple #[ivl0,.int .i64 50])∧Below w.heap.size w w':=by
 have hmf:∀ (fn:Fn) (first cap:Array Value) (w:World),(Instr.makeFunc fn first cap).run Tryz.prog w = .ok (.func fn first cap) w:=fun _ _ _ _=>rfl;have CC:Shut _:=⟨hC⟩;have CV:Shut _:=⟨hV⟩;have HCS:Shut _:=⟨hcs⟩;have HR:Shut _:=⟨hR⟩;have HI:Shut _:=⟨hI⟩;have HW:Shut _:=⟨hIw⟩;clear hC hV hcs hR hI hIw
 go_enter_defers Tryz.func74, Tryz.ntmps74
 go_wp2_with fail;have n_r:((w.alloc (O #[Z ⟨#[]⟩,Z ⟨#[]⟩,Z ⟨#[]⟩,Z ⟨#[]⟩] 55)).alloc (O #[.int .i64 0] 32)).heap[w.heap.size]? = _:=(Below.heap_alloc (w.alloc (O #[Z ⟨#[]⟩,Z ⟨#[]⟩,Z ⟨#[]⟩,Z ⟨#[]⟩] 55)) _ w.heap.size (by simp)).trans (World.alloc_heap_new w _);have n_e:=QaP w (O #[Z ⟨#[]⟩,Z ⟨#[]⟩,Z ⟨#[]⟩,Z ⟨#[]⟩] 55) (O #[.int .i64 0] 32);have u:=((Below.refl w.heap.size w).alloc Lr (O #[Z ⟨#[]⟩,Z ⟨#[]⟩,Z ⟨#[]⟩,Z ⟨#[]⟩] 55)).alloc (by simp) (O #[.int .i64 0] 32);generalize ((w.alloc (O #[Z ⟨#[]⟩,Z ⟨#[]⟩,Z ⟨#[]⟩,Z ⟨#[]⟩] 55)).alloc (O #[.int .i64 0] 32))=W0 at *
 have NR:Shut _:=⟨n_r⟩;have NE:Shut _:=⟨n_e⟩;have U0:Shut _:=⟨u⟩;clear n_r n_e u
 go_loopw [11] (fun jv wr=>∃ j:Nat,j≤n∧jv = .int .i64 (j:Int)∧Shut (wr.heap[w.heap.size]? = some (O #[Z ⟨#[]⟩,Z ⟨#[]⟩,Z ⟨#[]⟩,Z ⟨#[]⟩] 55 (0,0))∧wr.heap[w.heap.size+1]? = some (O #[.int .i64 0] 32 (0,0))∧Below w.heap.size w wr)∧Shut (∀ i,i<j→ok i=true)) (fun jv _=>n-(intOf jv).toNat)
 case atStart=>exact ⟨0,Nat.zero_le _,rfl,⟨NR.o,NE.o,U0.o⟩,⟨fun i h=>by omega⟩⟩
 case round =>
  obtain ⟨j,hj,rfl,H,HO⟩:=hrel;clear NR NE U0;obtain ⟨n_r,n_e,u⟩:=H.o;clear H;have hen:=fun a w=>hk a w;by_cases hjn:j=n
  ·subst hjn;have cC:=CC.o (fun i hi=>HO.o i hi) wr (HR.o.keep u) (HI.o _ _ HW.o u);cases bad with
   | true =>
    rw [if_pos rfl] at cC;go_wp2_with fail;refine cC.mono ?_;rintro e v1 ⟨rfl,g⟩;replace u:=u.trans (g.mono u.size);replace n_r:=Qac n_r g;replace n_e:=Qac n_e g;clear g cC;have c0:=Qaa n_e 0 (v:=.int .i64 0) rfl;have f0:=Qad n_e 0;dsimp +zetaDelta only [Exit.then,Exit.inBlock];refine leaves_cons (f := 127) (args:=#[.pointer (some ⟨w.heap.size+1,0,none⟩)]) (by simp) (by simp [go_sem]) ?_;refine (QmQ a ⟨w.heap.size+1,0,none⟩ (.int .i64 0) [] _ (HR.o.keep u) c0 f0).mono ?_;rintro e u' w'' ⟨rfl,rfl,rfl⟩;have r0:(v1.setCell ⟨w.heap.size+1,0,none⟩ (.int .i64 50)).cell? ⟨w.heap.size,0,none⟩=some (Z ⟨#[]⟩):=(World.cell?_setCell_other v1 ⟨w.heap.size+1,0,none⟩ ⟨w.heap.size,0,none⟩ _ (by simp)).trans (Qaa n_r 0 rfl);have r1:(v1.setCell ⟨w.heap.size+1,0,none⟩ (.int .i64 50)).cell? ⟨w.heap.size,1,none⟩=some (Z ⟨#[]⟩):=(World.cell?_setCell_other v1 ⟨w.heap.size+1,0,none⟩ ⟨w.heap.size,1,none⟩ _ (by simp)).trans (Qaa n_r 1 rfl);have r2:(v1.setCell ⟨w.heap.size+1,0,none⟩ (.int .i64 50)).cell? ⟨w.heap.size,2,none⟩=some (Z ⟨#[]⟩):=(World.cell?_setCell_other v1 ⟨w.heap.size+1,0,none⟩ ⟨w.heap.size,2,none⟩ _ (by simp)).trans (Qaa n_r 2 rfl);have r3:(v1.setCell ⟨w.heap.size+1,0,none⟩ (.int .i64 50)).cell? ⟨w.heap.size,3,none⟩=some (Z ⟨#[]⟩):=(World.cell?_setCell_other v1 ⟨w.heap.size+1,0,none⟩ ⟨w.heap.size,3,none⟩ _ (by simp)).trans (Qaa n_r 3 rfl);have r4:=World.cell?_setCell_same v1 ⟨w.heap.size+1,0,none⟩ (.int .i64 50) c0;show ∃ v,(results _ _).run _ _ = .ok v _∧(_∧_);refine ⟨.tuple #[ivl ⟨#[]⟩ ⟨#[]⟩ ⟨#[]⟩ ⟨#[]⟩,.int .i64 50],by simp [results,Tryz.results74, go_sem,r0,r1,r2,r3,r4], ?_,u.setCell (show w.heap.size≤(⟨w.heap.size+1,0,none⟩:Addr).block from Nat.le_succ _) _⟩;rw [if_neg (fun h=>by cases h.2)]
   | false =>
    rw [if_neg (by decide)] at cC;go_wp2_with fail;refine cC.mono ?_;rintro e v1 ⟨rfl,g⟩;replace u:=u.trans (g.mono u.size);replace n_r:=Qac n_r g;replace n_e:=Qac n_e g;clear g cC;have c0:=Qaa n_e 0 (v:=.int .i64 0) rfl;have f0:=Qad n_e 0;obtain ⟨d0,d1,d2,d3⟩:=Qc4 n_r;obtain ⟨h0,h1,h2,h3⟩:=Qf4 n_r;dsimp only;unfold ivl
    go_wp
    have s_r:=QaL (x:=Z x) (y:=Z y) (z:=Z z) (t:=Z t) n_r;have s_e:((((v1.setCell ⟨w.heap.size,0,none⟩ (Z x)).setCell ⟨w.heap.size,1,none⟩ (Z y)).setCell ⟨w.heap.size,2,none⟩ (Z z)).setCell ⟨w.heap.size,3,none⟩ (Z t)).heap[w.heap.size+1]? = _:=(Below.heap_setCell _ _ _ _ (by simp)).trans ((Below.heap_setCell _ _ _ _ (by simp)).trans ((Below.heap_setCell _ _ _ _ (by simp)).trans ((Below.heap_setCell _ _ _ _ (by simp)).trans n_e)));have m_e:=QbH (x:=.int .i64 0) s_e;have m_r:(((((v1.setCell ⟨w.heap.size,0,none⟩ (Z x)).setCell ⟨w.heap.size,1,none⟩ (Z y)).setCell ⟨w.heap.size,2,none⟩ (Z z)).setCell ⟨w.heap.size,3,none⟩ (Z t)).setCell ⟨w.heap.size+1,0,none⟩ (.int .i64 0)).heap[w.heap.size]? = _:=(Below.heap_setCell _ _ _ _ (by simp)).trans s_r;have hb:∀ i,w.heap.size≤(⟨w.heap.size,i,none⟩:Addr).block:=fun _=>Nat.le_refl _;replace u:=((((u.setCell (hb 0) (Z x)).setCell (hb 1) (Z y)).setCell (hb 2) (Z z)).setCell (hb 3) (Z t)).setCell (show w.heap.size≤(⟨w.heap.size+1,0,none⟩:Addr).block from Nat.le_succ _) (.int .i64 0);clear s_r s_e n_r n_e c0 f0 d0 d1 d2 d3 h0 h1 h2 h3;generalize (((((v1.setCell ⟨w.heap.size,0,none⟩ (Z x)).setCell ⟨w.heap.size,1,none⟩ (Z y)).setCell ⟨w.heap.size,2,none⟩ (Z z)).setCell ⟨w.heap.size,3,none⟩ (Z t)).setCell ⟨w.heap.size+1,0,none⟩ (.int .i64 0))=W5 at *
    have c0:=Qaa m_e 0 (v:=.int .i64 0) rfl;have f0:=Qad m_e 0;refine leaves_cons (f := 127) (args:=#[.pointer (some ⟨w.heap.size+1,0,none⟩)]) (by simp) (by simp [go_sem]) ?_;refine (QvG ⟨w.heap.size+1,0,none⟩ (.int .i64 0) _ c0 f0).mono ?_;rintro e u' w'' ⟨rfl,rfl,rfl⟩;have r0:(W5.setCell ⟨w.heap.size+1,0,none⟩ (.int .i64 0)).cell? ⟨w.heap.size,0,none⟩=some (Z x):=(World.cell?_setCell_other W5 ⟨w.heap.size+1,0,none⟩ ⟨w.heap.size,0,none⟩ _ (by simp)).trans (Qaa m_r 0 rfl);have r1:(W5.setCell ⟨w.heap.size+1,0,none⟩ (.int .i64 0)).cell? ⟨w.heap.size,1,none⟩=some (Z y):=(World.cell?_setCell_other W5 ⟨w.heap.size+1,0,none⟩ ⟨w.heap.size,1,none⟩ _ (by simp)).trans (Qaa m_r 1 rfl);have r2:(W5.setCell ⟨w.heap.size+1,0,none⟩ (.int .i64 0)).cell? ⟨w.heap.size,2,none⟩=some (Z z):=(World.cell?_setCell_other W5 ⟨w.heap.size+1,0,none⟩ ⟨w.heap.size,2,none⟩ _ (by simp)).trans (Qaa m_r 2 rfl);have r3:(W5.setCell ⟨w.heap.size+1,0,none⟩ (.int .i64 0)).cell? ⟨w.heap.size,3,none⟩=some (Z t):=(World.cell?_setCell_other W5 ⟨w.heap.size+1,0,none⟩ ⟨w.heap.size,3,none⟩ _ (by simp)).trans (Qaa m_r 3 rfl);have r4:=World.cell?_setCell_same W5 ⟨w.heap.size+1,0,none⟩ (.int .i64 0) c0;show ∃ v,(results _ _).run _ _ = .ok v _∧(_∧_);refine ⟨.tuple #[ivl x y z t,.int .i64 0],by simp [results,Tryz.results74, go_sem,r0,r1,r2,r3,r4], ?_,u.setCell (show w.heap.size≤(⟨w.heap.size+1,0,none⟩:Addr).block from Nat.le_succ _) _⟩;rw [if_pos ⟨fun i hi=>HO.o i hi,rfl⟩]
  ·have hj2:(j:Int)<(n:Int):=by omega
   have hj3:(0:Int)≤(j:Int):=by omega
   have hcs:=HCS.o wr u;have y0:=hcs (j*4) (by omega);have y1:=hcs (j*4+1) (by omega);have y2:=hcs (j*4+2) (by omega);have y3:=hcs (j*4+3) (by omega);have cV:=CV.o j (by omega);clear hcs;generalize G (j*4)=g0 at *
   generalize G (j*4+1)=g1 at *
   generalize G (j*4+2)=g2 at *
   generalize G (j*4+3)=g3 at *
   go_wp2_with fail;refine (cV _).mono ?_;rintro e v1 ⟨rfl,g⟩;have q:Below wr.heap.size wr v1:=((Below.refl wr.heap.size wr).alloc Lr (O #[Z g0,Z g1,Z g2,Z g3] 55)).trans (g.mono (by simp));replace u:=u.trans (q.mono u.size);replace n_r:=Qac n_r q;replace n_e:=Qac n_e q;clear q g y0 y1 y2 y3 cV;cases hok:ok j with
   | true =>
    have hr:=Qbb v1;have hw1:IntKind.i64.wrap ((j:Int)+1)=(j:Int)+1:=by simp [IntKind.wrap,IntKind.signed,IntKind.bits];omega
    go_wp2_with fail;refine hr.mono ?_;rintro e w' ⟨rfl,rfl⟩;clear hr;go_wp2_with fail
    go_roundw
    case rel=>exact ⟨j+1,by omega,by first | rfl | go_num | simp,⟨n_r,n_e,u⟩,⟨fun i hi=>by
     rcases Nat.lt_or_ge i j with h | h
     ·exact HO.o i h
     ·obtain rfl:i=j:=by omega
      exact hok⟩⟩
    case measure=>simp [intOf];omega
   | false =>
    have hr:=QaV a v1 (HR.o.keep u);go_wp2_with fail;refine hr.mono ?_;rintro e w' ⟨rfl,rfl⟩;have c0:=Qaa n_e 0 (v:=.int .i64 0) rfl;have f0:=Qad n_e 0;clear hr;dsimp +zetaDelta only [Exit.then,Exit.inBlock];refine leaves_cons (f := 127) (args:=#[.pointer (some ⟨w.heap.size+1,0,none⟩)]) (by simp) (by simp [go_sem]) ?_;refine (QmQ a ⟨w.heap.size+1,0,none⟩ (.int .i64 0) [] _ (HR.o.keep u) c0 f0).mono ?_;rintro e u' w'' ⟨rfl,rfl,rfl⟩;have r0:(w'.setCell ⟨w.heap.size+1,0,none⟩ (.int .i64 50)).cell? ⟨w.heap.size,0,none⟩=some (Z ⟨#[]⟩):=(World.cell?_setCell_other w' ⟨w.heap.size+1,0,none⟩ ⟨w.heap.size,0,none⟩ _ (by simp)).trans (Qaa n_r 0 rfl);have r1:(w'.setCell ⟨w.heap.size+1,0,none⟩ (.int .i64 50)).cell? ⟨w.heap.size,1,none⟩=some (Z ⟨#[]⟩):=(World.cell?_setCell_other w' ⟨w.heap.size+1,0,none⟩ ⟨w.heap.size,1,none⟩ _ (by simp)).trans (Qaa n_r 1 rfl);have r2:(w'.setCell ⟨w.heap.size+1,0,none⟩ (.int .i64 50)).cell? ⟨w.heap.size,2,none⟩=some (Z ⟨#[]⟩):=(World.cell?_setCell_other w' ⟨w.heap.size+1,0,none⟩ ⟨w.heap.size,2,none⟩ _ (by simp)).trans (Qaa n_r 2 rfl);have r3:(w'.setCell ⟨w.heap.size+1,0,none⟩ (.int .i64 50)).cell? ⟨w.heap.size,3,none⟩=some (Z ⟨#[]⟩):=(World.cell?_setCell_other w' ⟨w.heap.size+1,0,none⟩ ⟨w.heap.size,3,none⟩ _ (by simp)).trans (Qaa n_r 3 rfl);have r4:=World.cell?_setCell_same w' ⟨w.heap.size+1,0,none⟩ (.int .i64 50) c0;show ∃ v,(results _ _).run _ _ = .ok v _∧(_∧_);refine ⟨.tuple #[ivl0,.int .i64 50],by simp [results,Tryz.results74, go_sem,r0,r1,r2,r3,r4], ?_,u.setCell (show w.heap.size≤(⟨w.heap.size+1,0,none⟩:Addr).block from Nat.le_succ _) _⟩;rw [if_neg (fun h=>by rw [h.1 j (by omega)] at hok;cases hok)]
abbrev frc (a b:ByteArray):Value:=.agg #[Z a,Z b]
theorem QhI (s:ByteArray) (w:World):Calls Tryz.prog 161 #[Z s,.int .i64 0] w fun e w'=>e = .returned (Z s)∧Below w.heap.size w w':=by
 have hr:=Qbb;go_enter Tryz.func161, Tryz.ntmps161;go_wp2_with (go_at_call 81; refine (hr _).mono ?_;rintro e w' ⟨rfl,rfl⟩);go_ret;exact ⟨rfl,Below.refl _ _⟩
theorem Qpp (a:Addr) (s:ByteArray) (c:Int) (hc:c≠0) (w:World) (hv:Ref a w):Calls Tryz.prog 161 #[Z s,.int .i64 c] w fun e w'=>e = .panicked (refP a)∧Below w.heap.size w w':=by
 have hb:(c != 0)=true:=by simp [hc]
 go_enter Tryz.func161, Tryz.ntmps161;have hr:=QaV a _ hv;go_wp2_with (go_at_call 81; refine hr.mono ?_;rintro e w' ⟨rfl,rfl⟩);exact ⟨rfl,rfl,Below.refl _ _⟩
theorem Qdo (a:Addr) (n d:ByteArray) (c:Int) (w:World) (hv:Ref a w):Calls Tryz.prog 76 #[.agg #[Z n,Z d],.int .i64 c] w fun e w'=>e=(if c=0 then .returned (.agg #[Z n,Z d]) else .panicked (refP a))∧Below w.heap.size w w':=by
 by_cases hc:c=0
 ·subst hc;exact Qel n d w
 ·rw [if_neg hc];exact QjC a n d c hc w hv
def g4 (a b c d:ByteArray):Nat→ByteArray
 | 0=>a | 1=>b | 2=>c | _=>d
theorem new3 (w:World) (a b c:Obj):(((w.alloc a).alloc b).alloc c).heap[w.heap.size]? = some a∧(((w.alloc a).alloc b).alloc c).heap[w.heap.size+1]? = some b∧(((w.alloc a).alloc b).alloc c).heap[w.heap.size+1+1]? = some c:=by
 refine ⟨(Below.heap_alloc _ _ _ (by simp;omega)).trans ((Below.heap_alloc _ _ _ (by simp)).trans (World.alloc_heap_new w a)),(Below.heap_alloc _ _ _ (by simp)).trans (QaP w a b), ?_⟩;have:=QaP (w.alloc a) b c
 rwa [World.size_alloc] at this
theorem QlC (x0 x1:ByteArray) (v:Bool) (hV:∀ W:World,Calls Tryz.prog 65 #[.agg #[Z x0,Z x1]] W fun e W'=>e = .returned (.bool v)∧Below W.heap.size W W') (w:World) :
  Calls Tryz.prog 129 #[.agg #[Z x0,Z x1,Z x0,Z x1]] w fun e w'=>e = .returned (.bool v)∧Below w.heap.size w w':=by
 have n_x:(w.alloc (O #[Z x0,Z x1,Z x0,Z x1] 55)).heap[w.heap.size]? = _:=World.alloc_heap_new w _;have u:=(Below.refl w.heap.size w).alloc Lr (O #[Z x0,Z x1,Z x0,Z x1] 55);have CV:Shut _:=⟨hV⟩;clear hV;go_enter Tryz.func129, Tryz.ntmps129;obtain ⟨y0,y1,y2,y3⟩:=Qc4 n_x;have e0:(x0.toList == x0.toList)=true:=beq_self_eq_true _;have e1:(x1.toList == x1.toList)=true:=beq_self_eq_true _;go_wp2_with fail;refine (CV.o _).mono ?_;rintro e v1 ⟨rfl,g⟩;replace u:=u.trans (g.mono (by simp));clear g y0 y1 y2 y3 e0 e1 n_x;go_wp2_with fail;go_ret;exact ⟨rfl,u⟩
theorem QjD (x0 x1 x2 x3:ByteArray) (k:Int) (hC:∀ W:World,Calls Tryz.prog 27 #[.agg #[Z x0,Z x1],.agg #[Z x2,Z x3]] W fun e W'=>e = .returned (.int .i64 k)∧Below W.heap.size W W')
  (hne:(x0.toList == x2.toList)=false∨((x0.toList == x2.toList)=true∧(x1.toList == x3.toList)=false)) (w:World) :
  Calls Tryz.prog 129 #[.agg #[Z x0,Z x1,Z x2,Z x3]] w fun e w'=>e = .returned (.bool (decide (k<0)))∧Below w.heap.size w w':=by
 have n_x:(w.alloc (O #[Z x0,Z x1,Z x2,Z x3] 55)).heap[w.heap.size]? = _:=World.alloc_heap_new w _;have u:=(Below.refl w.heap.size w).alloc Lr (O #[Z x0,Z x1,Z x2,Z x3] 55);have CC:Shut _:=⟨hC⟩;clear hC;go_enter Tryz.func129, Tryz.ntmps129;obtain ⟨y0,y1,y2,y3⟩:=Qc4 n_x;rcases hne with e0 | ⟨e0,e1⟩
 ·go_wp2_with fail;refine (CC.o _).mono ?_;rintro e v1 ⟨rfl,g⟩;replace u:=u.trans (g.mono (by simp));clear g y0 y1 y2 y3 e0 n_x;go_wp2_with fail;go_ret;exact ⟨rfl,u⟩
 ·go_wp2_with fail;refine (CC.o _).mono ?_;rintro e v1 ⟨rfl,g⟩;replace u:=u.trans (g.mono (by simp));clear g y0 y1 y2 y3 e0 e1 n_x;go_wp2_with fail;go_ret;exact ⟨rfl,u⟩
def Ret (f:Nat) (args:Array Value) (v:Value):Prop:=∀ W:World,Calls Tryz.prog f args W fun e W'=>e = .returned v∧Below W.heap.size W W'
def g8 (a b c d x y z t:ByteArray):Nat→ByteArray
 | 0=>a | 1=>b | 2=>c | 3=>d | 4=>x | 5=>y | 6=>z | _=>t
theorem Qpq (w:World) (a b c d:Obj):((((w.alloc a).alloc b).alloc c).alloc d).heap[w.heap.size]? = some a∧((((w.alloc a).alloc b).alloc c).alloc d).heap[w.heap.size+1]? = some b∧((((w.alloc a).alloc b).alloc c).alloc d).heap[w.heap.size+1+1]? = some c∧((((w.alloc a).alloc b).alloc c).alloc d).heap[w.heap.size+1+1+1]? = some d:=by
 obtain ⟨h1,h2,h3⟩:=new3 w a b c;refine ⟨(Below.heap_alloc _ _ _ (by simp only [World.size_alloc];omega)).trans h1,(Below.heap_alloc _ _ _ (by simp only [World.size_alloc];omega)).trans h2,(Below.heap_alloc _ _ _ (by simp only [World.size_alloc];omega)).trans h3, ?_⟩;have:=World.alloc_heap_new (((w.alloc a).alloc b).alloc c) d
 rwa [World.size_alloc,World.size_alloc,World.size_alloc] at this
theorem Qkr (w:World) (a b c d:Obj):Below w.heap.size w ((((w.alloc a).alloc b).alloc c).alloc d):=((((Below.refl w.heap.size w).alloc Lr a).alloc (by simp) b).alloc (by simp;omega) c).alloc (by simp;omega) d
theorem QrO (a:Addr) (x0 x1 x2 x3 y0 y1 y2 y3 r0 r1 r2 r3:ByteArray) (okx oky bad:Bool)
  (hC:okx=true→oky=true→∀ (Bx By:Nat) (W:World),Ref a W→W.heap[Bx]? = some (O #[Z x0,Z x1,Z x2,Z x3] 55 (0,0))→W.heap[By]? = some (O #[Z y0,Z y1,Z y2,Z y3] 55 (0,0))→Calls Tryz.prog 75 #[.pointer (some ⟨Bx,0,none⟩),.pointer (some ⟨By,0,none⟩)] W fun e W'=>e=(if bad then .panicked (refP a) else .returned (ivl r0 r1 r2 r3))∧Below W.heap.size W W')
  (hX:Ret 129 #[ivl x0 x1 x2 x3] (.bool okx)) (hY:Ret 129 #[ivl y0 y1 y2 y3] (.bool oky)) (w:World) (hv:Ref a w) :
  Calls Tryz.prog 29 #[.agg #[Z x0,Z x1,Z x2,Z x3],.agg #[Z y0,Z y1,Z y2,Z y3]] w fun e w'=>e = .returned (if okx=true∧oky=true∧bad=false then .tuple #[ivl r0 r1 r2 r3,.int .i64 0] else .tuple #[ivl0,.int .i64 50])∧Below w.heap.size w w':=by
 have hmf:∀ (fn:Fn) (first cap:Array Value) (w:World),(Instr.makeFunc fn first cap).run Tryz.prog w = .ok (.func fn first cap) w:=fun _ _ _ _=>rfl;have CC:Shut _:=⟨hC⟩;have CX:Shut _:=⟨hX⟩;have CY:Shut _:=⟨hY⟩;have HV:Shut _:=⟨hv⟩;clear hC hX hY hv;unfold ivl0 ivl at *
 go_enter Tryz.func29, Tryz.ntmps29;go_wp2_with fail;obtain ⟨n_x,n_y,n_r,n_s⟩:=Qpq w (O #[Z x0,Z x1,Z x2,Z x3] 55) (O #[Z y0,Z y1,Z y2,Z y3] 55) (O #[Z ⟨#[]⟩,Z ⟨#[]⟩,Z ⟨#[]⟩,Z ⟨#[]⟩] 55) (O #[Z x0,Z x1,Z x2,Z x3,Z y0,Z y1,Z y2,Z y3] 55);have u:=Qkr w (O #[Z x0,Z x1,Z x2,Z x3] 55) (O #[Z y0,Z y1,Z y2,Z y3] 55) (O #[Z ⟨#[]⟩,Z ⟨#[]⟩,Z ⟨#[]⟩,Z ⟨#[]⟩] 55) (O #[Z x0,Z x1,Z x2,Z x3,Z y0,Z y1,Z y2,Z y3] 55);generalize ((((w.alloc (O #[Z x0,Z x1,Z x2,Z x3] 55)).alloc (O #[Z y0,Z y1,Z y2,Z y3] 55)).alloc (O #[Z ⟨#[]⟩,Z ⟨#[]⟩,Z ⟨#[]⟩,Z ⟨#[]⟩] 55)).alloc (O #[Z x0,Z x1,Z x2,Z x3,Z y0,Z y1,Z y2,Z y3] 55))=W4 at *
 have cA:=QfB 75 #[.pointer (some ⟨w.heap.size,0,none⟩),.pointer (some ⟨w.heap.size+1,0,none⟩)] (enters_of Tryz.func75 (by kernel_rfl) rfl) a (fun W=>W.heap[w.heap.size]? = some (O #[Z x0,Z x1,Z x2,Z x3] 55 (0,0))∧W.heap[w.heap.size+1]? = some (O #[Z y0,Z y1,Z y2,Z y3] 55 (0,0))) (fun W W' h hB=>⟨Qac h.1 hB,Qac h.2 hB⟩) r0 r1 r2 r3 bad
  2 (w.heap.size+1+1+1) 2 (g8 x0 x1 x2 x3 y0 y1 y2 y3) (fun j=>if j=0 then okx else oky) (by omega)
  (fun ho W hr hi=>CC.o (ho 0 (by omega)) (ho 1 (by omega)) _ _ W hr hi.1 hi.2)
  (fun j hj W=>by
   rcases (show j=0∨j=1 by omega) with rfl | rfl
   ·exact CX.o W
   ·exact CY.o W) W4 (HV.o.keep u) ⟨n_x,n_y⟩
  (fun W hB j hj=>by
   have q:=Qac n_s hB;rcases (show j=0∨j=1∨j=2∨j=3∨j=4∨j=5∨j=6∨j=7 by omega) with rfl | rfl | rfl | rfl | rfl | rfl | rfl | rfl
   ·exact Qaa q 0 rfl
   ·exact Qaa q 1 rfl
   ·exact Qaa q 2 rfl
   ·exact Qaa q 3 rfl
   ·exact Qaa q 4 rfl
   ·exact Qaa q 5 rfl
   ·exact Qaa q 6 rfl
   ·exact Qaa q 7 rfl)
 unfold ivl0 ivl at *
 refine cA.mono ?_;rintro e v1 ⟨rfl,g⟩;replace u:=u.trans (g.mono u.size);replace n_r:=Qac n_r g;clear g cA n_x n_y n_s hmf;obtain ⟨d0,d1,d2,d3⟩:=Qc4 n_r;obtain ⟨h0,h1,h2,h3⟩:=Qf4 n_r;have hb:∀ i,w.heap.size≤(⟨w.heap.size+1+1,i,none⟩:Addr).block:=fun _=>Nat.le_trans (Nat.le_succ _) (Nat.le_succ _);by_cases hP:okx=true∧oky=true∧bad=false
 ·have hQ:(∀ j:Nat,j<2→(fun j:Nat=>if j=0 then okx else oky) j=true)∧bad=false:=⟨fun j hj=>(show j=0∨j=1 by omega).elim (fun h=>by subst h;exact hP.1) (fun h=>by subst h;exact hP.2.1),hP.2.2⟩;rw [if_pos hQ];have s_r:=QaL (x:=Z r0) (y:=Z r1) (z:=Z r2) (t:=Z r3) n_r;obtain ⟨z0,z1,z2,z3⟩:=Qc4 s_r;dsimp only
  go_wp
  exact bodyPost_ret (v:=.tuple #[.agg #[Z r0,Z r1,Z r2,Z r3],.int .i64 0]) (by simp [results,Tryz.results29, go_sem,z0,z1,z2,z3]) rfl ⟨by rw [if_pos hP],(((u.setCell (hb 0) _).setCell (hb 1) _).setCell (hb 2) _).setCell (hb 3) _⟩
 ·have hQ:¬((∀ j:Nat,j<2→(fun j:Nat=>if j=0 then okx else oky) j=true)∧bad=false):=fun h=>hP ⟨h.1 0 (by omega),h.1 1 (by omega),h.2⟩;rw [if_neg hQ];have s_r:=QaL (x:=Z ⟨#[]⟩) (y:=Z ⟨#[]⟩) (z:=Z ⟨#[]⟩) (t:=Z ⟨#[]⟩) n_r;obtain ⟨z0,z1,z2,z3⟩:=Qc4 s_r;dsimp only
  go_wp
  exact bodyPost_ret (v:=.tuple #[.agg #[Z ⟨#[]⟩,Z ⟨#[]⟩,Z ⟨#[]⟩,Z ⟨#[]⟩],.int .i64 50]) (by simp [results,Tryz.results29, go_sem,z0,z1,z2,z3]) rfl ⟨by rw [if_neg hP],(((u.setCell (hb 0) _).setCell (hb 1) _).setCell (hb 2) _).setCell (hb 3) _⟩
theorem QmR (a:Addr) (x0 x1 x2 x3 y0 y1 y2 y3 r0 r1 r2 r3:ByteArray) (okx oky bad:Bool)
  (hC:okx=true→oky=true→∀ (Bx By:Nat) (W:World),Ref a W→W.heap[Bx]? = some (O #[Z x0,Z x1,Z x2,Z x3] 55 (0,0))→W.heap[By]? = some (O #[Z y0,Z y1,Z y2,Z y3] 55 (0,0))→Calls Tryz.prog 162 #[.pointer (some ⟨Bx,0,none⟩),.pointer (some ⟨By,0,none⟩)] W fun e W'=>e=(if bad then .panicked (refP a) else .returned (ivl r0 r1 r2 r3))∧Below W.heap.size W W')
  (hX:Ret 129 #[ivl x0 x1 x2 x3] (.bool okx)) (hY:Ret 129 #[ivl y0 y1 y2 y3] (.bool oky)) (w:World) (hv:Ref a w) :
  Calls Tryz.prog 123 #[.agg #[Z x0,Z x1,Z x2,Z x3],.agg #[Z y0,Z y1,Z y2,Z y3]] w fun e w'=>e = .returned (if okx=true∧oky=true∧bad=false then .tuple #[ivl r0 r1 r2 r3,.int .i64 0] else .tuple #[ivl0,.int .i64 50])∧Below w.heap.size w w':=by
 have hmf:∀ (fn:Fn) (first cap:Array Value) (w:World),(Instr.makeFunc fn first cap).run Tryz.prog w = .ok (.func fn first cap) w:=fun _ _ _ _=>rfl;have CC:Shut _:=⟨hC⟩;have CX:Shut _:=⟨hX⟩;have CY:Shut _:=⟨hY⟩;have HV:Shut _:=⟨hv⟩;clear hC hX hY hv;unfold ivl0 ivl at *
 go_enter Tryz.func123, Tryz.ntmps123;go_wp2_with fail;obtain ⟨n_x,n_y,n_r,n_s⟩:=Qpq w (O #[Z x0,Z x1,Z x2,Z x3] 55) (O #[Z y0,Z y1,Z y2,Z y3] 55) (O #[Z ⟨#[]⟩,Z ⟨#[]⟩,Z ⟨#[]⟩,Z ⟨#[]⟩] 55) (O #[Z x0,Z x1,Z x2,Z x3,Z y0,Z y1,Z y2,Z y3] 55);have u:=Qkr w (O #[Z x0,Z x1,Z x2,Z x3] 55) (O #[Z y0,Z y1,Z y2,Z y3] 55) (O #[Z ⟨#[]⟩,Z ⟨#[]⟩,Z ⟨#[]⟩,Z ⟨#[]⟩] 55) (O #[Z x0,Z x1,Z x2,Z x3,Z y0,Z y1,Z y2,Z y3] 55);generalize ((((w.alloc (O #[Z x0,Z x1,Z x2,Z x3] 55)).alloc (O #[Z y0,Z y1,Z y2,Z y3] 55)).alloc (O #[Z ⟨#[]⟩,Z ⟨#[]⟩,Z ⟨#[]⟩,Z ⟨#[]⟩] 55)).alloc (O #[Z x0,Z x1,Z x2,Z x3,Z y0,Z y1,Z y2,Z y3] 55))=W4 at *
 have cA:=QfB 162 #[.pointer (some ⟨w.heap.size,0,none⟩),.pointer (some ⟨w.heap.size+1,0,none⟩)] (enters_of Tryz.func162 (by kernel_rfl) rfl) a (fun W=>W.heap[w.heap.size]? = some (O #[Z x0,Z x1,Z x2,Z x3] 55 (0,0))∧W.heap[w.heap.size+1]? = some (O #[Z y0,Z y1,Z y2,Z y3] 55 (0,0))) (fun W W' h hB=>⟨Qac h.1 hB,Qac h.2 hB⟩) r0 r1 r2 r3 bad
  2 (w.heap.size+1+1+1) 2 (g8 x0 x1 x2 x3 y0 y1 y2 y3) (fun j=>if j=0 then okx else oky) (by omega)
  (fun ho W hr hi=>CC.o (ho 0 (by omega)) (ho 1 (by omega)) _ _ W hr hi.1 hi.2)
  (fun j hj W=>by
   rcases (show j=0∨j=1 by omega) with rfl | rfl
   ·exact CX.o W
   ·exact CY.o W) W4 (HV.o.keep u) ⟨n_x,n_y⟩
  (fun W hB j hj=>by
   have q:=Qac n_s hB;rcases (show j=0∨j=1∨j=2∨j=3∨j=4∨j=5∨j=6∨j=7 by omega) with rfl | rfl | rfl | rfl | rfl | rfl | rfl | rfl
   ·exact Qaa q 0 rfl
   ·exact Qaa q 1 rfl
   ·exact Qaa q 2 rfl
   ·exact Qaa q 3 rfl
   ·exact Qaa q 4 rfl
   ·exact Qaa q 5 rfl
   ·exact Qaa q 6 rfl
   ·exact Qaa q 7 rfl)
 unfold ivl0 ivl at *
 refine cA.mono ?_;rintro e v1 ⟨rfl,g⟩;replace u:=u.trans (g.mono u.size);replace n_r:=Qac n_r g;clear g cA n_x n_y n_s hmf;obtain ⟨d0,d1,d2,d3⟩:=Qc4 n_r;obtain ⟨h0,h1,h2,h3⟩:=Qf4 n_r;have hb:∀ i,w.heap.size≤(⟨w.heap.size+1+1,i,none⟩:Addr).block:=fun _=>Nat.le_trans (Nat.le_succ _) (Nat.le_succ _);by_cases hP:okx=true∧oky=true∧bad=false
 ·have hQ:(∀ j:Nat,j<2→(fun j:Nat=>if j=0 then okx else oky) j=true)∧bad=false:=⟨fun j hj=>(show j=0∨j=1 by omega).elim (fun h=>by subst h;exact hP.1) (fun h=>by subst h;exact hP.2.1),hP.2.2⟩;rw [if_pos hQ];have s_r:=QaL (x:=Z r0) (y:=Z r1) (z:=Z r2) (t:=Z r3) n_r;obtain ⟨z0,z1,z2,z3⟩:=Qc4 s_r;dsimp only
  go_wp
  exact bodyPost_ret (v:=.tuple #[.agg #[Z r0,Z r1,Z r2,Z r3],.int .i64 0]) (by simp [results,Tryz.results123, go_sem,z0,z1,z2,z3]) rfl ⟨by rw [if_pos hP],(((u.setCell (hb 0) _).setCell (hb 1) _).setCell (hb 2) _).setCell (hb 3) _⟩
 ·have hQ:¬((∀ j:Nat,j<2→(fun j:Nat=>if j=0 then okx else oky) j=true)∧bad=false):=fun h=>hP ⟨h.1 0 (by omega),h.1 1 (by omega),h.2⟩;rw [if_neg hQ];have s_r:=QaL (x:=Z ⟨#[]⟩) (y:=Z ⟨#[]⟩) (z:=Z ⟨#[]⟩) (t:=Z ⟨#[]⟩) n_r;obtain ⟨z0,z1,z2,z3⟩:=Qc4 s_r;dsimp only
  go_wp
  exact bodyPost_ret (v:=.tuple #[.agg #[Z ⟨#[]⟩,Z ⟨#[]⟩,Z ⟨#[]⟩,Z ⟨#[]⟩],.int .i64 50]) (by simp [results,Tryz.results123, go_sem,z0,z1,z2,z3]) rfl ⟨by rw [if_neg hP],(((u.setCell (hb 0) _).setCell (hb 1) _).setCell (hb 2) _).setCell (hb 3) _⟩
theorem QhJ (a:Addr) (x0 x1 x2 x3 r0 r1 r2 r3:ByteArray) (p:Int) (okx bad:Bool)
  (hC:okx=true→∀ (Bx Bp:Nat) (W:World),Ref a W→W.heap[Bx]? = some (O #[Z x0,Z x1,Z x2,Z x3] 55 (0,0))→W.heap[Bp]? = some (O #[.int .i64 p] 3 (0,0))→Calls Tryz.prog 158 #[.pointer (some ⟨Bp,0,none⟩),.pointer (some ⟨Bx,0,none⟩)] W fun e W'=>e=(if bad then .panicked (refP a) else .returned (ivl r0 r1 r2 r3))∧Below W.heap.size W W')
  (hX:Ret 129 #[ivl x0 x1 x2 x3] (.bool okx)) (w:World) (hv:Ref a w) :
  Calls Tryz.prog 121 #[.agg #[Z x0,Z x1,Z x2,Z x3],.int .i64 p] w fun e w'=>e = .returned (if okx=true∧bad=false then .tuple #[ivl r0 r1 r2 r3,.int .i64 0] else .tuple #[ivl0,.int .i64 50])∧Below w.heap.size w w':=by
 have hmf:∀ (fn:Fn) (first cap:Array Value) (w:World),(Instr.makeFunc fn first cap).run Tryz.prog w = .ok (.func fn first cap) w:=fun _ _ _ _=>rfl;have CC:Shut _:=⟨hC⟩;have CX:Shut _:=⟨hX⟩;have HV:Shut _:=⟨hv⟩;clear hC hX hv;unfold ivl0 ivl at *
 go_enter Tryz.func121, Tryz.ntmps121;go_wp2_with fail;obtain ⟨n_x,n_p,n_r,n_s⟩:=Qpq w (O #[Z x0,Z x1,Z x2,Z x3] 55) (O #[.int .i64 p] 3) (O #[Z ⟨#[]⟩,Z ⟨#[]⟩,Z ⟨#[]⟩,Z ⟨#[]⟩] 55) (O #[Z x0,Z x1,Z x2,Z x3] 55);have u:=Qkr w (O #[Z x0,Z x1,Z x2,Z x3] 55) (O #[.int .i64 p] 3) (O #[Z ⟨#[]⟩,Z ⟨#[]⟩,Z ⟨#[]⟩,Z ⟨#[]⟩] 55) (O #[Z x0,Z x1,Z x2,Z x3] 55);generalize ((((w.alloc (O #[Z x0,Z x1,Z x2,Z x3] 55)).alloc (O #[.int .i64 p] 3)).alloc (O #[Z ⟨#[]⟩,Z ⟨#[]⟩,Z ⟨#[]⟩,Z ⟨#[]⟩] 55)).alloc (O #[Z x0,Z x1,Z x2,Z x3] 55))=W4 at *
 have cA:=QfB 158 #[.pointer (some ⟨w.heap.size+1,0,none⟩),.pointer (some ⟨w.heap.size,0,none⟩)] (enters_of Tryz.func158 (by kernel_rfl) rfl) a (fun W=>W.heap[w.heap.size]? = some (O #[Z x0,Z x1,Z x2,Z x3] 55 (0,0))∧W.heap[w.heap.size+1]? = some (O #[.int .i64 p] 3 (0,0))) (fun W W' h hB=>⟨Qac h.1 hB,Qac h.2 hB⟩) r0 r1 r2 r3 bad
  1 (w.heap.size+1+1+1) 1 (g4 x0 x1 x2 x3) (fun _=>okx) (by omega)
  (fun ho W hr hi=>CC.o (ho 0 (by omega)) _ _ W hr hi.1 hi.2)
  (fun j hj W=>by obtain rfl:j=0:=(by omega);exact CX.o W) W4 (HV.o.keep u) ⟨n_x,n_p⟩
  (fun W hB j hj=>by
   have q:=Qac n_s hB;rcases (show j=0∨j=1∨j=2∨j=3 by omega) with rfl | rfl | rfl | rfl
   ·exact Qaa q 0 rfl
   ·exact Qaa q 1 rfl
   ·exact Qaa q 2 rfl
   ·exact Qaa q 3 rfl)
 unfold ivl0 ivl at *
 refine cA.mono ?_;rintro e v1 ⟨rfl,g⟩;replace u:=u.trans (g.mono u.size);replace n_r:=Qac n_r g;clear g cA n_x n_p n_s hmf;obtain ⟨d0,d1,d2,d3⟩:=Qc4 n_r;obtain ⟨h0,h1,h2,h3⟩:=Qf4 n_r;have hb:∀ i,w.heap.size≤(⟨w.heap.size+1+1,i,none⟩:Addr).block:=fun _=>Nat.le_trans (Nat.le_succ _) (Nat.le_succ _);by_cases hP:okx=true∧bad=false
 ·have hQ:(∀ j:Nat,j<1→(fun _:Nat=>okx) j=true)∧bad=false:=⟨fun _ _=>hP.1,hP.2⟩;rw [if_pos hQ];have s_r:=QaL (x:=Z r0) (y:=Z r1) (z:=Z r2) (t:=Z r3) n_r;obtain ⟨z0,z1,z2,z3⟩:=Qc4 s_r;dsimp only
  go_wp
  exact bodyPost_ret (v:=.tuple #[.agg #[Z r0,Z r1,Z r2,Z r3],.int .i64 0]) (by simp [results,Tryz.results121, go_sem,z0,z1,z2,z3]) rfl ⟨by rw [if_pos hP],(((u.setCell (hb 0) _).setCell (hb 1) _).setCell (hb 2) _).setCell (hb 3) _⟩
 ·have hQ:¬((∀ j:Nat,j<1→(fun _:Nat=>okx) j=true)∧bad=false):=fun h=>hP ⟨h.1 0 (by omega),h.2⟩;rw [if_neg hQ];have s_r:=QaL (x:=Z ⟨#[]⟩) (y:=Z ⟨#[]⟩) (z:=Z ⟨#[]⟩) (t:=Z ⟨#[]⟩) n_r;obtain ⟨z0,z1,z2,z3⟩:=Qc4 s_r;dsimp only
  go_wp
  exact bodyPost_ret (v:=.tuple #[.agg #[Z ⟨#[]⟩,Z ⟨#[]⟩,Z ⟨#[]⟩,Z ⟨#[]⟩],.int .i64 50]) (by simp [results,Tryz.results121, go_sem,z0,z1,z2,z3]) rfl ⟨by rw [if_neg hP],(((u.setCell (hb 0) _).setCell (hb 1) _).setCell (hb 2) _).setCell (hb 3) _⟩
theorem QmS (a:Addr) (x0 x1 x2 x3 r0 r1 r2 r3:ByteArray) (p:Int) (okx bad:Bool)
  (hC:okx=true→∀ (Bx Bp:Nat) (W:World),Ref a W→W.heap[Bx]? = some (O #[Z x0,Z x1,Z x2,Z x3] 55 (0,0))→W.heap[Bp]? = some (O #[.int .i64 p] 3 (0,0))→Calls Tryz.prog 124 #[.pointer (some ⟨Bx,0,none⟩),.pointer (some ⟨Bp,0,none⟩)] W fun e W'=>e=(if bad then .panicked (refP a) else .returned (ivl r0 r1 r2 r3))∧Below W.heap.size W W')
  (hX:Ret 129 #[ivl x0 x1 x2 x3] (.bool okx)) (w:World) (hv:Ref a w) :
  Calls Tryz.prog 73 #[.agg #[Z x0,Z x1,Z x2,Z x3],.int .i64 p] w fun e w'=>e = .returned (if okx=true∧bad=false then .tuple #[ivl r0 r1 r2 r3,.int .i64 0] else .tuple #[ivl0,.int .i64 50])∧Below w.heap.size w w':=by
 have hmf:∀ (fn:Fn) (first cap:Array Value) (w:World),(Instr.makeFunc fn first cap).run Tryz.prog w = .ok (.func fn first cap) w:=fun _ _ _ _=>rfl;have CC:Shut _:=⟨hC⟩;have CX:Shut _:=⟨hX⟩;have HV:Shut _:=⟨hv⟩;clear hC hX hv;unfold ivl0 ivl at *
 go_enter Tryz.func73, Tryz.ntmps73;go_wp2_with fail;obtain ⟨n_x,n_p,n_r,n_s⟩:=Qpq w (O #[Z x0,Z x1,Z x2,Z x3] 55) (O #[.int .i64 p] 3) (O #[Z ⟨#[]⟩,Z ⟨#[]⟩,Z ⟨#[]⟩,Z ⟨#[]⟩] 55) (O #[Z x0,Z x1,Z x2,Z x3] 55);have u:=Qkr w (O #[Z x0,Z x1,Z x2,Z x3] 55) (O #[.int .i64 p] 3) (O #[Z ⟨#[]⟩,Z ⟨#[]⟩,Z ⟨#[]⟩,Z ⟨#[]⟩] 55) (O #[Z x0,Z x1,Z x2,Z x3] 55);generalize ((((w.alloc (O #[Z x0,Z x1,Z x2,Z x3] 55)).alloc (O #[.int .i64 p] 3)).alloc (O #[Z ⟨#[]⟩,Z ⟨#[]⟩,Z ⟨#[]⟩,Z ⟨#[]⟩] 55)).alloc (O #[Z x0,Z x1,Z x2,Z x3] 55))=W4 at *
 have cA:=QfB 124 #[.pointer (some ⟨w.heap.size,0,none⟩),.pointer (some ⟨w.heap.size+1,0,none⟩)] (enters_of Tryz.func124 (by kernel_rfl) rfl) a (fun W=>W.heap[w.heap.size]? = some (O #[Z x0,Z x1,Z x2,Z x3] 55 (0,0))∧W.heap[w.heap.size+1]? = some (O #[.int .i64 p] 3 (0,0))) (fun W W' h hB=>⟨Qac h.1 hB,Qac h.2 hB⟩) r0 r1 r2 r3 bad
  1 (w.heap.size+1+1+1) 1 (g4 x0 x1 x2 x3) (fun _=>okx) (by omega)
  (fun ho W hr hi=>CC.o (ho 0 (by omega)) _ _ W hr hi.1 hi.2)
  (fun j hj W=>by obtain rfl:j=0:=(by omega);exact CX.o W) W4 (HV.o.keep u) ⟨n_x,n_p⟩
  (fun W hB j hj=>by
   have q:=Qac n_s hB;rcases (show j=0∨j=1∨j=2∨j=3 by omega) with rfl | rfl | rfl | rfl
   ·exact Qaa q 0 rfl
   ·exact Qaa q 1 rfl
   ·exact Qaa q 2 rfl
   ·exact Qaa q 3 rfl)
 unfold ivl0 ivl at *
 refine cA.mono ?_;rintro e v1 ⟨rfl,g⟩;replace u:=u.trans (g.mono u.size);replace n_r:=Qac n_r g;clear g cA n_x n_p n_s hmf;obtain ⟨d0,d1,d2,d3⟩:=Qc4 n_r;obtain ⟨h0,h1,h2,h3⟩:=Qf4 n_r;have hb:∀ i,w.heap.size≤(⟨w.heap.size+1+1,i,none⟩:Addr).block:=fun _=>Nat.le_trans (Nat.le_succ _) (Nat.le_succ _);by_cases hP:okx=true∧bad=false
 ·have hQ:(∀ j:Nat,j<1→(fun _:Nat=>okx) j=true)∧bad=false:=⟨fun _ _=>hP.1,hP.2⟩;rw [if_pos hQ];have s_r:=QaL (x:=Z r0) (y:=Z r1) (z:=Z r2) (t:=Z r3) n_r;obtain ⟨z0,z1,z2,z3⟩:=Qc4 s_r;dsimp only
  go_wp
  exact bodyPost_ret (v:=.tuple #[.agg #[Z r0,Z r1,Z r2,Z r3],.int .i64 0]) (by simp [results,Tryz.results73, go_sem,z0,z1,z2,z3]) rfl ⟨by rw [if_pos hP],(((u.setCell (hb 0) _).setCell (hb 1) _).setCell (hb 2) _).setCell (hb 3) _⟩
 ·have hQ:¬((∀ j:Nat,j<1→(fun _:Nat=>okx) j=true)∧bad=false):=fun h=>hP ⟨h.1 0 (by omega),h.2⟩;rw [if_neg hQ];have s_r:=QaL (x:=Z ⟨#[]⟩) (y:=Z ⟨#[]⟩) (z:=Z ⟨#[]⟩) (t:=Z ⟨#[]⟩) n_r;obtain ⟨z0,z1,z2,z3⟩:=Qc4 s_r;dsimp only
  go_wp
  exact bodyPost_ret (v:=.tuple #[.agg #[Z ⟨#[]⟩,Z ⟨#[]⟩,Z ⟨#[]⟩,Z ⟨#[]⟩],.int .i64 50]) (by simp [results,Tryz.results73, go_sem,z0,z1,z2,z3]) rfl ⟨by rw [if_neg hP],(((u.setCell (hb 0) _).setCell (hb 1) _).setCell (hb 2) _).setCell (hb 3) _⟩
theorem Qiw (w:World) (a b:Obj):((w.alloc a).alloc b).heap[w.heap.size]? = some a∧((w.alloc a).alloc b).heap[w.heap.size+1]? = some b:=⟨(Below.heap_alloc _ _ _ (by simp)).trans (World.alloc_heap_new w a),QaP w a b⟩
theorem QfU (w:World) (a b:Obj):Below w.heap.size w ((w.alloc a).alloc b):=((Below.refl w.heap.size w).alloc Lr a).alloc (by simp) b
theorem QjE (x0 x1:ByteArray):Ret 82 #[frc x0 x1,frc x0 x1] (.bool true):=by
 intro w;unfold frc;obtain ⟨n_x,n_y⟩:=Qiw w (O #[Z x0,Z x1] 42) (O #[Z x0,Z x1] 42);have u:=QfU w (O #[Z x0,Z x1] 42) (O #[Z x0,Z x1] 42);go_enter Tryz.func82, Tryz.ntmps82;obtain ⟨y0,y1⟩:=Qc2 n_x;have y2:=Qaa n_y 0 (v:=Z x0) rfl;have y3:=Qaa n_y 1 (v:=Z x1) rfl;have e0:(x0.toList == x0.toList)=true:=beq_self_eq_true _;have e1:(x1.toList == x1.toList)=true:=beq_self_eq_true _;go_wp2_with fail;go_ret;exact ⟨rfl,u⟩
theorem Qix (x0 x1 x2 x3:ByteArray) (k:Int) (hC:Ret 27 #[frc x0 x1,frc x2 x3] (.int .i64 k))
  (hne:(x0.toList == x2.toList)=false∨((x0.toList == x2.toList)=true∧(x1.toList == x3.toList)=false)):Ret 82 #[frc x0 x1,frc x2 x3] (.bool (decide (k<0))):=by
 intro w;unfold frc at *
 obtain ⟨n_x,n_y⟩:=Qiw w (O #[Z x0,Z x1] 42) (O #[Z x2,Z x3] 42);have u:=QfU w (O #[Z x0,Z x1] 42) (O #[Z x2,Z x3] 42);have CC:Shut _:=⟨hC⟩;clear hC;go_enter Tryz.func82, Tryz.ntmps82;obtain ⟨y0,y1⟩:=Qc2 n_x;have y2:=Qaa n_y 0 (v:=Z x2) rfl;have y3:=Qaa n_y 1 (v:=Z x3) rfl;rcases hne with e0 | ⟨e0,e1⟩
 ·go_wp2_with fail;refine (CC.o _).mono ?_;rintro e v1 ⟨rfl,g⟩;replace u:=u.trans (g.mono u.size);clear g y0 y1 y2 y3 e0 n_x n_y;go_wp2_with fail;go_ret;exact ⟨rfl,u⟩
 ·go_wp2_with fail;refine (CC.o _).mono ?_;rintro e v1 ⟨rfl,g⟩;replace u:=u.trans (g.mono u.size);clear g y0 y1 y2 y3 e0 e1 n_x n_y;go_wp2_with fail;go_ret;exact ⟨rfl,u⟩
theorem QlD (x0 x1 x2 x3:ByteArray) (b:Bool) (hA:Ret 82 #[frc x2 x3,frc x0 x1] (.bool b)):Ret 133 #[frc x0 x1,frc x2 x3] (.bool b):=by
 intro w;unfold frc at *
 obtain ⟨n_x,n_y⟩:=Qiw w (O #[Z x0,Z x1] 42) (O #[Z x2,Z x3] 42);have u:=QfU w (O #[Z x0,Z x1] 42) (O #[Z x2,Z x3] 42);have CC:Shut _:=⟨hA⟩;clear hA;go_enter Tryz.func133, Tryz.ntmps133;obtain ⟨y0,y1⟩:=Qc2 n_x;have y2:=Qaa n_y 0 (v:=Z x2) rfl;have y3:=Qaa n_y 1 (v:=Z x3) rfl;go_wp2_with fail;refine (CC.o _).mono ?_;rintro e v1 ⟨rfl,g⟩;replace u:=u.trans (g.mono u.size);clear g y0 y1 y2 y3 n_x n_y;go_wp2_with fail;go_ret;exact ⟨rfl,u⟩
abbrev P2:=ByteArray×ByteArray
def QaG (A:P2→P2→Bool) (v:P2) (L:Nat→P2):Nat→P2
 | 0=>v
 | n+1=>if A (L n) (QaG A v L n) then L n else QaG A v L n
theorem Qks (A:P2→P2→Bool) (P:P2→Prop) (v:P2) (L:Nat→P2) (hv:P v):∀ n,(∀ i,i<n→P (L i))→P (QaG A v L n)
 | 0,_=>hv
 | n+1,h=>by
  rw [QaG];split
  ·exact h n (by omega)
  ·exact Qks A P v L hv n (fun i hi=>h i (by omega))
theorem Qbc {W:World} {b:Nat} {a0 a1 x y:Value} {T:TypeId} (h:W.heap[b]? = some (O #[a0,a1] T (0,0))):((W.setCell ⟨b,0,none⟩ x).setCell ⟨b,1,none⟩ y).heap[b]? = some (O #[x,y] T (0,0)):=by
 obtain ⟨hl,hg⟩:=Array.getElem?_eq_some_iff.1 h;simp [World.setCell,hl,Array.getElem_modify,hg]
theorem Qiy (k:Nat) (hk:Enters Tryz.prog k) (P:P2→Prop) (A:P2→P2→Bool) (hA:∀ p q,P p→P q→Ret k #[frc p.1 p.2,frc q.1 q.2] (.bool (A p q))) (L:Nat→P2) (v:P2) (hv:P v) (m bi off cap:Nat) (hm:m≤1000) (hL:∀ i,i<m→P (L i)) (w:World)
  (hcs:∀ W,Below w.heap.size w W→∀ j,j<m→W.cell? ⟨bi,off+j*2,none⟩=some (Z (L j).1)∧W.cell? ⟨bi,off+j*2+1,none⟩=some (Z (L j).2)) :
  Calls Tryz.prog 132 #[.func (.func k) #[] #[],frc v.1 v.2,.slice (some ⟨bi,off,none⟩) m cap] w fun e w'=>e = .returned (frc (QaG A v L m).1 (QaG A v L m).2)∧Below w.heap.size w w':=by
 unfold frc at *
 obtain ⟨n_v,n_r⟩:=Qiw w (O #[Z v.1,Z v.2] 42) (O #[Z ⟨#[]⟩,Z ⟨#[]⟩] 42);have u:=QfU w (O #[Z v.1,Z v.2] 42) (O #[Z ⟨#[]⟩,Z ⟨#[]⟩] 42);have CC:Shut _:=⟨hA⟩;have HCS:Shut _:=⟨hcs⟩;clear hA hcs;go_enter Tryz.func132, Tryz.ntmps132;go_wp2_with fail;generalize ((w.alloc (O #[Z v.1,Z v.2] 42)).alloc (O #[Z ⟨#[]⟩,Z ⟨#[]⟩] 42))=W0 at *
 have NV:Shut _:=⟨n_v⟩;have NR:Shut _:=⟨n_r⟩;have U0:Shut _:=⟨u⟩;clear n_v n_r u
 go_loopw [11] (fun jv wr=>∃ j:Nat,j≤m∧jv = .int .i64 (j:Int)∧Shut (wr.heap[w.heap.size]? = some (O #[Z (QaG A v L j).1,Z (QaG A v L j).2] 42 (0,0))∧wr.heap[w.heap.size+1]? = some (O #[Z ⟨#[]⟩,Z ⟨#[]⟩] 42 (0,0))∧Below w.heap.size w wr)) (fun jv _=>m-(intOf jv).toNat)
 case atStart=>exact ⟨0,Nat.zero_le _,rfl,⟨NV.o,NR.o,U0.o⟩⟩
 case round =>
  obtain ⟨j,hj,rfl,H⟩:=hrel;clear NV NR U0;obtain ⟨n_v,n_r,u⟩:=H.o;clear H;have hen:=fun a w=>hk a w;by_cases hjn:j=m
  ·subst hjn;obtain ⟨c0,c1⟩:=Qc2 n_v;obtain ⟨d0,d1⟩:=Qc2 n_r;obtain ⟨h0,h1⟩:=Qf2 n_r;have s_r:=Qbc (x:=Z (QaG A v L j).1) (y:=Z (QaG A v L j).2) n_r;obtain ⟨z0,z1⟩:=Qc2 s_r;go_wp2_with fail;exact bodyPost_ret (v:=.agg #[Z (QaG A v L j).1,Z (QaG A v L j).2]) (by simp [results,Tryz.results132, go_sem,z0,z1]) rfl ⟨rfl,(u.setCell (show w.heap.size≤(⟨w.heap.size+1,0,none⟩:Addr).block from Nat.le_succ _) _).setCell (show w.heap.size≤(⟨w.heap.size+1,1,none⟩:Addr).block from Nat.le_succ _) _⟩
  ·have hj2:(j:Int)<(m:Int):=by omega
   have hj3:(0:Int)≤(j:Int):=by omega
   obtain ⟨y0,y1⟩:=HCS.o wr u j (by omega);have cK:=CC.o (L j) (QaG A v L j) (hL j (by omega)) (Qks A P v L hv j (fun i hi=>hL i (by omega)));have hp:QaG A v L (j+1)=if A (L j) (QaG A v L j) then L j else QaG A v L j:=rfl
   generalize QaG A v L j=pj at *
   generalize L j=lj at *
   obtain ⟨c0,c1⟩:=Qc2 n_v;obtain ⟨f0,f1⟩:=Qf2 n_v;have m_v:(wr.alloc (O #[Z lj.1,Z lj.2] 42)).heap[w.heap.size]? = _:=(Below.heap_alloc wr _ _ (Array.getElem?_eq_some_iff.1 n_v).1).trans n_v;have m_r:(wr.alloc (O #[Z lj.1,Z lj.2] 42)).heap[w.heap.size+1]? = _:=(Below.heap_alloc wr _ _ (Array.getElem?_eq_some_iff.1 n_r).1).trans n_r;have m_o:(wr.alloc (O #[Z lj.1,Z lj.2] 42)).heap[wr.heap.size]? = _:=World.alloc_heap_new wr _;obtain ⟨a0,a1⟩:=Qc2 m_v;go_wp2_with fail;refine (cK _).mono ?_;rintro e v1 ⟨rfl,g⟩;have hq:=u;replace u:=u.trans (((Below.refl wr.heap.size wr).alloc Lr (O #[Z lj.1,Z lj.2] 42)).trans (g.mono (by simp)) |>.mono u.size);replace n_v:=Qac m_v g;replace n_r:=Qac m_r g;replace m_o:=Qac m_o g;clear g m_v m_r a0 a1 c0 c1 f0 f1 cK y0 y1;have hw1:IntKind.i64.wrap ((j:Int)+1)=(j:Int)+1:=by simp [IntKind.wrap,IntKind.signed,IntKind.bits];omega
   obtain ⟨o0,o1⟩:=Qc2 m_o;obtain ⟨c0,c1⟩:=Qc2 n_v;obtain ⟨f0,f1⟩:=Qf2 n_v;cases hA:A lj pj with
   | true =>
    rw [hA,if_pos rfl] at hp;go_wp2_with fail;have s_v:=Qbc (x:=Z lj.1) (y:=Z lj.2) n_v;have s_r:((v1.setCell ⟨w.heap.size,0,none⟩ (Z lj.1)).setCell ⟨w.heap.size,1,none⟩ (Z lj.2)).heap[w.heap.size+1]? = _:=(Below.heap_setCell _ _ _ _ (by simp)).trans ((Below.heap_setCell _ _ _ _ (by simp)).trans n_r);have us:=(u.setCell (show w.heap.size≤(⟨w.heap.size,0,none⟩:Addr).block from Nat.le_refl _) (Z lj.1)).setCell (show w.heap.size≤(⟨w.heap.size,1,none⟩:Addr).block from Nat.le_refl _) (Z lj.2)
    go_roundw
    case rel=>exact ⟨j+1,by omega,by first | rfl | go_num | simp,⟨by rw [hp];exact s_v,s_r,us⟩⟩
    case measure=>simp [intOf];omega
   | false =>
    rw [hA,if_neg (by decide)] at hp;go_wp2_with fail
    go_roundw
    case rel=>exact ⟨j+1,by omega,by first | rfl | go_num | simp,⟨by rw [hp];exact n_v,n_r,u⟩⟩
    case measure=>simp [intOf];omega
theorem QaS {B:Nat} {w w':World} (h:Below B w w'):Below B w w'.drew:=⟨h.os,h.tape,h.output,h.size,h.block⟩
theorem Qah {B:Nat} {w w':World} (h:Below B w.drew w'):Below B w w':=⟨h.os,h.tape,h.output,h.size,h.block⟩
theorem QmT (P:P2→Prop) (A:P2→P2→Bool) (hA:∀ p q,P p→P q→Ret 82 #[frc p.1 p.2,frc q.1 q.2] (.bool (A p q))) (L:Nat→P2) (m bi cap:Nat) (h1:1≤m) (hm:m≤1000) (hcap:m≤cap) (hL:∀ i,i<m→P (L i)) (w:World)
  (hcs:∀ W,Below w.heap.size w W→∀ j,j<m→W.cell? ⟨bi,j*2,none⟩=some (Z (L j).1)∧W.cell? ⟨bi,j*2+1,none⟩=some (Z (L j).2)) :
  Calls Tryz.prog 80 #[.slice (some ⟨bi,0,none⟩) m cap] w fun e w'=>e = .returned (frc (QaG A (L 0) (fun i=>L (i+1)) (m-1)).1 (QaG A (L 0) (fun i=>L (i+1)) (m-1)).2)∧Below w.heap.size w w':=by
 obtain ⟨m,rfl⟩:∃ k,m=k+1:=⟨m-1,by omega⟩;obtain ⟨cap,rfl⟩:∃ k,cap=k+1:=⟨cap-1,by omega⟩;have n_r:(w.alloc (O #[Z ⟨#[]⟩,Z ⟨#[]⟩] 42)).heap[w.heap.size]? = _:=World.alloc_heap_new w _;have u:=(Below.refl w.heap.size w).alloc Lr (O #[Z ⟨#[]⟩,Z ⟨#[]⟩] 42)
 have cF:=fun (off cap:Nat) (ho:0<m→off=2) (W:World) (hB:Below w.heap.size w W)=>Qiy 82 (enters_of Tryz.func82 (by kernel_rfl) rfl) P A hA (fun i=>L (i+1)) (L 0) (hL 0 (by omega)) m bi off cap (by omega) (fun i hi=>hL (i+1) (by omega)) W (fun V hV j hj=>by
  have:=hcs V (hB.trans (hV.mono hB.size)) (j+1) (by omega);rw [ho (by omega)]
  rwa [show (j+1)*2=2+j*2 by omega] at this)
 obtain ⟨y0,y1⟩:=hcs _ u 0 (by omega);have CF:Shut _:=⟨cF⟩;have HC:Shut _:=⟨fun W hW=>hcs W hW 0 (by omega)⟩;have nx:=Nat.ne_of_lt (World.block_lt_of_cell? w _ (hcs w (Below.refl _ _) 0 (by omega)).1);have nx2:=nx.symm;have hm1:(m+1-1:Nat)=m:=rfl;rw [hm1];clear hcs cF hA;unfold frc at *
 generalize hpk:QaG A (L 0) (fun i=>L (i+1)) m=pk at *
 generalize L 0=l0 at *
 rcases Nat.eq_zero_or_pos cap with rfl | hcp
 ·obtain rfl:m=0:=(by omega);go_enter Tryz.func80, Tryz.ntmps80;go_wp2_with fail;generalize (w.alloc (O #[Z ⟨#[]⟩,Z ⟨#[]⟩] 42))=W0 at *
  have k0:=Qaa n_r 0 (v:=Z ⟨#[]⟩) rfl;have f0:=Qad n_r 0;have k1:=Qaa n_r 1 (v:=Z ⟨#[]⟩) rfl;have f1:=Qad n_r 1;have y0:W0.cell? ⟨bi,0,none⟩=some (Z l0.1):=y0;have y1:W0.cell? ⟨bi,1,none⟩=some (Z l0.2):=y1
  go_region_held (fun X=>X.cell? ⟨bi,0,none⟩=some (Z l0.1)∧X.cell? ⟨bi,1,none⟩=some (Z l0.2)) (go_keep) (first | (go_at_call 132; (with_reducible refine (CF.o _ _ (fun hh=>absurd hh (by omega)) _ (QaS u)).mono ?_);rintro e v1 ⟨rfl,g⟩;have g:Below W0.heap.size W0 v1:=Qah g;replace u:=u.trans (g.mono u.size);replace n_r:=Qac n_r g;clear g;obtain ⟨q0,q1⟩:=HC.o _ u;have y0:v1.cell? ⟨bi,0,none⟩=some (Z l0.1):=q0;have y1:v1.cell? ⟨bi,1,none⟩=some (Z l0.2):=q1;clear q0 q1;have k0:=Qaa n_r 0 (v:=Z ⟨#[]⟩) rfl;have f0:=Qad n_r 0;have k1:=Qaa n_r 1 (v:=Z ⟨#[]⟩) rfl;have f1:=Qad n_r 1))
  have s_r:=Qbc (x:=Z pk.1) (y:=Z pk.2) n_r;obtain ⟨z0,z1⟩:=Qc2 s_r
  go_wp
  exact bodyPost_ret (v:=.agg #[Z pk.1,Z pk.2]) (by simp [results,Tryz.results80, go_sem,z0,z1]) rfl ⟨rfl,(u.setCell Lr _).setCell Lr _⟩
 ·obtain ⟨c,rfl⟩:∃ c,cap=c+1:=⟨cap-1,by omega⟩;have hc3:¬(c+1+1=1):=(by omega);have hc4:(1:Int)≤((m+1:Nat):Int):=(by omega);go_enter Tryz.func80, Tryz.ntmps80;go_wp2_with fail;generalize (w.alloc (O #[Z ⟨#[]⟩,Z ⟨#[]⟩] 42))=W0 at *
  have k0:=Qaa n_r 0 (v:=Z ⟨#[]⟩) rfl;have f0:=Qad n_r 0;have k1:=Qaa n_r 1 (v:=Z ⟨#[]⟩) rfl;have f1:=Qad n_r 1;have y0:W0.cell? ⟨bi,0,none⟩=some (Z l0.1):=y0;have y1:W0.cell? ⟨bi,1,none⟩=some (Z l0.2):=y1
  go_region_held (fun X=>X.cell? ⟨bi,0,none⟩=some (Z l0.1)∧X.cell? ⟨bi,1,none⟩=some (Z l0.2)) (go_keep) (first | (go_at_call 132; (with_reducible refine (CF.o _ _ (fun hh=>rfl) _ (QaS u)).mono ?_);rintro e v1 ⟨rfl,g⟩;have g:Below W0.heap.size W0 v1:=Qah g;replace u:=u.trans (g.mono u.size);replace n_r:=Qac n_r g;clear g;obtain ⟨q0,q1⟩:=HC.o _ u;have y0:v1.cell? ⟨bi,0,none⟩=some (Z l0.1):=q0;have y1:v1.cell? ⟨bi,1,none⟩=some (Z l0.2):=q1;clear q0 q1;have k0:=Qaa n_r 0 (v:=Z ⟨#[]⟩) rfl;have f0:=Qad n_r 0;have k1:=Qaa n_r 1 (v:=Z ⟨#[]⟩) rfl;have f1:=Qad n_r 1))
  have s_r:=Qbc (x:=Z pk.1) (y:=Z pk.2) n_r;obtain ⟨z0,z1⟩:=Qc2 s_r
  go_wp
  exact bodyPost_ret (v:=.agg #[Z pk.1,Z pk.2]) (by simp [results,Tryz.results80, go_sem,z0,z1]) rfl ⟨rfl,(u.setCell Lr _).setCell Lr _⟩
theorem Qiz (P:P2→Prop) (A:P2→P2→Bool) (hA:∀ p q,P p→P q→Ret 133 #[frc p.1 p.2,frc q.1 q.2] (.bool (A p q))) (L:Nat→P2) (m bi cap:Nat) (h1:1≤m) (hm:m≤1000) (hcap:m≤cap) (hL:∀ i,i<m→P (L i)) (w:World)
  (hcs:∀ W,Below w.heap.size w W→∀ j,j<m→W.cell? ⟨bi,j*2,none⟩=some (Z (L j).1)∧W.cell? ⟨bi,j*2+1,none⟩=some (Z (L j).2)) :
  Calls Tryz.prog 79 #[.slice (some ⟨bi,0,none⟩) m cap] w fun e w'=>e = .returned (frc (QaG A (L 0) (fun i=>L (i+1)) (m-1)).1 (QaG A (L 0) (fun i=>L (i+1)) (m-1)).2)∧Below w.heap.size w w':=by
 obtain ⟨m,rfl⟩:∃ k,m=k+1:=⟨m-1,by omega⟩;obtain ⟨cap,rfl⟩:∃ k,cap=k+1:=⟨cap-1,by omega⟩;have n_r:(w.alloc (O #[Z ⟨#[]⟩,Z ⟨#[]⟩] 42)).heap[w.heap.size]? = _:=World.alloc_heap_new w _;have u:=(Below.refl w.heap.size w).alloc Lr (O #[Z ⟨#[]⟩,Z ⟨#[]⟩] 42)
 have cF:=fun (off cap:Nat) (ho:0<m→off=2) (W:World) (hB:Below w.heap.size w W)=>Qiy 133 (enters_of Tryz.func133 (by kernel_rfl) rfl) P A hA (fun i=>L (i+1)) (L 0) (hL 0 (by omega)) m bi off cap (by omega) (fun i hi=>hL (i+1) (by omega)) W (fun V hV j hj=>by
  have:=hcs V (hB.trans (hV.mono hB.size)) (j+1) (by omega);rw [ho (by omega)]
  rwa [show (j+1)*2=2+j*2 by omega] at this)
 obtain ⟨y0,y1⟩:=hcs _ u 0 (by omega);have CF:Shut _:=⟨cF⟩;have HC:Shut _:=⟨fun W hW=>hcs W hW 0 (by omega)⟩;have nx:=Nat.ne_of_lt (World.block_lt_of_cell? w _ (hcs w (Below.refl _ _) 0 (by omega)).1);have nx2:=nx.symm;have hm1:(m+1-1:Nat)=m:=rfl;rw [hm1];clear hcs cF hA;unfold frc at *
 generalize hpk:QaG A (L 0) (fun i=>L (i+1)) m=pk at *
 generalize L 0=l0 at *
 rcases Nat.eq_zero_or_pos cap with rfl | hcp
 ·obtain rfl:m=0:=(by omega);go_enter Tryz.func79, Tryz.ntmps79;go_wp2_with fail;generalize (w.alloc (O #[Z ⟨#[]⟩,Z ⟨#[]⟩] 42))=W0 at *
  have k0:=Qaa n_r 0 (v:=Z ⟨#[]⟩) rfl;have f0:=Qad n_r 0;have k1:=Qaa n_r 1 (v:=Z ⟨#[]⟩) rfl;have f1:=Qad n_r 1;have y0:W0.cell? ⟨bi,0,none⟩=some (Z l0.1):=y0;have y1:W0.cell? ⟨bi,1,none⟩=some (Z l0.2):=y1
  go_region_held (fun X=>X.cell? ⟨bi,0,none⟩=some (Z l0.1)∧X.cell? ⟨bi,1,none⟩=some (Z l0.2)) (go_keep) (first | (go_at_call 132; (with_reducible refine (CF.o _ _ (fun hh=>absurd hh (by omega)) _ (QaS u)).mono ?_);rintro e v1 ⟨rfl,g⟩;have g:Below W0.heap.size W0 v1:=Qah g;replace u:=u.trans (g.mono u.size);replace n_r:=Qac n_r g;clear g;obtain ⟨q0,q1⟩:=HC.o _ u;have y0:v1.cell? ⟨bi,0,none⟩=some (Z l0.1):=q0;have y1:v1.cell? ⟨bi,1,none⟩=some (Z l0.2):=q1;clear q0 q1;have k0:=Qaa n_r 0 (v:=Z ⟨#[]⟩) rfl;have f0:=Qad n_r 0;have k1:=Qaa n_r 1 (v:=Z ⟨#[]⟩) rfl;have f1:=Qad n_r 1))
  have s_r:=Qbc (x:=Z pk.1) (y:=Z pk.2) n_r;obtain ⟨z0,z1⟩:=Qc2 s_r
  go_wp
  exact bodyPost_ret (v:=.agg #[Z pk.1,Z pk.2]) (by simp [results,Tryz.results79, go_sem,z0,z1]) rfl ⟨rfl,(u.setCell Lr _).setCell Lr _⟩
 ·obtain ⟨c,rfl⟩:∃ c,cap=c+1:=⟨cap-1,by omega⟩;have hc3:¬(c+1+1=1):=(by omega);have hc4:(1:Int)≤((m+1:Nat):Int):=(by omega);go_enter Tryz.func79, Tryz.ntmps79;go_wp2_with fail;generalize (w.alloc (O #[Z ⟨#[]⟩,Z ⟨#[]⟩] 42))=W0 at *
  have k0:=Qaa n_r 0 (v:=Z ⟨#[]⟩) rfl;have f0:=Qad n_r 0;have k1:=Qaa n_r 1 (v:=Z ⟨#[]⟩) rfl;have f1:=Qad n_r 1;have y0:W0.cell? ⟨bi,0,none⟩=some (Z l0.1):=y0;have y1:W0.cell? ⟨bi,1,none⟩=some (Z l0.2):=y1
  go_region_held (fun X=>X.cell? ⟨bi,0,none⟩=some (Z l0.1)∧X.cell? ⟨bi,1,none⟩=some (Z l0.2)) (go_keep) (first | (go_at_call 132; (with_reducible refine (CF.o _ _ (fun hh=>rfl) _ (QaS u)).mono ?_);rintro e v1 ⟨rfl,g⟩;have g:Below W0.heap.size W0 v1:=Qah g;replace u:=u.trans (g.mono u.size);replace n_r:=Qac n_r g;clear g;obtain ⟨q0,q1⟩:=HC.o _ u;have y0:v1.cell? ⟨bi,0,none⟩=some (Z l0.1):=q0;have y1:v1.cell? ⟨bi,1,none⟩=some (Z l0.2):=q1;clear q0 q1;have k0:=Qaa n_r 0 (v:=Z ⟨#[]⟩) rfl;have f0:=Qad n_r 0;have k1:=Qaa n_r 1 (v:=Z ⟨#[]⟩) rfl;have f1:=Qad n_r 1))
  have s_r:=Qbc (x:=Z pk.1) (y:=Z pk.2) n_r;obtain ⟨z0,z1⟩:=Qc2 s_r
  go_wp
  exact bodyPost_ret (v:=.agg #[Z pk.1,Z pk.2]) (by simp [results,Tryz.results79, go_sem,z0,z1]) rfl ⟨rfl,(u.setCell Lr _).setCell Lr _⟩
def QmU (x:Value) (n:Nat) (E:Nat→P2):Prop:=∀ W:World,Calls Tryz.prog 204 #[x] W fun e W'=>∃ b c,e = .returned (.slice (some ⟨b,0,none⟩) n n)∧W.heap.size≤b∧W'.heap[b]? = some (.cells c 42 (0,0))∧(∀ j,j<n→c[j*2]? = some (Z (E j).1)∧c[j*2+1]? = some (Z (E j).2))∧Below W.heap.size W W'
theorem QmV (x0 x1:ByteArray) (E:Nat→P2) (hE:E 0=(x0,x1)):QmU (ivl x0 x1 x0 x1) 1 E:=by
 intro w;unfold ivl;obtain ⟨n_x,n_y⟩:=Qiw w (O #[Z x0,Z x1,Z x0,Z x1] 55) (O #[Z x0,Z x1] 42);have u:=QfU w (O #[Z x0,Z x1,Z x0,Z x1] 55) (O #[Z x0,Z x1] 42);have m_x:(w.alloc (O #[Z x0,Z x1,Z x0,Z x1] 55)).heap[w.heap.size]? = _:=World.alloc_heap_new w _;go_enter Tryz.func204, Tryz.ntmps204;obtain ⟨y0,y1,y2,y3⟩:=Qc4 m_x;have e0:(x0.toList == x0.toList)=true:=beq_self_eq_true _;have e1:(x1.toList == x1.toList)=true:=beq_self_eq_true _;go_wp2_with fail;go_ret;exact ⟨_,_,rfl,Nat.le_succ _,n_y,fun j hj=>by obtain rfl:j=0:=(by omega);rw [hE];exact ⟨rfl,rfl⟩,u⟩
theorem QlE (x0 x1 x2 x3:ByteArray) (E:Nat→P2) (hE:E 0=(x0,x1)) (hE1:E 1=(x2,x3)) (hne:(x0.toList == x2.toList)=false∨((x0.toList == x2.toList)=true∧(x1.toList == x3.toList)=false)):QmU (ivl x0 x1 x2 x3) 2 E:=by
 intro w;unfold ivl;obtain ⟨n_x,n_y⟩:=Qiw w (O #[Z x0,Z x1,Z x2,Z x3] 55) (O #[Z x0,Z x1,Z x2,Z x3] 42);have u:=QfU w (O #[Z x0,Z x1,Z x2,Z x3] 55) (O #[Z x0,Z x1,Z x2,Z x3] 42);have m_x:(w.alloc (O #[Z x0,Z x1,Z x2,Z x3] 55)).heap[w.heap.size]? = _:=World.alloc_heap_new w _;go_enter Tryz.func204, Tryz.ntmps204;obtain ⟨y0,y1,y2,y3⟩:=Qc4 m_x;have hj2:∀ j,j<2→j=0∨j=1:=fun j h=>by omega
 rcases hne with e0 | ⟨e0,e1⟩
 ·go_wp2_with fail;go_ret;exact ⟨_,_,rfl,Nat.le_succ _,n_y,fun j hj=>by rcases hj2 j hj with rfl | rfl;(rw [hE];exact ⟨rfl,rfl⟩);(rw [hE1];exact ⟨rfl,rfl⟩),u⟩
 ·go_wp2_with fail;go_ret;exact ⟨_,_,rfl,Nat.le_succ _,n_y,fun j hj=>by rcases hj2 j hj with rfl | rfl;(rw [hE];exact ⟨rfl,rfl⟩);(rw [hE1];exact ⟨rfl,rfl⟩),u⟩
def Qbd (R:Nat→P2):Nat→List Value
 | 0 => []
 | t+1=>Qbd R t ++ [Z (R t).1,Z (R t).2]
theorem Qbs (R:Nat→P2):∀ t,(Qbd R t).length=t*2
 | 0=>rfl
 | t+1=>by rw [Qbd,List.length_append,Qbs R t];simp;omega
theorem QdA (R:Nat→P2):∀ t j,j<t→(Qbd R t)[j*2]? = some (Z (R j).1)∧(Qbd R t)[j*2+1]? = some (Z (R j).2)
 | 0,_,h=>absurd h (by omega)
 | t+1,j,h=>by
  have hl:=Qbs R t;rw [Qbd];rcases Nat.lt_or_ge j t with h1 | h1
  ·rw [List.getElem?_append_left (by omega),List.getElem?_append_left (by omega)];exact QdA R t j h1
  ·obtain rfl:j=t:=by omega
   rw [List.getElem?_append_right (by omega),List.getElem?_append_right (by omega),hl];simp
def OwnL (W:World) (base:Nat) (v:Value) (t:Nat) (R:Nat→P2):Prop:=W.ownsRow base 42 2 v t (Qbd R t)
theorem OwnL.nil (W:World) (base:Nat) (R:Nat→P2):OwnL W base (.slice none 0 0) 0 R:=World.ownsRow_nil W base _ _
theorem OwnL.below {W W':World} {base t:Nat} {v:Value} {R:Nat→P2} (h:OwnL W base v t R) (hb:Below W.heap.size W W'):OwnL W' base v t R:=by
 refine ⟨h.1, ?_⟩;rcases h.2 with hn | ⟨g,cap,cur,e,hg,hgg,rest⟩
 ·exact .inl hn
 ·exact .inr ⟨g,cap,cur,e,hg,by rw [hb.block g (Array.getElem?_eq_some_iff.1 hgg).1];exact hgg,rest⟩
theorem OwnL.new {W:World} {base t:Nat} {v:Value} {R:Nat→P2} (h:OwnL W base v t R) (b:Nat) (hb:W.heap.size≤b):v.ownBlock≠some b:=by
 rcases h.2 with ⟨rfl,_⟩ | ⟨g,cap,cur,rfl,hg,hgg,rest⟩
 ·simp [Value.ownBlock]
 ·have:=(Array.getElem?_eq_some_iff.1 hgg).1;simp [Value.ownBlock];omega
theorem OwnL.low {W:World} {base t:Nat} {v:Value} {R:Nat→P2} (h:OwnL W base v t R) (b:Nat) (hb:b<base):v.ownBlock≠some b:=by
 rcases h.2 with ⟨rfl,_⟩ | ⟨g,cap,cur,rfl,hg,hgg,rest⟩
 ·simp [Value.ownBlock]
 ·simp [Value.ownBlock];omega
theorem OwnL.shape {W:World} {base t:Nat} {v:Value} {R:Nat→P2} (h:OwnL W base v (t+1) R):∃ g cap,v = .slice (some ⟨g,0,none⟩) (t+1) cap∧t+1≤cap∧cap≤maxLen∧∃ cur,W.heap[g]? = some (.cells cur 42 (0,0))∧∀ j,j<t+1→cur[j*2]? = some (Z (R j).1)∧cur[j*2+1]? = some (Z (R j).2):=by
 rcases h.2 with ⟨_,hn⟩ | ⟨g,cap,cur,rfl,hg,hgg,h1,h2,h3,h4⟩
 ·cases hn
 ·refine ⟨g,cap,rfl,h1,h2,cur,hgg,fun j hj => ?_⟩;have hc:=QdA R (t+1) j hj;rw [←h4] at hc;have e1:=hc.1;have e2:=hc.2;rw [List.getElem?_take_of_lt (by omega)] at e1;rw [List.getElem?_take_of_lt (by omega)] at e2;rw [Array.getElem?_toList] at e1 e2;exact ⟨e1,e2⟩
structure Lv (W:World) (v:Value) (b:Nat) (o:Obj):Prop where
 at_:W.heap[b]? = some o
 off:v.ownBlock≠some b
theorem Lv.below {W W':World} {v:Value} {b:Nat} {o:Obj} (h:Lv W v b o) (hB:Below W.heap.size W W'):Lv W' v b o:=⟨Qac h.at_ hB,h.off⟩
theorem Lv.app {W W':World} {v v':Value} {b:Nat} {o:Obj} (h:Lv W v b o) (hg:W.grownBy W' v.ownBlock) (hat:v'.ownBlock=v.ownBlock∨v'.ownBlock=some W.heap.size):Lv W' v' b o:=by
 have hlt:=(Array.getElem?_eq_some_iff.1 h.at_).1;refine ⟨(hg.block b hlt (fun e=>h.off e.symm)).trans h.at_, ?_⟩;rcases hat with e | e
 ·rw [e];exact h.off
 ·rw [e];intro e2;injection e2 with e2;omega
theorem Qem:(Tryz.prog.info? 42).map (fun i=>(i.zero,i.size,i.bytes))=some (some (.agg #[Z ⟨#[]⟩,Z ⟨#[]⟩]),2,32):=by kernel_rfl
theorem QbA {B t base:Nat} {R:Nat→P2} {w w1 w3:World} {v:Value} (hb:Below B w w1) (hB:B≤w.heap.size) (hBb:B≤base) (hO:OwnL w1 base v t R) (hg:w1.grownBy w3 v.ownBlock):Below B w w3 :=
 hb.trans ⟨hg.os,hg.tape,hg.output,hg.size,fun k hk=>hg.block k (Nat.lt_of_lt_of_le (Nat.lt_of_lt_of_le hk hB) hb.size) (fun e=>by
  rcases hO.2 with ⟨rfl,_⟩ | ⟨g,cap,cur,rfl,h1,_⟩
  ·simp [Value.ownBlock] at e
  ·simp [Value.ownBlock] at e;omega)⟩
theorem Qbt {w:World} {ops:Array Oper} {rest:List Oper} {o:Oper} {a:Act} {Q:Exit→Act→World→Prop} (hgd:o.guard=none) (s x:Operand)
  (ho:o.op = .call {callee:=.builtin .append,args:=#[s,x],argTypes:=#[29, 29]}) (base:Nat) (v:Value) (t:Nat) (R:Nat→P2) (hs:a.eval s=v) (hown:OwnL w base v t R)
  (Bx c:Nat) (hx:a.eval x = .slice (some ⟨Bx,0,none⟩) 1 c) (hB:w.heap[Bx]? = some (O #[Z (R t).1,Z (R t).2] 42 (0,0))) (ht:t≤1000) (hb:base≤w.heap.size)
  (h:∀ v' w',OwnL w' base v' (t+1) R→w.grownBy w' v.ownBlock→(v'.ownBlock=v.ownBlock∨v'.ownBlock=some w.heap.size)→wpList Tryz.prog ops Q rest (a.put o.dst v') w'):wpList Tryz.prog ops Q (o :: rest) a w:=by
 obtain ⟨i0,hinf,hz⟩:=Option.map_eq_some_iff.1 Qem;have hz0:i0.zero=some (.agg #[Z ⟨#[]⟩,Z ⟨#[]⟩]):=congrArg (fun q=>q.1) hz;have hz1:i0.size=2:=congrArg (fun q=>q.2.1) hz;have hz2:i0.bytes=32:=congrArg (fun q=>q.2.2) hz;refine wpList_append_own_at w hgd s x 29 ho base 42 i0 (.agg #[Z ⟨#[]⟩,Z ⟨#[]⟩]) 2 32 Tryz.underlying29 hinf hz0 hz1 hz2 rfl (by decide) v t _ hs hown ⟨Bx,0,none⟩ 1 c [Z (R t).1,Z (R t).2] hx rfl ?_ ?_ (by unfold maxLen;omega) (by omega) hb ?_
 ·intro j u hj;rw [Addr.add_lit,Nat.zero_add]
  match j,hj with
  | 0,hj=>exact Qaa hB 0 hj
  | 1,hj=>exact Qaa hB 1 hj
 ·intro u hu;simp at hu;rcases hu with rfl | rfl <;> rfl
 ·intro v' w' hown' hgrow _ hat;exact h v' w' hown' hgrow hat
theorem QvH (w:World) (a b c:Obj):(((w.alloc a).alloc b).alloc c).heap[w.heap.size]? = some a∧(((w.alloc a).alloc b).alloc c).heap[w.heap.size+1]? = some b∧(((w.alloc a).alloc b).alloc c).heap[w.heap.size+1+1]? = some c:=new3 w a b c
theorem QtS (w:World) (a b c:Obj):Below w.heap.size w (((w.alloc a).alloc b).alloc c):=(((Below.refl w.heap.size w).alloc Lr a).alloc (by simp) b).alloc (by simp;omega) c
def QdB (A:P2→P2→Bool) (L:Nat→P2) (n:Nat):P2:=QaG A (L 0) (fun i=>L (i+1)) (n-1)
theorem Qfq (a:Addr) (k:Nat) (hk:Enters Tryz.prog k) (x0 x1 x2 x3 y0 y1 y2 y3:ByteArray) (n m:Nat) (hn:1≤n∧n≤2) (hm:1≤m∧m≤2) (E D:Nat→P2) (hE:QmU (ivl x0 x1 x2 x3) n E) (hD:QmU (ivl y0 y1 y2 y3) m D)
  (R:Nat→Nat→P2) (C:Nat→Nat→Int) (hO:∀ i j,i<n→j<m→Ret k #[frc (E i).1 (E i).2,frc (D j).1 (D j).2] (.tuple #[frc (R i j).1 (R i j).2,.int .i64 (C i j)]))
  (P:P2→Prop) (A B:P2→P2→Bool) (hA:∀ p q,P p→P q→Ret 82 #[frc p.1 p.2,frc q.1 q.2] (.bool (A p q))) (hB:∀ p q,P p→P q→Ret 133 #[frc p.1 p.2,frc q.1 q.2] (.bool (B p q)))
  (hR:∀ i j,i<n→j<m→C i j=0→P (R i j)) (L:Nat→P2) (hLR:∀ i j,j<m→L (i*m+j)=R i j) (bad:Bool) (hbad:bad=false↔∀ i j,i<n→j<m→C i j=0) (w:World) (hv:Ref a w) :
  Calls Tryz.prog 163 #[.func (.func k) #[] #[],ivl x0 x1 x2 x3,ivl y0 y1 y2 y3] w fun e w'=>e=(if bad=false then .returned (ivl (QdB A L (n*m)).1 (QdB A L (n*m)).2 (QdB B L (n*m)).1 (QdB B L (n*m)).2) else .panicked (refP a))∧Below w.heap.size w w':=by
 have CE:Shut _:=⟨hE⟩;have CD:Shut _:=⟨hD⟩;have CO:Shut _:=⟨hO⟩;have HR:Shut _:=⟨hR⟩;have HA:Shut _:=⟨hA⟩;have HB:Shut _:=⟨hB⟩;have HV:Shut _:=⟨hv⟩;clear hE hD hO hR hA hB hv;unfold ivl frc at *
 go_enter Tryz.func163, Tryz.ntmps163;have HBAD:Shut _:=⟨hbad⟩;clear hbad;obtain ⟨n_x,n_y,n_r⟩:=QvH w (O #[Z x0,Z x1,Z x2,Z x3] 55) (O #[Z y0,Z y1,Z y2,Z y3] 55) (O #[Z ⟨#[]⟩,Z ⟨#[]⟩,Z ⟨#[]⟩,Z ⟨#[]⟩] 55);have u:=QtS w (O #[Z x0,Z x1,Z x2,Z x3] 55) (O #[Z y0,Z y1,Z y2,Z y3] 55) (O #[Z ⟨#[]⟩,Z ⟨#[]⟩,Z ⟨#[]⟩,Z ⟨#[]⟩] 55);obtain ⟨c0,c1,c2,c3⟩:=Qc4 n_x;go_wp2_with fail;clear c0 c1 c2 c3;generalize (((w.alloc (O #[Z x0,Z x1,Z x2,Z x3] 55)).alloc (O #[Z y0,Z y1,Z y2,Z y3] 55)).alloc (O #[Z ⟨#[]⟩,Z ⟨#[]⟩,Z ⟨#[]⟩,Z ⟨#[]⟩] 55))=W0 at *
 refine (CE.o W0).mono ?_;rintro e W1 ⟨bE,cE,rfl,hbE,n_E,hcE,g⟩;replace u:=u.trans (g.mono u.size);replace n_x:=Qac n_x g;replace n_y:=Qac n_y g;replace n_r:=Qac n_r g;have HCE:Shut _:=⟨hcE⟩;clear g hbE hcE;go_wp2_with fail;have NY:Shut _:=⟨n_y⟩;have NR:Shut _:=⟨n_r⟩;have NE:Shut _:=⟨n_E⟩;have U:Shut _:=⟨u⟩;clear n_x n_y n_r n_E u;have HL:Shut _:=⟨hLR⟩;clear hLR;have S0:Shut (OwnL W1 W1.heap.size (.slice none 0 0) (0*m) L∧Below W1.heap.size W1 W1):=⟨by rw [Nat.zero_mul];exact OwnL.nil _ _ _,Below.refl _ _⟩
 go_loopw [7,15] (fun v iv wr=>∃ i:Nat,i≤n∧iv = .int .i64 (i:Int)∧Shut (OwnL wr W1.heap.size v (i*m) L∧Below W1.heap.size W1 wr)∧Shut (∀ i' j,i'<i→j<m→C i' j=0)) (fun _ iv _=>n-(intOf iv).toNat)
 case atStart=>exact ⟨0,Nat.zero_le _,rfl,S0,⟨fun i' j h=>by omega⟩⟩
 case round =>
  obtain ⟨i,hi,rfl,H,HZ⟩:=hrel;clear S0;by_cases hin:i=n
  ·subst hin;obtain ⟨hO,u1⟩:=H.o;clear H
   have hP:∀ t,t<i*m→P (L t):=fun t ht=>by
    have h1:=Nat.div_add_mod t m;have h2:t / m<i:=Nat.div_lt_of_lt_mul (by rw [Nat.mul_comm];exact ht);have h3:=Nat.mod_lt t (show m > 0 by omega);have h4:=HL.o (t / m) (t % m) h3;rw [Nat.mul_comm,h1] at h4;rw [h4];exact HR.o _ _ h2 h3 (HZ.o _ _ h2 h3)
   have hbf:bad=false:=HBAD.o.2 (fun i' j' h1 h2=>HZ.o i' j' h1 h2);have hnm:i*m≤4:=Nat.mul_le_mul hn.2 hm.2;have hnm1:1≤i*m:=Nat.mul_le_mul hn.1 hm.1;generalize hnn:i*m=nn at *
   obtain ⟨t,rfl⟩:∃ t,nn=t+1:=⟨nn-1,by omega⟩;obtain ⟨g,cap,rfl,hcap,hmax,cur,n_g,hcur⟩:=hO.shape;have hcapb:cap≤9223372036854775807:=by unfold maxLen at hmax;omega
   have n_r:=Qac NR.o u1;have u:=U.o.trans (u1.mono U.o.size);have cLe:=QmT P A HA.o L (t+1) g cap (by omega) (by omega) hcap hP wr (fun W hW j hj=>⟨Qaa (Qac n_g hW) (j*2) (hcur j hj).1,Qaa (Qac n_g hW) (j*2+1) (hcur j hj).2⟩);unfold frc at cLe;have HG:Shut _:=⟨hcur⟩;obtain ⟨lo,hlo⟩:∃ p,QdB A L (t+1)=p:=⟨_,rfl⟩;rw [show QaG A (L 0) (fun i=>L (i+1)) (t+1-1)=lo from hlo] at cLe;clear hcur hO u1 hmax;go_wp2_with fail;refine cLe.mono ?_;rintro e v1 ⟨rfl,gg⟩;replace u:=u.trans (gg.mono u.size);replace n_r:=Qac n_r gg;replace n_g:=Qac n_g gg;clear gg cLe;have cGr:=Qiz P B HB.o L (t+1) g cap (by omega) (by omega) hcap hP v1 (fun W hW j hj=>⟨Qaa (Qac n_g hW) (j*2) (HG.o j hj).1,Qaa (Qac n_g hW) (j*2+1) (HG.o j hj).2⟩);unfold frc at cGr;obtain ⟨hi',hhi⟩:∃ p,QdB B L (t+1)=p:=⟨_,rfl⟩;rw [show QaG B (L 0) (fun i=>L (i+1)) (t+1-1)=hi' from hhi] at cGr;go_wp2_with fail;refine cGr.mono ?_;rintro e v2 ⟨rfl,gg⟩;replace u:=u.trans (gg.mono u.size);replace n_r:=Qac n_r gg;clear gg cGr n_g;obtain ⟨d0,d1,d2,d3⟩:=Qc4 n_r;obtain ⟨h0,h1,h2,h3⟩:=Qf4 n_r;have hb:∀ i,w.heap.size≤(⟨w.heap.size+1+1,i,none⟩:Addr).block:=fun _=>Nat.le_trans (Nat.le_succ _) (Nat.le_succ _);have s_r:=QaL (x:=Z lo.1) (y:=Z lo.2) (z:=Z hi'.1) (t:=Z hi'.2) n_r;obtain ⟨z0,z1,z2,z3⟩:=Qc4 s_r;dsimp only
   go_wp
   exact bodyPost_ret (v:=.agg #[Z lo.1,Z lo.2,Z hi'.1,Z hi'.2]) (by simp [results,Tryz.results163, go_sem,z0,z1,z2,z3]) rfl ⟨by rw [if_pos hbf,hnn,hlo,hhi],(((u.setCell (hb 0) _).setCell (hb 1) _).setCell (hb 2) _).setCell (hb 3) _⟩
  ·obtain ⟨hO,u1⟩:=H.o;clear H;have n_y:=Qac NY.o u1;have n_E:=Qac NE.o u1;have hi2:(i:Int)<(n:Int):=by omega
   have hi3:(0:Int)≤(i:Int):=by omega
   obtain ⟨z0,z1⟩:=HCE.o i (by omega);have cOi:=fun j hj=>CO.o i j (by omega) hj;generalize hEi:E i=ei at *
   have q0:=Qaa n_E (i*2) z0;have q1:=Qaa n_E (i*2+1) z1;have m_y:(wr.alloc (O #[Z ei.1,Z ei.2] 42)).heap[w.heap.size+1]? = _:=(Below.heap_alloc wr _ _ (Array.getElem?_eq_some_iff.1 n_y).1).trans n_y;have m_o:(wr.alloc (O #[Z ei.1,Z ei.2] 42)).heap[wr.heap.size]? = _:=World.alloc_heap_new wr _;obtain ⟨c0,c1,c2,c3⟩:=Qc4 m_y;have CI:Shut _:=⟨cOi⟩;have hb9:=hO.new wr.heap.size Lr;have ha:=((Below.refl wr.heap.size wr).alloc Lr (O #[Z ei.1,Z ei.2] 42));replace hO:=hO.below ha;replace u1:=u1.trans (ha.mono u1.size);clear cOi ha;go_wp2_with fail;refine (CD.o _).mono ?_;rintro e W3 ⟨bD,cD,rfl,hbD,n_D,hcD,g⟩;have l9:=(Lv.mk m_o hb9).below g;have lD:Lv W3 u7 bD _:=⟨n_D,hO.new bD hbD⟩;replace hO:=hO.below g;replace u1:=u1.trans (g.mono u1.size);have HCD:Shut _:=⟨hcD⟩;clear g hcD hbD n_D m_y m_o c0 c1 c2 c3 q0 q1 z0 z1 n_y n_E hb9;go_wp2_with fail;generalize hb9:wr.heap.size=b9 at *
   have S1:Shut (OwnL W3 W1.heap.size u7 (i*m+0) L∧Below W1.heap.size W1 W3∧Lv W3 u7 b9 (O #[Z ei.1,Z ei.2] 42 (0,0))∧Lv W3 u7 bD (.cells cD 42 (0,0))):=⟨by rw [Nat.add_zero];exact hO,u1,l9,lD⟩;clear hO u1 l9 lD
   go_loopw [7,22] (fun v jv w2=>∃ j:Nat,j≤m∧jv = .int .i64 (j:Int)∧Shut (OwnL w2 W1.heap.size v (i*m+j) L∧Below W1.heap.size W1 w2∧Lv w2 v b9 (O #[Z ei.1,Z ei.2] 42 (0,0))∧Lv w2 v bD (.cells cD 42 (0,0)))∧Shut (∀ j',j'<j→C i j'=0)) (fun _ jv _=>m-(intOf jv).toNat)
   case atStart=>exact ⟨0,Nat.zero_le _,rfl,S1,⟨fun j h=>by omega⟩⟩
   case round =>
    obtain ⟨j,hj,rfl,H,HZ2⟩:=hrel;clear S1;by_cases hjm:j=m
    ·subst hjm;obtain ⟨hO,u1,l9,lD⟩:=H.o;clear H l9 lD;have hw1:IntKind.i64.wrap ((i:Int)+1)=(i:Int)+1:=by simp [IntKind.wrap,IntKind.signed,IntKind.bits];omega
     go_wp2_with fail
     go_roundw
     case rel=>exact ⟨i+1,by omega,by first | rfl | go_num | simp,⟨by rw [Nat.succ_mul];exact hO,u1⟩,⟨fun i' j' h hj'=>by
      rcases Nat.lt_or_ge i' i with h1 | h1
      ·exact HZ.o i' j' h1 hj'
      ·obtain rfl:i'=i:=by omega
       exact HZ2.o j' hj'⟩⟩
     case measure=>simp [intOf];omega
    ·obtain ⟨hO,u1,l9,lD⟩:=H.o;clear H;have hj2:(j:Int)<(m:Int):=by omega
     have hj3:(0:Int)≤(j:Int):=by omega
     obtain ⟨z0,z1⟩:=HCD.o j (by omega);have cO:=CI.o j (by omega);generalize hDj:D j=dj at *
     have q0:=Qaa lD.at_ (j*2) z0;have q1:=Qaa lD.at_ (j*2+1) z1;obtain ⟨k0,k1⟩:=Qc2 l9.at_;have r9:(wr.alloc (O #[Z dj.1,Z dj.2] 42)).heap[b9]? = _:=(Below.heap_alloc wr _ _ (Array.getElem?_eq_some_iff.1 l9.at_).1).trans l9.at_;obtain ⟨t0,t1⟩:=Qc2 r9;have ha:=((Below.refl wr.heap.size wr).alloc Lr (O #[Z dj.1,Z dj.2] 42));replace hO:=hO.below ha;replace l9:=l9.below ha;replace lD:=lD.below ha;replace u1:=u1.trans (ha.mono u1.size);have hen:=fun a w=>hk a w;clear ha;go_wp2_with fail;refine (cO _).mono ?_;rintro e v1 ⟨rfl,g⟩;replace hO:=hO.below g;replace l9:=l9.below g;replace lD:=lD.below g;replace u1:=u1.trans (g.mono u1.size);clear g k0 k1 r9 t0 t1 q0 q1 z0 z1 cO hen;have cM:=Qdo a (R i j).1 (R i j).2 (C i j) v1 (HV.o.keep (U.o.trans (u1.mono U.o.size)));go_wp2_with fail;refine cM.mono ?_;rintro e v2 ⟨rfl,g⟩;replace hO:=hO.below g;replace l9:=l9.below g;replace lD:=lD.below g;replace u1:=u1.trans (g.mono u1.size);clear g cM;by_cases hc:C i j=0
     ·rw [if_pos hc];dsimp only;have e_ij:=HL.o i j (by omega);have hij:i*m+j≤1000:=by have:=Nat.mul_le_mul (show i≤2 by omega) hm.2;omega
      have n_n:(v2.alloc (O #[Z (R i j).1,Z (R i j).2] 42)).heap[v2.heap.size]? = some (O #[Z (L (i*m+j)).1,Z (L (i*m+j)).2] 42 (0,0)):=by rw [e_ij];exact World.alloc_heap_new v2 _
      have ha:=((Below.refl v2.heap.size v2).alloc Lr (O #[Z (R i j).1,Z (R i j).2] 42));replace hO:=hO.below ha;replace l9:=l9.below ha;replace lD:=lD.below ha;replace u1:=u1.trans (ha.mono u1.size);have hw1:IntKind.i64.wrap ((j:Int)+1)=(j:Int)+1:=by simp [IntKind.wrap,IntKind.signed,IntKind.bits];omega
      clear ha;generalize R i j=rij at *
      go_wp2_with (at_builtin;refine Qbt rfl _ _ rfl W1.heap.size _ (i*m+j) L rfl hO v2.heap.size _ rfl n_n hij u1.size ?_;intro v' w' hO' hg hat);have u2:=QbA u1 Lr Lr hO hg;replace l9:=l9.app hg hat;replace lD:=lD.app hg hat;clear hO hg hat u1 n_n
      go_roundw
      case rel=>exact ⟨j+1,by omega,by first | rfl | go_num | simp,⟨hO',u2,l9,lD⟩,⟨fun j' h=>by
       rcases Nat.lt_or_ge j' j with h1 | h1
       ·exact HZ2.o j' h1
       ·obtain rfl:j'=j:=by omega
        exact hc⟩⟩
      case measure=>simp [intOf];omega
     ·rw [if_neg hc];dsimp +zetaDelta only [Exit.then,Exit.inBlock];exact ⟨rfl,by rw [if_neg (fun h=>hc (HBAD.o.1 h i j (by omega) (by omega)))],U.o.trans (u1.mono U.o.size)⟩
structure Hu (w W:World) (Bx By:Nat) (X Y:Array Value):Prop where
 x:W.heap[Bx]? = some (.cells X 55 (0,0))
 y:W.heap[By]? = some (.cells Y 55 (0,0))
 r:W.heap[w.heap.size]? = some (O #[Z ⟨#[]⟩,Z ⟨#[]⟩,Z ⟨#[]⟩,Z ⟨#[]⟩] 55 (0,0))
 u:Below w.heap.size w W
theorem Hu.below {w W W':World} {Bx By:Nat} {X Y:Array Value} (h:Hu w W Bx By X Y) (g:Below W.heap.size W W'):Hu w W' Bx By X Y:=⟨Qac h.x g,Qac h.y g,Qac h.r g,h.u.trans (g.mono h.u.size)⟩
theorem lold {W:World} {b:Nat} {o o':Obj} (h:W.heap[b]? = some o):(W.alloc o').heap[b]? = some o:=(Below.heap_alloc W _ _ (Array.getElem?_eq_some_iff.1 h).1).trans h
theorem QmW {B:Nat} {w w':World} (h:Below B w.drew w'):Below B w w':=⟨h.os,h.tape,h.output,h.size,h.block⟩
theorem QrP (a:Addr) (Bx By:Nat) (x0 x1 x2 x3 y0 y1 y2 y3 n1 d1 n2 d2:ByteArray) (c1 c2:Int)
  (hA1:∀ W:World,Calls Tryz.prog 77 #[.agg #[Z x0,Z x1],.agg #[Z y0,Z y1]] W fun e W'=>e = .returned (.tuple #[.agg #[Z n1,Z d1],.int .i64 c1])∧Below W.heap.size W W')
  (hA2:∀ W:World,Calls Tryz.prog 77 #[.agg #[Z x2,Z x3],.agg #[Z y2,Z y3]] W fun e W'=>e = .returned (.tuple #[.agg #[Z n2,Z d2],.int .i64 c2])∧Below W.heap.size W W')
  (w:World) (hv:Ref a w) (hx:w.heap[Bx]? = some (O #[Z x0,Z x1,Z x2,Z x3] 55 (0,0))) (hy:w.heap[By]? = some (O #[Z y0,Z y1,Z y2,Z y3] 55 (0,0))) :
  Calls Tryz.prog 75 #[.pointer (some ⟨Bx,0,none⟩),.pointer (some ⟨By,0,none⟩)] w fun e w'=>e=(if c1=0∧c2=0 then .returned (.agg #[Z n1,Z d1,Z n2,Z d2]) else .panicked (refP a))∧Below w.heap.size w w':=by
 have n_x:(w.alloc (O #[Z ⟨#[]⟩,Z ⟨#[]⟩,Z ⟨#[]⟩,Z ⟨#[]⟩] 55)).heap[Bx]? = _:=(Below.heap_alloc w _ _ (Array.getElem?_eq_some_iff.1 hx).1).trans hx;have n_y:(w.alloc (O #[Z ⟨#[]⟩,Z ⟨#[]⟩,Z ⟨#[]⟩,Z ⟨#[]⟩] 55)).heap[By]? = _:=(Below.heap_alloc w _ _ (Array.getElem?_eq_some_iff.1 hy).1).trans hy;have n_r:(w.alloc (O #[Z ⟨#[]⟩,Z ⟨#[]⟩,Z ⟨#[]⟩,Z ⟨#[]⟩] 55)).heap[w.heap.size]? = _:=World.alloc_heap_new w _;have u:=(Below.refl w.heap.size w).alloc Lr (O #[Z ⟨#[]⟩,Z ⟨#[]⟩,Z ⟨#[]⟩,Z ⟨#[]⟩] 55);have nx:=Nat.ne_of_lt (Array.getElem?_eq_some_iff.1 hx).1;have ny:=Nat.ne_of_lt (Array.getElem?_eq_some_iff.1 hy).1;have nx2:=nx.symm;have ny2:=ny.symm;have HV:Shut _:=⟨hv⟩;have CA1:Shut _:=⟨hA1⟩;have CA2:Shut _:=⟨hA2⟩;clear hx hy hv hA1 hA2;have CM1:=fun W h=>Qdo a n1 d1 c1 W h;have CM2:=fun W h=>Qdo a n2 d2 c2 W h;go_enter Tryz.func75, Tryz.ntmps75;go_wp2_with fail;generalize w.alloc (O #[Z ⟨#[]⟩,Z ⟨#[]⟩,Z ⟨#[]⟩,Z ⟨#[]⟩] 55)=W0 at *
 obtain ⟨cx0,cx1,cx2,cx3⟩:=Qc4 n_x;obtain ⟨cy0,cy1,cy2,cy3⟩:=Qc4 n_y;have k0:=Qaa n_r 0 (v:=Z ⟨#[]⟩) rfl;have f0:=Qad n_r 0;have k1:=Qaa n_r 1 (v:=Z ⟨#[]⟩) rfl;have f1:=Qad n_r 1;have k2:=Qaa n_r 2 (v:=Z ⟨#[]⟩) rfl;have f2:=Qad n_r 2;have k3:=Qaa n_r 3 (v:=Z ⟨#[]⟩) rfl;have f3:=Qad n_r 3
 go_region_held (fun X=>X.cell? ⟨Bx,0,none⟩=some (Z x0)∧X.cell? ⟨Bx,1,none⟩=some (Z x1)∧X.cell? ⟨Bx,2,none⟩=some (Z x2)∧X.cell? ⟨Bx,3,none⟩=some (Z x3)∧X.cell? ⟨By,0,none⟩=some (Z y0)∧X.cell? ⟨By,1,none⟩=some (Z y1)∧X.cell? ⟨By,2,none⟩=some (Z y2)∧X.cell? ⟨By,3,none⟩=some (Z y3)) (go_keep) (first | (go_at_call 77; (with_reducible refine (CA1.o _).mono ?_);rintro e v1 ⟨rfl,g⟩;have g:Below W0.heap.size W0 v1:=QmW g;replace u:=u.trans (g.mono u.size);replace n_x:=Qac n_x g;replace n_y:=Qac n_y g;replace n_r:=Qac n_r g;clear g;obtain ⟨cx0,cx1,cx2,cx3⟩:=Qc4 n_x;obtain ⟨cy0,cy1,cy2,cy3⟩:=Qc4 n_y;have k0:=Qaa n_r 0 (v:=Z ⟨#[]⟩) rfl;have f0:=Qad n_r 0;have k1:=Qaa n_r 1 (v:=Z ⟨#[]⟩) rfl;have f1:=Qad n_r 1;have k2:=Qaa n_r 2 (v:=Z ⟨#[]⟩) rfl;have f2:=Qad n_r 2;have k3:=Qaa n_r 3 (v:=Z ⟨#[]⟩) rfl;have f3:=Qad n_r 3) | (go_at_call 77; (with_reducible refine (CA2.o _).mono ?_);rintro e v3 ⟨rfl,g⟩;have g:Below v2.heap.size v2 v3:=g;replace u:=u.trans (g.mono u.size);replace n_x:=Qac n_x g;replace n_y:=Qac n_y g;replace n_r:=Qac n_r g;clear g;obtain ⟨cx0,cx1,cx2,cx3⟩:=Qc4 n_x;obtain ⟨cy0,cy1,cy2,cy3⟩:=Qc4 n_y;have k0:=Qaa n_r 0 (v:=Z ⟨#[]⟩) rfl;have f0:=Qad n_r 0;have k1:=Qaa n_r 1 (v:=Z ⟨#[]⟩) rfl;have f1:=Qad n_r 1;have k2:=Qaa n_r 2 (v:=Z ⟨#[]⟩) rfl;have f2:=Qad n_r 2;have k3:=Qaa n_r 3 (v:=Z ⟨#[]⟩) rfl;have f3:=Qad n_r 3) | (go_at_call 76; have cM:=CM2 v3 (HV.o.keep u);(with_reducible refine cM.mono ?_);clear cM;rintro e v4 ⟨rfl,g⟩;have g:Below v3.heap.size v3 v4:=g;replace u:=u.trans (g.mono u.size);replace n_x:=Qac n_x g;replace n_y:=Qac n_y g;replace n_r:=Qac n_r g;clear g;by_cases hc2:c2=0;rotate_left;(rw [if_neg hc2];dsimp +zetaDelta only [Exit.then,Exit.inBlock];exact ⟨rfl,by rw [if_neg (fun h=>hc2 h.2)],u⟩);rw [if_pos hc2];obtain ⟨cx0,cx1,cx2,cx3⟩:=Qc4 n_x;obtain ⟨cy0,cy1,cy2,cy3⟩:=Qc4 n_y;have k0:=Qaa n_r 0 (v:=Z ⟨#[]⟩) rfl;have f0:=Qad n_r 0;have k1:=Qaa n_r 1 (v:=Z ⟨#[]⟩) rfl;have f1:=Qad n_r 1;have k2:=Qaa n_r 2 (v:=Z ⟨#[]⟩) rfl;have f2:=Qad n_r 2;have k3:=Qaa n_r 3 (v:=Z ⟨#[]⟩) rfl;have f3:=Qad n_r 3) | (go_at_call 76; have cM:=CM1 v1 (HV.o.keep u);(with_reducible refine cM.mono ?_);clear cM;rintro e v2 ⟨rfl,g⟩;have g:Below v1.heap.size v1 v2:=g;replace u:=u.trans (g.mono u.size);replace n_x:=Qac n_x g;replace n_y:=Qac n_y g;replace n_r:=Qac n_r g;clear g;by_cases hc1:c1=0;rotate_left;(rw [if_neg hc1];dsimp +zetaDelta only [Exit.then,Exit.inBlock];exact ⟨rfl,by rw [if_neg (fun h=>hc1 h.1)],u⟩);rw [if_pos hc1];obtain ⟨cx0,cx1,cx2,cx3⟩:=Qc4 n_x;obtain ⟨cy0,cy1,cy2,cy3⟩:=Qc4 n_y;have k0:=Qaa n_r 0 (v:=Z ⟨#[]⟩) rfl;have f0:=Qad n_r 0;have k1:=Qaa n_r 1 (v:=Z ⟨#[]⟩) rfl;have f1:=Qad n_r 1;have k2:=Qaa n_r 2 (v:=Z ⟨#[]⟩) rfl;have f2:=Qad n_r 2;have k3:=Qaa n_r 3 (v:=Z ⟨#[]⟩) rfl;have f3:=Qad n_r 3))
 have s_r:=QaL (x:=Z n1) (y:=Z d1) (z:=Z n2) (t:=Z d2) n_r;obtain ⟨z0,z1,z2,z3⟩:=Qc4 s_r;have hb:∀ i,w.heap.size≤(⟨w.heap.size,i,none⟩:Addr).block:=fun _=>Nat.le_refl _
 go_wp
 exact bodyPost_ret (v:=.agg #[Z n1,Z d1,Z n2,Z d2]) (by simp [results,Tryz.results75, go_sem,z0,z1,z2,z3]) rfl ⟨by rw [if_pos ⟨hc1,hc2⟩],(((u.setCell (hb 0) _).setCell (hb 1) _).setCell (hb 2) _).setCell (hb 3) _⟩
theorem QmX (a:Addr) (Bx By:Nat) (x0 x1 x2 x3 y0 y1 y2 y3 r0 r1 r2 r3:ByteArray) (bad:Bool)
  (hC:∀ W:World,Ref a W→Calls Tryz.prog 163 #[.func (.func 95) #[] #[],.agg #[Z x0,Z x1,Z x2,Z x3],.agg #[Z y0,Z y1,Z y2,Z y3]] W fun e W'=>e=(if bad=false then .returned (.agg #[Z r0,Z r1,Z r2,Z r3]) else .panicked (refP a))∧Below W.heap.size W W')
  (w:World) (hv:Ref a w) (hx:w.heap[Bx]? = some (O #[Z x0,Z x1,Z x2,Z x3] 55 (0,0))) (hy:w.heap[By]? = some (O #[Z y0,Z y1,Z y2,Z y3] 55 (0,0))) :
  Calls Tryz.prog 162 #[.pointer (some ⟨Bx,0,none⟩),.pointer (some ⟨By,0,none⟩)] w fun e w'=>e=(if bad then .panicked (refP a) else .returned (.agg #[Z r0,Z r1,Z r2,Z r3]))∧Below w.heap.size w w':=by
 have h_W0:Hu w (w.alloc (O #[Z ⟨#[]⟩,Z ⟨#[]⟩,Z ⟨#[]⟩,Z ⟨#[]⟩] 55)) Bx By #[Z x0,Z x1,Z x2,Z x3] #[Z y0,Z y1,Z y2,Z y3]:=⟨lold hx,lold hy,World.alloc_heap_new w _,(Below.refl w.heap.size w).alloc Lr _⟩;have HV:Shut _:=⟨hv⟩;have CC:Shut _:=⟨hC⟩;clear hx hy hv hC;go_enter Tryz.func162, Tryz.ntmps162;have cx0:(w.alloc (O #[Z ⟨#[]⟩,Z ⟨#[]⟩,Z ⟨#[]⟩,Z ⟨#[]⟩] 55)).cell? ⟨Bx,0,none⟩=some (Z x0):=Qaa h_W0.x 0 rfl;have cx1:(w.alloc (O #[Z ⟨#[]⟩,Z ⟨#[]⟩,Z ⟨#[]⟩,Z ⟨#[]⟩] 55)).cell? ⟨Bx,1,none⟩=some (Z x1):=Qaa h_W0.x 1 rfl;have cx2:(w.alloc (O #[Z ⟨#[]⟩,Z ⟨#[]⟩,Z ⟨#[]⟩,Z ⟨#[]⟩] 55)).cell? ⟨Bx,2,none⟩=some (Z x2):=Qaa h_W0.x 2 rfl;have cx3:(w.alloc (O #[Z ⟨#[]⟩,Z ⟨#[]⟩,Z ⟨#[]⟩,Z ⟨#[]⟩] 55)).cell? ⟨Bx,3,none⟩=some (Z x3):=Qaa h_W0.x 3 rfl;have cy0:(w.alloc (O #[Z ⟨#[]⟩,Z ⟨#[]⟩,Z ⟨#[]⟩,Z ⟨#[]⟩] 55)).cell? ⟨By,0,none⟩=some (Z y0):=Qaa h_W0.y 0 rfl;have cy1:(w.alloc (O #[Z ⟨#[]⟩,Z ⟨#[]⟩,Z ⟨#[]⟩,Z ⟨#[]⟩] 55)).cell? ⟨By,1,none⟩=some (Z y1):=Qaa h_W0.y 1 rfl;have cy2:(w.alloc (O #[Z ⟨#[]⟩,Z ⟨#[]⟩,Z ⟨#[]⟩,Z ⟨#[]⟩] 55)).cell? ⟨By,2,none⟩=some (Z y2):=Qaa h_W0.y 2 rfl;have cy3:(w.alloc (O #[Z ⟨#[]⟩,Z ⟨#[]⟩,Z ⟨#[]⟩,Z ⟨#[]⟩] 55)).cell? ⟨By,3,none⟩=some (Z y3):=Qaa h_W0.y 3 rfl;go_wp2_with fail;generalize w.alloc (O #[Z ⟨#[]⟩,Z ⟨#[]⟩,Z ⟨#[]⟩,Z ⟨#[]⟩] 55)=W0 at *
 refine (CC.o W0 (HV.o.keep h_W0.u)).mono ?_;rintro e v ⟨rfl,g⟩;have h_v:=h_W0.below g;clear g cx0 cx1 cx2 cx3 cy0 cy1 cy2 cy3;cases bad with
 | true =>
  rw [if_neg (by decide)];dsimp +zetaDelta only [Exit.then,Exit.inBlock];exact ⟨rfl,rfl,h_v.u⟩
 | false =>
 rw [if_pos rfl];have s_r:=QaL (x:=Z r0) (y:=Z r1) (z:=Z r2) (t:=Z r3) h_v.r;obtain ⟨z0,z1,z2,z3⟩:=Qc4 s_r;have k0:=Qaa h_v.r 0 (v:=Z ⟨#[]⟩) rfl;have f0:=Qad h_v.r 0;have k1:=Qaa h_v.r 1 (v:=Z ⟨#[]⟩) rfl;have f1:=Qad h_v.r 1;have k2:=Qaa h_v.r 2 (v:=Z ⟨#[]⟩) rfl;have f2:=Qad h_v.r 2;have k3:=Qaa h_v.r 3 (v:=Z ⟨#[]⟩) rfl;have f3:=Qad h_v.r 3;have hb:∀ i,w.heap.size≤(⟨w.heap.size,i,none⟩:Addr).block:=fun _=>Nat.le_refl _;dsimp only
 go_wp
 exact bodyPost_ret (v:=.agg #[Z r0,Z r1,Z r2,Z r3]) (by simp [results,Tryz.results162, go_sem,z0,z1,z2,z3]) rfl ⟨rfl,(((h_v.u.setCell (hb 0) _).setCell (hb 1) _).setCell (hb 2) _).setCell (hb 3) _⟩
theorem QmY (x0 x1:ByteArray) (ok:Bool) (hV:Ret 65 #[.agg #[Z x0,Z x1]] (.bool ok)):Ret 84 #[.agg #[Z x0,Z x1]] (.agg (if ok then #[Z x0,Z x1,Z x0,Z x1] else #[Z ⟨#[]⟩,Z ⟨#[]⟩,Z ⟨#[]⟩,Z ⟨#[]⟩])):=by
 intro w;obtain ⟨n_x,n_r⟩:=Qiw w (O #[Z x0,Z x1] 42) (O #[Z ⟨#[]⟩,Z ⟨#[]⟩,Z ⟨#[]⟩,Z ⟨#[]⟩] 55);have u:=QfU w (O #[Z x0,Z x1] 42) (O #[Z ⟨#[]⟩,Z ⟨#[]⟩,Z ⟨#[]⟩,Z ⟨#[]⟩] 55);have CV:Shut _:=⟨hV⟩;clear hV;go_enter Tryz.func84, Tryz.ntmps84;obtain ⟨c0,c1⟩:=Qc2 n_x;go_wp2_with fail;refine (CV.o _).mono ?_;rintro e v ⟨rfl,g⟩;replace u:=u.trans (g.mono u.size);replace n_x:=Qac n_x g;replace n_r:=Qac n_r g;clear g c0 c1;obtain ⟨c0,c1⟩:=Qc2 n_x;have k0:=Qaa n_r 0 (v:=Z ⟨#[]⟩) rfl;have f0:=Qad n_r 0;have k1:=Qaa n_r 1 (v:=Z ⟨#[]⟩) rfl;have f1:=Qad n_r 1;have k2:=Qaa n_r 2 (v:=Z ⟨#[]⟩) rfl;have f2:=Qad n_r 2;have k3:=Qaa n_r 3 (v:=Z ⟨#[]⟩) rfl;have f3:=Qad n_r 3;have hb:∀ i,w.heap.size≤(⟨w.heap.size+1,i,none⟩:Addr).block:=fun _=>Nat.le_succ _;cases ok with
 | true =>
  have s_r:=QaL (x:=Z x0) (y:=Z x1) (z:=Z x0) (t:=Z x1) n_r;obtain ⟨z0,z1,z2,z3⟩:=Qc4 s_r;go_wp2_with fail;exact bodyPost_ret (v:=.agg #[Z x0,Z x1,Z x0,Z x1]) (by simp [results,Tryz.results84, go_sem,z0,z1,z2,z3]) rfl ⟨rfl,(((u.setCell (hb 0) _).setCell (hb 1) _).setCell (hb 2) _).setCell (hb 3) _⟩
 | false =>
  have s_r:=QaL (x:=Z ⟨#[]⟩) (y:=Z ⟨#[]⟩) (z:=Z ⟨#[]⟩) (t:=Z ⟨#[]⟩) n_r;obtain ⟨z0,z1,z2,z3⟩:=Qc4 s_r;go_wp2_with fail;exact bodyPost_ret (v:=.agg #[Z ⟨#[]⟩,Z ⟨#[]⟩,Z ⟨#[]⟩,Z ⟨#[]⟩]) (by simp [results,Tryz.results84, go_sem,z0,z1,z2,z3]) rfl ⟨rfl,(((u.setCell (hb 0) _).setCell (hb 1) _).setCell (hb 2) _).setCell (hb 3) _⟩
theorem QmZ (a:Addr) (Bx By:Nat) (x0 x1 x2 x3 n1 d1 n2 d2:ByteArray) (p c1 c2:Int)
  (hA1:∀ W:World,Calls Tryz.prog 125 #[.agg #[Z x0,Z x1],.int .i64 p] W fun e W'=>e = .returned (.tuple #[.agg #[Z n1,Z d1],.int .i64 c1])∧Below W.heap.size W W')
  (hA2:∀ W:World,Calls Tryz.prog 126 #[.agg #[Z x2,Z x3],.int .i64 p] W fun e W'=>e = .returned (.tuple #[.agg #[Z n2,Z d2],.int .i64 c2])∧Below W.heap.size W W')
  (w:World) (hv:Ref a w) (hx:w.heap[Bx]? = some (O #[Z x0,Z x1,Z x2,Z x3] 55 (0,0))) (hy:w.heap[By]? = some (O #[.int .i64 p] 3 (0,0))) :
  Calls Tryz.prog 124 #[.pointer (some ⟨Bx,0,none⟩),.pointer (some ⟨By,0,none⟩)] w fun e w'=>e=(if c1=0∧c2=0 then .returned (.agg #[Z n1,Z d1,Z n2,Z d2]) else .panicked (refP a))∧Below w.heap.size w w':=by
 have n_x:(w.alloc (O #[Z ⟨#[]⟩,Z ⟨#[]⟩,Z ⟨#[]⟩,Z ⟨#[]⟩] 55)).heap[Bx]? = _:=(Below.heap_alloc w _ _ (Array.getElem?_eq_some_iff.1 hx).1).trans hx;have n_y:(w.alloc (O #[Z ⟨#[]⟩,Z ⟨#[]⟩,Z ⟨#[]⟩,Z ⟨#[]⟩] 55)).heap[By]? = _:=(Below.heap_alloc w _ _ (Array.getElem?_eq_some_iff.1 hy).1).trans hy;have n_r:(w.alloc (O #[Z ⟨#[]⟩,Z ⟨#[]⟩,Z ⟨#[]⟩,Z ⟨#[]⟩] 55)).heap[w.heap.size]? = _:=World.alloc_heap_new w _;have u:=(Below.refl w.heap.size w).alloc Lr (O #[Z ⟨#[]⟩,Z ⟨#[]⟩,Z ⟨#[]⟩,Z ⟨#[]⟩] 55);have nx:=Nat.ne_of_lt (Array.getElem?_eq_some_iff.1 hx).1;have ny:=Nat.ne_of_lt (Array.getElem?_eq_some_iff.1 hy).1;have nx2:=nx.symm;have ny2:=ny.symm;have HV:Shut _:=⟨hv⟩;have CA1:Shut _:=⟨hA1⟩;have CA2:Shut _:=⟨hA2⟩;clear hx hy hv hA1 hA2;have CM1:=fun W h=>Qdo a n1 d1 c1 W h;have CM2:=fun W h=>Qdo a n2 d2 c2 W h;go_enter Tryz.func124, Tryz.ntmps124;go_wp2_with fail;generalize w.alloc (O #[Z ⟨#[]⟩,Z ⟨#[]⟩,Z ⟨#[]⟩,Z ⟨#[]⟩] 55)=W0 at *
 obtain ⟨cx0,cx1,cx2,cx3⟩:=Qc4 n_x;have cy0:=Qaa n_y 0 (v:=.int .i64 p) rfl;have k0:=Qaa n_r 0 (v:=Z ⟨#[]⟩) rfl;have f0:=Qad n_r 0;have k1:=Qaa n_r 1 (v:=Z ⟨#[]⟩) rfl;have f1:=Qad n_r 1;have k2:=Qaa n_r 2 (v:=Z ⟨#[]⟩) rfl;have f2:=Qad n_r 2;have k3:=Qaa n_r 3 (v:=Z ⟨#[]⟩) rfl;have f3:=Qad n_r 3
 go_region_held (fun X=>X.cell? ⟨Bx,0,none⟩=some (Z x0)∧X.cell? ⟨Bx,1,none⟩=some (Z x1)∧X.cell? ⟨Bx,2,none⟩=some (Z x2)∧X.cell? ⟨Bx,3,none⟩=some (Z x3)∧X.cell? ⟨By,0,none⟩=some (.int .i64 p)) (go_keep) (first | (go_at_call 125; (with_reducible refine (CA1.o _).mono ?_);rintro e v1 ⟨rfl,g⟩;have g:Below W0.heap.size W0 v1:=Qah g;replace u:=u.trans (g.mono u.size);replace n_x:=Qac n_x g;replace n_y:=Qac n_y g;replace n_r:=Qac n_r g;clear g;obtain ⟨cx0,cx1,cx2,cx3⟩:=Qc4 n_x;have cy0:=Qaa n_y 0 (v:=.int .i64 p) rfl;have k0:=Qaa n_r 0 (v:=Z ⟨#[]⟩) rfl;have f0:=Qad n_r 0;have k1:=Qaa n_r 1 (v:=Z ⟨#[]⟩) rfl;have f1:=Qad n_r 1;have k2:=Qaa n_r 2 (v:=Z ⟨#[]⟩) rfl;have f2:=Qad n_r 2;have k3:=Qaa n_r 3 (v:=Z ⟨#[]⟩) rfl;have f3:=Qad n_r 3) | (go_at_call 126; (with_reducible refine (CA2.o _).mono ?_);rintro e v3 ⟨rfl,g⟩;have g:Below v2.heap.size v2 v3:=g;replace u:=u.trans (g.mono u.size);replace n_x:=Qac n_x g;replace n_y:=Qac n_y g;replace n_r:=Qac n_r g;clear g;obtain ⟨cx0,cx1,cx2,cx3⟩:=Qc4 n_x;have cy0:=Qaa n_y 0 (v:=.int .i64 p) rfl;have k0:=Qaa n_r 0 (v:=Z ⟨#[]⟩) rfl;have f0:=Qad n_r 0;have k1:=Qaa n_r 1 (v:=Z ⟨#[]⟩) rfl;have f1:=Qad n_r 1;have k2:=Qaa n_r 2 (v:=Z ⟨#[]⟩) rfl;have f2:=Qad n_r 2;have k3:=Qaa n_r 3 (v:=Z ⟨#[]⟩) rfl;have f3:=Qad n_r 3) | (go_at_call 76; have cM:=CM2 v3 (HV.o.keep u);(with_reducible refine cM.mono ?_);clear cM;rintro e v4 ⟨rfl,g⟩;have g:Below v3.heap.size v3 v4:=g;replace u:=u.trans (g.mono u.size);replace n_x:=Qac n_x g;replace n_y:=Qac n_y g;replace n_r:=Qac n_r g;clear g;by_cases hc2:c2=0;rotate_left;(rw [if_neg hc2];dsimp +zetaDelta only [Exit.then,Exit.inBlock];exact ⟨rfl,by rw [if_neg (fun h=>hc2 h.2)],u⟩);rw [if_pos hc2];obtain ⟨cx0,cx1,cx2,cx3⟩:=Qc4 n_x;have cy0:=Qaa n_y 0 (v:=.int .i64 p) rfl;have k0:=Qaa n_r 0 (v:=Z ⟨#[]⟩) rfl;have f0:=Qad n_r 0;have k1:=Qaa n_r 1 (v:=Z ⟨#[]⟩) rfl;have f1:=Qad n_r 1;have k2:=Qaa n_r 2 (v:=Z ⟨#[]⟩) rfl;have f2:=Qad n_r 2;have k3:=Qaa n_r 3 (v:=Z ⟨#[]⟩) rfl;have f3:=Qad n_r 3) | (go_at_call 76; have cM:=CM1 v1 (HV.o.keep u);(with_reducible refine cM.mono ?_);clear cM;rintro e v2 ⟨rfl,g⟩;have g:Below v1.heap.size v1 v2:=g;replace u:=u.trans (g.mono u.size);replace n_x:=Qac n_x g;replace n_y:=Qac n_y g;replace n_r:=Qac n_r g;clear g;by_cases hc1:c1=0;rotate_left;(rw [if_neg hc1];dsimp +zetaDelta only [Exit.then,Exit.inBlock];exact ⟨rfl,by rw [if_neg (fun h=>hc1 h.1)],u⟩);rw [if_pos hc1];obtain ⟨cx0,cx1,cx2,cx3⟩:=Qc4 n_x;have cy0:=Qaa n_y 0 (v:=.int .i64 p) rfl;have k0:=Qaa n_r 0 (v:=Z ⟨#[]⟩) rfl;have f0:=Qad n_r 0;have k1:=Qaa n_r 1 (v:=Z ⟨#[]⟩) rfl;have f1:=Qad n_r 1;have k2:=Qaa n_r 2 (v:=Z ⟨#[]⟩) rfl;have f2:=Qad n_r 2;have k3:=Qaa n_r 3 (v:=Z ⟨#[]⟩) rfl;have f3:=Qad n_r 3))
 have s_r:=QaL (x:=Z n1) (y:=Z d1) (z:=Z n2) (t:=Z d2) n_r;obtain ⟨z0,z1,z2,z3⟩:=Qc4 s_r;have hb:∀ i,w.heap.size≤(⟨w.heap.size,i,none⟩:Addr).block:=fun _=>Nat.le_refl _
 go_wp
 exact bodyPost_ret (v:=.agg #[Z n1,Z d1,Z n2,Z d2]) (by simp [results,Tryz.results124, go_sem,z0,z1,z2,z3]) rfl ⟨by rw [if_pos ⟨hc1,hc2⟩],(((u.setCell (hb 0) _).setCell (hb 1) _).setCell (hb 2) _).setCell (hb 3) _⟩
theorem QfV (a:Addr) (s:ByteArray) (c:Int) (w:World) (hv:Ref a w):Calls Tryz.prog 161 #[Z s,.int .i64 c] w fun e w'=>e=(if c=0 then .returned (Z s) else .panicked (refP a))∧Below w.heap.size w w':=by
 by_cases hc:c=0
 ·subst hc;exact QhI s w
 ·rw [if_neg hc];exact Qpp a s c hc w hv
theorem root_any (a:Addr) (rn rd un s1 s2 sq rest o s5:ByteArray) (c1 c2 c3 c4:Int) (b0 b1:Bool)
  (hM1:Ret 66 #[Z rn,Z un] (.tuple #[Z s1,.int .i64 c1]))
  (hM2:c1=0→Ret 66 #[Z s1,Z un] (.tuple #[Z s2,.int .i64 c2]))
  (hD:c1=0→c2=0→Ret 68 #[Z s2,Z rd] (.tuple #[Z sq,Z rest,.int .i64 c3]))
  (hR:c1=0→c2=0→Ret 203 #[Z sq] (.tuple #[Z o,.int .i64 c4]))
  (hb0:(rest.toList == [48])=b0) (hM5:c1=0→c2=0→c4=0→b0=true→Ret 66 #[Z o,Z o] (.tuple #[Z s5,.int .i64 0])) (hb1:(s5.toList == sq.toList)=b1)
  (w:World) (hv:Ref a w) :
  Calls Tryz.prog 160 #[.agg #[Z rn,Z rd],Z un] w fun e w'=>e=(if c1=0∧c2=0∧c4=0 then .returned (.tuple #[Z o,.bool (b0 && b1)]) else .panicked (refP a))∧Below w.heap.size w w':=by
 have n_x:(w.alloc (O #[Z rn,Z rd] 42)).heap[w.heap.size]? = _:=World.alloc_heap_new w _;have u:=(Below.refl w.heap.size w).alloc Lr (O #[Z rn,Z rd] 42);have C1:Shut _:=⟨hM1⟩;have C2:Shut _:=⟨hM2⟩;have CD:Shut _:=⟨hD⟩;have CR:Shut _:=⟨hR⟩;have C5:Shut _:=⟨hM5⟩;have HV:Shut _:=⟨hv⟩;clear hM1 hM2 hD hR hM5 hv;go_enter Tryz.func160, Tryz.ntmps160;obtain ⟨x0,x1⟩:=Qc2 n_x;go_wp2_with fail;refine (C1.o _).mono ?_;rintro e v1 ⟨rfl,g⟩;replace u:=u.trans (g.mono u.size);replace n_x:=Qac n_x g;clear g x0 x1;have cM:=QfV a s1 c1 v1 (HV.o.keep u);go_wp2_with fail;refine cM.mono ?_;rintro e v2 ⟨rfl,g⟩;replace u:=u.trans (g.mono u.size);replace n_x:=Qac n_x g;clear g cM;by_cases hc1:c1=0
 rotate_left
 ·rw [if_neg hc1];dsimp +zetaDelta only [Exit.then,Exit.inBlock];exact ⟨rfl,by rw [if_neg (fun h=>hc1 h.1)],u⟩
 rw [if_pos hc1];dsimp only;have q2:=C2.o hc1;go_wp2_with fail;refine (q2 _).mono ?_;rintro e v3 ⟨rfl,g⟩;replace u:=u.trans (g.mono u.size);replace n_x:=Qac n_x g;clear g q2;have cM:=QfV a s2 c2 v3 (HV.o.keep u);go_wp2_with fail;refine cM.mono ?_;rintro e v4 ⟨rfl,g⟩;replace u:=u.trans (g.mono u.size);replace n_x:=Qac n_x g;clear g cM;by_cases hc2:c2=0
 rotate_left
 ·rw [if_neg hc2];dsimp +zetaDelta only [Exit.then,Exit.inBlock];exact ⟨rfl,by rw [if_neg (fun h=>hc2 h.2.1)],u⟩
 rw [if_pos hc2];dsimp only;obtain ⟨x0,x1⟩:=Qc2 n_x;have q2:=CD.o hc1 hc2;have q3:=CR.o hc1 hc2;go_wp2_with fail;refine (q2 _).mono ?_;rintro e v5 ⟨rfl,g⟩;replace u:=u.trans (g.mono u.size);clear g q2 x0 x1 n_x;go_wp2_with fail;refine (q3 _).mono ?_;rintro e v6 ⟨rfl,g⟩;replace u:=u.trans (g.mono u.size);clear g q3;have cM:=QfV a o c4 v6 (HV.o.keep u);go_wp2_with fail;refine cM.mono ?_;rintro e v7 ⟨rfl,g⟩;replace u:=u.trans (g.mono u.size);clear g cM;by_cases hc4:c4=0
 rotate_left
 ·rw [if_neg hc4];dsimp +zetaDelta only [Exit.then,Exit.inBlock];exact ⟨rfl,by rw [if_neg (fun h=>hc4 h.2.2)],u⟩
 rw [if_pos hc4];dsimp only;have hall:c1=0∧c2=0∧c4=0:=⟨hc1,hc2,hc4⟩;cases b0 with
 | false =>
  go_wp2_with fail;exact bodyPost_ret (v:=.tuple #[Z o,.bool false]) (by simp [results,Tryz.results160, go_sem]) rfl ⟨rfl,u⟩
 | true =>
 have q5:=C5.o hc1 hc2 hc4 rfl;go_wp2_with fail;refine (q5 _).mono ?_;rintro e v8 ⟨rfl,g⟩;replace u:=u.trans (g.mono u.size);clear g q5;have cM:=QhI s5 v8;go_wp2_with fail;refine cM.mono ?_;rintro e v9 ⟨rfl,g⟩;replace u:=u.trans (g.mono u.size);clear g cM;go_wp2_with fail;exact bodyPost_ret (v:=.tuple #[Z o,.bool b1]) (by simp [results,Tryz.results160, go_sem]) rfl ⟨rfl,u⟩
structure Hs (w W:World) (Bx Bp:Nat) (X:Array Value) (p:Int):Prop where
 x:W.heap[Bx]? = some (.cells X 55 (0,0))
 p:W.heap[Bp]? = some (O #[.int .i64 p] 3 (0,0))
 r:W.heap[w.heap.size]? = some (O #[Z ⟨#[]⟩,Z ⟨#[]⟩,Z ⟨#[]⟩,Z ⟨#[]⟩] 55 (0,0))
 u:Below w.heap.size w W
theorem Hs.below {w W W':World} {Bx Bp:Nat} {X:Array Value} {p:Int} (h:Hs w W Bx Bp X p) (g:Below W.heap.size W W'):Hs w W' Bx Bp X p:=⟨Qac h.x g,Qac h.p g,Qac h.r g,h.u.trans (g.mono h.u.size)⟩
def QgX (a:Addr) (n d un o:ByteArray) (ex bad:Bool):Prop:=∀ W:World,Ref a W→Calls Tryz.prog 160 #[.agg #[Z n,Z d],Z un] W fun e W'=>e=(if bad=false then .returned (.tuple #[Z o,.bool ex]) else .panicked (refP a))∧Below W.heap.size W W'
theorem QhK (a:Addr) (Bp Bx:Nat) (x0 x1 x2 x3 zs un l hi h2 h3 n1 d1 n2 d2:ByteArray) (p:Int) (pok bl bh exl exh:Bool) (hpok:pok=true↔0≤p∧p≤30)
  (hZ:pok=true→Ret 159 #[Z ⟨#[48]⟩,.int .i64 p] (Z zs)) (hzs:zs.size≤1000) (hun:(⟨#[49]⟩:ByteArray)++zs=un)
  (hL:pok=true→QgX a x0 x1 un l exl bl) (hH:pok=true→QgX a x2 x3 un hi exh bh)
  (hA:pok=true→bl=false→bh=false→exh=false→Ret 131 #[Z hi,Z ⟨#[49]⟩] (.tuple #[Z h2,.int .i64 0]))
  (hh3:(if exh then hi else h2)=h3)
  (hM1:pok=true→bl=false→bh=false→Ret 105 #[Z l,Z un] (.tuple #[.agg #[Z n1,Z d1],.int .i64 0]))
  (hM2:pok=true→bl=false→bh=false→Ret 105 #[Z h3,Z un] (.tuple #[.agg #[Z n2,Z d2],.int .i64 0]))
  (w:World) (hv:Ref a w) (hx:w.heap[Bx]? = some (O #[Z x0,Z x1,Z x2,Z x3] 55 (0,0))) (hp:w.heap[Bp]? = some (O #[.int .i64 p] 3 (0,0))) :
  Calls Tryz.prog 158 #[.pointer (some ⟨Bp,0,none⟩),.pointer (some ⟨Bx,0,none⟩)] w fun e w'=>e=(if pok=true∧bl=false∧bh=false then .returned (.agg #[Z n1,Z d1,Z n2,Z d2]) else .panicked (refP a))∧Below w.heap.size w w':=by
 have h_W0:Hs w (w.alloc (O #[Z ⟨#[]⟩,Z ⟨#[]⟩,Z ⟨#[]⟩,Z ⟨#[]⟩] 55)) Bx Bp #[Z x0,Z x1,Z x2,Z x3] p:=⟨lold hx,lold hp,World.alloc_heap_new w _,(Below.refl w.heap.size w).alloc Lr _⟩;have HV:Shut _:=⟨hv⟩;have CZ:Shut _:=⟨hZ⟩;have CL:Shut _:=⟨hL⟩;have CH:Shut _:=⟨hH⟩;have CA:Shut _:=⟨hA⟩;have C1:Shut _:=⟨hM1⟩;have C2:Shut _:=⟨hM2⟩;have HUN:Shut _:=⟨hun⟩;have HH3:Shut _:=⟨hh3⟩;clear hx hp hv hZ hL hH hA hM1 hM2 hun hh3;go_enter Tryz.func158, Tryz.ntmps158;have cp:=Qaa h_W0.p 0 (v:=.int .i64 p) rfl;cases hpk:pok with
 | false =>
  have hbad:¬(0≤p∧p≤30):=fun h=>by rw [hpok.2 h] at hpk;cases hpk
  have hr:=QaV a (w.alloc (O #[Z ⟨#[]⟩,Z ⟨#[]⟩,Z ⟨#[]⟩,Z ⟨#[]⟩] 55)) (HV.o.keep h_W0.u);by_cases hp0:p<0
  ·go_wp2_with fail;refine hr.mono ?_;rintro e w' ⟨rfl,rfl⟩;dsimp +zetaDelta only [Exit.then,Exit.inBlock];exact ⟨rfl,by rw [if_neg (fun h=>by cases h.1)],h_W0.u⟩
  ·have hp1:30<p:=by omega
   go_wp2_with fail;refine hr.mono ?_;rintro e w' ⟨rfl,rfl⟩;dsimp +zetaDelta only [Exit.then,Exit.inBlock];exact ⟨rfl,by rw [if_neg (fun h=>by cases h.1)],h_W0.u⟩
 | true =>
 obtain ⟨hp0,hp1⟩:=hpok.1 hpk;have hp2:¬ p<0:=by omega
 have hp3:¬ 30<p:=by omega
 have hr:=Qbb (w.alloc (O #[Z ⟨#[]⟩,Z ⟨#[]⟩,Z ⟨#[]⟩,Z ⟨#[]⟩] 55));go_wp2_with fail;refine hr.mono ?_;rintro e w' ⟨rfl,rfl⟩;clear hr;have qz:=CZ.o hpk;go_wp2_with fail;refine (qz _).mono ?_;rintro e v1 ⟨rfl,g⟩;have h_1:=h_W0.below g;clear g qz cp h_W0;obtain ⟨cx0,cx1,cx2,cx3⟩:=Qc4 h_1.x;have hcs:¬((⟨#[49]⟩:ByteArray).size+zs.size > 9223372036854775807):=by show ¬(1+zs.size > _);omega
 have hcs2:¬(9223372036854775807<(⟨#[49]⟩:ByteArray).size+zs.size):=hcs;have hun:=HUN.o;have q:=CL.o hpk _ (HV.o.keep h_1.u);go_wp2_with fail;refine q.mono ?_;rintro e v2 ⟨rfl,g⟩;have h_2:=h_1.below g;clear g q cx0 cx1 cx2 cx3;cases hbl:bl with
 | true =>
  rw [if_neg (by decide)];dsimp +zetaDelta only [Exit.then,Exit.inBlock];exact ⟨rfl,by rw [if_neg (fun h=>absurd (hbl.symm.trans h.2.1) (by decide))],h_2.u⟩
 | false =>
 rw [if_pos rfl];dsimp only;obtain ⟨cx0,cx1,cx2,cx3⟩:=Qc4 h_2.x;have q:=CH.o hpk _ (HV.o.keep h_2.u);go_wp2_with fail;refine q.mono ?_;rintro e v3 ⟨rfl,g⟩;have h_3:=h_2.below g;clear g q cx0 cx1 cx2 cx3;cases hbh:bh with
 | true =>
  rw [if_neg (by decide)];dsimp +zetaDelta only [Exit.then,Exit.inBlock];exact ⟨rfl,by rw [if_neg (fun h=>absurd (hbh.symm.trans h.2.2) (by decide))],h_3.u⟩
 | false =>
 rw [if_pos rfl];dsimp only;clear hcs hcs2;have q1:=C1.o hpk hbl hbh;have q2:=C2.o hpk hbl hbh;have hall:pok=true∧bl=false∧bh=false:=⟨hpk,hbl,hbh⟩;have hhx:=HH3.o;cases hexh:exh with
 | false =>
  have qA:=CA.o hpk hbl hbh hexh;rw [hexh,if_neg (by decide)] at hhx;subst hhx;go_wp2_with fail;refine (qA _).mono ?_;rintro e v4 ⟨rfl,g⟩;have h_4:=h_3.below g;clear g qA;have cM:=QhI h2 v4;go_wp2_with fail;refine cM.mono ?_;rintro e v5 ⟨rfl,g⟩;have h_5:=h_4.below g;clear g cM h_4 h_3;go_wp2_with fail;refine (q1 _).mono ?_;rintro e v6 ⟨rfl,g⟩;have h_6:=h_5.below g;clear g;have cM:=Qel n1 d1 v6;go_wp2_with fail;refine cM.mono ?_;rintro e v7 ⟨rfl,g⟩;have h_7:=h_6.below g;clear g cM;go_wp2_with fail;refine (q2 _).mono ?_;rintro e v8 ⟨rfl,g⟩;have h_8:=h_7.below g;clear g;have cM:=Qel n2 d2 v8;go_wp2_with fail;refine cM.mono ?_;rintro e v9 ⟨rfl,g⟩;have h_9:=h_8.below g;clear g cM;have s_r:=QaL (x:=Z n1) (y:=Z d1) (z:=Z n2) (t:=Z d2) h_9.r;obtain ⟨z0,z1,z2,z3⟩:=Qc4 s_r;have k0:=Qaa h_9.r 0 (v:=Z ⟨#[]⟩) rfl;have f0:=Qad h_9.r 0;have k1:=Qaa h_9.r 1 (v:=Z ⟨#[]⟩) rfl;have f1:=Qad h_9.r 1;have k2:=Qaa h_9.r 2 (v:=Z ⟨#[]⟩) rfl;have f2:=Qad h_9.r 2;have k3:=Qaa h_9.r 3 (v:=Z ⟨#[]⟩) rfl;have f3:=Qad h_9.r 3;have hb:∀ i,w.heap.size≤(⟨w.heap.size,i,none⟩:Addr).block:=fun _=>Nat.le_refl _;go_wp2_with fail;exact bodyPost_ret (v:=.agg #[Z n1,Z d1,Z n2,Z d2]) (by simp [results,Tryz.results158, go_sem,z0,z1,z2,z3]) rfl ⟨by first | rfl | rw [if_pos hall],(((h_9.u.setCell (hb 0) _).setCell (hb 1) _).setCell (hb 2) _).setCell (hb 3) _⟩
 | true =>
  rw [hexh,if_pos rfl] at hhx;subst hhx;go_wp2_with fail;refine (q1 _).mono ?_;rintro e v6 ⟨rfl,g⟩;have h_6:=h_3.below g;clear g;have cM:=Qel n1 d1 v6;go_wp2_with fail;refine cM.mono ?_;rintro e v7 ⟨rfl,g⟩;have h_7:=h_6.below g;clear g cM;go_wp2_with fail;refine (q2 _).mono ?_;rintro e v8 ⟨rfl,g⟩;have h_8:=h_7.below g;clear g;have cM:=Qel n2 d2 v8;go_wp2_with fail;refine cM.mono ?_;rintro e v9 ⟨rfl,g⟩;have h_9:=h_8.below g;clear g cM;have s_r:=QaL (x:=Z n1) (y:=Z d1) (z:=Z n2) (t:=Z d2) h_9.r;obtain ⟨z0,z1,z2,z3⟩:=Qc4 s_r;have k0:=Qaa h_9.r 0 (v:=Z ⟨#[]⟩) rfl;have f0:=Qad h_9.r 0;have k1:=Qaa h_9.r 1 (v:=Z ⟨#[]⟩) rfl;have f1:=Qad h_9.r 1;have k2:=Qaa h_9.r 2 (v:=Z ⟨#[]⟩) rfl;have f2:=Qad h_9.r 2;have k3:=Qaa h_9.r 3 (v:=Z ⟨#[]⟩) rfl;have f3:=Qad h_9.r 3;have hb:∀ i,w.heap.size≤(⟨w.heap.size,i,none⟩:Addr).block:=fun _=>Nat.le_refl _;go_wp2_with fail;exact bodyPost_ret (v:=.agg #[Z n1,Z d1,Z n2,Z d2]) (by simp [results,Tryz.results158, go_sem,z0,z1,z2,z3]) rfl ⟨by first | rfl | rw [if_pos hall],(((h_9.u.setCell (hb 0) _).setCell (hb 1) _).setCell (hb 2) _).setCell (hb 3) _⟩
end En
end
end Go.Proofs.YtadcmepaniiciaaGreatDoor
