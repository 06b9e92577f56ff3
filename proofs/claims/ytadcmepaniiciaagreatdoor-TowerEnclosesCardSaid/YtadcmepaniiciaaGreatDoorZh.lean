import Derived.Test.YtadcmepaniiciaaGreatDoorCards
import Derived.Test.YtadcmepaniiciaaGreatDoorTie
import Derived.ProofKit
import Derived.OpenShut
import Derived.Deep.DeepHandedRow
import Derived.Stop.LaidErr
import Derived.Test.YtadcmepaniiciaaGreatDoorZg
import Derived.Deep.QuietTactic
import Derived.Lib.AppendZerosOnto
import Derived.Lib.Walk
import Derived.Lib.SliceRun
set_option maxRecDepth 1000000
set_option maxHeartbeats 40000000
open Go.Value renaming string→J
open Go.Obj renaming cells→Jc
namespace Go.Proofs.YtadcmepaniiciaaGreatDoor
theorem Mm0 {α:Type} {a0:α} {l:List α}:a0∈a0::l:=.head _
theorem Mm1 {α:Type} {a0 a1:α} {l:List α}:a1∈a0::a1::l:=.tail _ (.head _)
theorem Mm2 {α:Type} {a0 a1 a2:α} {l:List α}:a2∈a0::a1::a2::l:=.tail _ (.tail _ (.head _))
theorem Mm3 {α:Type} {a0 a1 a2 a3:α} {l:List α}:a3∈a0::a1::a2::a3::l:=.tail _ (.tail _ (.tail _ (.head _)))
theorem Mm4 {α:Type} {a0 a1 a2 a3 a4:α} {l:List α}:a4∈a0::a1::a2::a3::a4::l:=.tail _ (.tail _ (.tail _ (.tail _ (.head _))))
theorem Mm5 {α:Type} {a0 a1 a2 a3 a4 a5:α} {l:List α}:a5∈a0::a1::a2::a3::a4::a5::l:=.tail _ (.tail _ (.tail _ (.tail _ (.tail _ (.head _)))))
theorem Mm6 {α:Type} {a0 a1 a2 a3 a4 a5 a6:α} {l:List α}:a6∈a0::a1::a2::a3::a4::a5::a6::l:=.tail _ (.tail _ (.tail _ (.tail _ (.tail _ (.tail _ (.head _))))))
theorem Mm7 {α:Type} {a0 a1 a2 a3 a4 a5 a6 a7:α} {l:List α}:a7∈a0::a1::a2::a3::a4::a5::a6::a7::l:=.tail _ (.tail _ (.tail _ (.tail _ (.tail _ (.tail _ (.tail _ (.head _)))))))
theorem Mm8 {α:Type} {a0 a1 a2 a3 a4 a5 a6 a7 a8:α} {l:List α}:a8∈a0::a1::a2::a3::a4::a5::a6::a7::a8::l:=.tail _ (.tail _ (.tail _ (.tail _ (.tail _ (.tail _ (.tail _ (.tail _ (.head _))))))))
theorem Mm9 {α:Type} {a0 a1 a2 a3 a4 a5 a6 a7 a8 a9:α} {l:List α}:a9∈a0::a1::a2::a3::a4::a5::a6::a7::a8::a9::l:=.tail _ (.tail _ (.tail _ (.tail _ (.tail _ (.tail _ (.tail _ (.tail _ (.tail _ (.head _)))))))))
theorem Mm10 {α:Type} {a0 a1 a2 a3 a4 a5 a6 a7 a8 a9 a10:α} {l:List α}:a10∈a0::a1::a2::a3::a4::a5::a6::a7::a8::a9::a10::l:=.tail _ (.tail _ (.tail _ (.tail _ (.tail _ (.tail _ (.tail _ (.tail _ (.tail _ (.tail _ (.head _))))))))))
theorem Mm11 {α:Type} {a0 a1 a2 a3 a4 a5 a6 a7 a8 a9 a10 a11:α} {l:List α}:a11∈a0::a1::a2::a3::a4::a5::a6::a7::a8::a9::a10::a11::l:=.tail _ (.tail _ (.tail _ (.tail _ (.tail _ (.tail _ (.tail _ (.tail _ (.tail _ (.tail _ (.tail _ (.head _)))))))))))
theorem Mm12 {α:Type} {a0 a1 a2 a3 a4 a5 a6 a7 a8 a9 a10 a11 a12:α} {l:List α}:a12∈a0::a1::a2::a3::a4::a5::a6::a7::a8::a9::a10::a11::a12::l:=.tail _ (.tail _ (.tail _ (.tail _ (.tail _ (.tail _ (.tail _ (.tail _ (.tail _ (.tail _ (.tail _ (.tail _ (.head _))))))))))))
theorem Mm13 {α:Type} {a0 a1 a2 a3 a4 a5 a6 a7 a8 a9 a10 a11 a12 a13:α} {l:List α}:a13∈a0::a1::a2::a3::a4::a5::a6::a7::a8::a9::a10::a11::a12::a13::l:=.tail _ (.tail _ (.tail _ (.tail _ (.tail _ (.tail _ (.tail _ (.tail _ (.tail _ (.tail _ (.tail _ (.tail _ (.tail _ (.head _)))))))))))))
theorem mkf:∀ (fn:Fn) (first cap:Array Value) (w:World),(Instr.makeFunc fn first cap).run Tryz.prog w = .ok (.func fn first cap) w:=fun _ _ _ _=>rfl
section
namespace Tw
open Go.RowKit Go.Extern.Stop Go.Stop Go.Extern
open En
abbrev twV:Value:=.iface 32 (.int .i64 60)
abbrev twP:List PanicEntry := [{v:=twV,recovered:=false}]
theorem Qbb (w:World):Calls Tryz.prog 49 #[.bool false] w fun e w'=>e = .returned (.tuple #[])∧w'=w:=by
 go_enter Tryz.func49, Tryz.ntmps49;go_wp2
 go_end0
 exact ⟨rfl,rfl⟩
theorem QaV (w:World):Calls Tryz.prog 49 #[.bool true] w fun e w'=>e = .panicked twP∧w'=w:=by
 go_enter Tryz.func49, Tryz.ntmps49;go_wp2;exact ⟨rfl,rfl,rfl⟩
theorem Qel (n d:ByteArray) (w:World):Calls Tryz.prog 140 #[.agg #[J n,J d],.int .i64 0] w fun e w'=>e = .returned (.agg #[J n,J d])∧Below w.heap.size w w':=by
 have hr:=Qbb;go_enter Tryz.func140, Tryz.ntmps140;go_wp2_with (go_at_call 49; refine (hr _).mono ?_;rintro e w' ⟨rfl,rfl⟩);have n_r:=En.QaP w (Jc #[J n,J d] 42) (Jc #[J n,J d] 42);have u:=((Below.refl w.heap.size w).alloc Lr (Jc #[J n,J d] 42)).alloc (by simp) (Jc #[J n,J d] 42);have z0:=Qaa n_r 0 (v:=J n) rfl;have z1:=Qaa n_r 1 (v:=J d) rfl;exact bodyPost_ret (v:=.agg #[J n,J d]) (by simp [results,Tryz.results140, go_sem]) rfl ⟨rfl,u⟩
theorem QjC (n d:ByteArray) (c:Int) (hc:c≠0) (w:World):Calls Tryz.prog 140 #[.agg #[J n,J d],.int .i64 c] w fun e w'=>e = .panicked twP∧Below w.heap.size w w':=by
 have hb:(c != 0)=true:=by simp [hc]
 go_enter Tryz.func140, Tryz.ntmps140;have u:=((Below.refl w.heap.size w).alloc Lr (Jc #[J n,J d] 42)).alloc (by simp) (Jc #[J ⟨#[]⟩,J ⟨#[]⟩] 42);have hr:=QaV ((w.alloc (Jc #[J n,J d] 42)).alloc (Jc #[J ⟨#[]⟩,J ⟨#[]⟩] 42));go_wp2_with (go_at_call 49; refine hr.mono ?_;rintro e w' ⟨rfl,rfl⟩);exact ⟨rfl,rfl,u⟩
theorem Qdo (n d:ByteArray) (c:Int) (w:World):Calls Tryz.prog 140 #[.agg #[J n,J d],.int .i64 c] w fun e w'=>e=(if c=0 then .returned (.agg #[J n,J d]) else .panicked twP)∧Below w.heap.size w w':=by
 by_cases hc:c=0
 ·subst hc;rw [if_pos rfl];exact Qel n d w
 ·rw [if_neg hc];exact QjC n d c hc w
structure Gl (W:World):Prop where
 z0:W.cell? ⟨0, 0,none⟩=some (J ⟨#[48]⟩)
 z1:W.cell? ⟨0, 1,none⟩=some (J ⟨#[49]⟩)
 o0:W.cell? ⟨1, 0,none⟩=some (J ⟨#[49]⟩)
 o1:W.cell? ⟨1, 1,none⟩=some (J ⟨#[49]⟩)
theorem Qae {W W':World} {a:Addr} {v:Value} (h:W.cell? a=some v) (hB:Below W.heap.size W W'):W'.cell? a=some v:=(hB.cell (p:=a) (World.block_lt_of_cell? W _ h)).trans h
theorem Gl.keep {W W':World} (h:Gl W) (hB:Below W.heap.size W W'):Gl W':=⟨Qae h.z0 hB,Qae h.z1 hB,Qae h.o0 hB,Qae h.o1 hB⟩
structure Cl (W:World) (b o n:Nat) (p:Nat→P2):Prop where
 at_:∀ i,i<n→W.cell? ⟨b,o+i*2,none⟩=some (J (p i).1)∧W.cell? ⟨b,o+i*2+1,none⟩=some (J (p i).2)
theorem Cl.keep {W W':World} {b o n:Nat} {p:Nat→P2} (h:Cl W b o n p) (hB:Below W.heap.size W W'):Cl W' b o n p:=⟨fun i hi=>⟨Qae (h.at_ i hi).1 hB,Qae (h.at_ i hi).2 hB⟩⟩
theorem Cl.lt {W:World} {b o n:Nat} {p:Nat→P2} (h:Cl W b o n p) (hn:0<n):b<W.heap.size:=World.block_lt_of_cell? W _ (h.at_ 0 hn).1
structure Own (W:World) (b n:Nat) (p:Nat→P2) (j:Nat):Prop where
 ex:∃ cur:Array Value,W.heap[b]? = some (.cells cur 42 (0,0))∧cur.size=n*2∧∀ i,i<j→cur[i*2]? = some (J (p i).1)∧cur[i*2+1]? = some (J (p i).2)
theorem Own.keep {W W':World} {b n j:Nat} {p:Nat→P2} (h:Own W b n p j) (hB:Below W.heap.size W W'):Own W' b n p j:=by
 obtain ⟨cur,h1,h2,h3⟩:=h.ex;exact ⟨cur,Qac h1 hB,h2,h3⟩
theorem Own.cell {W:World} {b n j:Nat} {p:Nat→P2} (h:Own W b n p j) {i:Nat} (hi:i<n*2):∃ v,W.cell? ⟨b,i,none⟩=some v:=by
 obtain ⟨cur,h1,h2,h3⟩:=h.ex;exact ⟨cur[i],Qaa h1 i (Array.getElem?_eq_getElem (by omega))⟩
theorem Own.free {W:World} {b n j:Nat} {p:Nat→P2} (h:Own W b n p j) (i:Nat):W.frozen? ⟨b,i,none⟩=false:=by
 obtain ⟨cur,h1,h2,h3⟩:=h.ex;exact Qad h1 i
theorem Qbo {W:World} {b:Nat} {cur:Array Value} {T:TypeId} (h:W.heap[b]? = some (.cells cur T (0,0))) (i:Nat) (v:Value):(W.setCell ⟨b,i,none⟩ v).heap[b]? = some (.cells (cur.setIfInBounds i v) T (0,0)):=by
 obtain ⟨hl,hg⟩:=Array.getElem?_eq_some_iff.1 h;simp [World.setCell,hl,Array.getElem_modify,hg]
theorem Own.set {W:World} {b n j:Nat} {p:Nat→P2} (h:Own W b n p j) (hj:j<n):Own ((W.setCell ⟨b,j*2,none⟩ (J (p j).1)).setCell ⟨b,j*2+1,none⟩ (J (p j).2)) b n p (j+1):=by
 obtain ⟨cur,h1,h2,h3⟩:=h.ex;refine ⟨_,Qbo (Qbo h1 _ _) _ _,by simp [h2],fun i hi => ?_⟩;rcases Nat.lt_or_ge i j with h4 | h4
 ·rw [Array.getElem?_setIfInBounds_ne (by omega),Array.getElem?_setIfInBounds_ne (by omega),Array.getElem?_setIfInBounds_ne (by omega),Array.getElem?_setIfInBounds_ne (by omega)];exact h3 i h4
 ·obtain rfl:i=j:=by omega
  constructor
  ·rw [Array.getElem?_setIfInBounds_ne (by omega),Array.getElem?_setIfInBounds_self_of_lt (by omega)]
  ·rw [Array.getElem?_setIfInBounds_self_of_lt (by simp;omega)]
theorem Own.cl {W:World} {b n:Nat} {p:Nat→P2} (h:Own W b n p n):Cl W b 0 n p:=by
 obtain ⟨cur,h1,h2,h3⟩:=h.ex;exact ⟨fun i hi=>⟨Qaa h1 _ (by rw [Nat.zero_add];exact (h3 i hi).1),Qaa h1 _ (by rw [Nat.zero_add];exact (h3 i hi).2)⟩⟩
def made (n:Nat):Obj:=.cells (madeCells (Value.agg #[J ⟨#[]⟩,J ⟨#[]⟩]).cells (n*2)) 42
theorem QkY (n:Nat) (hn:n≤1000) (W:World):(Instr.makeSlice 67 (.int .i64 (n:Int)) (.int .i64 (n:Int))).run Tryz.prog W = .ok (.slice (some ⟨W.heap.size,0,none⟩) n n) (W.alloc (made n)):=by
 obtain ⟨i0,hinf,hz⟩:=Option.map_eq_some_iff.1 Qem;have hz0:i0.zero=some (.agg #[J ⟨#[]⟩,J ⟨#[]⟩]):=congrArg (fun q=>q.1) hz;have hz1:i0.size=2:=congrArg (fun q=>q.2.1) hz;have hz2:i0.bytes=32:=congrArg (fun q=>q.2.2) hz;have:=run_makeSlice (P:=Tryz.prog) (w:=W) 67 42 i0 _ Tryz.underlying67 hinf hz0 .i64 .i64 (n:Int) (n:Int) (by omega) (by omega) (by rw [hz1];simp;omega) (by rw [hz2];omega) (by omega);rw [hz1] at this;simpa [made] using this
theorem Own.new (n:Nat) (W:World) (p:Nat→P2):Own (W.alloc (made n)) W.heap.size n p 0 :=
 ⟨_,World.alloc_heap_new W _,size_madeCells _ _,fun i hi=>by omega⟩
end Tw
end
section
namespace Tw
open Go.ChangeShapes Go.WideShapes Go.ChangeAt Go.RowKit
open Go.Extern.Stop Go.Stop Go.Extern
open En
theorem own:ownKnob Tryz.prog.godebug=none:=by kernel_rfl
theorem gE:Tryz.prog.globalNamed "workpiece/enclosure.errRefused" = some 2 := by kernel_rfl
theorem gET:(Tryz.prog.globals[2]?).map (·.type)=some 144 := by kernel_rfl
theorem gZ:Tryz.prog.globalNamed "workpiece/tower.zero" = some 0 := by kernel_rfl
theorem gZT:(Tryz.prog.globals[0]?).map (·.type)=some 42 := by kernel_rfl
theorem gO:Tryz.prog.globalNamed "workpiece/tower.one" = some 1 := by kernel_rfl
theorem gOT:(Tryz.prog.globals[1]?).map (·.type)=some 42 := by kernel_rfl
theorem QuD:Tryz.prog.cellsOf 280 = 1:=by kernel_rfl
theorem QeS:Tryz.prog.cellsOf 9 = 1:=by kernel_rfl
theorem QkZ:Tryz.prog.cellsOf 42 = 2:=by kernel_rfl
theorem QuE : "*" ++ "errors.errorString" = "*errors.errorString" := by decide
theorem rowE (u:TypeId) (h:Tryz.prog.typeName? 3 u=some "*errors.errorString"):u = 258 :=
 typeName_ptr_named (nm := "errors.errorString") (by rw [QuE];kernel_rfl) (by kernel_rfl) (by decide) u (by rw [QuE];exact h)
theorem Qje {P:Program} {W:World} {x:String×DataW Unit} {rest:List (String×DataW Unit)} (h:laidMet P (x :: rest) W):laidMet P rest W:=by
 obtain ⟨ps,⟨g,t,cs,fuel,p,q,hg,ht,hv,hd,hr,rfl⟩,hn,hall⟩:=h;exact ⟨q,hr,(List.nodup_append.1 hn).2.1,fun b off hm=>hall b off (List.mem_append_right _ hm)⟩
section
variable {H:Type} {enc:TypeId×Value→H} {P:Program} {w:World} {base:Nat} {spare:Nat→Bool} {held:Bool}
theorem Qoy {t:TypeId} (ht:P.underlying t=some .string) {fuel:Nat} {c:Value} {x:DataW H×List MemPlace} (h:DataW.trod enc P w base spare held fuel t [c]=some x):∃ s:ByteArray,c=J s∧x=(.lit (.string s.data.toList), []):=by
 cases fuel with
 | zero=>simp [DataW.trod] at h
 | succ n =>
  unfold DataW.trod at h;rw [ht] at h;cases c <;> simp at h;exact ⟨_,rfl,h.2.symm⟩
end
theorem Qla {P:Program} {n:String} {s0 s1:List UInt8} {r:List (String×DataW Unit)} {W:World} {g:Nat} {t:TypeId} {f0 f1:Field}
  (h:laidMet P ((n,.agg [.lit (.string s0),.lit (.string s1)]) :: r) W) (hg:P.globalNamed n=some g) (ht:(P.globals[g]?).map (·.type)=some t)
  (hs:P.underlying t=some (.struct #[f0,f1])) (e0:P.underlying f0.type=some .string) (e1:P.underlying f1.type=some .string) (o0:f0.offset=0) (o1:f1.offset=1) (c0:P.cellsOf f0.type=1) (c1:P.cellsOf f1.type=1) (hn:P.cellsOf t=2) :
  W.cell? ⟨g,0,none⟩=some (J ⟨s0.toArray⟩)∧W.cell? ⟨g,1,none⟩=some (J ⟨s1.toArray⟩):=by
 obtain ⟨ps,⟨g0,t0,cs0,fu,p0,q0,hg0,ht0,hv0,hd0,_,_⟩,_⟩:=h;obtain rfl:=Option.some.inj (hg.symm.trans hg0);obtain rfl:=Option.some.inj (ht.symm.trans ht0);obtain ⟨l0⟩:=cs0;obtain ⟨y0,y1,m,hx,hl,k0,k1⟩:=trod_struct2 hs hd0;rw [hn] at hl
 match l0,hl with
 | [a,b],_ =>
  rw [o0,c0] at k0;rw [o1,c1] at k1;obtain ⟨a,rfl,ha⟩:=Qoy e0 (by simpa using k0);obtain ⟨b,rfl,hb⟩:=Qoy e1 (by simpa using k1);have hx1:=congrArg Prod.fst hx;simp [ha,hb] at hx1;have q0:(⟨s0.toArray⟩:ByteArray)=a:=by rw [hx1.1]
  have q1:(⟨s1.toArray⟩:ByteArray)=b:=by rw [hx1.2]
  have z0:=World.var?_cell hg0 hv0 0;have z1:=World.var?_cell hg0 hv0 1;rw [q0,q1];exact ⟨by simpa using z0,by simpa using z1⟩
abbrev Qka:List (String×DataW Unit) := [("workpiece/enclosure.errRefused", Rows.laid_workpiece_enclosure_errRefused),("workpiece/tower.zero", Rows.laid_workpiece_tower_zero),("workpiece/tower.one", Rows.laid_workpiece_tower_one)]
theorem Qrt {W:World} (h:laidMetH Tryz.prog Qka W):∃ a,Ref a W:=by
 obtain ⟨a0,s0,hv0,hc0,hs0,hz0⟩:=laid_sentinel (r := [("workpiece/tower.zero", Rows.laid_workpiece_tower_zero),("workpiece/tower.one", Rows.laid_workpiece_tower_one)]) h gE gET Tryz.underlying144 rowE Tryz.underlying258 Tryz.underlying280 rfl rfl Tryz.underlying9 QuD QeS;have h1:=World.var?_cell gE hv0 0;simp at h1;exact ⟨a0,h1⟩
theorem QuF {W:World} (h:laidMetH Tryz.prog Qka W):Gl W:=by
 have h1:laidMet Tryz.prog [("workpiece/tower.zero", Rows.laid_workpiece_tower_zero),("workpiece/tower.one", Rows.laid_workpiece_tower_one)] W:=Qje h;have z:=Qla (r := [("workpiece/tower.one", Rows.laid_workpiece_tower_one)]) h1 gZ gZT Tryz.underlying42 Tryz.underlying9 Tryz.underlying9 rfl rfl QeS QeS QkZ;have o:=Qla (r := []) (Qje h1) gO gOT Tryz.underlying42 Tryz.underlying9 Tryz.underlying9 rfl rfl QeS QeS QkZ;exact ⟨z.1,z.2,o.1,o.2⟩
abbrev refS:ByteArray:={data:=#[101,110,99,108,111,115,117,114,101,58,32,114,101,102,117,115,101,100]}
noncomputable def low:Nat:=(World.holding Tryz.prog default ⟨#[],#[], []⟩).heap.size
def QgH (c:Array Value):Obj→Obj
 | .cells _ t frozen => .cells c t frozen
 | o=>o
noncomputable def QdM (os:Os):World :=
 let w0:=World.holding Tryz.prog os ⟨#[Jc #[J refS] 280],#[], []⟩
 {w0 with heap:=((w0.heap.modify 2 (QgH #[.iface 258 (.pointer (some ⟨low,0,none⟩))])).modify 0 (QgH #[J ⟨#[48]⟩,J ⟨#[49]⟩])).modify 1 (QgH #[J ⟨#[49]⟩,J ⟨#[49]⟩])}
theorem Qlb (os:Os) (args:Array Value):laidMet Tryz.prog Qka ((QdM os).forCall (fun _ _=>0) ⟨#[],args, []⟩).memory :=
 laidMet_of_run (ps := [.cell 2 0,.cell low 0,.cell 0 0,.cell 0 1,.cell 1 0,.cell 1 1]) 8 (by kernel_rfl) (by kernel_rfl) (by kernel_rfl)
end Tw
end
section
namespace En
open Go.RowKit Go.Extern.Stop Go.Stop Go.Extern
open Go.Proofs.YtadcmepaniiciaaGreatDoor.Nm Go.Proofs.YtadcmepaniiciaaGreatDoor.Rt
def FourR (f:Rat→Rat→Option Rat) (p1 q1 p2 q2:Rat) (o:Option (Rat×Rat)):Prop :=
 ((∃ u v,(u=p1∨u=q1)∧(v=p2∨v=q2)∧f u v=none)∧o=none) ∨
 (∃ x y x' y' lo hi,(x=p1∨x=q1)∧(y=p2∨y=q2)∧(x'=p1∨x'=q1)∧(y'=p2∨y'=q2)∧f x y=some lo∧f x' y'=some hi∧(∀ u v,(u=p1∨u=q1)→(v=p2∨v=q2)→∃ r,f u v=some r∧lo≤r∧r≤hi)∧o=some (lo,hi))
theorem FourR.one {f:Rat→Rat→Option Rat} {p1 q1 p2 q2:Rat} {o o':Option (Rat×Rat)} (h:FourR f p1 q1 p2 q2 o) (h':FourR f p1 q1 p2 q2 o'):o=o':=by
 rcases h with ⟨⟨u,v,hu,hv,e⟩,rfl⟩ | ⟨x,y,x',y',lo,hi,hx,hy,hx',hy',e1,e2,hall,rfl⟩
 ·rcases h' with ⟨_,rfl⟩ | ⟨_,_,_,_,_,_,_,_,_,_,_,_,hall,_⟩
  ·rfl
  ·obtain ⟨r,er,_⟩:=hall u v hu hv;rw [e] at er;cases er
 ·rcases h' with ⟨⟨u,v,hu,hv,e⟩,rfl⟩ | ⟨z,t,z',t',lo',hi',hz,ht,hz',ht',e3,e4,hall',rfl⟩
  ·obtain ⟨r,er,_⟩:=hall u v hu hv;rw [e] at er;cases er
  ·obtain ⟨r1,a1,b1,_⟩:=hall z t hz ht;obtain ⟨r2,a2,_,b2⟩:=hall z' t' hz' ht';obtain ⟨r3,a3,b3,_⟩:=hall' x y hx hy;obtain ⟨r4,a4,_,b4⟩:=hall' x' y' hx' hy';rw [e3] at a1;injection a1 with a1;subst a1
   rw [e4] at a2;injection a2 with a2;subst a2
   rw [e1] at a3;injection a3 with a3;subst a3
   rw [e2] at a4;injection a4 with a4;subst a4
   rw [Rat.le_antisymm b1 b3,Rat.le_antisymm b4 b2]
theorem QsW {o:Option Rat} (h:cd o=0):∃ r,o=some r:=by
 cases o with
 | none=>exact absurd h (by decide)
 | some r=>exact ⟨r,rfl⟩
theorem QsX {o:Option Rat}:cd o=0↔o≠none:=by
 cases o with
 | none=>exact ⟨fun h=>absurd h (by decide),fun h=>absurd rfl h⟩
 | some r=>exact ⟨fun _ h=>(by cases h),fun _=>rfl⟩
theorem Qoz (a:Addr) (k:Nat) (hk:Enters Tryz.prog k) (p1 q1 p2 q2:Rat) (f:Rat→Rat→Option Rat)
  (hO:∀ u v,(u=p1∨u=q1)→(v=p2∨v=q2)→Ret k #[frc (pq u).1 (pq u).2,frc (pq v).1 (pq v).2] (resO (f u v))) (hf:∀ u v r,f u v=some r→FitQ r)
  (hbad:∃ u v,(u=p1∨u=q1)∧(v=p2∨v=q2)∧f u v=none) (W:World) (hW:Ref a W) :
  Calls Tryz.prog 163 #[.func (.func k) #[] #[],iq p1 q1,iq p2 q2] W fun e W'=>e = .panicked (refP a)∧Below W.heap.size W W':=by
 obtain ⟨n,hn⟩:∃ n,n=ne_ p1 q1:=⟨_,rfl⟩;obtain ⟨m,hm⟩:∃ m,m=ne_ p2 q2:=⟨_,rfl⟩;have bn:=ne_b p1 q1;have bm:=ne_b p2 q2;rw [←hn] at bn;rw [←hm] at bm;have hE:=QkU p1 q1;have hD:=QkU p2 q2;rw [←hn] at hE;rw [←hm] at hD
 have c:=Qfq a k hk _ _ _ _ _ _ _ _ n m bn bm _ _ hE hD (fun i j=>(sn (f (en p1 q1 i) (en p2 q2 j)),sd (f (en p1 q1 i) (en p2 q2 j)))) (fun i j=>cd (f (en p1 q1 i) (en p2 q2 j))) (fun i j _ _=>hO _ _ (QfA p1 q1 i) (QfA p2 q2 j)) PQ AL AG Qro Qrp
  (fun i j _ _ h=>by
   obtain ⟨r,hr⟩:=QsW h;refine ⟨r,hf _ _ _ hr, ?_⟩;show (sn (f (en p1 q1 i) (en p2 q2 j)),sd (f (en p1 q1 i) (en p2 q2 j)))=pq r;rw [hr];rfl)
  (fun t=>(sn (f (en p1 q1 (t / m)) (en p2 q2 (t % m))),sd (f (en p1 q1 (t / m)) (en p2 q2 (t % m))))) (fun i j hj=>by show (_,_)=(_,_);rw [(Qjb i j m hj).1,(Qjb i j m hj).2]) true
  ⟨fun h=>(by cases h),fun h=>by
   obtain ⟨u,v,hu,hv,e⟩:=hbad;obtain ⟨iu,hiu,rfl⟩:=QkV hu;obtain ⟨iv,hiv,rfl⟩:=QkV hv;rw [←hn] at hiu;rw [←hm] at hiv;exact absurd e (QsX.1 (h iu iv hiu hiv))⟩ W hW
 rw [if_neg (by decide)] at c;exact c
theorem QvO (a:Addr) {p1 q1 p2 q2:Rat} (h1:FitQ p1) (h2:FitQ q1) (h3:FitQ p2) (h4:FitQ q2) (o1:p1≤q1) (o2:p2≤q2):∃ o,FourR mulQ p1 q1 p2 q2 o∧IC a 123 #[iq p1 q1,iq p2 q2] o:=by
 have hu:∀ u,(u=p1∨u=q1)→FitQ u:=fun u h=>by rcases h with rfl | rfl <;> assumption
 have hv:∀ v,(v=p2∨v=q2)→FitQ v:=fun u h=>by rcases h with rfl | rfl <;> assumption
 by_cases hbad:∃ u v,(u=p1∨u=q1)∧(v=p2∨v=q2)∧mulQ u v=none
 ·refine ⟨none,.inl ⟨hbad,rfl⟩,fun W hW => ?_⟩;have v1:=QcE h1 h2;have v2:=QcE h3 h4;rw [decide_eq_true o1] at v1;rw [decide_eq_true o2] at v2;exact QmR a _ _ _ _ _ _ _ _ ⟨#[]⟩ ⟨#[]⟩ ⟨#[]⟩ ⟨#[]⟩ true true true (fun _ _ Bx By V hv' hx hy=>(QmX a Bx By _ _ _ _ _ _ _ _ _ _ _ _ true (fun V' hV'=>Qoz a 95 (enters_of Tryz.func95 (by kernel_rfl) rfl) p1 q1 p2 q2 mulQ (fun u v h5 h6 W=>mulO (.some (hu u h5)) (.some (hv v h6)) W) (fun u v r h=>FitQ.mulQ h) hbad V' hV') V hv' hx hy)) v1 v2 W hW
 ·have hall:∀ u v,(u=p1∨u=q1)→(v=p2∨v=q2)→mulQ u v=some (u*v):=fun u v h5 h6=>by
   cases e:mulQ u v with
   | none=>exact absurd ⟨u,v,h5,h6,e⟩ hbad
   | some r=>rw [QjX e]
  obtain ⟨x,y,x',y',hx,hy,hx',hy',hb,hc⟩:=QvN a h1 h2 h3 h4 o1 o2 hall;exact ⟨_,.inr ⟨x,y,x',y',_,_,hx,hy,hx',hy',hall x y hx hy,hall x' y' hx' hy',fun u v h5 h6=>⟨_,hall u v h5 h6,(hb u v h5 h6).1,(hb u v h5 h6).2⟩,rfl⟩,hc⟩
def xN (r:Rat) (c:Nat):Int:=r.num*10^c*10^c
theorem Qic {x:Int} {c:Nat} (h:Fits (x*10^c)):Fits x:=by
 refine QgF h ?_;rw [Int.natAbs_mul,Int.natAbs_pow];exact Nat.le_mul_of_pos_right _ (Nat.pow_pos (by decide))
theorem Qru (a:Addr) {r:Rat} (hr:FitQ r) {c:Nat} (hc:c≤30):∃ (o:ByteArray) (ex bad:Bool),QgX a (txt r.num) (txt (r.den:Int)) (txt (10^c)) o ex bad∧(bad=true↔r.num<0∨¬ Fits (xN r c)):=by
 have hf:Fits ((10:Int)^c):=Qcm c hc;by_cases f2:Fits (xN r c)
 ·have f2':Fits (r.num*10^c*10^c):=f2;have f1:Fits (r.num*10^c):=Qic f2';by_cases h0:r.num<0
  ·exact ⟨⟨#[]⟩,false,true,Qmu a hr h0 hf f1 f2' _ _,⟨fun _ => .inl h0,fun _=>rfl⟩⟩
  ·exact ⟨_,_,false,Qop a hr (by omega) hf f1 f2',⟨fun h=>(by cases h),fun h=>h.elim (fun h=>absurd h h0) (fun h=>absurd f2 h)⟩⟩
 ·refine ⟨⟨#[]⟩,false,true,fun W hW => ?_,⟨fun _ => .inr f2,fun _=>rfl⟩⟩;by_cases f1:Fits (r.num*10^c)
  ·have k:=root_any a (txt r.num) (txt (r.den:Int)) (txt (10^c)) (txt (r.num*10^c)) ⟨#[]⟩ ⟨#[]⟩ ⟨#[]⟩ ⟨#[]⟩ ⟨#[]⟩ 0 30 0 0 _ _ (fun V=>by have:=QdF r.num (10^c) hr.1 hf V;rw [Qav f1] at this;exact this) (fun _ V=>by have:=QdF (r.num*10^c) (10^c) f1 hf V;rw [QaJ (show ¬ Fits (r.num*10^c*10^c) from f2)] at this;exact this) (fun _ h=>by cases h) (fun _ h=>by cases h) rfl (fun _ h=>by cases h) rfl W hW;rw [if_neg (fun h=>by cases h.2.1)] at k;exact k
  ·have k:=root_any a (txt r.num) (txt (r.den:Int)) (txt (10^c)) ⟨#[]⟩ ⟨#[]⟩ ⟨#[]⟩ ⟨#[]⟩ ⟨#[]⟩ ⟨#[]⟩ 30 0 0 0 _ _ (fun V=>by have:=QdF r.num (10^c) hr.1 hf V;rw [QaJ f1] at this;exact this) (fun h=>by cases h) (fun h=>by cases h) (fun h=>by cases h) rfl (fun h=>by cases h) rfl W hW;rw [if_neg (fun h=>by cases h.1)] at k;exact k
theorem QoA (a:Addr) {p q:Rat} (h1:FitQ p) (h2:FitQ q) (o:p≤q) (k:Int) (hk:(k<0∨30<k)∨∃ c:Nat,k=(c:Int)∧c≤30∧((p.num<0∨¬ Fits (xN p c))∨(q.num<0∨¬ Fits (xN q c)))):IC a 121 #[iq p q,.int .i64 k] none:=by
 intro W hW;have v1:=QcE h1 h2;rw [decide_eq_true o] at v1;rcases hk with hk | ⟨c,rfl,hc,hb⟩
 ·have s:=QhJ a _ _ _ _ ⟨#[]⟩ ⟨#[]⟩ ⟨#[]⟩ ⟨#[]⟩ k true true (fun _ Bx Bp V hv hx hp=>(QhK a Bp Bx _ _ _ _ ⟨#[]⟩ (⟨#[49]⟩ ++ ⟨#[]⟩) ⟨#[]⟩ ⟨#[]⟩ ⟨#[]⟩ (if false then ⟨#[]⟩ else ⟨#[]⟩) ⟨#[]⟩ ⟨#[]⟩ ⟨#[]⟩ ⟨#[]⟩ k false true true false false ⟨fun h=>(by cases h),fun h=>(by omega)⟩
   (fun h=>by cases h) (Nat.zero_le _) rfl (fun h=>by cases h) (fun h=>by cases h) (fun h=>by cases h) rfl (fun h=>by cases h) (fun h=>by cases h) V hv hx hp).mono (fun e V' h=>⟨by rw [h.1,if_neg (fun h=>by cases h.1)];rfl,h.2⟩)) v1 W hW
  rw [if_neg (fun h=>by cases h.2)] at s;exact s
 ·obtain ⟨o1,e1,b1,hL,w1⟩:=Qru a h1 hc;obtain ⟨o2,e2,b2,hH,w2⟩:=Qru a h2 hc
  have hbb:¬(b1=false∧b2=false):=fun h=>by
   rcases hb with hb | hb
   ·rw [w1.2 hb] at h;cases h.1
   ·rw [w2.2 hb] at h;cases h.2
  have s:=QhJ a _ _ _ _ ⟨#[]⟩ ⟨#[]⟩ ⟨#[]⟩ ⟨#[]⟩ (c:Int) true true (fun _ Bx Bp V hv hx hp=>(QhK a Bp Bx _ _ _ _ ⟨(Lib.repeatL [48] c).toArray⟩ (txt (10^c)) o1 o2 ⟨#[]⟩ (if e2 then o2 else ⟨#[]⟩) ⟨#[]⟩ ⟨#[]⟩ ⟨#[]⟩ ⟨#[]⟩ (c:Int) true b1 b2 e1 e2 ⟨fun _=>by omega,fun _=>rfl⟩
   (fun _ V'=>Qfg c hc V') (Qoo c hc) (QhV c hc) (fun _=>hL) (fun _=>hH)
   (fun _ h3 h4=>absurd ⟨h3,h4⟩ hbb) rfl (fun _ h3 h4=>absurd ⟨h3,h4⟩ hbb) (fun _ h3 h4=>absurd ⟨h3,h4⟩ hbb) V hv hx hp).mono (fun e V' h=>⟨by rw [h.1,if_neg (fun h=>hbb ⟨h.2.1,h.2.2⟩)];rfl,h.2⟩)) v1 W hW
  rw [if_neg (fun h=>by cases h.2)] at s;exact s
def NoRt (r:Rat) (c:Nat):Prop:=r.num<0∨¬ Fits (xN r c)
open Classical in
noncomputable def sqO (c:Nat) (P:Rat×Rat):Option (Rat×Rat):=if NoRt P.1 c∨NoRt P.2 c then none else some (Rat.divInt ((rtN P.1 c:Nat):Int) (10^c),Rat.divInt (upN P.2 c) (10^c))
theorem QuG (a:Addr) {p q:Rat} (h1:FitQ p) (h2:FitQ q) (o:p≤q) {c:Nat} (hc:c≤30):IC a 121 #[iq p q,.int .i64 (c:Int)] (sqO c (p,q)):=by
 rw [sqO];by_cases h:NoRt p c∨NoRt q c
 ·rw [if_pos h];exact QoA a h1 h2 o _ (.inr ⟨c,rfl,hc,h⟩)
 ·rw [if_neg h];have np:¬ p.num<0:=fun k=>h (.inl (.inl k));have nq:¬ q.num<0:=fun k=>h (.inr (.inl k));have fp:Fits (xN p c):=Decidable.byContradiction fun k=>h (.inl (.inr k));have fq:Fits (xN q c):=Decidable.byContradiction fun k=>h (.inr (.inr k));exact Qux a h1 h2 o (by omega) (by omega) hc (Qic fp) fp (Qic fq) fq
noncomputable def rdO (c:Nat) (P:Rat×Rat):Option (Rat×Rat):=Qjc (QjP P.1 c) (upQ P.2 c)
theorem QuH (o:Option Rat):bR (o.map txtQ) = .tuple #[.agg #[J (sn o),J (sd o)],.int .i64 (cd o)]:=by
 cases o <;> rfl
theorem QoB (a:Addr) {p q:Rat} (h1:FitQ p) (h2:FitQ q) (o:p≤q) {c:Nat} (hc:c≤30):IC a 73 #[iq p q,.int .i64 (c:Int)] (rdO c (p,q)):=by
 intro W hW;have v1:=QcE h1 h2;rw [decide_eq_true o] at v1;have d:=fun W=>QpS (txt p.num) (txt (p.den:Int)) h1.size.1 h1.size.2 (c:Int) W;have u:=fun W=>Quf (txt q.num) (txt (q.den:Int)) h2.size.1 h2.size.2 (c:Int) W;rw [Qss h1 c hc,QuH] at d;rw [QvL h2 c hc,QuH] at u;rw [rdO,←Qom];exact QmS a _ _ _ _ _ _ _ _ _ true _ (fun _ Bx Bp V hv hx hp=>(QmZ a Bx Bp _ _ _ _ _ _ _ _ _ _ _ d u V hv hx hp).mono (fun e V' h=>⟨by rw [h.1];exact Qon _ _ _ _ _ _ _,h.2⟩)) v1 W hW
noncomputable def adO (P Q:Rat×Rat):Option (Rat×Rat):=Qjc (addQ P.1 Q.1) (addQ P.2 Q.2)
noncomputable def muO (P Q:Rat×Rat):Option (Rat×Rat):=Classical.epsilon (FourR mulQ P.1 P.2 Q.1 Q.2)
theorem QsY (a:Addr) {p1 q1 p2 q2:Rat} (h1:FitQ p1) (h2:FitQ q1) (h3:FitQ p2) (h4:FitQ q2) (o1:p1≤q1) (o2:p2≤q2):FourR mulQ p1 q1 p2 q2 (muO (p1,q1) (p2,q2))∧IC a 123 #[iq p1 q1,iq p2 q2] (muO (p1,q1) (p2,q2)):=by
 obtain ⟨o,ho,hc⟩:=QvO a h1 h2 h3 h4 o1 o2;have:FourR mulQ p1 q1 p2 q2 (muO (p1,q1) (p2,q2)):=Classical.epsilon_spec ⟨o,ho⟩;rw [ho.one this] at hc;exact ⟨this,hc⟩
theorem QuI {p1 q1 p2 q2:Rat} {o:Option (Rat×Rat)} (h:FourR mulQ p1 q1 p2 q2 o):muO (p1,q1) (p2,q2)=o:=by
 have:FourR mulQ p1 q1 p2 q2 (muO (p1,q1) (p2,q2)):=Classical.epsilon_spec ⟨o,h⟩;exact this.one h
end En
end
section
namespace Tw
open Go.RowKit Go.Extern.Stop Go.Stop Go.Extern
open En
structure Sh (p:Prop):Prop where o:p
theorem Sh.gn {w V X:World} {b:Nat} (h:Sh (Below w.heap.size w V)) (g:V.grownBy X (some b)) (hb:w.heap.size≤b):Sh (Below w.heap.size w X):=⟨h.o.grown g h.o.size (fun k e=>by cases e;exact hb)⟩
theorem Sh.tr {w V X:World} (h:Sh (Below w.heap.size w V)) (g:Below V.heap.size V X):Sh (Below w.heap.size w X):=⟨h.o.trans (g.mono h.o.size)⟩
structure AnsE (ok:Prop) (n:Nat) (p:Nat→P2) (w:World) (e:Ending) (w':World):Prop where
 below:Below w.heap.size w w'
 good:ok→∃ b cap,e = .returned (.slice (some ⟨b,0,none⟩) n cap)∧w.heap.size≤b∧n≤cap∧cap≤maxLen∧Cl w' b 0 n p
 bad:¬ ok→e = .panicked twP
theorem QcY (k:Nat) (hk:Enters Tryz.prog k) (n bx ox cx by_ oy cy:Nat) (hn:n≤1000) (hcx:n≤cx) (hcy:n≤cy) (G H R:Nat→P2) (C:Nat→Int)
  (hO:∀ j,j<n→Ret k #[frc (G j).1 (G j).2,frc (H j).1 (H j).2] (.tuple #[frc (R j).1 (R j).2,.int .i64 (C j)])) (w:World) (hx:Cl w bx ox n G) (hy:Cl w by_ oy n H) :
  Calls Tryz.prog 94 #[.func (.func k) #[] #[],.slice (some ⟨bx,ox,none⟩) n cx,.slice (some ⟨by_,oy,none⟩) n cy] w (AnsE (∀ j,j<n→C j=0) n R w):=by
 have hmk:=QkY n hn;have CO:Sh _:=⟨hO⟩;have HX:Sh _:=⟨hx⟩;have HY:Sh _:=⟨hy⟩;have NO:Sh _:=⟨Own.new n w R⟩;have U0:Sh _:=⟨(Below.refl w.heap.size w).alloc Lr (made n)⟩;clear hO hx hy;unfold frc at *
 go_enter Tryz.func94, Tryz.ntmps94;go_wp2_with fail;clear hmk;generalize w.alloc (made n)=W0 at *
 go_loopw [14] (fun jv wr=>∃ j:Nat,j≤n∧jv = .int .i64 (j:Int)∧Sh (Own wr w.heap.size n R j∧Below w.heap.size w wr)∧Sh (∀ i,i<j→C i=0)) (fun jv _=>n-(intOf jv).toNat)
 case atStart=>exact ⟨0,Nat.zero_le _,rfl,⟨NO.o,U0.o⟩,⟨fun i h=>by omega⟩⟩
 case round =>
  obtain ⟨j,hj,rfl,HH,HC⟩:=hrel;clear NO U0;obtain ⟨n_o,u⟩:=HH.o;clear HH;have hen:=fun a w=>hk a w;by_cases hjn:j=n
  ·subst hjn;go_wp2_with fail;go_ret;exact ⟨u,fun _=>⟨_,_,rfl,Nat.le_refl _,Nat.le_refl _,by unfold maxLen;omega,n_o.cl⟩,fun h=>absurd HC.o h⟩
  ·have hjl:j<n:=by omega
   have hj2:(j:Int)<(n:Int):=by omega
   have hj3:(0:Int)≤(j:Int):=by omega
   obtain ⟨x0,x1⟩:=(HX.o.keep u).at_ j hjl;obtain ⟨y0,y1⟩:=(HY.o.keep u).at_ j hjl;have cO:=CO.o j hjl;have MU:=Qdo (R j).1 (R j).2 (C j);have hw1:IntKind.i64.wrap ((j:Int)+1)=(j:Int)+1:=by simp [IntKind.wrap,IntKind.signed,IntKind.bits];omega
   obtain ⟨g0,hg0⟩:∃ v,v=G j:=⟨_,rfl⟩;obtain ⟨h0,hh0⟩:∃ v,v=H j:=⟨_,rfl⟩;obtain ⟨c,hc⟩:∃ v,v=C j:=⟨_,rfl⟩;obtain ⟨r0,hr0⟩:∃ v,v=R j:=⟨_,rfl⟩;rw [←hg0,←hh0,←hc,←hr0] at cO;rw [←hg0] at x0 x1;rw [←hh0] at y0 y1;rw [←hc,←hr0] at MU;have cO:∀ W:World,_:=cO;have HG:Sh _:=⟨hc⟩;have HR:Sh _:=⟨hr0⟩;clear hg0 hh0 hc hr0;have nx:=Nat.ne_of_lt (HX.o.lt (by omega));have nx2:=nx.symm;have ny:=Nat.ne_of_lt (HY.o.lt (by omega));have ny2:=ny.symm;go_wp2_with fail
   go_region_held (fun X=>X.cell? ⟨bx,ox+j*2,none⟩=some (J g0.1)∧X.cell? ⟨bx,ox+j*2+1,none⟩=some (J g0.2)∧X.cell? ⟨by_,oy+j*2,none⟩=some (J h0.1)∧X.cell? ⟨by_,oy+j*2+1,none⟩=some (J h0.2)) (go_keep) (first | ((with_reducible refine (cO _).mono ?_);rintro e v1 ⟨rfl,g⟩;have g:Below wr.heap.size wr v1:=Qah g;replace u:=u.trans (g.mono u.size);replace n_o:=n_o.keep g;replace x0:=Qae x0 g;replace x1:=Qae x1 g;replace y0:=Qae y0 g;replace y1:=Qae y1 g;clear g) | (go_at_call 140; (with_reducible refine (MU _).mono ?_);rintro e v2 ⟨rfl,g⟩;replace u:=u.trans (g.mono u.size);replace n_o:=n_o.keep g;replace x0:=Qae x0 g;replace x1:=Qae x1 g;replace y0:=Qae y0 g;replace y1:=Qae y1 g;clear g;by_cases hcz:c=0;rotate_left;(rw [if_neg hcz];dsimp +zetaDelta only [Exit.then,Exit.inBlock];exact ⟨rfl,u,fun h=>absurd (HG.o.trans (h j hjl)) hcz,fun _=>rfl⟩);rw [if_pos hcz];obtain ⟨q0,k0⟩:=n_o.cell (show j*2<n*2 by omega);obtain ⟨q1,k1⟩:=n_o.cell (show j*2+1<n*2 by omega);have f0:=n_o.free (j*2);have f1:=n_o.free (j*2+1)))
   have s_o:=n_o.set hjl;rw [←HR.o] at s_o;have u2:=(u.setCell (show w.heap.size≤(⟨w.heap.size,j*2,none⟩:Addr).block from Nat.le_refl _) (J r0.1)).setCell (show w.heap.size≤(⟨w.heap.size,j*2+1,none⟩:Addr).block from Nat.le_refl _) (J r0.2);go_wp2_with fail
   go_roundw
   case rel=>exact ⟨j+1,by omega,by first | rfl | go_num | simp,⟨s_o,u2⟩,⟨fun i hi=>by
    rcases Nat.lt_or_ge i j with h | h
    ·exact HC.o i h
    ·obtain rfl:i=j:=by omega
     rw [←HG.o];exact hcz⟩⟩
   case measure=>simp [intOf];omega
theorem Qey (n bx ox cx by_ oy cy:Nat) (hn:n≤1000) (hcx:n≤cx) (hcy:n≤cy) (G H R:Nat→P2) (C:Nat→Int)
  (hO:∀ j,j<n→Ret 77 #[frc (G j).1 (G j).2,frc (H j).1 (H j).2] (.tuple #[frc (R j).1 (R j).2,.int .i64 (C j)])) (w:World) (hx:Cl w bx ox n G) (hy:Cl w by_ oy n H) :
  Calls Tryz.prog 41 #[.slice (some ⟨bx,ox,none⟩) n cx,.slice (some ⟨by_,oy,none⟩) n cy] w (AnsE (∀ j,j<n→C j=0) n R w):=by
 have hP:=QcY 77 (enters_of Tryz.func77 (by kernel_rfl) rfl) n bx ox cx by_ oy cy hn hcx hcy G H R C hO w hx hy;clear hO hx hy;go_enter Tryz.func41, Tryz.ntmps41;go_wp2_with fail;refine hP.mono ?_;intro e w' h;by_cases hk:∀ j,j<n→C j=0
 ·obtain ⟨b,cap,rfl,h1,h2,h3,h4⟩:=h.good hk;go_wp2_with fail;go_ret;exact ⟨h.below,fun _=>⟨_,_,rfl,h1,h2,h3,h4⟩,fun h=>absurd hk h⟩
 ·obtain rfl:=h.bad hk;exact ⟨rfl,h.below,fun h=>absurd h hk,fun _=>rfl⟩
theorem QdE (n bx ox cx by_ oy cy:Nat) (hn:n≤1000) (hcx:n≤cx) (hcy:n≤cy) (G H R:Nat→P2) (C:Nat→Int)
  (hO:∀ j,j<n→Ret 100 #[frc (G j).1 (G j).2,frc (H j).1 (H j).2] (.tuple #[frc (R j).1 (R j).2,.int .i64 (C j)])) (w:World) (hx:Cl w bx ox n G) (hy:Cl w by_ oy n H) :
  Calls Tryz.prog 43 #[.slice (some ⟨bx,ox,none⟩) n cx,.slice (some ⟨by_,oy,none⟩) n cy] w (AnsE (∀ j,j<n→C j=0) n R w):=by
 have hP:=QcY 100 (enters_of Tryz.func100 (by kernel_rfl) rfl) n bx ox cx by_ oy cy hn hcx hcy G H R C hO w hx hy;clear hO hx hy;go_enter Tryz.func43, Tryz.ntmps43;go_wp2_with fail;refine hP.mono ?_;intro e w' h;by_cases hk:∀ j,j<n→C j=0
 ·obtain ⟨b,cap,rfl,h1,h2,h3,h4⟩:=h.good hk;go_wp2_with fail;go_ret;exact ⟨h.below,fun _=>⟨_,_,rfl,h1,h2,h3,h4⟩,fun h=>absurd hk h⟩
 ·obtain rfl:=h.bad hk;exact ⟨rfl,h.below,fun h=>absurd h hk,fun _=>rfl⟩
theorem Qqp (w:World):Calls Tryz.prog 99 #[.pointer none] w fun e w'=>e = .returned (.int .i64 1)∧w'=w:=by
 go_enter Tryz.func99, Tryz.ntmps99;go_wp2;go_ret;exact ⟨rfl,rfl⟩
theorem QoC (fb:Nat) (lv:Value) (p:Option Addr) (n cap:Nat) (hn:n≤1000) (w:World) (h:w.heap[fb]? = some (Jc #[lv,.slice p n cap] 117 (0,0))) :
  Calls Tryz.prog 99 #[.pointer (some ⟨fb,0,none⟩)] w fun e w'=>e = .returned (.int .i64 (2*n:Nat))∧w'=w:=by
 have c1:=Qaa h 1 (v:=.slice p n cap) rfl;have hw1:IntKind.i64.wrap (2*(n:Int))=2*(n:Int):=by simp [IntKind.wrap,IntKind.signed,IntKind.bits];omega
 go_enter Tryz.func99, Tryz.ntmps99;go_wp2;go_ret;exact ⟨by rw [Int.natCast_mul];rfl,rfl⟩
theorem QmA (b o m cap:Nat) (hm:1≤m∧m≤500) (hc:m+m≤cap) (w:World) :
  Calls Tryz.prog 96 #[.slice (some ⟨b,o,none⟩) (m+m) cap] w fun e w'=>e = .returned (.tuple #[.slice (some ⟨b,o,none⟩) m cap,.slice (some ⟨b,o+m*2,none⟩) m (cap-m)])∧Below w.heap.size w w':=by
 have hd:((m:Int)+(m:Int)) / 2=(m:Int):=by omega
 have h1:(m:Int)≤(cap:Int):=by omega
 have h2:(0:Int)≤(m:Int):=by omega
 have h3:(m:Int)≤(m:Int)+(m:Int):=by omega
 have h4:¬(cap=m):=by omega
 go_enter Tryz.func96, Tryz.ntmps96;go_wp2
 go_region
 go_wp2;exact bodyPost_ret (v:=.tuple #[.slice (some ⟨b,o,none⟩) m cap,.slice (some ⟨b,o+m*2,none⟩) m (cap-m)]) (by simp [results,Tryz.results96, go_sem]) rfl ⟨rfl,QaS (Below.refl _ _)⟩
def nz (p:P2):Bool := !(decide (p.1.toList = [48]) && decide (p.2.toList = [49]))
theorem QuJ (p:P2) (w:World) (hg:Gl w):Calls Tryz.prog 110 #[.agg #[J p.1,J p.2]] w fun e w'=>e = .returned (.bool (nz p))∧Below w.heap.size w w':=by
 have u:=(Below.refl w.heap.size w).alloc Lr (Jc #[J p.1,J p.2] 42);have n_x:(w.alloc (Jc #[J p.1,J p.2] 42)).heap[w.heap.size]? = _:=World.alloc_heap_new w _;obtain ⟨z0,z1,_,_⟩:=hg.keep u;have x0:=Qaa n_x 0 (v:=J p.1) rfl;have x1:=Qaa n_x 1 (v:=J p.2) rfl;go_enter Tryz.func110, Tryz.ntmps110;go_wp2
 all_goals go_ret
 all_goals exact ⟨by simp [nz, *],u⟩
theorem QoD (n b o cap:Nat) (hn:n≤1000) (G:Nat→P2) (w:World) (hg:Gl w) (hx:Cl w b o n G) :
  Calls Tryz.prog 147 #[.slice (some ⟨b,o,none⟩) n cap,.func (.func 110) #[] #[]] w fun e w'=>(∃ r:Int,e = .returned (.int .i64 r)∧((r = -1∧∀ j,j<n→nz (G j)=false)∨(0≤r∧∃ j,j<n∧nz (G j)=true)))∧Below w.heap.size w w':=by
 have HX:Sh _:=⟨hx⟩;have HG:Sh _:=⟨hg⟩;have U0:Sh _:=⟨Below.refl w.heap.size w⟩;clear hx hg;have hen:=enters_of Tryz.func110 (by kernel_rfl) rfl;go_enter Tryz.func147, Tryz.ntmps147;go_wp2_with fail
 go_loopw [5,8] (fun _ jv wr=>∃ j:Nat,j≤n∧jv = .int .i64 (j:Int)∧Sh (Below w.heap.size w wr)∧Sh (∀ i,i<j→nz (G i)=false)) (fun _ jv _=>n-(intOf jv).toNat)
 case atStart=>exact ⟨0,Nat.zero_le _,rfl,U0,⟨fun i h=>by omega⟩⟩
 case round =>
  obtain ⟨j,hj,rfl,HU,HC⟩:=hrel;clear U0;have u:=HU.o;have hen:=fun a w=>hen a w;by_cases hjn:j=n
  ·subst hjn;go_wp2_with fail;go_ret;exact ⟨⟨_,rfl,.inl ⟨rfl,HC.o⟩⟩,u⟩
  ·have hjl:j<n:=by omega
   have hj2:(j:Int)<(n:Int):=by omega
   have hj3:(0:Int)≤(j:Int):=by omega
   obtain ⟨x0,x1⟩:=(HX.o.keep u).at_ j hjl;have cO:=QuJ (G j) wr (HG.o.keep u);have hw1:IntKind.i64.wrap ((j:Int)+1)=(j:Int)+1:=by simp [IntKind.wrap,IntKind.signed,IntKind.bits];omega
   obtain ⟨b0,hb0⟩:∃ v,v=nz (G j):=⟨_,rfl⟩;rw [←hb0] at cO;have HB:Sh _:=⟨hb0⟩;clear hb0;generalize G j=g0 at x0 x1 cO;go_wp2_with fail;refine cO.mono ?_;rintro e v1 ⟨rfl,g⟩;replace u:=u.trans (g.mono u.size);clear g cO x0 x1;cases b0 with
   | true =>
    go_wp2_with fail;go_ret;exact ⟨⟨_,rfl,.inr ⟨hj3,j,hjl,HB.o.symm⟩⟩,u⟩
   | false =>
    go_wp2_with fail
    go_roundw
    case rel=>exact ⟨j+1,by omega,by first | rfl | go_num | simp,⟨u⟩,⟨fun i hi=>by
     rcases Nat.lt_or_ge i j with h | h
     ·exact HC.o i h
     ·obtain rfl:i=j:=by omega
      exact HB.o.symm⟩⟩
    case measure=>simp [intOf];omega
def allZ (G:Nat→P2):Nat→Bool
 | 0=>true
 | n+1=>allZ G n && !nz (G n)
theorem Qjf (G:Nat→P2):∀ n,(∀ j,j<n→nz (G j)=false)→allZ G n=true
 | 0,_=>rfl
 | n+1,h=>by rw [allZ,Qjf G n (fun j hj=>h j (by omega)),h n (by omega)];rfl
theorem Qhp (G:Nat→P2):∀ n j,j<n→nz (G j)=true→allZ G n=false
 | 0,j,h,_=>absurd h (by omega)
 | n+1,j,h,k=>by
  rcases Nat.lt_or_ge j n with h1 | h1
  ·rw [allZ,Qhp G n j h1 k];rfl
  ·obtain rfl:j=n:=by omega
   rw [allZ,k];simp
theorem Qcg (n b o cap:Nat) (hn:n≤1000) (G:Nat→P2) (w:World) (hg:Gl w) (hx:Cl w b o n G) :
  Calls Tryz.prog 64 #[.slice (some ⟨b,o,none⟩) n cap] w fun e w'=>e = .returned (.bool (allZ G n))∧Below w.heap.size w w':=by
 have cI:=QoD n b o cap hn G w hg hx
 have cC:Calls Tryz.prog 109 #[.slice (some ⟨b,o,none⟩) n cap,.func (.func 110) #[] #[]] w fun e w'=>e = .returned (.bool (!allZ G n))∧Below w.heap.size w w':=by
  obtain ⟨z,hz⟩:∃ z,z=allZ G n:=⟨_,rfl⟩;rw [←hz];have HZ:Sh _:=⟨hz⟩;clear hz;go_enter Tryz.func109, Tryz.ntmps109;go_wp2_with fail;refine cI.mono ?_;rintro e w' ⟨⟨r,rfl,h⟩,u⟩;rcases h with ⟨rfl,h⟩ | ⟨h0,j,hj,h⟩
  ·obtain rfl:z=true:=HZ.o.trans (Qjf G n h);go_wp2_with fail;go_ret;exact ⟨rfl,u⟩
  ·obtain rfl:z=false:=HZ.o.trans (Qhp G n j hj h);have hd:decide (r≥0)=true:=decide_eq_true h0;go_wp2_with fail;go_ret;exact ⟨by simp,u⟩
 clear cI;generalize allZ G n=z at *
 go_enter Tryz.func64, Tryz.ntmps64;go_wp2_with fail;refine cC.mono ?_;rintro e w' ⟨rfl,u⟩;go_wp2_with fail;go_ret;exact ⟨by simp,u⟩
theorem Qqq (k:Nat) (hk:Enters Tryz.prog k) (recv f o1 o2:Value) (bo co:Nat) (w:World) (hb:w.heap[bo]? = some (Jc #[o1,o2] 67 (0,0)))
  (S:Value→World→Prop) (R:Ending→World→Prop)
  (h1:Calls Tryz.prog k #[recv,f,o1] w fun e w1=>Below w.heap.size w w1∧((∃ v,e = .returned v∧S v w1)∨(e = .panicked twP∧R e w1)))
  (h2:∀ v w1,Below w.heap.size w w1→S v w1→Calls Tryz.prog k #[recv,v,o2] w1 fun e w2=>Below w1.heap.size w1 w2∧((∃ v,e = .returned v∧R e w2)∨(e = .panicked twP∧R e w2))) :
  Calls Tryz.prog 97 #[.func (.func k) #[recv] #[],f,.slice (some ⟨bo,0,none⟩) 2 co] w fun e w'=>Below w.heap.size w w'∧R e w':=by
 have hen:=fun a w=>hk a w;have y0:=Qaa hb 0 (v:=o1) rfl;have H1:Sh _:=⟨h1⟩;have H2:Sh _:=⟨h2⟩;clear h1 h2;go_enter Tryz.func97, Tryz.ntmps97;go_wp2_with fail;refine wp_loop_rounds 3 ?_;rw [rounds_succ];go_wp2_with fail;refine H1.o.mono ?_;rintro e w1 ⟨u,⟨v,rfl,hS⟩ | ⟨rfl,hR⟩⟩
 ·replace hb:=Qac hb u;have y1:=Qaa hb 1 (v:=o2) rfl;have c2:=H2.o v w1 u hS;clear y0;go_wp2_with fail;rw [rounds_succ];go_wp2_with fail;refine c2.mono ?_;rintro e w2 ⟨u2,⟨v2,rfl,hR⟩ | ⟨rfl,hR⟩⟩
  ·go_wp2_with fail;rw [rounds_succ];go_wp2_with fail;go_ret;exact ⟨u.trans (u2.mono u.size),hR⟩
  ·exact ⟨rfl,u.trans (u2.mono u.size),hR⟩
 ·exact ⟨rfl,u,hR⟩
end Tw
end
section
namespace Tw
open Go.RowKit Go.Extern.Stop Go.Stop Go.Extern
open En Go.Lib
theorem Qqr (n:Nat) (h:1≤n∧n≤1000) (R:Nat→P2) (w:World):Calls Tryz.prog 144 #[.slice none 0 0,.int .i64 (n:Int)] w fun e w'=>(∃ g cap,e = .returned (.slice (some ⟨g,0,none⟩) 0 cap)∧w.heap.size≤g∧OwnL w' w.heap.size (.slice (some ⟨g,0,none⟩) 0 cap) 0 R)∧Below w.heap.size w w':=by
 obtain ⟨i0,hinf,hz⟩:=Option.map_eq_some_iff.1 Qem;have hz0:i0.zero=some (.agg #[J ⟨#[]⟩,J ⟨#[]⟩]):=congrArg (fun q=>q.1) hz;have hz1:i0.size=2:=congrArg (fun q=>q.2.1) hz;have hz2:i0.bytes=32:=congrArg (fun q=>q.2.2) hz;have hm:n≤maxLen:=by unfold maxLen;omega
 have hns:Builtin.nextslicecap (0+n) 0=n:=by rw [Builtin.nextslicecap,if_pos (by omega)];omega
 have hap:=fun ty=>run_append_grow_zeros (P:=Tryz.prog) w 67 3 ty 42 i0 _ .i64 .i64 Tryz.underlying67 Tryz.underlying3 hinf hz0 none 0 0 [] (run_firstCells_none w.drew i0.size 0 0 0) n (by omega) (by omega) (by omega) (by omega) (by rw [hz2];omega) (by rw [hns,hz2];omega);have hge:=grownCap_ge w (0+n) 0 42;have hle:=grownCap_le_maxLen w (0+n) 0 42 (by omega);generalize hcp:grownCap w (0+n) 0 42 = cp at *
 have h1:¬((n:Int)<0):=by omega
 have h4:(n:Int) > 0:=by omega
 have hw1:IntKind.i64.wrap (n:Int)=(n:Int):=by simp [IntKind.wrap,IntKind.signed,IntKind.bits];omega
 have hc0:(0:Int)≤(cp:Int):=by omega
 simp only [Nat.zero_add] at hap hge;go_enter Tryz.func144, Tryz.ntmps144;go_wp2_with (at_builtin;refine Lib.wpList_append_run _ rfl _ _ _ _ rfl _ _ rfl rfl _ _ (hap _) ?_);go_ret;refine ⟨⟨_,_,rfl,Nat.le_refl _,rfl,.inr ⟨_,_,_,rfl,Nat.le_refl _,World.alloc_heap_new w _,Nat.zero_le _,hle, ?_,by simp [Qbd]⟩⟩,QaS ((Below.refl w.heap.size w).alloc Lr _)⟩;simp [Builtin.zeroCells];omega
theorem QbY (R:Nat→P2) (n j:Nat) (u:Value) (h:(Qbd R n)[j]? = some u):∃ i,i<n∧((j=i*2∧u=J (R i).1)∨(j=i*2+1∧u=J (R i).2)):=by
 have hl:=Qbs R n
 have hj:j<n*2:=by
  rcases Nat.lt_or_ge j (n*2) with h1 | h1
  ·exact h1
  ·rw [List.getElem?_eq_none (by omega)] at h;cases h
 obtain ⟨h1,h2⟩:=QdA R n (j / 2) (by omega);refine ⟨j / 2,by omega, ?_⟩;rcases Nat.mod_two_eq_zero_or_one j with e | e
 ·have:j / 2*2=j:=by omega
  rw [this,h] at h1;injection h1 with h1;exact .inl ⟨by omega,h1⟩
 ·have:j / 2*2+1=j:=by omega
  rw [this,h] at h2;injection h2 with h2;exact .inr ⟨by omega,h2⟩
theorem Qfs (R R':Nat→P2):∀ t,(∀ i,i<t→R' i=R i)→Qbd R' t=Qbd R t
 | 0,_=>rfl
 | t+1,h=>by rw [Qbd,Qbd,Qfs R R' t (fun i hi=>h i (by omega)),h t (by omega)]
theorem Qeb (R R' G:Nat→P2) (t:Nat) (h1:∀ i,i<t→R' i=R i):∀ n,(∀ i,i<n→R' (t+i)=G i)→Qbd R' (t+n)=Qbd R t++Qbd G n
 | 0,_=>by rw [Qbd,List.append_nil];exact Qfs R R' t h1
 | n+1,h=>by rw [←Nat.add_assoc,Qbd,Qeb R R' G t h1 n (fun i hi=>h i (by omega)),h n (by omega),Qbd,List.append_assoc]
theorem QgI {w:World} {ops:Array Oper} {rest:List Oper} {o:Oper} {a:Act} {Q:Exit→Act→World→Prop} (hgd:o.guard=none) (s x:Operand)
  (ho:o.op = .call {callee:=.builtin .append,args:=#[s,x],argTypes:=#[67, 67]}) (base:Nat) (v:Value) (t:Nat) (R R' G:Nat→P2) (hs:a.eval s=v) (hown:OwnL w base v t R)
  (Bx ox n c:Nat) (hx:a.eval x = .slice (some ⟨Bx,ox,none⟩) n c) (hG:Cl w Bx ox n G) (ht:t≤1000) (hn:n≤1000) (hb:base≤w.heap.size) (h1:∀ i,i<t→R' i=R i) (h2:∀ i,i<n→R' (t+i)=G i)
  (h:∀ v' w',OwnL w' base v' (t+n) R'→w.grownBy w' v.ownBlock→(v' = .slice none 0 0↔v = .slice none 0 0∧n=0)→(v'.ownBlock=v.ownBlock∨v'.ownBlock=some w.heap.size)→wpList Tryz.prog ops Q rest (a.put o.dst v') w'):wpList Tryz.prog ops Q (o :: rest) a w:=by
 obtain ⟨i0,hinf,hz⟩:=Option.map_eq_some_iff.1 Qem;have hz0:i0.zero=some (.agg #[J ⟨#[]⟩,J ⟨#[]⟩]):=congrArg (fun q=>q.1) hz;have hz1:i0.size=2:=congrArg (fun q=>q.2.1) hz;have hz2:i0.bytes=32:=congrArg (fun q=>q.2.2) hz;refine wpList_append_own_at w hgd s x 67 ho base 42 i0 (.agg #[J ⟨#[]⟩,J ⟨#[]⟩]) 2 32 Tryz.underlying67 hinf hz0 hz1 hz2 rfl (by decide) v t _ hs hown ⟨Bx,ox,none⟩ n c (Qbd G n) hx (Qbs G n) ?_ ?_ (by unfold maxLen;omega) (by omega) hb ?_
 ·intro j u hj;obtain ⟨i,hi,⟨rfl,rfl⟩ | ⟨rfl,rfl⟩⟩:=QbY G n j u hj
  ·rw [Addr.add_lit];exact (hG.at_ i hi).1
  ·rw [Addr.add_lit,←Nat.add_assoc];exact (hG.at_ i hi).2
 ·intro u hu;obtain ⟨j,hj⟩:=List.getElem?_of_mem hu;obtain ⟨i,hi,⟨rfl,rfl⟩ | ⟨rfl,rfl⟩⟩:=QbY G n j u hj <;> rfl
 ·intro v' w' hown' hgrow hnil hat;refine h v' w' ?_ hgrow hnil hat;unfold OwnL;rw [Qeb R R' G t h1 n h2];exact hown'
theorem QbK {W W':World} {r:Option Nat} (h:W.grownBy W' r) {b:Nat} {o:Obj} (hb:W.heap[b]? = some o) (hne:r≠some b):W'.heap[b]? = some o:=(h.block b (Array.getElem?_eq_some_iff.1 hb).1 (fun e=>hne e.symm)).trans hb
theorem Qba {W W':World} {r:Option Nat} (h:W.grownBy W' r) {a:Addr} {v:Value} (hc:W.cell? a=some v) (hne:r≠some a.block):W'.cell? a=some v:=by
 have:=h.block a.block (World.block_lt_of_cell? W _ hc) (fun e=>hne e.symm);rw [←hc];simp only [World.cell?,this]
theorem Cl.grown {W W':World} {r:Option Nat} {b o n:Nat} {G:Nat→P2} (hx:Cl W b o n G) (h:W.grownBy W' r) (hne:r≠some b):Cl W' b o n G:=⟨fun i hi=>⟨Qba h (hx.at_ i hi).1 hne,Qba h (hx.at_ i hi).2 hne⟩⟩
theorem Qdc {W:World} {base:Nat} {v:Value} {t:Nat} {R:Nat→P2} (h:OwnL W base v t R) (ht:1≤t):∃ g cap,v = .slice (some ⟨g,0,none⟩) t cap∧base≤g∧t≤cap∧cap≤maxLen∧Cl W g 0 t R:=by
 obtain ⟨t,rfl⟩:∃ k,t=k+1:=⟨t-1,by omega⟩
 have hb:∀ g,v.ownBlock=some g→base≤g:=by
  rcases h.2 with ⟨_,hn⟩ | ⟨g,cap,cur,rfl,hg,_⟩
  ·cases hn
  ·intro g' e;simp [Value.ownBlock] at e;omega
 obtain ⟨g,cap,rfl,h1,h2,cur,h3,h4⟩:=h.shape;exact ⟨g,cap,rfl,hb g rfl,h1,h2,⟨fun i hi=>⟨Qaa h3 _ (by rw [Nat.zero_add];exact (h4 i hi).1),Qaa h3 _ (by rw [Nat.zero_add];exact (h4 i hi).2)⟩⟩⟩
theorem QmB (b1 o1 n1 c1 b2 o2 n2 c2 bo co:Nat) (h1:1≤n1∧n1≤500) (h2:1≤n2∧n2≤500) (G1 G2 H:Nat→P2) (e1:∀ i,i<n1→H i=G1 i) (e2:∀ i,i<n2→H (n1+i)=G2 i) (w:World)
  (hb:w.heap[bo]? = some (Jc #[.slice (some ⟨b1,o1,none⟩) n1 c1,.slice (some ⟨b2,o2,none⟩) n2 c2] 67 (0,0))) (hx:Cl w b1 o1 n1 G1) (hy:Cl w b2 o2 n2 G2) :
  Calls Tryz.prog 98 #[.slice (some ⟨bo,0,none⟩) 2 co] w (AnsE True (n1+n2) H w):=by
 have y0:=Qaa hb 0 rfl;have y1:=Qaa hb 1 rfl;have hw1:IntKind.i64.wrap (n1:Int)=(n1:Int):=by simp [IntKind.wrap,IntKind.signed,IntKind.bits];omega
 have hw2:IntKind.i64.wrap ((n1:Int)+(n2:Int))=(n1:Int)+(n2:Int):=by simp [IntKind.wrap,IntKind.signed,IntKind.bits];omega
 have hd1:¬((n1:Int)<0):=by omega
 have hd2:¬((n1:Int)+(n2:Int)<0):=by omega
 have HX:Sh _:=⟨hx⟩;have HY:Sh _:=⟨hy⟩;have cG:=Qqr (n1+n2) (by omega) (fun _=>(⟨#[]⟩,⟨#[]⟩)) w;rw [Int.natCast_add] at cG;have hlt1:=hx.lt (by omega);have hlt2:=hy.lt (by omega);have hltb:=(Array.getElem?_eq_some_iff.1 hb).1;clear hx hy;go_enter Tryz.func98, Tryz.ntmps98;go_wp2_with fail;refine wp_loop_rounds 3 ?_;rw [rounds_succ];go_wp2_with fail;rw [rounds_succ];go_wp2_with fail;rw [rounds_succ];go_wp2_with fail;refine cG.mono ?_;rintro e w1 ⟨⟨g,cap,rfl,hg,hO⟩,u⟩;clear cG;have q0:=Qae y0 u;have hb1:=Qac hb u;have HO:Sh _:=⟨hO⟩;clear hO y0 y1;go_wp2_with fail;refine wp_loop_rounds 3 ?_;rw [rounds_succ];go_wp2_with (refine QgI rfl _ _ rfl w.heap.size (.slice (some ⟨g,0,none⟩) 0 cap) 0 (fun _=>(⟨#[]⟩,⟨#[]⟩)) G1 G1 rfl HO.o b1 o1 n1 c1 rfl (HX.o.keep u) (by omega) (by omega) u.size (fun i hi=>absurd hi (by omega)) (fun i _=>congrArg G1 (Nat.zero_add i)) ?_;intro v2 w2 hO2 hg2 _ hat2);rw [Nat.zero_add] at hO2;have u2:Below w.heap.size w w2:=QbA u Lr Lr HO.o hg2;have hb2:=QbK hg2 hb1 (by simp [Value.ownBlock];omega);have y1:=Qaa hb2 1 rfl;have HY2:Sh _:=⟨(HY.o.keep u).grown hg2 (by simp [Value.ownBlock];omega)⟩;have HO2:Sh _:=⟨hO2⟩;have U2:Sh _:=⟨u2⟩;clear hO2 u2 hat2 hg2 hb2 hb1 u q0;rw [rounds_succ];go_wp2_with (refine QgI rfl _ _ rfl w.heap.size v2 n1 G1 H G2 rfl HO2.o b2 o2 n2 c2 rfl HY2.o (by omega) (by omega) U2.o.size e1 e2 ?_;intro v3 w3 hO3 hg3 _ hat3);have u3:Below w.heap.size w w3:=QbA U2.o Lr Lr HO2.o hg3;obtain ⟨g3,cap3,rfl,k1,k2,k3,k4⟩:=Qdc hO3 (by omega);rw [rounds_succ];go_wp2_with fail;go_ret;exact ⟨u3,fun _=>⟨g3,cap3,rfl,k1,k2,k3,k4⟩,fun h=>absurd trivial h⟩
theorem Qjg (b o n c:Nat) (h1:1≤n∧n≤1000) (G:Nat→P2) (w:World) (hx:Cl w b o n G) :
  Calls Tryz.prog 104 #[.slice (some ⟨b,o,none⟩) n c] w (AnsE True n G w):=by
 have HX:Sh _:=⟨hx⟩;have hq:∀ w:World,(binOp BinOp.eql 67 (.slice (some ⟨b,o,none⟩) n c) (.slice none 0 0)).run Tryz.prog w = .ok (.bool false) w:=fun _=>by kernel_rfl
 have hlt:=hx.lt (by omega);clear hx;go_enter Tryz.func104, Tryz.ntmps104;have hO:OwnL (w.alloc (Jc #[] 42)) w.heap.size (.slice (some ⟨w.heap.size,0,none⟩) 0 0) 0 (fun _=>(⟨#[]⟩,⟨#[]⟩)):=⟨rfl,.inr ⟨_,_,_,rfl,Nat.le_refl _,World.alloc_heap_new w _,Nat.le_refl _,Nat.zero_le _,rfl,rfl⟩⟩;have u:=(Below.refl w.heap.size w).alloc Lr (Jc #[] 42);have HO:Sh _:=⟨hO⟩;clear hO;go_wp2_with (refine QgI rfl _ _ rfl w.heap.size (.slice (some ⟨w.heap.size,0,none⟩) 0 0) 0 (fun _=>(⟨#[]⟩,⟨#[]⟩)) G G rfl HO.o b o n c rfl (HX.o.keep u) (by omega) (by omega) u.size (fun i hi=>absurd hi (by omega)) (fun i _=>congrArg G (Nat.zero_add i)) ?_;intro v2 w2 hO2 hg2 _ hat2);rw [Nat.zero_add] at hO2;have u2:Below w.heap.size w w2:=QbA u Lr Lr HO.o hg2;obtain ⟨g3,cap3,rfl,k1,k2,k3,k4⟩:=Qdc hO2 (by omega);clear hat2 hg2 hO2;go_ret;exact ⟨u2,fun _=>⟨g3,cap3,rfl,k1,k2,k3,k4⟩,fun h=>absurd trivial h⟩
end Tw
end
section
namespace Tw
open Go.RowKit Go.Extern.Stop Go.Stop Go.Extern
open En
theorem Qqs (x y:Nat) (hx:x<18446744073709551616) (hy:y<18446744073709551616) (w:World) :
  Calls Tryz.prog 181 #[.int .u64 x,.int .u64 y] w fun e w'=>e = .returned (.tuple #[.int .u64 ((x*y / 18446744073709551616:Nat):Int),.int .u64 ((x*y % 18446744073709551616:Nat):Int)])∧w'=w :=
 Any.bits_Mul (P:=Tryz.prog) (ρ:=Rt.renR) {Rt.renR_lays with} x y hx hy w
theorem Qft (w:World) (ty:TypeId) (g o dLen dCap:Nat) (a:Addr) (sLen sCap m:Nat) (cur:Array Value) (cs:List Value)
  (hg:w.heap[g]? = some (.cells cur 42 (0,0))) (hm:m=Nat.min sLen dLen) (hn:cs.length=m*2)
  (hsrc:∀ j v,cs[j]? = some v→w.cell? (a.add j)=some v) (hfit:o+cs.length≤cur.size) (h1:∀ v∈cs,v.oneCell'=true) :
  (Builtin.copy_ #[67, 67] ty #[.slice (some ⟨g,o,none⟩) dLen dCap,.slice (some a) sLen sCap]).run Tryz.prog w =
   .ok (goInt m) (w.setRow g (cur.toList.take o++cs++cur.toList.drop (o+cs.length)).toArray):=by
 obtain ⟨i0,hinf,hz⟩:=Option.map_eq_some_iff.1 Qem;have hz1:i0.size=2:=congrArg (fun q=>q.2.1) hz;have hl:=run_loadCells_list (P:=Tryz.prog) w a cs hsrc;have hst:=run_storeCells_at Tryz.prog g o 42 cs 0 cur w hg (by simpa using hfit) h1;rw [hn] at hl;simp [Builtin.copy_,run_underlying Tryz.underlying67, Builtin.lenOf,Builtin.firstCells,sizeOf,typeInfo,hinf,hz1,←hm,hl,hst]
theorem QgJ {w:World} {ops:Array Oper} {rest:List Oper} {o:Oper} {a:Act} {Q:Exit→Act→World→Prop} (hgd:o.guard=none) (d s:Operand)
  (ho:o.op = .call {callee:=.builtin .copy,args:=#[d,s],argTypes:=#[67, 67]})
  (g off dLen dCap:Nat) (ad:Addr) (sLen sCap m:Nat) (hd:a.eval d = .slice (some ⟨g,off,none⟩) dLen dCap) (hs:a.eval s = .slice (some ad) sLen sCap) (cur:Array Value) (cs:List Value)
  (hg:w.heap[g]? = some (.cells cur 42 (0,0))) (hm:m=Nat.min sLen dLen) (hn:cs.length=m*2)
  (hsrc:∀ j v,cs[j]? = some v→w.cell? (ad.add j)=some v) (hfit:off+cs.length≤cur.size) (h1:∀ v∈cs,v.oneCell'=true)
  (h:wpList Tryz.prog ops Q rest (a.put o.dst (goInt m)) (w.setRow g (cur.toList.take off++cs++cur.toList.drop (off+cs.length)).toArray)):wpList Tryz.prog ops Q (o :: rest) a w:=by
 refine wpList_plain hgd fun K hK => ?_;have hr:=Qft w o.type g off dLen dCap ad sLen sCap m cur cs hg hm hn hsrc hfit h1;unfold Oper.wp execOp;simp only [ho,resolve,invoke,builtin,Sem.run_bind,Sem.run_pure,Result.andThen_ok,List.map_toArray,List.map_cons,List.map_nil,hd,hs,hr];exact hK _ _ h
theorem Qid {ops:Array Oper} {o:Oper} {a:Act} {w:World} {K:Act→World→Prop} {Q:Exit→Act→World→Prop} {E:Prop} (hgd:o.guard=none) (d s:Operand)
  (ho:o.op = .call {callee:=.builtin .copy,args:=#[d,s],argTypes:=#[67, 67]})
  (g off dLen dCap:Nat) (ad:Addr) (sLen sCap m:Nat) (hd:a.eval d = .slice (some ⟨g,off,none⟩) dLen dCap) (hs:a.eval s = .slice (some ad) sLen sCap) (cur:Array Value) (cs:List Value)
  (hg:w.heap[g]? = some (.cells cur 42 (0,0))) (hm:m=Nat.min sLen dLen) (hn:cs.length=m*2)
  (hsrc:∀ j v,cs[j]? = some v→w.cell? (ad.add j)=some v) (hfit:off+cs.length≤cur.size) (h1:∀ v∈cs,v.oneCell'=true)
  (h:K (a.put o.dst (goInt m)) (w.setRow g (cur.toList.take off++cs++cur.toList.drop (off+cs.length)).toArray)) :
  if Region.wanted o (yielded ops a.tmps)=true then Oper.wp Tryz.prog o a w K Q else E:=by
 have hw:Region.wanted o (yielded ops a.tmps)=true:=by simp [Region.wanted,hgd]
 rw [if_pos hw];have hr:=Qft w o.type g off dLen dCap ad sLen sCap m cur cs hg hm hn hsrc hfit h1;unfold Oper.wp;simp [execOp,ho,resolve,invoke,builtin,hd,hs,hr,Result.andThen];rw [List.append_assoc] at h;exact h
theorem Qhq {W:World} {g n k m:Nat} {cur:Array Value} {p:P2} (hg:W.heap[g]? = some (.cells cur 42 (0,0))) (hs:cur.size=n*2)
  (hk:∀ i,i<k→cur[i*2]? = some (J p.1)∧cur[i*2+1]? = some (J p.2)) (hkm:k+m≤n) :
  Own (W.setRow g (cur.toList.take (k*2)++Qbd (fun _=>p) m++cur.toList.drop (k*2+(Qbd (fun _=>p) m).length)).toArray) g n (fun _=>p) (k+m):=by
 have hl:=Qbs (fun _=>p) m;have ht:(cur.toList.take (k*2)).length=k*2:=by rw [List.length_take,Array.length_toList];exact Nat.min_eq_left (by omega)
 refine ⟨_,setRow_heap W g _ _ _ _ hg, ?_,fun i hi => ?_⟩
 ·simp only [List.size_toArray,List.length_append,List.length_drop,Array.length_toList,ht,hl];omega
 ·have key:∀ j,j<(k+m)*2→(cur.toList.take (k*2)++Qbd (fun _=>p) m++cur.toList.drop (k*2+(Qbd (fun _=>p) m).length)).toArray[j]? = if j<k*2 then cur[j]? else (Qbd (fun _=>p) m)[j-k*2]? := fun j hj=>by
   rw [List.getElem?_toArray,List.append_assoc];split
   ·rename_i h;rw [List.getElem?_append_left (by omega),List.getElem?_take_of_lt h,Array.getElem?_toList]
   ·rename_i h;rw [List.getElem?_append_right (by omega),ht,List.getElem?_append_left (by omega)]
  rw [key _ (by omega),key _ (by omega)];rcases Nat.lt_or_ge i k with h | h
  ·rw [if_pos (by omega),if_pos (by omega)];exact hk i h
  ·rw [if_neg (by omega),if_neg (by omega)];have:=QdA (fun _=>p) m (i-k) (by omega);rw [show i*2-k*2=(i-k)*2 by omega,show i*2+1-k*2=(i-k)*2+1 by omega];exact this
theorem Qrv {W:World} {b o n:Nat} {G:Nat→P2} (h:Cl W b o n G):∀ j v,(Qbd G n)[j]? = some v→W.cell? ((⟨b,o,none⟩:Addr).add j)=some v:=by
 intro j u hj;obtain ⟨i,hi,⟨rfl,rfl⟩ | ⟨rfl,rfl⟩⟩:=QbY G n j u hj
 ·rw [Addr.add_lit];exact (h.at_ i hi).1
 ·rw [Addr.add_lit,←Nat.add_assoc];exact (h.at_ i hi).2
theorem Qjh (G:Nat→P2) (n:Nat):∀ u∈Qbd G n,u.oneCell'=true:=by
 intro u hu;obtain ⟨j,hj⟩:=List.getElem?_of_mem hu;obtain ⟨i,hi,⟨rfl,rfl⟩ | ⟨rfl,rfl⟩⟩:=QbY G n j u hj <;> rfl
theorem Own.clk {W:World} {b n k m:Nat} {p:Nat→P2} (h:Own W b n p k) (hm:m≤k):Cl W b 0 m p:=by
 obtain ⟨cur,h1,h2,h3⟩:=h.ex;exact ⟨fun i hi=>⟨Qaa h1 _ (by rw [Nat.zero_add];exact (h3 i (by omega)).1),Qaa h1 _ (by rw [Nat.zero_add];exact (h3 i (by omega)).2)⟩⟩
theorem QgK {w:World} {ops:Array Oper} {rest:List Oper} {o:Oper} {a:Act} {Q:Exit→Act→World→Prop} (hgd:o.guard=none) (d s:Operand)
  (ho:o.op = .call {callee:=.builtin .copy,args:=#[d,s],argTypes:=#[67, 67]})
  (g n k m dLen dCap b off sLen sCap:Nat) (p:P2) (hd:a.eval d = .slice (some ⟨g,k*2,none⟩) dLen dCap) (hs:a.eval s = .slice (some ⟨b,off,none⟩) sLen sCap)
  (hO:Own w g n (fun _=>p) k) (hm:m=Nat.min sLen dLen) (hsrc:Cl w b off m (fun _=>p)) (hkm:k+m≤n) (B:Nat) (w0:World) (hb:Below B w0 w) (hBg:B≤g)
  (h:∀ w',Own w' g n (fun _=>p) (k+m)→Below B w0 w'→wpList Tryz.prog ops Q rest (a.put o.dst (goInt m)) w'):wpList Tryz.prog ops Q (o :: rest) a w:=by
 obtain ⟨cur,h1,h2,h3⟩:=hO.ex;exact QgJ hgd d s ho g (k*2) dLen dCap ⟨b,off,none⟩ sLen sCap m hd hs cur (Qbd (fun _=>p) m) h1 hm (Qbs _ _) (Qrv hsrc) (by rw [Qbs,h2];omega) (Qjh _ _) (h _ (Qhq h1 h2 h3 hkm) (below_setRow hb hBg _))
theorem Qie {ops:Array Oper} {o:Oper} {a:Act} {w:World} {K:Act→World→Prop} {Q:Exit→Act→World→Prop} {E:Prop} (hgd:o.guard=none) (d s:Operand)
  (ho:o.op = .call {callee:=.builtin .copy,args:=#[d,s],argTypes:=#[67, 67]})
  (g n k m dLen dCap b off sLen sCap:Nat) (p:P2) (hd:a.eval d = .slice (some ⟨g,k*2,none⟩) dLen dCap) (hs:a.eval s = .slice (some ⟨b,off,none⟩) sLen sCap)
  (hO:Own w g n (fun _=>p) k) (hm:m=Nat.min sLen dLen) (hsrc:Cl w b off m (fun _=>p)) (hkm:k+m≤n) (B:Nat) (w0:World) (hb:Below B w0 w) (hBg:B≤g)
  (h:∀ w',Own w' g n (fun _=>p) (k+m)→Below B w0 w'→K (a.put o.dst (goInt m)) w') :
  if Region.wanted o (yielded ops a.tmps)=true then Oper.wp Tryz.prog o a w K Q else E:=by
 obtain ⟨cur,h1,h2,h3⟩:=hO.ex;exact Qid hgd d s ho g (k*2) dLen dCap ⟨b,off,none⟩ sLen sCap m hd hs cur (Qbd (fun _=>p) m) h1 hm (Qbs _ _) (Qrv hsrc) (by rw [Qbs,h2];omega) (Qjh _ _) (h _ (Qhq h1 h2 h3 hkm) (below_setRow hb hBg _))
theorem Qji {w:World} {ops:Array Oper} {a:Act} {K:Act→World→Prop} {Q:Exit→Act→World→Prop} {E:Prop} {ty:TypeId} {pos:String} {after:Array Edge}
  (e d s:Nat) (g n k m dLen dCap b off sLen sCap:Nat) (p:P2) (hd:a.eval (.tmp d) = .slice (some ⟨g,k*2,none⟩) dLen dCap) (hs:a.eval (.tmp s) = .slice (some ⟨b,off,none⟩) sLen sCap)
  (hO:Own w g n (fun _=>p) k) (hm:m=Nat.min sLen dLen) (hsrc:Cl w b off m (fun _=>p)) (hkm:k+m≤n) (B:Nat) (w0:World) (hb:Below B w0 w) (hBg:B≤g)
  (h:∀ w',Own w' g n (fun _=>p) (k+m)→Below B w0 w'→K (a.put (some e) (goInt m)) w') :
  if Region.wanted {dst:=some e,op:=.call {callee:=.builtin .copy,args:=#[.tmp d,.tmp s],argTypes:=#[67, 67]},type:=ty,pos:=pos,after:=after,guard:=none} (yielded ops a.tmps)=true then Oper.wp Tryz.prog {dst:=some e,op:=.call {callee:=.builtin .copy,args:=#[.tmp d,.tmp s],argTypes:=#[67, 67]},type:=ty,pos:=pos,after:=after,guard:=none} a w K Q else E :=
 Qie rfl (.tmp d) (.tmp s) rfl g n k m dLen dCap b off sLen sCap p hd hs hO hm hsrc hkm B w0 hb hBg h
theorem QmC (bx ox cx n:Nat) (hn:1≤n∧n≤1000) (p:P2) (w:World) (hx:Cl w bx ox 1 (fun _=>p)) :
  Calls Tryz.prog 139 #[.slice (some ⟨bx,ox,none⟩) 1 cx,.int .i64 (n:Int)] w (AnsE True n (fun _=>p) w):=by
 have cM:=Qqs 1 n (by decide) (by omega) w;rw [show 1*n / 18446744073709551616=0 by omega,show 1*n % 18446744073709551616=n by omega] at cM;have h1:¬((n:Int)<0):=by omega
 have hw1:IntKind.u64.wrap (n:Int)=(n:Int):=by simp [IntKind.wrap,IntKind.signed,IntKind.bits];omega
 have hw2:IntKind.i64.wrap (n:Int)=(n:Int):=by simp [IntKind.wrap,IntKind.signed,IntKind.bits];omega
 have hd:decide ((9223372036854775807:Int)<(n:Int))=false:=decide_eq_false (by omega);have hmk:=QkY n hn.2;have U0:Sh _:=⟨(Below.refl w.heap.size w).alloc Lr (made n)⟩;have HX:Sh _:=⟨hx.keep U0.o⟩;have HN:Sh _:=⟨Own.new n w (fun _=>p)⟩;clear hx;go_enter Tryz.func139, Tryz.ntmps139;go_wp2_with (first | (go_at_call 181; refine cM.mono ?_;rintro e w1 ⟨rfl,hw⟩;rw [hw];clear hw) | (refine QgK rfl _ _ rfl w.heap.size n 0 1 n n bx ox 1 cx p rfl rfl HN.o (Nat.min_eq_left hn.1).symm HX.o (by omega) w.heap.size w U0.o Lr ?_;intro w2 N2 U2));replace N2:Sh (Own w2 w.heap.size n (fun _=>p) 1∧Below w.heap.size w w2):=⟨N2,U2⟩;clear U2 HX HN U0 cM hmk hw1
 go_loopw [8] (fun kv wr=>∃ k:Nat,1≤k∧k≤n∧kv = .int .i64 (k:Int)∧Sh (Own wr w.heap.size n (fun _=>p) k∧Below w.heap.size w wr)) (fun kv _=>n-(intOf kv).toNat)
 case atStart=>exact ⟨1,by omega,hn.1,rfl,N2⟩
 case round =>
  obtain ⟨k,hk1,hk,rfl,HH⟩:=hrel;clear N2;by_cases hkn:k=n
  ·subst hkn;obtain ⟨n_o,u⟩:=HH.o;go_wp2_with fail;go_ret;exact ⟨u,fun _=>⟨_,_,rfl,Nat.le_refl _,Nat.le_refl _,by unfold maxLen;omega,n_o.cl⟩,fun h=>absurd trivial h⟩
  ·have hkl:(k:Int)<(n:Int):=by omega
   have hk0:(0:Int)≤(k:Int):=by omega
   have hk2:(k:Int)≤(n:Int):=by omega
   have hk3:¬(n=k):=by omega
   obtain ⟨m,hm⟩:∃ m,m=Nat.min k (n-k):=⟨_,rfl⟩;have hmk:m≤k:=by rw [hm];exact Nat.min_le_left _ _
   have hmn:m≤n-k:=by rw [hm];exact Nat.min_le_right _ _
   have hm1:1≤m:=by rw [hm];exact Nat.le_min.2 ⟨hk1,by omega⟩
   have hw1:IntKind.i64.wrap ((k:Int)+(m:Int))=(k:Int)+(m:Int):=by simp [IntKind.wrap,IntKind.signed,IntKind.bits];omega
   have HM:Sh _:=⟨hm⟩;clear hm;go_wp2_with fail;have N1:Sh (Own wr.drew w.heap.size n (fun _=>p) k):=⟨⟨HH.o.1.ex⟩⟩;have U1:Sh (Below w.heap.size w wr.drew):=⟨QaS HH.o.2⟩;have C1:Sh _:=⟨N1.o.clk hmk⟩;have hkm:k+m≤n:=by omega
   go_region_law (refine Qji 45 41 44 w.heap.size n k m (n-k) (n-k) w.heap.size 0 k n p (by simp [Act.put,go_sem]) (by simp [Act.put,go_sem]) N1.o HM.o C1.o hkm w.heap.size w U1.o Lr ?_;intro w3 N3 U3)
   simp [Act.put];go_wp2_with fail
   go_roundw
   case rel=>exact ⟨k+m,by omega,by omega,by first | rfl | go_num | simp,⟨N3,U3⟩⟩
   case measure=>simp [intOf];omega
theorem QoE (n:Nat) (hn:1≤n∧n≤1000) (w:World) (hg:Gl w) :
  Calls Tryz.prog 93 #[.int .i64 (n:Int)] w (AnsE True n (fun _=>(⟨#[48]⟩,⟨#[49]⟩)) w):=by
 have u:=(Below.refl w.heap.size w).alloc Lr (Jc #[J ⟨#[48]⟩,J ⟨#[49]⟩] 42);have n_x:(w.alloc (Jc #[J ⟨#[48]⟩,J ⟨#[49]⟩] 42)).heap[w.heap.size]? = _:=World.alloc_heap_new w _;have z0:=hg.z0;have z1:=hg.z1
 have C1:Cl (w.alloc (Jc #[J ⟨#[48]⟩,J ⟨#[49]⟩] 42)) w.heap.size 0 1 (fun _=>(⟨#[48]⟩,⟨#[49]⟩)):=⟨fun i hi=>by
  obtain rfl:i=0:=by omega
  exact ⟨Qaa n_x 0 rfl,Qaa n_x 1 rfl⟩⟩
 have cR:=QmC w.heap.size 0 1 n hn (⟨#[48]⟩,⟨#[49]⟩) _ C1;clear C1;go_enter Tryz.func93, Tryz.ntmps93;go_wp2_with fail;refine cR.mono ?_;intro e w' h;obtain ⟨b,cap,rfl,h1,h2,h3,h4⟩:=h.good trivial;have hs:=u.size;go_wp2_with fail;go_ret;exact ⟨u.trans (h.below.mono u.size),fun _=>⟨b,cap,rfl,Nat.le_trans hs h1,h2,h3,h4⟩,fun h=>absurd trivial h⟩
end Tw
end
end Go.Proofs.YtadcmepaniiciaaGreatDoor
