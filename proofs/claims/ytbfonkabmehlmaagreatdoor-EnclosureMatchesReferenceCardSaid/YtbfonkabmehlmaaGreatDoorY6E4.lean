/-
  What the cards of layer 5 share: the refusal's variable out of what the row lists, a world for the witness.
-/
import Derived.Test.YtbfonkabmehlmaaGreatDoorCards
import Derived.Test.YtbfonkabmehlmaaGreatDoorTie
import Derived.Test.YtbfonkabmehlmaaGreatDoorY6C7
import Derived.Test.YtbfonkabmehlmaaGreatDoorY6B6
import Derived.ProofKit
import Derived.OpenShut
import Derived.Deep.DeepHandedRow
import Derived.Lib.SmallJoins
import Derived.Stop.LaidErr
import Derived.ChangeSame
set_option maxRecDepth 1000000
set_option maxHeartbeats 40000000
open Go.Value renaming string→Z
open Go.Obj renaming cells→O
namespace Go.Proofs.YtbfonkabmehlmaaGreatDoor
section
namespace En
open Go.ChangeShapes Go.WideShapes Go.ChangeAt Go.RowKit
open Go.Extern.Stop Go.Stop Go.Extern
theorem own:ownKnob Tryz.prog.godebug=none:=by kernel_rfl
theorem gE:Tryz.prog.globalNamed "workpiece/enclosure.errRefused" = some 0 := by kernel_rfl
theorem gET:(Tryz.prog.globals[0]?).map (·.type)=some 127 := by kernel_rfl
theorem cellsE:Tryz.prog.cellsOf 222 = 1:=by kernel_rfl
theorem cellsStr:Tryz.prog.cellsOf 9 = 1:=by kernel_rfl
theorem starE : "*" ++ "errors.errorString" = "*errors.errorString" := by decide
theorem rowE (u:TypeId) (h:Tryz.prog.typeName? 3 u=some "*errors.errorString"):u = 200 :=
 typeName_ptr_named (nm := "errors.errorString") (by rw [starE];kernel_rfl) (by kernel_rfl) (by decide) u (by rw [starE];exact h)
abbrev theLaid:List (String×DataW Unit) := [("workpiece/enclosure.errRefused", Rows.laid_workpiece_enclosure_errRefused)]
theorem ref_of {W:World} (h:laidMetH Tryz.prog theLaid W):∃ a,Ref a W:=by
 obtain ⟨a0,s0,hv0,hc0,hs0,hz0⟩:=laid_sentinel (r := []) h gE gET Tryz.underlying127 rowE Tryz.underlying200 Tryz.underlying222 rfl rfl Tryz.underlying9 cellsE cellsStr
 have h1:=World.var?_cell gE hv0 0
 simp at h1
 exact ⟨a0,h1⟩
abbrev refS:ByteArray:={data:=#[101,110,99,108,111,115,117,114,101,58,32,114,101,102,117,115,101,100]}
noncomputable def low:Nat:=(World.holding Tryz.prog default ⟨#[],#[], []⟩).heap.size
noncomputable def laidWorld (os:Os):World :=
 let w0:=World.holding Tryz.prog os ⟨#[O #[Z refS] 222],#[], []⟩
 {w0 with heap:=w0.heap.modify 0 fun
   | .cells _ t frozen=>O #[.iface 200 (.pointer (some ⟨low,0,none⟩))] t frozen
   | o=>o}
theorem laid_met (os:Os) (args:Array Value):laidMet Tryz.prog theLaid ((laidWorld os).forCall (fun _ _=>0) ⟨#[],args, []⟩).memory :=
 laidMet_of_run (ps := [.cell 0 0,.cell low 0]) 8 (by kernel_rfl) (by kernel_rfl) (by kernel_rfl)
theorem in64 {k:Int} (h:(Lit.int .i64 k).wf=true):In64 k:=Joins.in64_of_wf h
end En
end
section
namespace En
open Go.RowKit Go.ChangeShapes Go.WideShapes
section
variable {H:Type} {enc:TypeId×Value→H} {P:Program} {w:World} {base:Nat} {spare:Nat→Bool} {held:Bool}
theorem okWide_box {r:Reach} {b0:Nat} {t:TypeId} {fs:Array Field} {v:Value} (ht:P.underlying t=some (.struct fs)) (h:Value.okWide P w r b0 t v):∃ cs:Array Value,v = .agg cs∧cs.size=P.cellsOf t:=by
 simp only [Value.okWide,ht] at h
 obtain ⟨cs,h1,h2,_⟩:=h
 exact ⟨cs,h1,h2⟩
theorem trod_text {t:TypeId} (ht:P.underlying t=some .string) {fuel:Nat} {c:Value} {x:DataW H×List MemPlace} (h:DataW.trod enc P w base spare held fuel t [c]=some x):∃ s:ByteArray,c=Z s∧x=(.lit (.string s.data.toList), [])∧s.size≤maxLen:=by
 cases fuel with
 | zero=>simp [DataW.trod] at h
 | succ n =>
  unfold DataW.trod at h
  rw [ht] at h
  cases c <;> simp at h
  exact ⟨_,rfl,by simp_all,by simp_all⟩
theorem trod_texts {t:TypeId} {f0 f1:Field} (ht:P.underlying t=some (.struct #[f0,f1])) (e0:P.underlying f0.type=some .string) (e1:P.underlying f1.type=some .string) (o0:f0.offset=0) (o1:f1.offset=1) (c0:P.cellsOf f0.type=1) (c1:P.cellsOf f1.type=1) {fuel:Nat} {k0 k1:Value} {x:DataW H×List MemPlace}
  (h:DataW.trod enc P w base spare held fuel t [k0,k1]=some x) :
  ∃ a b:ByteArray,k0=Z a∧k1=Z b∧x=(.agg [.lit (.string a.data.toList),.lit (.string b.data.toList)], [])∧(a.size≤maxLen∧b.size≤maxLen):=by
 obtain ⟨y0,y1,m,hx,_,g0,g1⟩:=trod_struct2 ht h
 rw [o0,c0] at g0
 rw [o1,c1] at g1
 obtain ⟨a,rfl,rfl,wa⟩:=trod_text e0 (by simpa using g0)
 obtain ⟨b,rfl,rfl,wb⟩:=trod_text e1 (by simpa using g1)
 exact ⟨a,b,rfl,rfl,by simpa using hx,wa,wb⟩
theorem open_box {r:Reach} {b0:Nat} {t:TypeId} {g0 g1 f0 f1 f2 f3:Field} {v:Value} {d:DataW H} {p:List MemPlace} (ht:P.underlying t=some (.struct #[g0,g1]))
  (u0:P.underlying g0.type=some (.struct #[f0,f1])) (u1:P.underlying g1.type=some (.struct #[f2,f3])) (e:P.underlying f0.type=some .string∧P.underlying f1.type=some .string∧P.underlying f2.type=some .string∧P.underlying f3.type=some .string)
  (o:g0.offset=0∧g1.offset=2∧f0.offset=0∧f1.offset=1∧f2.offset=0∧f3.offset=1) (c:P.cellsOf g0.type=2∧P.cellsOf g1.type=2∧P.cellsOf f0.type=1∧P.cellsOf f1.type=1∧P.cellsOf f2.type=1∧P.cellsOf f3.type=1∧P.cellsOf t=4)
  (hv:Value.okWide P w r b0 t v) (h:DataW.Trod enc P w base spare held t v d p) :
  ∃ s0 s1 s2 s3:ByteArray,v = .agg #[Z s0,Z s1,Z s2,Z s3]∧d = .agg [.agg [.lit (.string s0.data.toList),.lit (.string s1.data.toList)],.agg [.lit (.string s2.data.toList),.lit (.string s3.data.toList)]]∧p = []∧((s0.size≤maxLen∧s1.size≤maxLen)∧(s2.size≤maxLen∧s3.size≤maxLen)):=by
 obtain ⟨cs,rfl,hsz⟩:=okWide_box ht hv
 obtain ⟨l⟩:=cs
 match l,hsz.trans c.2.2.2.2.2.2 with
 | [k0,k1,k2,k3],_ =>
  obtain ⟨fuel,hf⟩:=h
  obtain ⟨y0,y1,m,hx,_,h0,h1⟩:=trod_struct2 ht hf
  rw [o.1,c.1] at h0
  rw [o.2.1,c.2.1] at h1
  obtain ⟨a0,a1,rfl,rfl,rfl,wa⟩:=trod_texts u0 e.1 e.2.1 o.2.2.1 o.2.2.2.1 c.2.2.1 c.2.2.2.1 (k0:=k0) (k1:=k1) (by simpa [Value.cells] using h0)
  obtain ⟨b0,b1,rfl,rfl,rfl,wb⟩:=trod_texts u1 e.2.2.1 e.2.2.2 o.2.2.2.2.1 o.2.2.2.2.2 c.2.2.2.2.1 c.2.2.2.2.2.1 (k0:=k2) (k1:=k3) (by simpa [Value.cells] using h1)
  obtain ⟨rfl,rfl⟩:=Prod.mk.inj hx
  exact ⟨a0,a1,b0,b1,rfl,rfl,rfl,wa,wb⟩
theorem shut_box {t:TypeId} {g0 g1 f0 f1 f2 f3:Field} (ht:P.underlying t=some (.struct #[g0,g1]))
  (u0:P.underlying g0.type=some (.struct #[f0,f1])) (u1:P.underlying g1.type=some (.struct #[f2,f3])) (e:P.underlying f0.type=some .string∧P.underlying f1.type=some .string∧P.underlying f2.type=some .string∧P.underlying f3.type=some .string)
  (o:g0.offset=0∧g1.offset=2∧f0.offset=0∧f1.offset=1∧f2.offset=0∧f3.offset=1) (c:P.cellsOf g0.type=2∧P.cellsOf g1.type=2∧P.cellsOf f0.type=1∧P.cellsOf f1.type=1∧P.cellsOf f2.type=1∧P.cellsOf f3.type=1∧P.cellsOf t=4)
  {s0 s1 s2 s3:ByteArray} (hw:(s0.size≤maxLen∧s1.size≤maxLen)∧(s2.size≤maxLen∧s3.size≤maxLen)) :
  DataW.Trod enc P w base spare held t (.agg #[Z s0,Z s1,Z s2,Z s3]) (.agg [.agg [.lit (.string s0.data.toList),.lit (.string s1.data.toList)],.agg [.lit (.string s2.data.toList),.lit (.string s3.data.toList)]]) [] :=
 ⟨3,by simp [DataW.trod,Value.cells,ht,u0,u1,e.1,e.2.1,e.2.2.1,e.2.2.2,o.1,o.2.1,o.2.2.1,o.2.2.2.1,o.2.2.2.2.1,o.2.2.2.2.2,c.1,c.2.1,c.2.2.1,c.2.2.2.1,c.2.2.2.2.1,c.2.2.2.2.2.1,c.2.2.2.2.2.2,hw.1.1,hw.1.2,hw.2.1,hw.2.2]⟩
end
end En
end
end Go.Proofs.YtbfonkabmehlmaaGreatDoor
