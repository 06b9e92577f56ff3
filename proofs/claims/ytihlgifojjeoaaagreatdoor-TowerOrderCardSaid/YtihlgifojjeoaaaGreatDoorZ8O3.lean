/-
  PROVED: In a tower comparison is a total order in which sums are monotonic, and products with elements by their signs, and fractions are ordered as they are without a tower, for all integers that make a tower, three elements and two fractions. Every argument reads afterwards as it read before. Conditions: those of the given row and card: the variables enclosure.errRefused, tower.zero and tower.one hold what the program's text lays (tied by the card); linux/amd64.
-/
import Derived.Test.YtihlgifojjeoaaaGreatDoorZ8F1
import Derived.Test.YtihlgifojjeoaaaGreatDoorZ8G9
import Derived.Test.YtihlgifojjeoaaaGreatDoorZ8H9
import Derived.Test.YtihlgifojjeoaaaGreatDoorZ8O2
set_option maxRecDepth 1000000
set_option maxHeartbeats 40000000
open Go.Value renaming string→J
open Go.Obj renaming cells→Jc
namespace Go.Proofs.YtihlgifojjeoaaaGreatDoor.towerOrder
open Go.ChangeShapes Go.WideShapes Go.ChangeAt Go.RowKit
open Go.ChangeMaps (open_string shut_string)
open En Tw

theorem in64 {k:Int} (h:(Lit.int .i64 k).wf=true) : -9223372036854775808≤k∧k≤9223372036854775807:=Joins.in64_of_wf h
theorem contract (H:Type) (enc:TypeId×Value→H) (W:World) (base:Nat) (args:Array Value) (ds gs:List (DataW H)) (before:List MemPlace)
  (hval:∀ (j:Nat) t v,Tryz.f7.params[j]? = some t→args[j]? = some v→Value.okWide Tryz.prog W .any base t v)
  (hW:DataW.Whole enc Tryz.prog Tryz.f7.params.toList Rows.towerOrderSpec.vars false W args.toList ds gs before) (hL:laidMetH Tryz.prog Rows.towerOrderRow.laid W) :
  Calls Tryz.prog 7 args W fun e W'=>∃ v,e = .returned v∧Rows.towerOrderSpec.post enc Tryz.prog Tryz.f7 false true false false W args v W':=by
 have hW':=hW;obtain ⟨p,q,hA0,hV,rfl,hfz,hnd⟩:=hW;have hA:DataW.TrodAll enc Tryz.prog W 0 (fun _=>true) true Tryz.f7.params.toList args.toList ds p:=hA0;rw [Tryz.params7] at hA hval;obtain ⟨v0,vs0,d0,ds0,p0,q0,hargs,rfl,rfl,h0,r0⟩:=trodAll_cons hA;obtain ⟨v1,vs1,d1,ds1,p1,q1,rfl,rfl,rfl,h1,r1⟩:=trodAll_cons r0;obtain ⟨v2,vs2,d2,ds2,p2,q2,rfl,rfl,rfl,h2,r2⟩:=trodAll_cons r1;obtain ⟨rfl,rfl,rfl⟩:=trodAll_nil r2;obtain rfl:args=#[v0,v1,v2]:=by cases args;simp_all
 obtain ⟨rfl,rfl⟩:=trodVars_none hV;have h0k:=h0;obtain ⟨cs,c,rfl,rfl,hC⟩:=Qjy (hval 0 24 v0 rfl rfl) h0;obtain ⟨t,rfl,rfl,rfl,wt⟩:=open_int Tryz.underlying3 (hval 1 3 v1 rfl rfl) h1;obtain ⟨u,rfl,rfl,rfl,wu⟩:=open_int Tryz.underlying3 (hval 2 3 v2 rfl rfl) h2;clear hA0;simp only [List.append_nil] at hW';obtain ⟨a,ha⟩:=Qrt hL;refine (order_walk a  t u hC (in64 wt) (in64 wu) W (QuF hL) ha (fun W' h1 h2=>Qlq a W' h1 h2)).mono fun e W' ⟨he,hb⟩ => ?_;subst he;refine ⟨_,rfl, [_,_,_], [], [], [], [], [],hW',trodAll_cons_mk (shut_bool Tryz.underlying4 _) trodAll_mk0, ?_,rfl,World.keptBut_mono (fun x hx=>by cases hx) (hb.frame (· ∈ [])),fun h=>by cases h⟩;exact trodAll_cons_mk (Below.trod (by kernel_rfl) (by kernel_rfl) (of_decide_eq_true (by kernel_rfl)) h0k hb (fun x hx=>by cases hx)) (trodAll_cons_mk (shut_int Tryz.underlying3 wt) (trodAll_cons_mk (shut_int Tryz.underlying3 wu) trodAll_mk0))

theorem reads (os:Os) {H:Type} (enc:TypeId×Value→H):∃ places,DataW.whole enc Tryz.prog ((QdM os).forCall (fun _ _=>0) ⟨#[],#[.agg (List.replicate 65 (Value.int .i64 0)).toArray,.int .i64 0,.int .i64 0], []⟩).memory Tryz.f7.params.toList Rows.towerOrderSpec.vars false (#[.agg (List.replicate 65 (Value.int .i64 0)).toArray,.int .i64 0,.int .i64 0]:Array Value).toList 8=some ([.agg [.lit (.int .i64 0),.agg [.lit (.int .i64 0),.lit (.int .i64 0),.lit (.int .i64 0),.lit (.int .i64 0),.lit (.int .i64 0),.lit (.int .i64 0),.lit (.int .i64 0),.lit (.int .i64 0),.lit (.int .i64 0),.lit (.int .i64 0),.lit (.int .i64 0),.lit (.int .i64 0),.lit (.int .i64 0),.lit (.int .i64 0),.lit (.int .i64 0),.lit (.int .i64 0)],.agg [.lit (.int .i64 0),.lit (.int .i64 0),.lit (.int .i64 0),.lit (.int .i64 0),.lit (.int .i64 0),.lit (.int .i64 0),.lit (.int .i64 0),.lit (.int .i64 0),.lit (.int .i64 0),.lit (.int .i64 0),.lit (.int .i64 0),.lit (.int .i64 0),.lit (.int .i64 0),.lit (.int .i64 0),.lit (.int .i64 0),.lit (.int .i64 0)],.agg [.lit (.int .i64 0),.lit (.int .i64 0),.lit (.int .i64 0),.lit (.int .i64 0),.lit (.int .i64 0),.lit (.int .i64 0),.lit (.int .i64 0),.lit (.int .i64 0),.lit (.int .i64 0),.lit (.int .i64 0),.lit (.int .i64 0),.lit (.int .i64 0),.lit (.int .i64 0),.lit (.int .i64 0),.lit (.int .i64 0),.lit (.int .i64 0)],.agg [.lit (.int .i64 0),.lit (.int .i64 0),.lit (.int .i64 0),.lit (.int .i64 0),.lit (.int .i64 0),.lit (.int .i64 0),.lit (.int .i64 0),.lit (.int .i64 0),.lit (.int .i64 0),.lit (.int .i64 0),.lit (.int .i64 0),.lit (.int .i64 0),.lit (.int .i64 0),.lit (.int .i64 0),.lit (.int .i64 0),.lit (.int .i64 0)]],.lit (.int .i64 0),.lit (.int .i64 0)], [],places) :=
 ⟨[],by kernel_rfl⟩

theorem lifted (os:Os) (started:os.Started) (H:Type) (enc:TypeId×Value→H) (F:Stop.Interp) :
  ReturnsInHanded {} Tryz.checked os 7 .any ((OpenSpec.ofChange Rows.towerOrderSpec).preRow enc Tryz.prog Tryz.f7 Rows.towerOrderRow.domain false Rows.towerOrderRow.laid) (((OpenSpec.ofChange Rows.towerOrderSpec).at F).post enc Tryz.prog Tryz.f7 false true false false):=by
 obtain ⟨places,hx⟩:=reads os enc
 refine returnsInHanded_of_row (C:=Tryz.checked) (s:=OpenSpec.ofChange Rows.towerOrderSpec) own started (by kernel_rfl) Tryz.func7
  (witness_row_at (enc:=enc) (C:=Tryz.checked) false (QdM os) #[.agg (List.replicate 65 (Value.int .i64 0)).toArray,.int .i64 0,.int .i64 0] rfl (by kernel_rfl) (by kernel_rfl) (by kernel_rfl)
   (OpenSpec.preRow_of_cond 8 hx (by kernel_rfl) (fun k hk=>by cases hk) (by kernel_rfl) (Qlb os _))) ?_
 intro W base args ds gs before hval hW _ _ _ hL _ _;exact contract H enc W base args ds gs before hval hW hL

theorem j1:(Rows.towerOrderRow.inPlace == Tryz.prog.inPlace 7)=true:=by kernel_rfl
theorem j2:(Rows.towerOrderRow.unfollowed == Tryz.prog.unfollowed 7)=true:=by kernel_rfl
theorem j3:(Rows.towerOrderRow.recurses == Tryz.prog.recurses 7)=true:=by kernel_rfl
theorem j4:(Rows.towerOrderRow.named == Tryz.prog.varsNamed 7)=true:=by kernel_rfl
theorem facts:joinedFacts Tryz.prog 7 Tryz.f7 (OpenSpec.ofChange Rows.towerOrderSpec).bare Rows.towerOrderRow=true:=by
 rw [joinedFacts,j1,j2,j3,j4]
 kernel_rfl
theorem said:Rows.TowerOrderSaid :=
 OpenClaim.holds_of_cond 7 Tryz.f7 rfl rfl rfl rfl rfl rfl rfl ⟨rfl,rfl,rfl,rfl,rfl⟩ rfl rfl rfl rfl rfl (by kernel_rfl) Tryz.func7 facts
  (of_decide_eq_true (by kernel_rfl)) (by unfold Func.isWrapper;first | (rw [if_pos (by decide +kernel)];kernel_rfl) | (rw [if_neg (by decide +kernel)];exact ⟨rfl,rfl⟩))
  (fun os started H enc _ F=>by rw [OpenClaim.pre_eq_preRow];exact lifted os started H enc F)

theorem plain (f:FuncId) (fn:Func) (hf:Tryz.pinned.checked.prog.funcNamed "workpiece/workpiecelaw06.TowerOrder" = some f) (hfn:Tryz.pinned.checked.prog.funcs[f]? = some fn) :
  true=Tryz.pinned.checked.prog.looks []∧∀ (j:Nat) t,fn.params[j]? = some t→Tryz.pinned.checked.prog.wantsStandIn t=false:=by
 obtain rfl:f = 7 := Option.some.inj ((show Tryz.prog.funcNamed "workpiece/workpiecelaw06.TowerOrder" = some 7 by kernel_rfl).symm.trans hf) |>.symm;obtain rfl:fn=Tryz.f7 := (Option.some.inj (Tryz.func7.symm.trans hfn)).symm;refine ⟨by kernel_rfl,fun j t ht => ?_⟩;rw [Tryz.params7] at ht;have hm:=Array.mem_of_getElem? ht;simp at hm;rcases hm with rfl | rfl
 ·exact (show Tryz.prog.wantsStandIn 24 = false by kernel_rfl)
 ·exact (show Tryz.prog.wantsStandIn 3 = false by kernel_rfl)

theorem card:Rows.TowerOrderCardSaid :=
 Claim7.holds_tied_plain_at .later [] _ _ _ _ said (fun _ h=>by cases h) (by kernel_rfl) (fun _ h=>by cases h) towerOrder_row_tie rfl ⟨rfl,rfl⟩ (by kernel_rfl) rfl plain (by kernel_rfl)
end Go.Proofs.YtihlgifojjeoaaaGreatDoor.towerOrder
