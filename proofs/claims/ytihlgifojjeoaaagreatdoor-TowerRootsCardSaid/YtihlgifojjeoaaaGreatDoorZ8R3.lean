/-
  PROVED: In a tower the square of the last square root is its radicand and its sign is 1, and embedding keeps signs and products; what is not positive cannot be adjoined; for all integers that make a tower of a level up to 2 and three elements. Every argument reads afterwards as it read before. Conditions: those of the given row and card: the variables enclosure.errRefused, tower.zero and tower.one hold what the program's text lays (tied by the card); linux/amd64.
-/
import Derived.Test.YtihlgifojjeoaaaGreatDoorZ8F1
import Derived.Test.YtihlgifojjeoaaaGreatDoorZ8G9
import Derived.Test.YtihlgifojjeoaaaGreatDoorZ8H9
import Derived.Test.YtihlgifojjeoaaaGreatDoorZ8R2
set_option maxRecDepth 1000000
set_option maxHeartbeats 40000000
open Go.Value renaming string→J
open Go.Obj renaming cells→Jc
namespace Go.Proofs.YtihlgifojjeoaaaGreatDoor.towerRoots
open Go.ChangeShapes Go.WideShapes Go.ChangeAt Go.RowKit
open Go.ChangeMaps (open_string shut_string)
open En Tw

theorem contract (H:Type) (enc:TypeId×Value→H) (W:World) (base:Nat) (args:Array Value) (ds gs:List (DataW H)) (before:List MemPlace)
  (hval:∀ (j:Nat) t v,Tryz.f6.params[j]? = some t→args[j]? = some v→Value.okWide Tryz.prog W .any base t v)
  (hW:DataW.Whole enc Tryz.prog Tryz.f6.params.toList Rows.towerRootsSpec.vars false W args.toList ds gs before) (hL:laidMetH Tryz.prog Rows.towerRootsRow.laid W) :
  Calls Tryz.prog 6 args W fun e W'=>∃ v,e = .returned v∧Rows.towerRootsSpec.post enc Tryz.prog Tryz.f6 false true false false W args v W':=by
 have hW':=hW;obtain ⟨p,q,hA0,hV,rfl,hfz,hnd⟩:=hW;have hA:DataW.TrodAll enc Tryz.prog W 0 (fun _=>true) true Tryz.f6.params.toList args.toList ds p:=hA0;rw [Tryz.params6] at hA hval;obtain ⟨v0,vs0,d0,ds0,p0,q0,hargs,rfl,rfl,h0,r0⟩:=trodAll_cons hA;obtain ⟨rfl,rfl,rfl⟩:=trodAll_nil r0;obtain rfl:args=#[v0]:=by cases args;simp_all
 obtain ⟨rfl,rfl⟩:=trodVars_none hV;have h0k:=h0;obtain ⟨cs,c,rfl,rfl,hC⟩:=Qjy (hval 0 24 v0 rfl rfl) h0;clear hA0;simp only [List.append_nil] at hW';obtain ⟨a,ha⟩:=Qrt hL;refine (roots_walk a  hC W (QuF hL) ha (fun W' h1 h2=>Qlq a W' h1 h2)).mono fun e W' ⟨he,hb⟩ => ?_;subst he;refine ⟨_,rfl, [_], [], [], [], [], [],hW',trodAll_cons_mk (shut_bool Tryz.underlying4 _) trodAll_mk0, ?_,rfl,World.keptBut_mono (fun x hx=>by cases hx) (hb.frame (· ∈ [])),fun h=>by cases h⟩;exact trodAll_cons_mk (Below.trod (by kernel_rfl) (by kernel_rfl) (of_decide_eq_true (by kernel_rfl)) h0k hb (fun x hx=>by cases hx)) trodAll_mk0

theorem reads (os:Os) {H:Type} (enc:TypeId×Value→H):∃ places,DataW.whole enc Tryz.prog ((QdM os).forCall (fun _ _=>0) ⟨#[],#[.agg (List.replicate 65 (Value.int .i64 0)).toArray], []⟩).memory Tryz.f6.params.toList Rows.towerRootsSpec.vars false (#[.agg (List.replicate 65 (Value.int .i64 0)).toArray]:Array Value).toList 8=some ([.agg [.lit (.int .i64 0),.agg [.lit (.int .i64 0),.lit (.int .i64 0),.lit (.int .i64 0),.lit (.int .i64 0),.lit (.int .i64 0),.lit (.int .i64 0),.lit (.int .i64 0),.lit (.int .i64 0),.lit (.int .i64 0),.lit (.int .i64 0),.lit (.int .i64 0),.lit (.int .i64 0),.lit (.int .i64 0),.lit (.int .i64 0),.lit (.int .i64 0),.lit (.int .i64 0)],.agg [.lit (.int .i64 0),.lit (.int .i64 0),.lit (.int .i64 0),.lit (.int .i64 0),.lit (.int .i64 0),.lit (.int .i64 0),.lit (.int .i64 0),.lit (.int .i64 0),.lit (.int .i64 0),.lit (.int .i64 0),.lit (.int .i64 0),.lit (.int .i64 0),.lit (.int .i64 0),.lit (.int .i64 0),.lit (.int .i64 0),.lit (.int .i64 0)],.agg [.lit (.int .i64 0),.lit (.int .i64 0),.lit (.int .i64 0),.lit (.int .i64 0),.lit (.int .i64 0),.lit (.int .i64 0),.lit (.int .i64 0),.lit (.int .i64 0),.lit (.int .i64 0),.lit (.int .i64 0),.lit (.int .i64 0),.lit (.int .i64 0),.lit (.int .i64 0),.lit (.int .i64 0),.lit (.int .i64 0),.lit (.int .i64 0)],.agg [.lit (.int .i64 0),.lit (.int .i64 0),.lit (.int .i64 0),.lit (.int .i64 0),.lit (.int .i64 0),.lit (.int .i64 0),.lit (.int .i64 0),.lit (.int .i64 0),.lit (.int .i64 0),.lit (.int .i64 0),.lit (.int .i64 0),.lit (.int .i64 0),.lit (.int .i64 0),.lit (.int .i64 0),.lit (.int .i64 0),.lit (.int .i64 0)]]], [],places) :=
 ⟨[],by kernel_rfl⟩

theorem lifted (os:Os) (started:os.Started) (H:Type) (enc:TypeId×Value→H) (F:Stop.Interp) :
  ReturnsInHanded {} Tryz.checked os 6 .any ((OpenSpec.ofChange Rows.towerRootsSpec).preRow enc Tryz.prog Tryz.f6 Rows.towerRootsRow.domain false Rows.towerRootsRow.laid) (((OpenSpec.ofChange Rows.towerRootsSpec).at F).post enc Tryz.prog Tryz.f6 false true false false):=by
 obtain ⟨places,hx⟩:=reads os enc
 refine returnsInHanded_of_row (C:=Tryz.checked) (s:=OpenSpec.ofChange Rows.towerRootsSpec) own started (by kernel_rfl) Tryz.func6
  (witness_row_at (enc:=enc) (C:=Tryz.checked) false (QdM os) #[.agg (List.replicate 65 (Value.int .i64 0)).toArray] rfl (by kernel_rfl) (by kernel_rfl) (by kernel_rfl)
   (OpenSpec.preRow_of_cond 8 hx (by kernel_rfl) (fun k hk=>by cases hk) (by kernel_rfl) (Qlb os _))) ?_
 intro W base args ds gs before hval hW _ _ _ hL _ _;exact contract H enc W base args ds gs before hval hW hL

theorem j1:(Rows.towerRootsRow.inPlace == Tryz.prog.inPlace 6)=true:=by kernel_rfl
theorem j2:(Rows.towerRootsRow.unfollowed == Tryz.prog.unfollowed 6)=true:=by kernel_rfl
theorem j3:(Rows.towerRootsRow.recurses == Tryz.prog.recurses 6)=true:=by kernel_rfl
theorem j4:(Rows.towerRootsRow.named == Tryz.prog.varsNamed 6)=true:=by kernel_rfl
theorem facts:joinedFacts Tryz.prog 6 Tryz.f6 (OpenSpec.ofChange Rows.towerRootsSpec).bare Rows.towerRootsRow=true:=by
 rw [joinedFacts,j1,j2,j3,j4]
 kernel_rfl
theorem said:Rows.TowerRootsSaid :=
 OpenClaim.holds_of_cond 6 Tryz.f6 rfl rfl rfl rfl rfl rfl rfl ⟨rfl,rfl,rfl,rfl,rfl⟩ rfl rfl rfl rfl rfl (by kernel_rfl) Tryz.func6 facts
  (of_decide_eq_true (by kernel_rfl)) (by unfold Func.isWrapper;first | (rw [if_pos (by decide +kernel)];kernel_rfl) | (rw [if_neg (by decide +kernel)];exact ⟨rfl,rfl⟩))
  (fun os started H enc _ F=>by rw [OpenClaim.pre_eq_preRow];exact lifted os started H enc F)

theorem plain (f:FuncId) (fn:Func) (hf:Tryz.pinned.checked.prog.funcNamed "workpiece/workpiecelaw06.TowerRoots" = some f) (hfn:Tryz.pinned.checked.prog.funcs[f]? = some fn) :
  true=Tryz.pinned.checked.prog.looks []∧∀ (j:Nat) t,fn.params[j]? = some t→Tryz.pinned.checked.prog.wantsStandIn t=false:=by
 obtain rfl:f = 6 := Option.some.inj ((show Tryz.prog.funcNamed "workpiece/workpiecelaw06.TowerRoots" = some 6 by kernel_rfl).symm.trans hf) |>.symm;obtain rfl:fn=Tryz.f6 := (Option.some.inj (Tryz.func6.symm.trans hfn)).symm;refine ⟨by kernel_rfl,fun j t ht => ?_⟩;rw [Tryz.params6] at ht;have hm:=Array.mem_of_getElem? ht;simp at hm;obtain rfl:t = 24 := by simpa using hm
 exact (show Tryz.prog.wantsStandIn 24 = false by kernel_rfl)

theorem card:Rows.TowerRootsCardSaid :=
 Claim7.holds_tied_plain_at .later [] _ _ _ _ said (fun _ h=>by cases h) (by kernel_rfl) (fun _ h=>by cases h) towerRoots_row_tie rfl ⟨rfl,rfl⟩ (by kernel_rfl) rfl plain (by kernel_rfl)
end Go.Proofs.YtihlgifojjeoaaaGreatDoor.towerRoots
