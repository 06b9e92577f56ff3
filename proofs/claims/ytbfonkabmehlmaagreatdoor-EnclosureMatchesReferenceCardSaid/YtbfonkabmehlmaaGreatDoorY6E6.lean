/-
  PROVED: EnclosureMatchesReference: every exported function of package enclosure answers, at every two boxes of digits and at every two made of twelve numbers, as the reference of chapter 5 does. Every argument reads afterwards as it read before. Conditions: those of the given row and card: the variable enclosure.errRefused holds what the program's text lays (tied by the card); linux/amd64.
-/
import Derived.Test.YtbfonkabmehlmaaGreatDoorY6E4
import Derived.Test.YtbfonkabmehlmaaGreatDoorY6E5
set_option maxRecDepth 1000000
set_option maxHeartbeats 40000000
open Go.Value renaming string→Z
open Go.Obj renaming cells→O
namespace Go.Proofs.YtbfonkabmehlmaaGreatDoor.enclosureMatchesReference
open Go.ChangeShapes Go.WideShapes Go.ChangeAt Go.RowKit
open Go.ChangeMaps (open_string shut_string)
open En

theorem contract (H:Type) (enc:TypeId×Value→H) (W:World) (base:Nat) (args:Array Value) (ds gs:List (DataW H)) (before:List MemPlace)
  (hval:∀ (j:Nat) t v,Tryz.f3.params[j]? = some t→args[j]? = some v→Value.okWide Tryz.prog W .any base t v)
  (hW:DataW.Whole enc Tryz.prog Tryz.f3.params.toList Rows.enclosureMatchesReferenceSpec.vars false W args.toList ds gs before) (hL:laidMetH Tryz.prog Rows.enclosureMatchesReferenceRow.laid W) :
  Calls Tryz.prog 3 args W fun e W'=>∃ v,e = .returned v∧Rows.enclosureMatchesReferenceSpec.post enc Tryz.prog Tryz.f3 false true false false W args v W':=by
 have hW':=hW
 obtain ⟨p,q,hA0,hV,rfl,hfz,hnd⟩:=hW
 have hA:DataW.TrodAll enc Tryz.prog W 0 (fun _=>true) true Tryz.f3.params.toList args.toList ds p:=hA0
 rw [Tryz.params3] at hA hval
 obtain ⟨v0,vs0,d0,ds0,p0,q0,hargs,rfl,rfl,h0,r0⟩:=trodAll_cons hA
 obtain ⟨v1,vs1,d1,ds1,p1,q1,rfl,rfl,rfl,h1,r1⟩:=trodAll_cons r0
 obtain ⟨v2,vs2,d2,ds2,p2,q2,rfl,rfl,rfl,h2,r2⟩:=trodAll_cons r1
 obtain ⟨v3,vs3,d3,ds3,p3,q3,rfl,rfl,rfl,h3,r3⟩:=trodAll_cons r2
 obtain ⟨v4,vs4,d4,ds4,p4,q4,rfl,rfl,rfl,h4,r4⟩:=trodAll_cons r3
 obtain ⟨v5,vs5,d5,ds5,p5,q5,rfl,rfl,rfl,h5,r5⟩:=trodAll_cons r4
 obtain ⟨rfl,rfl,rfl⟩:=trodAll_nil r5
 obtain rfl:args=#[v0,v1,v2,v3,v4,v5]:=by cases args;simp_all
 obtain ⟨rfl,rfl⟩:=trodVars_none hV
 obtain ⟨s0,s1,s2,s3,rfl,rfl,rfl,ws⟩:=open_box Tryz.underlying25 Tryz.underlying23 Tryz.underlying23 ⟨Tryz.underlying9, Tryz.underlying9, Tryz.underlying9, Tryz.underlying9⟩ ⟨rfl,rfl,rfl,rfl,rfl,rfl⟩ ⟨by kernel_rfl,by kernel_rfl,by kernel_rfl,by kernel_rfl,by kernel_rfl,by kernel_rfl,by kernel_rfl⟩ (hval 0 25 v0 rfl rfl) h0
 obtain ⟨t0,t1,t2,t3,rfl,rfl,rfl,wt⟩:=open_box Tryz.underlying25 Tryz.underlying23 Tryz.underlying23 ⟨Tryz.underlying9, Tryz.underlying9, Tryz.underlying9, Tryz.underlying9⟩ ⟨rfl,rfl,rfl,rfl,rfl,rfl⟩ ⟨by kernel_rfl,by kernel_rfl,by kernel_rfl,by kernel_rfl,by kernel_rfl,by kernel_rfl,by kernel_rfl⟩ (hval 1 25 v1 rfl rfl) h1
 obtain ⟨u0,u1,u2,u3,rfl,rfl,rfl,wu⟩:=Rt.open_arr4 Tryz.underlying26 Tryz.underlying3 (by kernel_rfl) (by kernel_rfl) (hval 2 26 v2 rfl rfl) h2
 obtain ⟨v0,v1,v2,v3,rfl,rfl,rfl,wv⟩:=Rt.open_arr4 Tryz.underlying26 Tryz.underlying3 (by kernel_rfl) (by kernel_rfl) (hval 3 26 v3 rfl rfl) h3
 obtain ⟨x0,x1,x2,x3,rfl,rfl,rfl,wx⟩:=Rt.open_arr4 Tryz.underlying26 Tryz.underlying3 (by kernel_rfl) (by kernel_rfl) (hval 4 26 v4 rfl rfl) h4
 obtain ⟨y,rfl,rfl,rfl,wy⟩:=open_int Tryz.underlying3 (hval 5 3 v5 rfl rfl) h5
 clear hA0
 simp only [List.append_nil] at hW'
 obtain ⟨a,ha⟩:=ref_of hL
 refine (match_walk a s0 s1 s2 s3 t0 t1 t2 t3 u0 u1 u2 u3 v0 v1 v2 v3 x0 x1 x2 x3 y (in64 wu.1) (in64 wu.2.1) (in64 wu.2.2.1) (in64 wu.2.2.2) (in64 wv.1) (in64 wv.2.1) (in64 wv.2.2.1) (in64 wv.2.2.2) (in64 wx.1) (in64 wx.2.1) (in64 wx.2.2.1) (in64 wx.2.2.2) (in64 wy) W ha).mono fun e W' ⟨he,hb⟩ => ?_
 subst he
 refine ⟨_,rfl, [_,_,_,_,_,_], [], [], [], [], [],hW',trodAll_cons_mk (shut_bool Tryz.underlying4 _) trodAll_mk0, ?_,rfl,World.keptBut_mono (fun x hx=>by cases hx) (hb.frame (· ∈ [])),fun h=>by cases h⟩
 exact trodAll_cons_mk (shut_box Tryz.underlying25 Tryz.underlying23 Tryz.underlying23 ⟨Tryz.underlying9, Tryz.underlying9, Tryz.underlying9, Tryz.underlying9⟩ ⟨rfl,rfl,rfl,rfl,rfl,rfl⟩ ⟨by kernel_rfl,by kernel_rfl,by kernel_rfl,by kernel_rfl,by kernel_rfl,by kernel_rfl,by kernel_rfl⟩ ws) (trodAll_cons_mk (shut_box Tryz.underlying25 Tryz.underlying23 Tryz.underlying23 ⟨Tryz.underlying9, Tryz.underlying9, Tryz.underlying9, Tryz.underlying9⟩ ⟨rfl,rfl,rfl,rfl,rfl,rfl⟩ ⟨by kernel_rfl,by kernel_rfl,by kernel_rfl,by kernel_rfl,by kernel_rfl,by kernel_rfl,by kernel_rfl⟩ wt) (trodAll_cons_mk (Rt.shut_arr4 Tryz.underlying26 Tryz.underlying3 (by kernel_rfl) (by kernel_rfl) wu) (trodAll_cons_mk (Rt.shut_arr4 Tryz.underlying26 Tryz.underlying3 (by kernel_rfl) (by kernel_rfl) wv) (trodAll_cons_mk (Rt.shut_arr4 Tryz.underlying26 Tryz.underlying3 (by kernel_rfl) (by kernel_rfl) wx) (trodAll_cons_mk (shut_int Tryz.underlying3 wy) trodAll_mk0)))))

theorem reads (os:Os) {H:Type} (enc:TypeId×Value→H):∃ places,DataW.whole enc Tryz.prog ((laidWorld os).forCall (fun _ _=>0) ⟨#[],#[.agg #[Z ⟨#[]⟩,Z ⟨#[]⟩,Z ⟨#[]⟩,Z ⟨#[]⟩],.agg #[Z ⟨#[]⟩,Z ⟨#[]⟩,Z ⟨#[]⟩,Z ⟨#[]⟩],.agg #[.int .i64 0,.int .i64 0,.int .i64 0,.int .i64 0],.agg #[.int .i64 0,.int .i64 0,.int .i64 0,.int .i64 0],.agg #[.int .i64 0,.int .i64 0,.int .i64 0,.int .i64 0],.int .i64 0], []⟩).memory Tryz.f3.params.toList Rows.enclosureMatchesReferenceSpec.vars false (#[.agg #[Z ⟨#[]⟩,Z ⟨#[]⟩,Z ⟨#[]⟩,Z ⟨#[]⟩],.agg #[Z ⟨#[]⟩,Z ⟨#[]⟩,Z ⟨#[]⟩,Z ⟨#[]⟩],.agg #[.int .i64 0,.int .i64 0,.int .i64 0,.int .i64 0],.agg #[.int .i64 0,.int .i64 0,.int .i64 0,.int .i64 0],.agg #[.int .i64 0,.int .i64 0,.int .i64 0,.int .i64 0],.int .i64 0]:Array Value).toList 8=some ([.agg [.agg [.lit (.string []),.lit (.string [])],.agg [.lit (.string []),.lit (.string [])]],.agg [.agg [.lit (.string []),.lit (.string [])],.agg [.lit (.string []),.lit (.string [])]],.agg [.lit (.int .i64 0),.lit (.int .i64 0),.lit (.int .i64 0),.lit (.int .i64 0)],.agg [.lit (.int .i64 0),.lit (.int .i64 0),.lit (.int .i64 0),.lit (.int .i64 0)],.agg [.lit (.int .i64 0),.lit (.int .i64 0),.lit (.int .i64 0),.lit (.int .i64 0)],.lit (.int .i64 0)], [],places) :=
 ⟨[],by kernel_rfl⟩

theorem lifted (os:Os) (started:os.Started) (H:Type) (enc:TypeId×Value→H) (F:Stop.Interp) :
  ReturnsInHanded {} Tryz.checked os 3 .any ((OpenSpec.ofChange Rows.enclosureMatchesReferenceSpec).preRow enc Tryz.prog Tryz.f3 Rows.enclosureMatchesReferenceRow.domain false Rows.enclosureMatchesReferenceRow.laid) (((OpenSpec.ofChange Rows.enclosureMatchesReferenceSpec).at F).post enc Tryz.prog Tryz.f3 false true false false):=by
 obtain ⟨places,hx⟩:=reads os enc
 refine returnsInHanded_of_row (C:=Tryz.checked) (s:=OpenSpec.ofChange Rows.enclosureMatchesReferenceSpec) own started (by kernel_rfl) Tryz.func3
  (witness_row_at (enc:=enc) (C:=Tryz.checked) false (laidWorld os) #[.agg #[Z ⟨#[]⟩,Z ⟨#[]⟩,Z ⟨#[]⟩,Z ⟨#[]⟩],.agg #[Z ⟨#[]⟩,Z ⟨#[]⟩,Z ⟨#[]⟩,Z ⟨#[]⟩],.agg #[.int .i64 0,.int .i64 0,.int .i64 0,.int .i64 0],.agg #[.int .i64 0,.int .i64 0,.int .i64 0,.int .i64 0],.agg #[.int .i64 0,.int .i64 0,.int .i64 0,.int .i64 0],.int .i64 0] rfl (by kernel_rfl) (by kernel_rfl) (by kernel_rfl)
   (OpenSpec.preRow_of_cond 8 hx (by kernel_rfl) (fun k hk=>by cases hk) (by kernel_rfl) (laid_met os _))) ?_
 intro W base args ds gs before hval hW _ _ _ hL _ _
 exact contract H enc W base args ds gs before hval hW hL

theorem said:Rows.EnclosureMatchesReferenceSaid :=
 OpenClaim.holds_of_cond 3 Tryz.f3 rfl rfl rfl rfl rfl rfl rfl ⟨rfl,rfl,rfl,rfl,rfl⟩ rfl rfl rfl rfl rfl (by kernel_rfl) Tryz.func3 (by kernel_rfl)
  (of_decide_eq_true (by kernel_rfl)) (by unfold Func.isWrapper;first | (rw [if_pos (by decide +kernel)];kernel_rfl) | (rw [if_neg (by decide +kernel)];exact ⟨rfl,rfl⟩))
  (fun os started H enc _ F=>by rw [OpenClaim.pre_eq_preRow];exact lifted os started H enc F)

theorem plain (f:FuncId) (fn:Func) (hf:Tryz.pinned.checked.prog.funcNamed "workpiece/workpiecelaw05.EnclosureMatchesReference" = some f) (hfn:Tryz.pinned.checked.prog.funcs[f]? = some fn) :
  true=Tryz.pinned.checked.prog.looks []∧∀ (j:Nat) t,fn.params[j]? = some t→Tryz.pinned.checked.prog.wantsStandIn t=false:=by
 obtain rfl:f = 3 := Option.some.inj ((show Tryz.prog.funcNamed "workpiece/workpiecelaw05.EnclosureMatchesReference" = some 3 by kernel_rfl).symm.trans hf) |>.symm
 obtain rfl:fn=Tryz.f3 := (Option.some.inj (Tryz.func3.symm.trans hfn)).symm
 refine ⟨by kernel_rfl,fun j t ht => ?_⟩
 rw [Tryz.params3] at ht
 have hm:=Array.mem_of_getElem? ht
 simp at hm
 rcases hm with rfl | rfl | rfl
 ·exact (show Tryz.prog.wantsStandIn 25 = false by kernel_rfl)
 ·exact (show Tryz.prog.wantsStandIn 26 = false by kernel_rfl)
 ·exact (show Tryz.prog.wantsStandIn 3 = false by kernel_rfl)

theorem card:Rows.EnclosureMatchesReferenceCardSaid :=
 Claim7.holds_tied_plain_at .later [] _ _ _ _ said (fun _ h=>by cases h) (by kernel_rfl) (fun _ h=>by cases h) enclosureMatchesReference_row_tie rfl ⟨rfl,rfl⟩ (by kernel_rfl) rfl plain (by kernel_rfl)
end Go.Proofs.YtbfonkabmehlmaaGreatDoor.enclosureMatchesReference
