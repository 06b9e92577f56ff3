/-
  The law DigestSumMatchesReference: its walk.
-/
import Derived.Test.YtegkckpanajgjaaDoorDigRefE
namespace Go.Proofs.YtegkckpanajgjaaDoor
open Go.RowKit

set_option maxRecDepth 100000 in
set_option maxHeartbeats 4000000 in
theorem sumMatch_any (s t : ByteArray) (_hs : s.size ≤ 9223372036854775807) (_ht : t.size ≤ 9223372036854775807) (w : World) (ht : Tab w) :
    Calls Tryd.prog 3 #[.string s, .string t] w fun e w' => e = .returned (.bool true) ∧ Below w.heap.size w w' := by
  have cs := sane_any w ht
  have HT : Shut _ := ⟨ht⟩
  obtain ⟨ma, hma⟩ : ∃ ma, ma = min s.size 500 := ⟨_, rfl⟩
  have hmin1 : min ((s.size : Nat) : Int) 500 = (ma : Int) := by omega
  have hmin2 : (if (500 : Int) < ((s.size : Nat) : Int) then (500 : Int) else ((s.size : Nat) : Int)) = (ma : Int) := by split <;> omega
  obtain ⟨mb, hmb⟩ : ∃ mb, mb = min t.size 500 := ⟨_, rfl⟩
  have hmin3 : min ((t.size : Nat) : Int) 500 = (mb : Int) := by omega
  have hmin4 : (if (500 : Int) < ((t.size : Nat) : Int) then (500 : Int) else ((t.size : Nat) : Int)) = (mb : Int) := by split <;> omega
  have ma1 : ma ≤ s.size := by omega
  have mb1 : mb ≤ t.size := by omega
  have za : (s.extract 0 ma).size ≤ 500 := by rw [ByteArray.size_extract]; omega
  have zb : (t.extract 0 mb).size ≤ 500 := by rw [ByteArray.size_extract]; omega
  clear hma hmb _hs _ht ht
  go_enter Tryd.func3, Tryd.ntmps3
  go_wp2_with fail
  refine cs.mono ?_
  rintro e w1 ⟨rfl, hb1⟩
  go_wp2_with fail
  generalize s.extract 0 ma = sa at *
  generalize t.extract 0 mb = sb at *
  have e1 : ((Sh.sha sa).toList == (Sh.sha sa).toList) = true := beq_self_eq_true _
  have e2 : ((leafB sb).toList == (leafB sb).toList) = true := beq_self_eq_true _
  have e3 : ((nodeB sa sb).toList == (nodeB sa sb).toList) = true := beq_self_eq_true _
  have e4 : ((chainB sb sa).toList == (chainB sb sa).toList) = true := beq_self_eq_true _
  clear hmin1 hmin2 hmin3 hmin4 ma1 mb1
  refine (sum_any sa (by omega) _ (HT.o.below hb1 HT.o.2.2)).mono ?_
  rintro e w2 ⟨rfl, hB⟩
  have hb2 := hb1.trans (hB.mono hb1.size)
  clear hB hb1
  go_wp2_with fail
  refine (Sum_ref sa (by omega) _).mono ?_
  rintro e w3 ⟨rfl, hB⟩
  have hb3 := hb2.trans (hB.mono hb2.size)
  clear hB hb2
  go_wp2_with fail
  refine (leaf_any sb (by omega) _ (HT.o.below hb3 HT.o.2.2)).mono ?_
  rintro e w4 ⟨rfl, hB⟩
  have hb4 := hb3.trans (hB.mono hb3.size)
  clear hB hb3
  go_wp2_with fail
  refine (Leaf_ref sb (by omega) _).mono ?_
  rintro e w5 ⟨rfl, hB⟩
  have hb5 := hb4.trans (hB.mono hb4.size)
  clear hB hb4
  go_wp2_with fail
  refine (node_any sa sb (by omega) (by omega) _ (HT.o.below hb5 HT.o.2.2)).mono ?_
  rintro e w6 ⟨rfl, hB⟩
  have hb6 := hb5.trans (hB.mono hb5.size)
  clear hB hb5
  go_wp2_with fail
  refine (Node_ref sa sb (by omega) (by omega) _).mono ?_
  rintro e w7 ⟨rfl, hB⟩
  have hb7 := hb6.trans (hB.mono hb6.size)
  clear hB hb6
  go_wp2_with fail
  refine (chain_any sb sa (by omega) (by omega) _ (HT.o.below hb7 HT.o.2.2)).mono ?_
  rintro e w8 ⟨rfl, hB⟩
  have hb8 := hb7.trans (hB.mono hb7.size)
  clear hB hb7
  go_wp2_with fail
  refine (Chain_ref sb sa (by omega) (by omega) _).mono ?_
  rintro e w9 ⟨rfl, hB⟩
  have hb9 := hb8.trans (hB.mono hb8.size)
  clear hB hb8
  go_wp2
  go_ret
  exact ⟨rfl, hb9⟩
end Go.Proofs.YtegkckpanajgjaaDoor
