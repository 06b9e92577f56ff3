/-
  The reference: Proof and Extension, outside and inside; Root of an empty list.
-/
import Derived.Test.YtegkckpanajgjaaDoorDigRefH
import Derived.Test.YtegkckpanajgjaaDoorDigAcc
namespace Go.Proofs.YtegkckpanajgjaaDoor
open Go.RowKit

set_option maxHeartbeats 400000 in
theorem proof_outR (p : Option Addr) (n cap : Nat) (i : Int) (hi : i < 0 ∨ (n : Int) ≤ i) (w : World) :
    Calls Tryd.prog 22 #[.slice p n cap, .int .i64 i] w fun e w' => e = .returned (.tuple #[.slice none 0 0, .int .i64 2]) ∧ w = w' := by
  by_cases h0 : i < 0
  · clear hi
    go_enter Tryd.func22, Tryd.ntmps22
    go_wp2
    go_ret2
    exact ⟨rfl, rfl⟩
  · have h1 : (n : Int) ≤ i := by omega
    clear hi
    go_enter Tryd.func22, Tryd.ntmps22
    go_wp2
    go_ret2
    exact ⟨rfl, rfl⟩
set_option maxHeartbeats 400000 in
theorem ext_outR (p : Option Addr) (n cap : Nat) (i : Int) (hi : i < 0 ∨ (n : Int) < i) (w : World) :
    Calls Tryd.prog 24 #[.slice p n cap, .int .i64 i] w fun e w' => e = .returned (.tuple #[.slice none 0 0, .int .i64 2]) ∧ w = w' := by
  by_cases h0 : i < 0
  · clear hi
    go_enter Tryd.func24, Tryd.ntmps24
    go_wp2
    go_ret2
    exact ⟨rfl, rfl⟩
  · have h1 : (n : Int) < i := by omega
    clear hi
    go_enter Tryd.func24, Tryd.ntmps24
    go_wp2
    go_ret2
    exact ⟨rfl, rfl⟩
set_option maxHeartbeats 400000 in
theorem ext_zeroR (p : Option Addr) (n cap : Nat) (w : World) :
    Calls Tryd.prog 24 #[.slice p n cap, .int .i64 0] w fun e w' => e = .returned (.tuple #[.slice none 0 0, .int .i64 0]) ∧ w = w' := by
  go_enter Tryd.func24, Tryd.ntmps24
  go_wp2
  go_ret2
  exact ⟨rfl, rfl⟩
set_option maxHeartbeats 400000 in
theorem ext_inR (ls : List ByteArray) (mm b o cap : Nat) (p : Option Addr) (hp : 1 ≤ ls.length → p = some ⟨b, o, none⟩) (w : World) (hm : mm ≤ ls.length) (hth : ls.length ≤ 900) (hcap : ls.length ≤ cap) (hc : cap ≤ 9223372036854775807) (hS : Small ls) (hA : SA w b o ls) :
    Calls Tryd.prog 24 #[.slice p ls.length cap, .int .i64 mm] w fun e w' => ∃ v, e = .returned (.tuple #[v, .int .i64 0]) ∧ OwnS w' w.heap.size v (extR ls mm).reverse ∧ Below w.heap.size w w' := by
  by_cases h0 : mm = 0
  · subst h0
    exact (ext_zeroR p ls.length cap w).mono fun e w' ⟨he, hw⟩ => ⟨_, he, by rw [extR, if_pos rfl]; exact OwnS.nil _ _, by rw [← hw]; exact Below.refl _ _⟩
  · obtain rfl := hp (by omega)
    have c := partR_ind ls.length ls mm true b o cap w (Nat.le_refl _) (by omega) hm hth hcap hc hS hA
    have hne : ¬ ((mm : Int) = 0) := by omega
    have HE : Shut (extR ls mm = partR ls mm true) := ⟨by rw [extR, if_neg h0]⟩
    clear hA hS
    go_enter Tryd.func24, Tryd.ntmps24
    go_wp2_with (go_at_call 43; refine c.mono ?_; rintro e w1 ⟨v, rfl, hO, _, hB⟩)
    go_ret2
    exact ⟨_, rfl, by rw [HE.o]; exact hO, hB⟩
set_option maxHeartbeats 400000 in
theorem root_noneR (p : Option Addr) (cap : Nat) (w : World) :
    Calls Tryd.prog 27 #[.slice p 0 cap] w fun e w' => e = .returned (.string (rootB [])) ∧ Below w.heap.size w w' := by
  have c := fun W => Sum_ref ⟨#[]⟩ (by show 0 ≤ _; omega) W
  have HR : Shut _ := ⟨root_nil⟩
  go_enter Tryd.func27, Tryd.ntmps27
  go_wp2_with (go_at_call 13; refine (c _).mono ?_; rintro e w1 ⟨rfl, hB⟩)
  go_ret
  exact ⟨by rw [HR.o]; rfl, hB⟩
end Go.Proofs.YtegkckpanajgjaaDoor
