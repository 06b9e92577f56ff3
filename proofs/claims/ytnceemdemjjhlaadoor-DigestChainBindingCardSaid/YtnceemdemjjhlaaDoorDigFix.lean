/-
  The fixed examples: their digests, by the kernel.
-/
import Derived.Test.YtnceemdemjjhlaaDoorDigVer
import Derived.KernelRfl
namespace Go.Proofs.YtnceemdemjjhlaaDoor
open Go.RowKit

theorem bl_ba (l : List Nat) (h : ∀ x ∈ l, x < 256) : Sh.bl (Sh.ba l) = l := by
  simp only [Sh.bl, Sh.ba, List.map_map]
  conv => rhs; rw [← List.map_id l]
  exact List.map_congr_left (fun x hx => by simp; exact h x hx)
theorem bl_sha (s : ByteArray) : Sh.bl (Sh.sha s) = Sh.shaN (Sh.bl s) := bl_ba _ (Sh.shaN_lt _)
theorem bl_leaf (s : ByteArray) : Sh.bl (leafB s) = Sh.shaN (0 :: Sh.bl s) := by rw [leafB, bl_sha, Sh.bl_append]; rfl
theorem bl_node (a b : ByteArray) : Sh.bl (nodeB a b) = Sh.shaN (1 :: (Sh.bl a ++ Sh.bl b)) := by rw [nodeB, bl_sha, Sh.bl_append, Sh.bl_append]; rfl
theorem k_a : Sh.shaN [0, 97] = [2, 42, 105, 121, 230, 218, 183, 170, 90, 228, 195, 229, 228, 95, 126, 151, 113, 18, 167, 230, 53, 147, 130, 13, 190, 193, 236, 115, 138, 36, 249, 60] := by kernel_rfl
theorem k_b : Sh.shaN [0, 98] = [87, 235, 53, 97, 93, 71, 243, 78, 199, 20, 202, 205, 245, 253, 116, 96, 138, 94, 142, 16, 39, 36, 232, 11, 36, 178, 135, 192, 194, 123, 106, 49] := by kernel_rfl
theorem k_c : Sh.shaN [0, 99] = [89, 127, 203, 49, 40, 45, 52, 101, 76, 32, 13, 52, 24, 252, 165, 112, 92, 100, 142, 191, 50, 110, 199, 61, 141, 222, 241, 24, 65, 248, 118, 216] := by kernel_rfl
theorem k_d : Sh.shaN [0, 100] = [208, 112, 220, 91, 141, 169, 174, 167, 220, 15, 90, 212, 194, 157, 137, 150, 82, 0, 5, 156, 154, 12, 236, 163, 171, 213, 218, 36, 146, 220, 183, 29] := by kernel_rfl
theorem k_n : Sh.shaN [1, 2, 42, 105, 121, 230, 218, 183, 170, 90, 228, 195, 229, 228, 95, 126, 151, 113, 18, 167, 230, 53, 147, 130, 13, 190, 193, 236, 115, 138, 36, 249, 60, 87, 235, 53, 97, 93, 71, 243, 78, 199, 20, 202, 205, 245, 253, 116, 96, 138, 94, 142, 16, 39, 36, 232, 11, 36, 178, 135, 192, 194, 123, 106, 49] = [177, 55, 152, 95, 244, 132, 251, 96, 13, 185, 49, 7, 199, 123, 3, 101, 200, 13, 120, 245, 180, 41, 222, 208, 253, 151, 54, 29, 7, 121, 153, 235] := by kernel_rfl
theorem k_r : Sh.shaN [1, 177, 55, 152, 95, 244, 132, 251, 96, 13, 185, 49, 7, 199, 123, 3, 101, 200, 13, 120, 245, 180, 41, 222, 208, 253, 151, 54, 29, 7, 121, 153, 235, 89, 127, 203, 49, 40, 45, 52, 101, 76, 32, 13, 52, 24, 252, 165, 112, 92, 100, 142, 191, 50, 110, 199, 61, 141, 222, 241, 24, 65, 248, 118, 216] = [54, 100, 46, 115, 194, 84, 10, 177, 33, 227, 166, 191, 149, 69, 176, 162, 73, 130, 205, 131, 14, 177, 61, 60, 209, 157, 227, 206, 108, 2, 30, 193] := by kernel_rfl
theorem k_x1 : Sh.shaN [1, 177, 55, 152, 95, 244, 132, 251, 96, 13, 185, 49, 7, 199, 123, 3, 101, 200, 13, 120, 245, 180, 41, 222, 208, 253, 151, 54, 29, 7, 121, 153, 235, 208, 112, 220, 91, 141, 169, 174, 167, 220, 15, 90, 212, 194, 157, 137, 150, 82, 0, 5, 156, 154, 12, 236, 163, 171, 213, 218, 36, 146, 220, 183, 29] = [11, 137, 49, 181, 17, 196, 191, 58, 231, 206, 86, 31, 156, 18, 116, 111, 70, 5, 244, 46, 236, 117, 24, 141, 22, 184, 218, 186, 37, 48, 72, 132] := by kernel_rfl
theorem k_q : Sh.shaN [1, 177, 55, 152, 95, 244, 132, 251, 96, 13, 185, 49, 7, 199, 123, 3, 101, 200, 13, 120, 245, 180, 41, 222, 208, 253, 151, 54, 29, 7, 121, 153, 235, 87, 235, 53, 97, 93, 71, 243, 78, 199, 20, 202, 205, 245, 253, 116, 96, 138, 94, 142, 16, 39, 36, 232, 11, 36, 178, 135, 192, 194, 123, 106, 49] = [174, 64, 140, 162, 195, 118, 124, 82, 232, 115, 100, 129, 196, 94, 120, 216, 153, 5, 120, 176, 239, 140, 226, 106, 139, 116, 103, 128, 205, 233, 151, 16] := by kernel_rfl
theorem k_x2 : Sh.shaN [1, 174, 64, 140, 162, 195, 118, 124, 82, 232, 115, 100, 129, 196, 94, 120, 216, 153, 5, 120, 176, 239, 140, 226, 106, 139, 116, 103, 128, 205, 233, 151, 16, 89, 127, 203, 49, 40, 45, 52, 101, 76, 32, 13, 52, 24, 252, 165, 112, 92, 100, 142, 191, 50, 110, 199, 61, 141, 222, 241, 24, 65, 248, 118, 216] = [179, 47, 200, 233, 115, 55, 22, 14, 104, 174, 6, 157, 155, 157, 219, 50, 253, 112, 219, 46, 13, 228, 29, 87, 29, 255, 220, 190, 234, 6, 61, 139] := by kernel_rfl
theorem k_e : Sh.shaN [] = [227, 176, 196, 66, 152, 252, 28, 20, 154, 251, 244, 200, 153, 111, 185, 36, 39, 174, 65, 228, 100, 155, 147, 76, 164, 149, 153, 27, 120, 82, 184, 85] := by kernel_rfl
theorem k_abc : Sh.shaN [97, 98, 99] = [186, 120, 22, 191, 143, 1, 207, 234, 65, 65, 64, 222, 93, 174, 34, 35, 176, 3, 97, 163, 150, 23, 122, 156, 180, 16, 255, 97, 242, 0, 21, 173] := by kernel_rfl

def sA : ByteArray := ⟨#[97]⟩
def sB : ByteArray := ⟨#[98]⟩
def sC : ByteArray := ⟨#[99]⟩
def sD : ByteArray := ⟨#[100]⟩
theorem b_a : Sh.bl (leafB sA) = [2, 42, 105, 121, 230, 218, 183, 170, 90, 228, 195, 229, 228, 95, 126, 151, 113, 18, 167, 230, 53, 147, 130, 13, 190, 193, 236, 115, 138, 36, 249, 60] := by rw [bl_leaf]; exact k_a
theorem b_b : Sh.bl (leafB sB) = [87, 235, 53, 97, 93, 71, 243, 78, 199, 20, 202, 205, 245, 253, 116, 96, 138, 94, 142, 16, 39, 36, 232, 11, 36, 178, 135, 192, 194, 123, 106, 49] := by rw [bl_leaf]; exact k_b
theorem b_c : Sh.bl (leafB sC) = [89, 127, 203, 49, 40, 45, 52, 101, 76, 32, 13, 52, 24, 252, 165, 112, 92, 100, 142, 191, 50, 110, 199, 61, 141, 222, 241, 24, 65, 248, 118, 216] := by rw [bl_leaf]; exact k_c
theorem b_d : Sh.bl (leafB sD) = [208, 112, 220, 91, 141, 169, 174, 167, 220, 15, 90, 212, 194, 157, 137, 150, 82, 0, 5, 156, 154, 12, 236, 163, 171, 213, 218, 36, 146, 220, 183, 29] := by rw [bl_leaf]; exact k_d
def n1 : ByteArray := nodeB (leafB sA) (leafB sB)
def rABC : ByteArray := nodeB n1 (leafB sC)
theorem b_n : Sh.bl n1 = [177, 55, 152, 95, 244, 132, 251, 96, 13, 185, 49, 7, 199, 123, 3, 101, 200, 13, 120, 245, 180, 41, 222, 208, 253, 151, 54, 29, 7, 121, 153, 235] := by rw [n1, bl_node, b_a, b_b]; exact k_n
theorem b_r : Sh.bl rABC = [54, 100, 46, 115, 194, 84, 10, 177, 33, 227, 166, 191, 149, 69, 176, 162, 73, 130, 205, 131, 14, 177, 61, 60, 209, 157, 227, 206, 108, 2, 30, 193] := by rw [rABC, bl_node, b_n, b_c]; exact k_r
theorem ne_1 : nodeB n1 (leafB sD) ≠ rABC := by
  intro e
  have := congrArg Sh.bl e
  rw [bl_node, b_n, b_d, b_r] at this
  exact absurd (k_x1.symm.trans this) (by decide)
theorem b_q : Sh.bl (nodeB n1 (leafB sB)) = [174, 64, 140, 162, 195, 118, 124, 82, 232, 115, 100, 129, 196, 94, 120, 216, 153, 5, 120, 176, 239, 140, 226, 106, 139, 116, 103, 128, 205, 233, 151, 16] := by rw [bl_node, b_n, b_b]; exact k_q
theorem ne_2 : nodeB (nodeB n1 (leafB sB)) (leafB sC) ≠ rABC := by
  intro e
  have := congrArg Sh.bl e
  rw [bl_node, b_q, b_c, b_r] at this
  exact absurd (k_x2.symm.trans this) (by decide)
theorem spl3 : spl 3 = 2 := by decide +kernel
theorem spl2 : spl 2 = 1 := by decide +kernel
theorem root_ab : rootB [sA, sB] = n1 := by
  rw [root_many _ (by simp)]
  show nodeB (rootB ([sA, sB].take (spl 2))) (rootB ([sA, sB].drop (spl 2))) = n1
  rw [spl2]
  show nodeB (rootB [sA]) (rootB [sB]) = n1
  rw [root_one, root_one, n1]
theorem root_abc : rootB [sA, sB, sC] = rABC := by
  rw [root_many _ (by simp)]
  show nodeB (rootB ([sA, sB, sC].take (spl 3))) (rootB ([sA, sB, sC].drop (spl 3))) = rABC
  rw [spl3]
  show nodeB (rootB [sA, sB]) (rootB [sC]) = rABC
  rw [root_one, root_ab, rABC]
theorem path_abc : (pathR [sA, sB, sC] 2).reverse = [n1] := by
  rw [pathR, dif_neg (by simp)]
  show (if 2 < spl 3 then _ else rootB ([sA, sB, sC].take (spl 3)) :: pathR ([sA, sB, sC].drop (spl 3)) (2 - spl 3)).reverse = [n1]
  rw [spl3, if_neg (by omega)]
  show (rootB [sA, sB] :: pathR [sC] 0).reverse = [n1]
  rw [root_ab, pathR, dif_pos (by simp)]; rfl
theorem ext_abc : (extR [sA, sB, sC] 1).reverse = [leafB sB, leafB sC] := by
  rw [extR, if_neg (by omega), partR, dif_neg (by simp)]
  show (if 1 ≤ spl 3 then rootB ([sA, sB, sC].drop (spl 3)) :: partR ([sA, sB, sC].take (spl 3)) 1 true else _).reverse = _
  rw [spl3, if_pos (by omega)]
  show (rootB [sC] :: partR [sA, sB] 1 true).reverse = _
  rw [root_one, partR, dif_neg (by simp)]
  show (leafB sC :: (if 1 ≤ spl 2 then rootB ([sA, sB].drop (spl 2)) :: partR ([sA, sB].take (spl 2)) 1 true else _)).reverse = _
  rw [spl2, if_pos (by omega)]
  show (leafB sC :: rootB [sB] :: partR [sA] 1 true).reverse = _
  rw [root_one, partR, dif_pos (by simp)]; rfl
theorem d_n1 : digs [n1] = true := by simp [digs, n1, node_size]
theorem d_bc : digs [leafB sB, leafB sC] = true := by simp [digs, leaf_size]
theorem d_2 (a : ByteArray) (h : a.size = 32) : digs [a, rABC] = true := by simp [digs, rABC, node_size, h]
theorem val_c (s : ByteArray) : valueR [n1] 3 2 s = (nodeB n1 (leafB s), true) := by
  rw [valueR, if_neg (by omega), spl3, if_neg (by omega)]
  show (nodeB n1 (valueR [] 1 0 s).1, (valueR [] 1 0 s).2) = _
  rw [valueR, if_pos rfl]
theorem ver_c : verB rABC 3 2 sC [n1] = true := by
  rw [verB, if_neg (by omega), if_neg (by rw [d_n1]; simp)]
  show ((valueR [n1] 3 2 sC).2 && decide ((valueR [n1] 3 2 sC).1 = rABC)) = true
  rw [val_c]; simp only [Bool.true_and]; exact decide_eq_true (by rw [rABC])
theorem ver_d : verB rABC 3 2 sD [n1] = false := by
  rw [verB, if_neg (by omega), if_neg (by rw [d_n1]; simp)]
  show ((valueR [n1] 3 2 sD).2 && decide ((valueR [n1] 3 2 sD).1 = rABC)) = false
  rw [val_c]; simp only [Bool.true_and]; exact decide_eq_false ne_1
theorem vals (old : ByteArray) : valuesR old [leafB sC, leafB sB] 1 3 true = (old, nodeB (nodeB old (leafB sB)) (leafB sC), true) := by
  have h1 : valuesR old [] 1 1 true = (old, old, true) := by rw [valuesR, if_pos ⟨rfl, rfl⟩]
  have h2 : valuesR old [leafB sB] 1 2 true = (old, nodeB old (leafB sB), true) := by
    rw [valuesR, if_neg (by simp), if_neg (by omega), spl2, if_pos (by omega), h1]
  rw [valuesR, if_neg (by simp), if_neg (by omega), spl3, if_pos (by omega), h2]
theorem verE_gen (old : ByteArray) (h : old.size = 32) : verE old 1 rABC 3 [leafB sB, leafB sC] = decide (nodeB (nodeB old (leafB sB)) (leafB sC) = rABC) := by
  rw [verE, if_neg (by omega), if_neg (by rw [d_2 old h]; simp), if_neg (by rw [d_bc]; simp), if_neg (by omega)]
  show ((valuesR old [leafB sC, leafB sB] 1 3 true).2.2 && decide ((valuesR old [leafB sC, leafB sB] 1 3 true).1 = old) && decide ((valuesR old [leafB sC, leafB sB] 1 3 true).2.1 = rABC)) = _
  rw [vals]; simp
theorem verE_a : verE (leafB sA) 1 rABC 3 [leafB sB, leafB sC] = true := by
  rw [verE_gen _ (leaf_size _)]; exact decide_eq_true rfl
theorem verE_ab : verE n1 1 rABC 3 [leafB sB, leafB sC] = false := by
  rw [verE_gen _ (by rw [n1]; exact node_size _ _)]; exact decide_eq_false ne_2

end Go.Proofs.YtnceemdemjjhlaaDoor
