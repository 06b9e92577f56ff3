/-
  Layer 2: the digest, as functions on lists of naturals.
-/
import Derived.Test.YtnceemdemjjhlaaDoorRows
import Derived.IntWalk
import Derived.WalkKit
import Derived.WalkSpells
import Derived.WalkLawsBesides
import Derived.Lib.Hide
namespace Go.Proofs.YtnceemdemjjhlaaDoor
namespace Sh

def xr (a b : Nat) : Nat := (a ^^^ b) % 4294967296
def an (a b : Nat) : Nat := (a &&& b) % 4294967296
def orr (a b : Nat) : Nat := (a ||| b) % 4294967296
def add (a b : Nat) : Nat := (a + b) % 4294967296
def shl (a n : Nat) : Nat := (a * 2 ^ n) % 4294967296
def rot (x n : Nat) : Nat := orr (x / 2 ^ n) (shl x (32 - n))
def nt (a : Nat) : Nat := xr 4294967295 a
def sg0 (x : Nat) : Nat := xr (xr (rot x 7) (rot x 18)) (x / 8)
def sg1 (x : Nat) : Nat := xr (xr (rot x 17) (rot x 19)) (x / 1024)
def bs1 (e : Nat) : Nat := xr (xr (rot e 6) (rot e 11)) (rot e 25)
def bs0 (a : Nat) : Nat := xr (xr (rot a 2) (rot a 13)) (rot a 22)
def ch (e f g : Nat) : Nat := xr (an e f) (an (nt e) g)
def mj (a b c : Nat) : Nat := xr (xr (an a b) (an a c)) (an b c)

def H0 : List Nat := [1779033703, 3144134277, 1013904242, 2773480762, 1359893119, 2600822924, 528734635, 1541459225]
def K : List Nat := [1116352408, 1899447441, 3049323471, 3921009573, 961987163, 1508970993, 2453635748, 2870763221, 3624381080, 310598401, 607225278, 1426881987, 1925078388, 2162078206, 2614888103, 3248222580, 3835390401, 4022224774, 264347078, 604807628, 770255983, 1249150122, 1555081692, 1996064986, 2554220882, 2821834349, 2952996808, 3210313671, 3336571891, 3584528711, 113926993, 338241895, 666307205, 773529912, 1294757372, 1396182291, 1695183700, 1986661051, 2177026350, 2456956037, 2730485921, 2820302411, 3259730800, 3345764771, 3516065817, 3600352804, 4094571909, 275423344, 430227734, 506948616, 659060556, 883997877, 958139571, 1322822218, 1537002063, 1747873779, 1955562222, 2024104815, 2227730452, 2361852424, 2428436474, 2756734187, 3204031479, 3329325298]

def be (a b c d : Nat) : Nat := orr (orr (orr (shl a 24) (shl b 16)) (shl c 8)) d
def word (blk : List Nat) (i : Nat) : Nat := be (blk.getD (4 * i) 0) (blk.getD (4 * i + 1) 0) (blk.getD (4 * i + 2) 0) (blk.getD (4 * i + 3) 0)
def w16 (blk : List Nat) : List Nat := (List.range 16).map (word blk)
def nxt (l : List Nat) (i : Nat) : Nat := add (add (add (l.getD (i - 16) 0) (sg0 (l.getD (i - 15) 0))) (l.getD (i - 7) 0)) (sg1 (l.getD (i - 2) 0))
def exts : Nat → List Nat → List Nat
  | 0, l => l
  | k + 1, l => let r := exts k l; r ++ [nxt r r.length]
def sched (blk : List Nat) : List Nat := exts 48 (w16 blk)

structure St where
  (a b c d e f g h : Nat)
def St.ls (s : St) : List Nat := [s.a, s.b, s.c, s.d, s.e, s.f, s.g, s.h]
def St.of (l : List Nat) : St := ⟨l.getD 0 0, l.getD 1 0, l.getD 2 0, l.getD 3 0, l.getD 4 0, l.getD 5 0, l.getD 6 0, l.getD 7 0⟩
def t1 (s : St) (k w : Nat) : Nat := add (add (add (add s.h (bs1 s.e)) (ch s.e s.f s.g)) k) w
def t2 (s : St) : Nat := add (bs0 s.a) (mj s.a s.b s.c)
def rnd (s : St) (k w : Nat) : St := ⟨add (t1 s k w) (t2 s), s.a, s.b, s.c, add s.d (t1 s k w), s.e, s.f, s.g⟩
def rnds (W : List Nat) (s : St) : Nat → St
  | 0 => s
  | i + 1 => rnd (rnds W s i) (K.getD i 0) (W.getD i 0)
def comp (h blk : List Nat) : List Nat := List.zipWith add h (rnds (sched blk) (St.of h) 64).ls

def chunks : Nat → List Nat → List (List Nat)
  | 0, _ => []
  | k + 1, l => if l = [] then [] else l.take 64 :: chunks k (l.drop 64)
def len8 (n : Nat) : List Nat := (List.range 8).map fun i => (8 * n) / 2 ^ (56 - 8 * i) % 256
def pad (m : List Nat) : List Nat := m ++ [128] ++ List.replicate ((119 - m.length % 64) % 64) 0 ++ len8 m.length
def bytes4 (w : Nat) : List Nat := [w / 16777216 % 256, w / 65536 % 256, w / 256 % 256, w % 256]
def outs (h : List Nat) : List Nat := h.flatMap bytes4
def shaN (m : List Nat) : List Nat := outs ((chunks (m.length + 128) (pad m)).foldl comp H0)

theorem exts_len (k : Nat) (l : List Nat) : (exts k l).length = l.length + k := by
  induction k with
  | zero => rfl
  | succ k ih => simp [exts, ih]; omega
theorem w16_len (b : List Nat) : (w16 b).length = 16 := by simp [w16]
theorem sched_len (b : List Nat) : (sched b).length = 64 := by rw [sched, exts_len, w16_len]
theorem comp_len (h b : List Nat) (hh : h.length = 8) : (comp h b).length = 8 := by simp [comp, St.ls, hh]
theorem K_len : K.length = 64 := rfl
theorem len8_len (n : Nat) : (len8 n).length = 8 := by simp [len8]

theorem chunks_flatten : ∀ (ys : List (List Nat)) (k : Nat), (∀ y ∈ ys, y.length = 64) → ys.length ≤ k → chunks k ys.flatten = ys
  | [], 0, _, _ => rfl
  | [], k + 1, _, _ => rfl
  | y :: ys, 0, _, h => by simp at h
  | y :: ys, k + 1, hy, h => by
    have h64 : y.length = 64 := hy y (by simp)
    have hne : (y :: ys).flatten ≠ [] := by intro e; have := congrArg List.length e; simp at this; simp [this.1] at h64
    rw [chunks, if_neg hne]
    have e1 : ((y :: ys).flatten).take 64 = y := by rw [List.flatten_cons, ← h64]; simp
    have e2 : ((y :: ys).flatten).drop 64 = ys.flatten := by rw [List.flatten_cons, ← h64]; simp
    rw [e1, e2, chunks_flatten ys k (fun z hz => hy z (by simp [hz])) (by simp at h; omega)]
theorem flatten_len : ∀ (ys : List (List Nat)), (∀ y ∈ ys, y.length = 64) → ys.flatten.length = 64 * ys.length
  | [], _ => rfl
  | y :: ys, h => by
    rw [List.flatten_cons, List.length_append, flatten_len ys (fun z hz => h z (by simp [hz])), h y (by simp)]; simp; omega
theorem pad_len (m : List Nat) : (pad m).length = m.length + 1 + (119 - m.length % 64) % 64 + 8 := by simp [pad, len8_len]; omega
theorem shaN_of (m : List Nat) (ys : List (List Nat)) (hy : ∀ y ∈ ys, y.length = 64) (hf : ys.flatten = pad m) : shaN m = outs (ys.foldl comp H0) := by
  have hl := flatten_len ys hy
  rw [hf, pad_len] at hl
  rw [shaN, ← hf, chunks_flatten ys _ hy (by omega)]
theorem foldl_len : ∀ (ys : List (List Nat)) (h : List Nat), h.length = 8 → (ys.foldl comp h).length = 8
  | [], _, hh => hh
  | y :: ys, h, hh => foldl_len ys _ (comp_len h y hh)
theorem outs_len : ∀ (h : List Nat), (outs h).length = 4 * h.length
  | [] => rfl
  | x :: h => by
    have := outs_len h
    simp only [outs] at this
    simp [outs, bytes4, this]; omega
theorem shaN_len (m : List Nat) : (shaN m).length = 32 := by rw [shaN, outs_len, foldl_len _ _ rfl]
theorem outs_lt (h : List Nat) : ∀ x ∈ outs h, x < 256 := by
  intro x hx
  simp only [outs, List.mem_flatMap, bytes4] at hx
  obtain ⟨w, _, hx⟩ := hx
  simp at hx
  omega
theorem shaN_lt (m : List Nat) : ∀ x ∈ shaN m, x < 256 := outs_lt _

def bl (s : ByteArray) : List Nat := s.data.toList.map UInt8.toNat
def ba (l : List Nat) : ByteArray := ⟨(l.map UInt8.ofNat).toArray⟩
def sha (s : ByteArray) : ByteArray := ba (shaN (bl s))
theorem sha_size (s : ByteArray) : (sha s).size = 32 := by
  show ((shaN (bl s)).map UInt8.ofNat).toArray.size = 32
  simp [shaN_len]
theorem bl_len (s : ByteArray) : (bl s).length = s.size := by simp [bl]
theorem bl_append (s t : ByteArray) : bl (s ++ t) = bl s ++ bl t := by simp [bl]
theorem bl_get (s : ByteArray) (i : Nat) (h : i < s.size) : (bl s).getD i 0 = s[i].toNat := by
  have : i < s.data.toList.length := by simpa using h
  simp [bl, List.getD, List.getElem?_map, List.getElem?_eq_getElem this]
  rfl
theorem bl_lt (s : ByteArray) : ∀ x ∈ bl s, x < 256 := by
  intro x hx
  simp only [bl, List.mem_map] at hx
  obtain ⟨y, _, rfl⟩ := hx
  exact UInt8.toNat_lt y
theorem bl_inj {s t : ByteArray} (h : bl s = bl t) : s = t := by
  have : s.data.toList = t.data.toList := by
    unfold bl at h
    exact List.map_inj_right (fun a b => UInt8.toNat_inj.1) |>.1 h
  cases s; cases t; congr; exact Array.toList_inj.1 this

end Sh

/-! ### the walk's integers -/
theorem b32 (a : Nat) : (BitVec.ofInt 32 (a : Int)).toNat = a % 4294967296 := by rw [BitVec.ofInt_natCast, BitVec.toNat_ofNat]
theorem i_xr (a b : Nat) : bits .xor .u32 (a : Int) (b : Int) = ((Sh.xr a b : Nat) : Int) := by
  show IntKind.u32.wrap ((BitVec.ofInt 32 (a : Int) ^^^ BitVec.ofInt 32 (b : Int)).toNat : Int) = _
  rw [BitVec.toNat_xor, b32, b32, IntKind.wrap_u32', Sh.xr]
  have : a % 4294967296 ^^^ b % 4294967296 = (a ^^^ b) % 4294967296 := (Nat.xor_mod_two_pow (n := 32)).symm
  rw [this]; omega
theorem i_an (a b : Nat) : bits .and .u32 (a : Int) (b : Int) = ((Sh.an a b : Nat) : Int) := by
  show IntKind.u32.wrap ((BitVec.ofInt 32 (a : Int) &&& BitVec.ofInt 32 (b : Int)).toNat : Int) = _
  rw [BitVec.toNat_and, b32, b32, IntKind.wrap_u32', Sh.an]
  have : a % 4294967296 &&& b % 4294967296 = (a &&& b) % 4294967296 := (Nat.and_mod_two_pow (n := 32)).symm
  rw [this]; omega
theorem i_or (a b : Nat) : bits .or .u32 (a : Int) (b : Int) = ((Sh.orr a b : Nat) : Int) := by
  show IntKind.u32.wrap ((BitVec.ofInt 32 (a : Int) ||| BitVec.ofInt 32 (b : Int)).toNat : Int) = _
  rw [BitVec.toNat_or, b32, b32, IntKind.wrap_u32', Sh.orr]
  have : a % 4294967296 ||| b % 4294967296 = (a ||| b) % 4294967296 := (Nat.or_mod_two_pow (n := 32)).symm
  rw [this]; omega
theorem i_add (a b : Nat) : ((a : Int) + (b : Int)) % 4294967296 = ((Sh.add a b : Nat) : Int) := by rw [Sh.add]; omega
theorem i_nt (a : Nat) : bits .xor .u32 IntKind.u32.max (a : Int) = ((Sh.nt a : Nat) : Int) := i_xr 4294967295 a

end Go.Proofs.YtnceemdemjjhlaaDoor
