/-
  Numbers in groups of four digits, the lowest first.
  Rows of memory: groups of digits.
  Contracts: trimmed, order, compare, word, ofWord.
  Contracts: word, ofWord, shifted.
-/
import Derived.Test.YtbfonkabmehlmaaGreatDoorRows
import Derived.IntWalk
import Derived.WalkKit
import Derived.WalkSpells
import Derived.WalkLawsBesides
import Derived.Lib.Hide
import Derived.BigQuiet
import Derived.BigRegion
import Derived.Laws.Rows
import Derived.Laws.Tables
import Derived.Deep.WholeRow
import Derived.Laws.CopyOwn
import Derived.StillTailTactics
import Derived.RegionTactic
import Derived.Laws.AppendOwnNone
import Derived.Deep.RegionLaw
import Derived.RangeFuncBox
import Derived.Maps.AppendAt
import Derived.OwnWalk
import Derived.Deep.RegionHeld3
set_option maxRecDepth 1000000
set_option maxHeartbeats 40000000
open Go.Value renaming string→Z
open Go.Obj renaming cells→O
namespace Go.Proofs.YtbfonkabmehlmaaGreatDoor
section
namespace Nm
def nv:List Nat→Nat
 | []=>0
 | d :: l=>d+10000*nv l
def Dig (l:List Nat):Prop:=∀ x∈l,x<10000
theorem Dig.tail {d:Nat} {l:List Nat} (h:Dig (d :: l)):Dig l:=fun x hx=>h x (List.mem_cons_of_mem _ hx)
theorem Dig.head {d:Nat} {l:List Nat} (h:Dig (d :: l)):d<10000:=h d (by simp)
theorem Dig.take {l:List Nat} (h:Dig l) (k:Nat):Dig (l.take k):=fun x hx=>h x (List.mem_of_mem_take hx)
theorem Dig.drop {l:List Nat} (h:Dig l) (k:Nat):Dig (l.drop k):=fun x hx=>h x (List.mem_of_mem_drop hx)
theorem Dig.append {l m:List Nat} (h:Dig l) (k:Dig m):Dig (l++m):=fun x hx=>(List.mem_append.1 hx).elim (h x) (k x)
theorem Dig.getD {l:List Nat} (h:Dig l) (i:Nat):l.getD i 0<10000:=by
 rw [List.getD_eq_getElem?_getD]
 rcases Nat.lt_or_ge i l.length with h1 | h1
 ·rw [List.getElem?_eq_getElem h1];exact h _ (List.getElem_mem h1)
 ·rw [List.getElem?_eq_none h1];decide
theorem nv_lt {l:List Nat} (h:Dig l):nv l<10000^l.length:=by
 induction l with
 | nil=>decide
 | cons d l ih =>
  have h1:=ih h.tail
  have h2:=h.head
  rw [nv,List.length_cons,Nat.pow_succ]
  omega
theorem nv_append (a b:List Nat):nv (a++b)=nv a+10000^a.length*nv b:=by
 induction a with
 | nil=>simp [nv]
 | cons d l ih=>rw [List.cons_append,nv,nv,ih,List.length_cons,Nat.pow_succ];grind
theorem nv_take_succ (l:List Nat) (i:Nat) (h:i<l.length):nv (l.take (i+1))=nv (l.take i)+10000^i*l.getD i 0:=by
 have hg:l.getD i 0=l[i]:=by simp [List.getD,h]
 rw [hg,List.take_succ_eq_append_getElem h,nv_append,List.length_take,Nat.min_eq_left (by omega)]
 simp [nv]
theorem nv_take_drop (l:List Nat) (i:Nat) (h:i≤l.length):nv l=nv (l.take i)+10000^i*nv (l.drop i):=by
 conv=>lhs;rw [←List.take_append_drop i l]
 rw [nv_append,List.length_take,Nat.min_eq_left h]
theorem nv_rep (n:Nat):nv (List.replicate n 0)=0:=by
 induction n with
 | zero=>rfl
 | succ n ih=>rw [List.replicate_succ,nv,ih]
theorem dig_rep (n:Nat):Dig (List.replicate n 0):=fun x hx=>by rw [(List.mem_replicate.1 hx).2];decide
def padL:Nat→Nat→List Nat
 | 0,_ => []
 | n+1,x=>x % 10000 :: padL n (x / 10000)
theorem padL_len:∀ n x,(padL n x).length=n
 | 0,_=>rfl
 | n+1,x=>by rw [padL,List.length_cons,padL_len]
theorem padL_dig:∀ n x,Dig (padL n x)
 | 0,_=>fun y hy=>by cases hy
 | n+1,x=>fun y hy=>by
  rw [padL] at hy
  rcases List.mem_cons.1 hy with rfl | hy
  ·exact Nat.mod_lt _ (by decide)
  ·exact padL_dig n _ y hy
theorem padL_nv:∀ n x,x<10000^n→nv (padL n x)=x
 | 0,x,h=>by rw [padL,nv];omega
 | n+1,x,h=>by
  rw [Nat.pow_succ] at h
  rw [padL,nv,padL_nv n (x / 10000) (by omega)];omega
theorem padL_eq {l:List Nat} (h:Dig l):padL l.length (nv l)=l:=by
 induction l with
 | nil=>rfl
 | cons d l ih =>
  have:=h.head
  rw [List.length_cons,padL,nv,show (d+10000*nv l) % 10000=d by omega,show (d+10000*nv l) / 10000=nv l by omega,ih h.tail]
theorem padL_app (n m x y:Nat) (h:x<10000^n):padL (n+m) (x+10000^n*y)=padL n x++padL m y:=by
 induction n generalizing x with
 | zero =>
  have:x=0:=by simpa using h
  subst this
  simp [padL]
 | succ n ih =>
  rw [Nat.pow_succ] at h
  rw [show n+1+m=(n+m)+1 by omega,padL,padL,List.cons_append]
  have e1:(x+10000^(n+1)*y) % 10000=x % 10000:=by rw [Nat.pow_succ,Nat.mul_comm (10000^n) 10000,Nat.mul_assoc,Nat.add_mul_mod_self_left]
  have e2:(x+10000^(n+1)*y) / 10000=x / 10000+10000^n*y:=by rw [Nat.pow_succ,Nat.mul_comm (10000^n) 10000,Nat.mul_assoc,Nat.add_mul_div_left _ _ (by decide)]
  rw [e1,e2,ih (x / 10000) (by omega)]
theorem padL_one (d:Nat) (h:d<10000):padL 1 d = [d]:=by rw [padL,padL,Nat.mod_eq_of_lt h]
theorem padL_succ (n x d:Nat) (h:x<10000^n) (hd:d<10000):padL (n+1) (x+10000^n*d)=padL n x ++ [d]:=by rw [padL_app n 1 x d h,padL_one d hd]

def natL (n:Nat):List Nat:=if n=0 then [] else n % 10000 :: natL (n / 10000)
decreasing_by omega
theorem natL_zero:natL 0 = []:=by rw [natL,if_pos rfl]
theorem natL_pos {n:Nat} (h:n≠0):natL n=n % 10000 :: natL (n / 10000):=by rw [natL,if_neg h]
theorem natL_nv (n:Nat):nv (natL n)=n:=by
 induction n using Nat.strongRecOn with
 | ind n ih =>
  by_cases h:n=0
  ·subst h;rw [natL_zero,nv]
  ·rw [natL_pos h,nv,ih (n / 10000) (by omega)];omega
theorem natL_dig (n:Nat):Dig (natL n):=by
 induction n using Nat.strongRecOn with
 | ind n ih =>
  by_cases h:n=0
  ·subst h;rw [natL_zero];intro x hx;cases hx
  ·rw [natL_pos h]
   intro x hx
   rcases List.mem_cons.1 hx with rfl | hx
   ·exact Nat.mod_lt _ (by decide)
   ·exact ih (n / 10000) (by omega) x hx
theorem natL_nil {n:Nat}:natL n = []↔n=0:=by
 constructor
 ·intro h;by_cases h0:n=0
  ·exact h0
  ·rw [natL_pos h0] at h;cases h
 ·rintro rfl;exact natL_zero
theorem natL_len0 {n:Nat}:(natL n).length=0↔n=0:=by rw [List.length_eq_zero_iff,natL_nil]
theorem natL_append (l:List Nat) (h:Dig l) (hz:l = []∨l.getD (l.length-1) 0≠0):l=natL (nv l):=by
 induction l with
 | nil=>rw [nv,natL_zero]
 | cons d l ih =>
  have hd:=h.head
  have hl:l=natL (nv l):=by
   refine ih h.tail ?_
   rcases hz with hz | hz
   ·cases hz
   ·cases l with
    | nil=>exact .inl rfl
    | cons e r=>right;simpa using hz
  have h0:nv (d :: l)≠0:=by
   rw [nv]
   rcases hz with hz | hz
   ·cases hz
   ·cases l with
    | nil=>simp at hz;rw [nv];omega
    | cons e r =>
     intro hn
     have:nv (e :: r)=0:=by omega
     rw [this,natL_zero] at hl;cases hl
  rw [natL_pos h0,nv,show (d+10000*nv l) % 10000=d by omega,show (d+10000*nv l) / 10000=nv l by omega,←hl]
theorem natL_last (n:Nat) (h:n≠0):(natL n).getD ((natL n).length-1) 0≠0:=by
 induction n using Nat.strongRecOn with
 | ind n ih =>
  rw [natL_pos h]
  by_cases h1:n / 10000=0
  ·rw [h1,natL_zero];simp;omega
  ·have:=ih (n / 10000) (by omega) h1
   have hl:(natL (n / 10000)).length≠0:=fun e=>h1 (natL_len0.1 e)
   have e:(n % 10000 :: natL (n / 10000)).length-1=((natL (n / 10000)).length-1)+1:=by rw [List.length_cons];omega
   rw [e,List.getD_cons_succ];exact this
theorem natL_lt (n:Nat):n<10000^(natL n).length:=by have:=nv_lt (natL_dig n);rwa [natL_nv] at this
theorem natL_ge (n:Nat) (h:n≠0):10000^((natL n).length-1)≤n:=by
 have h1:=natL_last n h
 have hl:(natL n).length≠0:=fun e=>h (natL_len0.1 e)
 have h2:=nv_take_succ (natL n) ((natL n).length-1) (by omega)
 rw [show (natL n).length-1+1=(natL n).length by omega,List.take_length,natL_nv] at h2
 have h3:10000^((natL n).length-1)*1≤10000^((natL n).length-1)*(natL n).getD ((natL n).length-1) 0:=Nat.mul_le_mul_left _ (by omega)
 omega
theorem natL_len_le {n k:Nat} (h:n<10000^k):(natL n).length≤k:=by
 by_cases h0:n=0
 ·rw [natL_len0.2 h0];omega
 ·have h1:=natL_ge n h0
  have h2:10000^((natL n).length-1)<10000^k:=by omega
  have:=(Nat.pow_lt_pow_iff_right (by decide:1<10000)).1 h2
  omega
theorem natL_len_mono {n m:Nat} (h:n≤m):(natL n).length≤(natL m).length:=natL_len_le (Nat.lt_of_le_of_lt h (natL_lt m))
theorem natL_len_lt {n m:Nat} (h:(natL n).length<(natL m).length):n<m:=by
 rcases Nat.lt_or_ge n m with h1 | h1
 ·exact h1
 ·have:=natL_len_mono h1;omega
theorem nv_take_zeros (l:List Nat) (k:Nat) (hk:k≤l.length) (hz:∀ j,k≤j→l.getD j 0=0):nv (l.take k)=nv l:=by
 have h:nv (l.drop k)=0:=by
  have h2:∀ (r:List Nat),(∀ j,r.getD j 0=0)→nv r=0:=by
   intro r
   induction r with
   | nil=>intro _;rfl
   | cons d r ih=>intro hr;have h0:=hr 0;simp at h0;rw [nv,ih (fun j=>by simpa using hr (j+1)),h0]
  refine h2 _ (fun j => ?_)
  have:=hz (k+j) (by omega)
  rw [List.getD_eq_getElem?_getD] at this ⊢
  rwa [List.getElem?_drop]
 rw [nv_take_drop l k hk,h,Nat.mul_zero,Nat.add_zero]
theorem nv_less {a b:List Nat} (ha:Dig a) (hl:a.length=b.length) (i:Nat) (h:i<a.length) (hlt:a.getD i 0<b.getD i 0) (he:a.drop (i+1)=b.drop (i+1)):nv a<nv b:=by
 have e1:=nv_take_drop a (i+1) (by omega)
 have e2:=nv_take_drop b (i+1) (by omega)
 rw [nv_take_succ a i h] at e1
 rw [nv_take_succ b i (by omega)] at e2
 rw [he] at e1
 have hp:=nv_lt (ha.take i)
 rw [List.length_take,Nat.min_eq_left (by omega)] at hp
 have h1:10000^i*(a.getD i 0+1)≤10000^i*b.getD i 0:=Nat.mul_le_mul_left _ hlt
 rw [Nat.mul_add] at h1
 omega
end Nm
end
section
open Go.RowKit

structure Shut (p:Prop):Prop where
 o:p
theorem below_drewN {B:Nat} {a w:World} (h:Below B a w) (n:Nat):Below B a (w.drewN n):=h.trans ⟨rfl,rfl,rfl,Nat.le_refl _,fun _ _=>rfl⟩
theorem ret_u32 {a b:Int} (h:a=b):Ending.returned (.int .u32 a) = .returned (.int .u32 b):=by rw [h]
def u32s (l:List Nat):Array Value:=(l.map fun n:Nat=>Value.int .u32 (n:Int)).toArray
theorem u32s_size (l:List Nat):(u32s l).size=l.length:=by simp [u32s]
theorem u32s_get (l:List Nat) (i:Nat) (h:i<l.length):(u32s l)[i]? = some (.int .u32 ((l.getD i 0:Nat):Int)):=by simp [u32s,List.getD,h]
theorem u32s_set (l:List Nat) (i x:Nat):(u32s l).setIfInBounds i (.int .u32 (x:Int))=u32s (l.set i x):=by simp [u32s,List.map_set]
theorem World.heap_alloc_keep (w:World) (o:Obj) {b:Nat} (h:b<w.heap.size):(w.alloc o).heap[b]? = w.heap[b]? := by
 show (w.heap.push o)[b]? = w.heap[b]?
 simp [Array.getElem?_push,show b≠w.heap.size by omega]
def RowAt (W:World) (b:Nat) (c:Array Value) (t:TypeId):Prop:=W.heap[b]? = some (.cells c t (0,0))
theorem RowAt.new (w:World) (c:Array Value) (t:TypeId):RowAt (w.alloc (.cells c t)) w.heap.size c t:=heap_alloc_new w _
theorem RowAt.lt {w:World} {b:Nat} {c:Array Value} {t:TypeId} (h:RowAt w b c t):b<w.heap.size:=(Array.getElem?_eq_some_iff.1 h).1
theorem RowAt.alloc {w:World} {b:Nat} {c:Array Value} {t:TypeId} (h:RowAt w b c t) (o:Obj):RowAt (w.alloc o) b c t:=(World.heap_alloc_keep w o (RowAt.lt h)).trans h
theorem RowAt.below {w w':World} {b B:Nat} {c:Array Value} {t:TypeId} (h:RowAt w b c t) (hB:Below B w w') (hb:b<B):RowAt w' b c t:=(hB.block b hb).trans h
theorem RowAt.set_same {w:World} {b:Nat} {c:Array Value} {t:TypeId} (h:RowAt w b c t) (i:Nat) (v:Value):RowAt (w.setCell ⟨b,i,none⟩ v) b (c.setIfInBounds i v) t:=heap_setCell_same w b i c t v h
theorem RowAt.set_other {w:World} {b:Nat} {c:Array Value} {t:TypeId} (h:RowAt w b c t) (p:Addr) (hp:b≠p.block) (v:Value):RowAt (w.setCell p v) b c t:=(heap_setCell_other w p b v hp).trans h
theorem RowAt.drewN {w:World} {b:Nat} {c:Array Value} {t:TypeId} (h:RowAt w b c t) (n:Nat):RowAt (w.drewN n) b c t:=h
theorem RowAt.drew {w:World} {b:Nat} {c:Array Value} {t:TypeId} (h:RowAt w b c t):RowAt w.drew b c t:=h
theorem RowAt.cell {w:World} {b:Nat} {c:Array Value} {t:TypeId} (h:RowAt w b c t) (i:Nat):w.cell? ⟨b,i,none⟩=c[i]? := cell_of_row w b i c t _ h
theorem RowAt.frozen {w:World} {b:Nat} {c:Array Value} {t:TypeId} (h:RowAt w b c t) (i:Nat):w.frozen? ⟨b,i,none⟩=false:=frozen_of_row w b i c t h
theorem RowAt.u32 {w:World} {b:Nat} {l:List Nat} {t:TypeId} (h:RowAt w b (u32s l) t) (i:Nat) (hi:i<l.length):w.cell? ⟨b,i,none⟩=some (.int .u32 ((l.getD i 0:Nat):Int)):=(h.cell i).trans (u32s_get l i hi)
theorem RowAt.set32 {w:World} {b:Nat} {l:List Nat} {t:TypeId} (h:RowAt w b (u32s l) t) (i x:Nat):RowAt (w.setCell ⟨b,i,none⟩ (.int .u32 (x:Int))) b (u32s (l.set i x)) t:=u32s_set l i x▸h.set_same i _
structure Only (g:Nat) (w w':World):Prop where
 os:w'.os=w.os
 tape:w'.tape=w.tape
 output:w'.output=w.output
 size:w'.heap.size=w.heap.size
 block:∀ k,k≠g→w'.heap[k]? = w.heap[k]?
theorem Only.refl (g:Nat) (w:World):Only g w w:=⟨rfl,rfl,rfl,rfl,fun _ _=>rfl⟩
theorem Only.trans {g:Nat} {a b c:World} (h:Only g a b) (k:Only g b c):Only g a c :=
 ⟨k.os.trans h.os,k.tape.trans h.tape,k.output.trans h.output,k.size.trans h.size,fun i hi=>(k.block i hi).trans (h.block i hi)⟩
theorem Only.drew {g:Nat} {a w:World} (h:Only g a w):Only g a w.drew:=⟨h.os,h.tape,h.output,h.size,h.block⟩
theorem Only.drewN {g:Nat} {a w:World} (h:Only g a w) (n:Nat):Only g a (w.drewN n):=⟨h.os,h.tape,h.output,h.size,h.block⟩
theorem Only.setCell {g:Nat} {a w:World} (h:Only g a w) (i:Nat) (v:Value):Only g a (w.setCell ⟨g,i,none⟩ v) :=
 ⟨h.os,h.tape,h.output,by simp only [World.setCell,Array.size_modify];exact h.size,fun k hk=>(heap_setCell_other w ⟨g,i,none⟩ k v hk).trans (h.block k hk)⟩
theorem Only.below {g B:Nat} {w w':World} (h:Only g w w') (hB:B≤g):Below B w w':=⟨h.os,h.tape,h.output,Nat.le_of_eq h.size.symm,fun k hk=>h.block k (by omega)⟩
theorem RowAt.only {w w':World} {b g:Nat} {c:Array Value} {t:TypeId} (h:RowAt w b c t) (k:Only g w w') (hb:b≠g):RowAt w' b c t:=(k.block b hb).trans h
def UA (W:World) (g o:Nat) (l:List Nat):Prop:=∀ i,i<l.length→W.cell? ⟨g,o+i,none⟩=some (.int .u32 ((l.getD i 0:Nat):Int))
theorem UA.below {W W':World} {g o:Nat} {l:List Nat} (h:UA W g o l) {B:Nat} (hB:Below B W W') (hg:g<B):UA W' g o l:=fun i hi=>(hB.cell (p:=⟨g,o+i,none⟩) hg).trans (h i hi)
theorem UA.below1 {W W':World} {g o:Nat} {l:List Nat} (h:UA W g o l) {B:Nat} (hB:Below B W W') (hg:1≤l.length→g<B):UA W' g o l:=fun i hi=>(hB.cell (p:=⟨g,o+i,none⟩) (hg (by omega))).trans (h i hi)
theorem UA.only {W W':World} {g o b:Nat} {l:List Nat} (h:UA W g o l) (k:Only b W W') (hb:g≠b):UA W' g o l:=fun i hi=>by
 have e:W'.cell? ⟨g,o+i,none⟩=W.cell? ⟨g,o+i,none⟩:=by
  unfold World.cell?
  rw [show W'.heap[(⟨g,o+i,none⟩:Addr).block]? = W.heap[g]? from k.block g hb]
 exact e.trans (h i hi)
theorem UA.drewN {W:World} {g o:Nat} {l:List Nat} (h:UA W g o l) (n:Nat):UA (W.drewN n) g o l:=h
theorem UA.take {W:World} {g o:Nat} {l:List Nat} (h:UA W g o l) (k:Nat):UA W g o (l.take k):=fun i hi=>by
 rw [List.length_take] at hi
 have e:(l.take k).getD i 0=l.getD i 0:=by rw [List.getD_eq_getElem?_getD,List.getD_eq_getElem?_getD,List.getElem?_take,if_pos (by omega)]
 rw [e];exact h i (by omega)
theorem UA.drop {W:World} {g o:Nat} {l:List Nat} (h:UA W g o l) (k:Nat):UA W g (o+k) (l.drop k):=fun i hi=>by
 rw [List.length_drop] at hi
 have e:(l.drop k).getD i 0=l.getD (k+i) 0:=by rw [List.getD_eq_getElem?_getD,List.getD_eq_getElem?_getD,List.getElem?_drop]
 rw [e,Nat.add_assoc];exact h (k+i) (by omega)
theorem UA.lt {W:World} {g o:Nat} {l:List Nat} (h:UA W g o l) (hl:1≤l.length):g<W.heap.size:=World.block_lt_of_cell? W _ (h 0 hl)
theorem RowAt.ua {w:World} {b:Nat} {l:List Nat} {t:TypeId} (h:RowAt w b (u32s l) t):UA w b 0 l:=fun i hi=>by rw [Nat.zero_add];exact h.u32 i hi
theorem RowAt.uaSeg {w:World} {b:Nat} {l:List Nat} {t:TypeId} (h:RowAt w b (u32s l) t) (o n:Nat):UA w b o ((l.drop o).take n):=by
 have:=(h.ua.drop o).take n;rwa [Nat.zero_add] at this
def NA (W:World) (v:Value) (l:List Nat):Prop:=∃ (p:Option Addr) (cap:Nat),v = .slice p l.length cap∧l.length≤cap∧cap≤maxLen∧((p=none∧l = []∧cap=0)∨∃ g o,p=some ⟨g,o,none⟩∧g<W.heap.size∧UA W g o l)
theorem NA.below {W W':World} {v:Value} {l:List Nat} (h:NA W v l) {B:Nat} (hB:Below B W W') (hw:W.heap.size≤B):NA W' v l:=by
 obtain ⟨p,cap,rfl,h1,h2,h3 | ⟨g,o,rfl,hg,hu⟩⟩:=h
 ·exact ⟨p,cap,rfl,h1,h2,.inl h3⟩
 ·exact ⟨_,cap,rfl,h1,h2,.inr ⟨g,o,rfl,by have:=hB.size;omega,hu.below hB (by omega)⟩⟩
theorem NA.open {W:World} {v:Value} {l:List Nat} (h:NA W v l):∃ (p:Option Addr) (cap g o:Nat),v = .slice p l.length cap∧l.length≤cap∧cap≤maxLen∧(1≤l.length→p=some ⟨g,o,none⟩∧g<W.heap.size)∧UA W g o l:=by
 obtain ⟨p,cap,rfl,h1,h2,⟨rfl,rfl,rfl⟩ | ⟨g,o,rfl,hg,hu⟩⟩:=h
 ·exact ⟨none,0,0,0,rfl,Nat.le_refl _,by omega,fun h=>by simp at h,fun i hi=>by simp at hi⟩
 ·exact ⟨_,cap,g,o,rfl,h1,h2,fun _=>⟨rfl,hg⟩,hu⟩
def UR (W:World) (g:Nat) (L:List Nat):Prop:=∃ X,RowAt W g (u32s L++X) 157
theorem UR.u32 {w:World} {b:Nat} {l:List Nat} (h:UR w b l) (i:Nat) (hi:i<l.length):w.cell? ⟨b,i,none⟩=some (.int .u32 ((l.getD i 0:Nat):Int)):=by
 obtain ⟨X,h⟩:=h
 refine (h.cell i).trans ?_
 rw [Array.getElem?_append_left (by rw [u32s_size];exact hi)]
 exact u32s_get l i hi
theorem UR.frozen {w:World} {b:Nat} {l:List Nat} (h:UR w b l) (i:Nat):w.frozen? ⟨b,i,none⟩=false:=by
 obtain ⟨X,h⟩:=h;exact RowAt.frozen h i
theorem UR.set32 {w:World} {b:Nat} {l:List Nat} (h:UR w b l) (i x:Nat) (hi:i<l.length):UR (w.setCell ⟨b,i,none⟩ (.int .u32 (x:Int))) b (l.set i x):=by
 obtain ⟨X,h⟩:=h
 refine ⟨X, ?_⟩
 have:=h.set_same i (.int .u32 (x:Int))
 rwa [Array.setIfInBounds_append_left (by rw [u32s_size];exact hi),u32s_set] at this
theorem UR.only {w w':World} {b g:Nat} {l:List Nat} (h:UR w b l) (k:Only g w w') (hb:b≠g):UR w' b l:=by
 obtain ⟨X,h⟩:=h;exact ⟨X,RowAt.only h k hb⟩
theorem UR.below {w w':World} {b B:Nat} {l:List Nat} (h:UR w b l) (hB:Below B w w') (hb:b<B):UR w' b l:=by
 obtain ⟨X,h⟩:=h;exact ⟨X,RowAt.below h hB hb⟩
theorem UR.drewN {w:World} {b:Nat} {l:List Nat} (h:UR w b l) (n:Nat):UR (w.drewN n) b l:=h
theorem UR.lt {w:World} {b:Nat} {l:List Nat} (h:UR w b l):b<w.heap.size:=by
 obtain ⟨X,h⟩:=h;exact RowAt.lt h
theorem UR.ua {w:World} {b:Nat} {l:List Nat} (h:UR w b l):UA w b 0 l:=fun i hi=>by rw [Nat.zero_add];exact h.u32 i hi
theorem UR.uaSeg {w:World} {b:Nat} {l:List Nat} (h:UR w b l) (o n:Nat):UA w b o ((l.drop o).take n):=by
 have:=(h.ua.drop o).take n;rwa [Nat.zero_add] at this
def OwnU (W:World) (B:Nat) (v:Value) (xs:List Nat):Prop:=W.ownsRow B 157 1 v xs.length (xs.map fun n:Nat=>Value.int .u32 (n:Int))
theorem OwnU.below {W W':World} {B:Nat} {v:Value} {xs:List Nat} (h:OwnU W B v xs) (hb:Below W.heap.size W W'):OwnU W' B v xs:=by
 refine ⟨h.1, ?_⟩
 rcases h.2 with hn | ⟨g,cap,cur,e,hg,hgg,rest⟩
 ·exact .inl hn
 ·exact .inr ⟨g,cap,cur,e,hg,by rw [hb.block g (Array.getElem?_eq_some_iff.1 hgg).1];exact hgg,rest⟩
theorem OwnU.nil (W:World) (B:Nat):OwnU W B (.slice none 0 0) []:=World.ownsRow_nil _ _ _ _
theorem OwnU.snoc {W:World} {B:Nat} {v:Value} {xs:List Nat} {x:Nat} (h:W.ownsRow B 157 1 v (xs.length+1) (xs.map (fun n:Nat=>Value.int .u32 (n:Int)) ++ [.int .u32 (x:Int)])):OwnU W B v (xs ++ [x]):=by
 unfold OwnU;rw [List.length_append,List.map_append];exact h
theorem OwnU.open {W:World} {B:Nat} {v:Value} {xs:List Nat} (h:OwnU W B v xs) :
  (v = .slice none 0 0∧xs = [])∨∃ (cap g:Nat),v = .slice (some ⟨g,0,none⟩) xs.length cap∧B≤g∧UR W g xs∧xs.length≤cap∧cap≤maxLen:=by
 rcases h.2 with ⟨hv,hn⟩ | ⟨g,cap,cur,hv,hg,hgg,hle,hm,hsz,htk⟩
 ·exact .inl ⟨hv,List.eq_nil_of_length_eq_zero hn⟩
 ·refine .inr ⟨cap,g,hv,hg,⟨(cur.toList.drop xs.length).toArray, ?_⟩,hle,hm⟩
  have e:u32s xs++(cur.toList.drop xs.length).toArray=cur:=by
   rw [Nat.mul_one] at htk
   apply Array.ext'
   rw [Array.toList_append]
   show (xs.map _)++_=_
   rw [←htk,List.take_append_drop]
  rw [e];exact hgg
theorem OwnU.openS {W:World} {B g n cap:Nat} {xs:List Nat} (h:OwnU W B (.slice (some ⟨g,0,none⟩) n cap) xs):B≤g∧UR W g xs∧n=xs.length∧xs.length≤cap∧cap≤maxLen:=by
 rcases h.open with ⟨h1,_⟩ | ⟨c,g',h1,h2,h3,h4,h5⟩
 ·cases h1
 ·injection h1 with e1 e2 e3
  injection e1 with e1
  injection e1 with e1
  subst e1
  subst e3
  exact ⟨h2,h3,e2,h4,h5⟩
theorem OwnU.na {W:World} {B:Nat} {v:Value} {xs:List Nat} (h:OwnU W B v xs):NA W v xs:=by
 rcases h.open with ⟨rfl,rfl⟩ | ⟨cap,g,rfl,hg,hu,h1,h2⟩
 ·exact ⟨none,0,rfl,Nat.le_refl _,by omega,.inl ⟨rfl,rfl,rfl⟩⟩
 ·exact ⟨_,cap,rfl,h1,h2,.inr ⟨g,0,rfl,hu.lt,hu.ua⟩⟩
theorem below_grown {B:Nat} {w w1 w3:World} {v:Value} {xs:List Nat} (hb:Below B w w1) (hB:B≤w.heap.size) (hO:OwnU w1 B v xs) (hg:w1.grownBy w3 v.ownBlock):Below B w w3 :=
 hb.trans ⟨hg.os,hg.tape,hg.output,hg.size,fun k hk=>hg.block k (Nat.lt_of_lt_of_le (Nat.lt_of_lt_of_le hk hB) hb.size) (fun e=>by
  rcases hO.2 with ⟨rfl,_⟩ | ⟨g,cap,cur,rfl,h1,_⟩
  ·simp [Value.ownBlock] at e
  ·simp [Value.ownBlock] at e;omega)⟩
theorem infoU:(Tryz.prog.info? 157).map (fun i=>(i.zero,i.size,i.bytes))=some (some (.int .u32 0),1,4):=by kernel_rfl
theorem cells_rep (n:Nat):(madeCells (Value.int .u32 0).cells (n*1)).toList=(List.replicate n 0).map fun n:Nat=>Value.int .u32 (n:Int):=by
 rw [Nat.mul_one,List.map_replicate]
 simp [madeCells,Value.cells]
 rw [List.eq_replicate_iff]
 refine ⟨by simp,fun b hb => ?_⟩
 simp only [List.mem_map,Nat.mod_one] at hb
 obtain ⟨_,_,rfl⟩:=hb
 rfl
theorem make_u32 {w:World} {ops:Array Oper} {rest:List Oper} {o:Oper} {a:Act} {Q:Exit→Act→World→Prop} (hg:o.guard=none) (l c:Operand) (hop:o.op=Op.makeSlice 116 l c)
  (base n:Nat) (hl:a.eval l = .int .i64 (n:Int)) (hc:a.eval c = .int .i64 (n:Int)) (hn:n≤1000000) (hb:base≤w.heap.size)
  (h:∀ w',OwnU w' base (.slice (some ⟨w.heap.size,0,none⟩) n n) (List.replicate n 0)→Below base w w'→wpList Tryz.prog ops Q rest (a.put o.dst (.slice (some ⟨w.heap.size,0,none⟩) n n)) w'):wpList Tryz.prog ops Q (o :: rest) a w:=by
 obtain ⟨i0,hinf,hz0,hz1,hz2⟩:=info_parts infoU
 refine wpList_make_full w hg l c 116 hop base 157 i0 (.int .u32 0) 1 Tryz.underlying116 hinf hz0 hz1 .i64 .i64 (n:Int) (n:Int) n hl hc rfl rfl (by rw [hz2];omega) (by unfold maxLen;omega) hb ?_
 intro w' ho hgr
 refine h w' ?_ ⟨hgr.os,hgr.tape,hgr.output,hgr.size,fun k hk=>hgr.block k (by omega) (by simp)⟩
 unfold OwnU
 rw [List.length_replicate,←cells_rep]
 exact ho
theorem UA.cells {W:World} {b o:Nat} {ls:List Nat} (h:UA W b o ls):∀ j u,(ls.map fun n:Nat=>Value.int .u32 (n:Int))[j]? = some u→W.cell? ((⟨b,o,none⟩:Addr).add j)=some u:=by
 intro j u hj
 rw [List.getElem?_map] at hj
 have hlt:j<ls.length:=by
  rcases Nat.lt_or_ge j ls.length with h1 | h1
  ·exact h1
  ·rw [List.getElem?_eq_none h1] at hj;cases hj
 rw [List.getElem?_eq_getElem hlt] at hj
 cases hj
 rw [Addr.add_lit]
 have:=h j hlt
 rwa [List.getD_eq_getElem?_getD,List.getElem?_eq_getElem hlt] at this
theorem u32_one (ls:List Nat):∀ u∈ls.map (fun n:Nat=>Value.int .u32 (n:Int)),u.oneCell'=true:=by
 intro u hu;simp only [List.mem_map] at hu;obtain ⟨x,_,rfl⟩:=hu;rfl
theorem append_u32 {w:World} {ops:Array Oper} {rest:List Oper} {o:Oper} {a:Act} {Q:Exit→Act→World→Prop} (hgd:o.guard=none) (s x:Operand)
  (ho:o.op = .call {callee:=.builtin .append,args:=#[s,x],argTypes:=#[116, 116]}) (base:Nat) (v:Value) (xs:List Nat) (hs:a.eval s=v) (hown:OwnU w base v xs)
  (vx:Value) (ys:List Nat) (hx:a.eval x=vx) (hys:NA w vx ys) (hl:xs.length+ys.length≤1000000) (hb:base≤w.heap.size)
  (h:∀ v' w',OwnU w' base v' (xs++ys)→(v ≠ .slice none 0 0→v' ≠ .slice none 0 0)→Below base w w'→wpList Tryz.prog ops Q rest (a.put o.dst v') w'):wpList Tryz.prog ops Q (o :: rest) a w:=by
 obtain ⟨i0,hinf,hz0,hz1,hz2⟩:=info_parts infoU
 obtain ⟨p,cap,rfl,h1,h2,⟨rfl,rfl,rfl⟩ | ⟨g,o,rfl,hg,hu⟩⟩:=hys
 ·exact wpList_append_own_none hgd s x 116 ho base 157 i0 1 Tryz.underlying116 hinf v xs.length _ hs hown hx (h v w (by rw [List.append_nil];exact hown) id (Below.refl _ _))
 ·refine wpList_append_own w hgd s x 116 ho base 157 i0 (.int .u32 0) 1 4 Tryz.underlying116 hinf hz0 hz1 hz2 rfl (by decide) v xs.length _ hs hown ⟨g,o,none⟩ ys.length cap (ys.map fun n:Nat=>Value.int .u32 (n:Int)) hx (by rw [List.length_map,Nat.mul_one]) (UA.cells hu) (u32_one ys) (by unfold maxLen;omega) (by omega) hb ?_
  intro v' w' hown' hgrow hnil
  refine h v' w' ?_ (fun hv e=>hv (hnil.1 e).1) (below_grown (Below.refl _ _) hb hown hgrow)
  unfold OwnU
  rw [List.length_append,List.map_append]
  exact hown'
end
section
open Go.RowKit Nm

theorem trim_eq {l:List Nat} (hd:Dig l) (k:Nat) (hk:k≤l.length) (hz:∀ j,k≤j→l.getD j 0=0) (hl:k=0∨l.getD (k-1) 0≠0):l.take k=natL (nv l):=by
 have h1:=nv_take_zeros l k hk hz
 rw [←h1]
 refine natL_append _ (hd.take k) ?_
 have hlen:(l.take k).length=k:=by rw [List.length_take];omega
 rcases hl with rfl | hl
 ·exact .inl rfl
 ·rcases Nat.eq_zero_or_pos k with rfl | hp
  ·exact .inl rfl
  ·right
   rw [hlen]
   rw [List.getD_eq_getElem?_getD] at hl ⊢
   rwa [List.getElem?_take,if_pos (by omega)]
theorem trim_len {l:List Nat} (hd:Dig l):(natL (nv l)).length≤l.length:=natL_len_le (nv_lt hd)
theorem trim_take {l:List Nat} (hd:Dig l):l.take (natL (nv l)).length=natL (nv l):=by
 have h1:=padL_eq hd
 have h2:=padL_eq (natL_dig (nv l))
 rw [natL_nv] at h2
 obtain ⟨m,hm⟩:∃ m,l.length=(natL (nv l)).length+m:=⟨l.length-(natL (nv l)).length,by have:=trim_len hd;omega⟩
 have h3:=padL_app (natL (nv l)).length m (nv l) 0 (natL_lt _)
 rw [Nat.mul_zero,Nat.add_zero,←hm,h1,h2] at h3
 have h4:=congrArg (List.take (natL (nv l)).length) h3
 rw [h4,List.take_left' rfl]

theorem trimmed_any (l:List Nat) (p:Option Addr) (cap g o:Nat) (w:World) (hp:1≤l.length→p=some ⟨g,o,none⟩) (hu:UA w g o l) (hd:Dig l) (hl:l.length≤1000000) (hc:l.length≤cap) (hcm:cap≤maxLen) :
  Calls Tryz.prog 180 #[.slice p l.length cap] w fun e w'=>e = .returned (.slice p (natL (nv l)).length cap)∧w'=w:=by
 go_enter Tryz.func180, Tryz.ntmps180
 have HU:Shut _:=⟨hu⟩
 have HP:Shut _:=⟨hp⟩
 have HD:Shut _:=⟨hd⟩
 unfold maxLen at hcm
 clear hu hp hd
 go_wp2
 go_loopw [0] (fun a wr=>∃ k:Nat,k≤l.length∧a = .slice p k cap∧wr=w∧Shut (∀ j,k≤j→l.getD j 0=0)) (fun a _=>match a with | .slice _ k _=>k | _=>0)
 case atStart=>exact ⟨l.length,Nat.le_refl _,rfl,rfl,⟨fun j hj=>by rw [List.getD_eq_getElem?_getD,List.getElem?_eq_none hj];rfl⟩⟩
 case round =>
  obtain ⟨k,hk,rfl,rfl,hz⟩:=hrel
  by_cases hk0:k=0
  ·subst hk0
   have HF:Shut (l.take 0=natL (nv l)):=⟨trim_eq HD.o 0 hk hz.o (.inl rfl)⟩
   have HF2:Shut (0=(natL (nv l)).length):=⟨by rw [←HF.o];rfl⟩
   go_wp2
   go_ret
   exact ⟨by rw [←HF2.o];rfl,rfl⟩
  ·obtain rfl:=HP.o (by omega)
   have hcl:=HU.o (k-1) (by omega)
   obtain ⟨k,rfl⟩:∃ k',k=k'+1:=⟨k-1,by omega⟩
   rw [Nat.add_sub_cancel] at hcl
   by_cases hx:l.getD k 0=0
   ·have hz2:Shut (∀ j,k≤j→l.getD j 0=0):=⟨fun j hj=>by
     by_cases e:j=k
     ·rw [e];exact hx
     ·exact hz.o j (by omega)⟩
    rw [hx] at hcl
    clear hx hz
    go_wp2
    exact ⟨⟨k,by omega,rfl,trivial,hz2⟩,Nat.lt_succ_self k⟩
   ·have HF:Shut (k+1=(natL (nv l)).length):=⟨by
     have:=trim_eq HD.o (k+1) hk hz.o (.inr (by simpa using hx))
     rw [←this,List.length_take];omega⟩
    have hxi:((l.getD k 0:Nat):Int)≠0:=by omega
    clear hz
    generalize l.getD k 0=x at *
    go_wp2
    go_ret
    exact ⟨by rw [←HF.o];rfl,rfl⟩

def cmpN (x y:Nat):Int:=if x<y then -1 else if x=y then 0 else 1
theorem orderI_any (x y:Nat) (w:World) :
  Calls Tryz.prog 181 #[.int .i64 x,.int .i64 y] w fun e w'=>e = .returned (.int .i64 (if x<y then -1 else 1))∧w'=w:=by
 go_enter Tryz.func181, Tryz.ntmps181
 by_cases h:x<y
 ·have hi:((x:Int)<(y:Int)):=by omega
  rw [if_pos h]
  go_wp2
  go_ret
  exact ⟨rfl,rfl⟩
 ·have hi:¬((x:Int)<(y:Int)):=by omega
  rw [if_neg h]
  go_wp2
  go_ret
  exact ⟨rfl,rfl⟩
theorem orderU_any (x y:Nat) (w:World) :
  Calls Tryz.prog 182 #[.int .u32 x,.int .u32 y] w fun e w'=>e = .returned (.int .i64 (if x<y then -1 else 1))∧w'=w:=by
 go_enter Tryz.func182, Tryz.ntmps182
 by_cases h:x<y
 ·have hi:((x:Int)<(y:Int)):=by omega
  rw [if_pos h]
  go_wp2
  go_ret
  exact ⟨rfl,rfl⟩
 ·have hi:¬((x:Int)<(y:Int)):=by omega
  rw [if_neg h]
  go_wp2
  go_ret
  exact ⟨rfl,rfl⟩

theorem compare_any (x y:Nat) (pa:Option Addr) (ca ga oa:Nat) (pb:Option Addr) (cb gb ob:Nat) (w:World) (hpa:1≤(natL x).length→pa=some ⟨ga,oa,none⟩) (hua:UA w ga oa (natL x)) (hpb:1≤(natL y).length→pb=some ⟨gb,ob,none⟩) (hub:UA w gb ob (natL y))
  (hla:(natL x).length≤1000000) (hlb:(natL y).length≤1000000) :
  Calls Tryz.prog 159 #[.slice pa (natL x).length ca,.slice pb (natL y).length cb] w fun e w'=>e = .returned (.int .i64 (cmpN x y))∧∃ m,w'=w.drewN m:=by
 go_enter Tryz.func159, Tryz.ntmps159
 have HA:Shut _:=⟨hua⟩
 have HB:Shut _:=⟨hub⟩
 have HPa:Shut _:=⟨hpa⟩
 have HPb:Shut _:=⟨hpb⟩
 clear hua hub hpa hpb
 obtain ⟨na,hna⟩:∃ na,na=(natL x).length:=⟨_,rfl⟩
 obtain ⟨nb,hnb⟩:∃ nb,nb=(natL y).length:=⟨_,rfl⟩
 have HNa:Shut _:=⟨hna⟩
 have HNb:Shut _:=⟨hnb⟩
 rw [←hna,←hnb]
 rw [←hna] at hla
 rw [←hnb] at hlb
 clear hna hnb
 by_cases hl:na=nb
 ·subst hl
  go_wp2
  go_loopw [5] (fun i5 wr=>∃ k:Nat,k≤na∧i5 = .int .i64 ((k:Int)-1)∧(∃ m,wr=w.drewN m)∧Shut ((natL x).drop k=(natL y).drop k)) (fun i5 _=>(intOf i5+1).toNat)
  case atStart=>exact ⟨na,Nat.le_refl _,rfl,⟨0,rfl⟩,⟨by rw [List.drop_eq_nil_iff.2 (by have:=HNa.o;omega),List.drop_eq_nil_iff.2 (by have:=HNb.o;omega)]⟩⟩
  case round =>
   obtain ⟨k,hk,rfl,⟨m,hw⟩,hd⟩:=hrel
   have HW:Shut _:=⟨hw⟩
   clear hw
   by_cases hk0:k=0
   ·subst hk0
    have hxy:x=y:=by
     have:=hd.o
     rw [List.drop_zero,List.drop_zero] at this
     rw [←natL_nv x,this,natL_nv]
    have HC:Shut (cmpN x y=0):=⟨by rw [cmpN,if_neg (by omega),if_pos hxy]⟩
    clear hxy hd
    go_wp2
    go_ret
    exact ⟨by rw [HC.o];rfl,_,HW.o⟩
   ·obtain ⟨k,rfl⟩:∃ k',k=k'+1:=⟨k-1,by omega⟩
    have h1:k<(natL x).length:=by rw [←HNa.o];omega
    have h2:k<(natL y).length:=by rw [←HNb.o];omega
    obtain rfl:=HPa.o (by omega)
    obtain rfl:=HPb.o (by omega)
    have c1:wr.cell? ⟨ga,oa+k,none⟩=some (.int .u32 (((natL x).getD k 0:Nat):Int)):=by rw [HW.o];exact HA.o k h1
    have c2:wr.cell? ⟨gb,ob+k,none⟩=some (.int .u32 (((natL y).getD k 0:Nat):Int)):=by rw [HW.o];exact HB.o k h2
    have hi:(((k+1:Nat):Int)-1)=(k:Int):=by omega
    rw [hi]
    have hdx:=(natL_dig x).getD k
    have hdy:=(natL_dig y).getD k
    by_cases he:(natL x).getD k 0=(natL y).getD k 0
    ·have hd2:Shut ((natL x).drop k=(natL y).drop k):=⟨by
      rw [List.drop_eq_getElem_cons h1,List.drop_eq_getElem_cons h2,hd.o]
      rw [List.getD_eq_getElem?_getD,List.getD_eq_getElem?_getD,List.getElem?_eq_getElem h1,List.getElem?_eq_getElem h2] at he
      simp only [Option.getD_some] at he
      rw [he]⟩
     rw [←he] at c2
     clear he hd h1 h2 hdy
     generalize (natL x).getD k 0=d at *
     go_wp2
     go_quiet (fail)
     go_wp2
     exact ⟨⟨k,by omega,rfl,⟨_,by rw [HW.o,World.drewN_drewN]⟩,hd2⟩,by simp [intOf]⟩
    ·have hlt:(natL x).getD k 0<(natL y).getD k 0→x<y:=fun h=>by
      have:=nv_less (natL_dig x) (by rw [←HNa.o,←HNb.o]) k h1 h hd.o
      rwa [natL_nv,natL_nv] at this
     have hgt:(natL y).getD k 0<(natL x).getD k 0→y<x:=fun h=>by
      have:=nv_less (natL_dig y) (by rw [←HNa.o,←HNb.o]) k h2 h hd.o.symm
      rwa [natL_nv,natL_nv] at this
     have HC:Shut (cmpN x y=if (natL x).getD k 0<(natL y).getD k 0 then -1 else 1):=⟨by
      by_cases h:(natL x).getD k 0<(natL y).getD k 0
      ·rw [if_pos h,cmpN,if_pos (hlt h)]
      ·have:=hgt (by omega)
       rw [if_neg h,cmpN,if_neg (by omega),if_neg (by omega)]⟩
     clear hlt hgt hd h1 h2
     generalize (natL x).getD k 0=d at *
     generalize (natL y).getD k 0=e at *
     have hne:((d:Int)≠(e:Int)):=by omega
     have co:=fun w=>orderU_any d e w
     rw [←HC.o] at co
     go_wp2
     go_quiet (fail)
     generalize hw2:wr.drewN nq=w2
     have HW2:Shut _:=⟨hw2⟩
     have c3:w2.cell? ⟨ga,oa+k,none⟩=some (.int .u32 (d:Int)):=by rw [←hw2];exact c1
     have c4:w2.cell? ⟨gb,ob+k,none⟩=some (.int .u32 (e:Int)):=by rw [←hw2];exact c2
     clear c1 c2 hw2
     have i1:(0:Int)≤(k:Int):=by omega
     have i2:(k:Int)<(na:Int):=by omega
     go_wp2
     go_region_held3 (fun w'=>w'.cell? ⟨ga,oa+k,none⟩=some (.int .u32 (d:Int))∧w'.cell? ⟨gb,ob+k,none⟩=some (.int .u32 (e:Int))) (go_keep) (first | (go_at_call 182; refine (co _).mono ?_;rintro e w1 ⟨rfl,rfl⟩))
     go_wp2
     go_ret
     exact ⟨by rfl,_,by rw [←HW2.o,HW.o,World.drewN_drewN,World.drew_drewN]⟩
 ·have hne:((na:Int)≠(nb:Int)):=by omega
  have co:=fun w=>orderI_any na nb w
  have HC:Shut (cmpN x y=if na<nb then -1 else 1):=⟨by
   have e1:=HNa.o
   have e2:=HNb.o
   by_cases h:na<nb
   ·rw [if_pos h,cmpN,if_pos (natL_len_lt (by omega))]
   ·have:=natL_len_lt (n:=y) (m:=x) (by omega)
    rw [if_neg h,cmpN,if_neg (by omega),if_neg (by omega)]⟩
  rw [←HC.o] at co
  generalize cmpN x y=cc at *
  go_wp2_with (go_at_call 181; refine (co _).mono ?_;rintro e w1 ⟨rfl,rfl⟩)
  go_ret
  exact ⟨rfl,0,rfl⟩
end
section
open Go.RowKit Nm

theorem nv_drop_le (l:List Nat) (k:Nat) (hk:k≤l.length):nv (l.drop k)≤nv l:=by
 rw [nv_take_drop l k hk]
 have:1*nv (l.drop k)≤10000^k*nv (l.drop k):=Nat.mul_le_mul_right _ (Nat.pow_pos (by decide))
 omega
theorem nv_drop_succ (l:List Nat) (k:Nat) (hk:k<l.length):nv (l.drop k)=l.getD k 0+10000*nv (l.drop (k+1)):=by
 rw [List.drop_eq_getElem_cons hk,nv];simp [List.getD,hk]

theorem word_any (l:List Nat) (p:Option Addr) (cap g o:Nat) (w:World) (hp:1≤l.length→p=some ⟨g,o,none⟩) (hu:UA w g o l) (hd:Dig l) (hl:l.length≤1000000) (hv:nv l<18446744073709551616) :
  Calls Tryz.prog 191 #[.slice p l.length cap] w fun e w'=>e = .returned (.int .u64 (nv l:Nat))∧w'=w:=by
 go_enter Tryz.func191, Tryz.ntmps191
 have HU:Shut _:=⟨hu⟩
 have HP:Shut _:=⟨hp⟩
 have HD:Shut _:=⟨hd⟩
 have HV:Shut _:=⟨hv⟩
 clear hu hp hd hv
 go_wp2
 go_loopw [3,4] (fun x i wr=>∃ k:Nat,k≤l.length∧i = .int .i64 ((k:Int)-1)∧wr=w∧x = .int .u64 (nv (l.drop k):Nat)) (fun _ i _=>(intOf i+1).toNat)
 case atStart=>exact ⟨l.length,Nat.le_refl _,rfl,rfl,by rw [List.drop_eq_nil_iff.2 (Nat.le_refl _)];rfl⟩
 case round =>
  obtain ⟨k,hk,rfl,rfl,rfl⟩:=hrel
  by_cases hk0:k=0
  ·subst hk0
   rw [List.drop_zero]
   have hx:=HV.o
   go_wp2
   go_ret
   exact ⟨rfl,rfl⟩
  ·obtain ⟨k,rfl⟩:∃ k',k=k'+1:=⟨k-1,by omega⟩
   obtain rfl:=HP.o (by omega)
   have hcl:=HU.o k (by omega)
   have hi:(((k+1:Nat):Int)-1)=(k:Int):=by omega
   rw [hi]
   have h1:=nv_drop_succ l k (by omega)
   have h2:=nv_drop_le l k (by omega)
   have h3:=HV.o
   have HE:Shut _:=⟨h1⟩
   have hx:10000*nv (l.drop (k+1))+l.getD k 0<18446744073709551616:=by omega
   have hx2:=HD.o.getD k
   clear h1 h2 h3
   generalize nv (l.drop (k+1))=x at *
   generalize l.getD k 0=d at *
   go_wp2
   exact ⟨⟨k,by omega,rfl,trivial,by rw [HE.o];congr 1;omega⟩,by simp [intOf]⟩

theorem ofWord_any (x:Nat) (hx:x<18446744073709551616) (w:World) :
  Calls Tryz.prog 194 #[.int .u64 x] w fun e w'=>∃ v,e = .returned v∧OwnU w' w.heap.size v (natL x)∧Below w.heap.size w w':=by
 go_enter Tryz.func194, Tryz.ntmps194
 go_wp2
 go_loopw [0,3] (fun xv v wr=>∃ (l:List Nat) (y:Nat),xv = .int .u64 y∧y<18446744073709551616∧l.length+(natL y).length≤5∧Shut (natL x=l++natL y)∧OwnU wr w.heap.size v l∧Below w.heap.size w wr) (fun xv _ _=>(intOf xv).toNat)
 case atStart=>exact ⟨[],x,rfl,hx,by rw [List.length_nil,Nat.zero_add];exact natL_len_le (by omega),⟨rfl⟩,OwnU.nil _ _,Below.refl _ _⟩
 case round =>
  rename_i v0 _
  obtain ⟨l,y,rfl,hy,hlen,hE,hO,hB⟩:=hrel
  by_cases hy0:y=0
  ·subst hy0
   have HF:Shut (natL x=l):=⟨by rw [hE.o,natL_zero,List.append_nil]⟩
   clear hE
   go_wp2
   go_ret
   exact ⟨_,rfl,by rw [HF.o];exact hO,hB⟩
  ·have hne:=natL_pos hy0
   have HE:Shut (natL x=(l ++ [y % 10000])++natL (y / 10000)):=⟨by rw [hE.o,hne];simp⟩
   have hl5:l.length+1+(natL (y / 10000)).length≤5:=by rw [hne,List.length_cons] at hlen;omega
   obtain ⟨i0,hinf,hz0,hz1,hz2⟩:=info_parts infoU
   clear hE hne hlen
   go_wp2_with (first | (at_builtin;go_must (refine wpList_append_own _ rfl _ _ 116 rfl w.heap.size 157 i0 (.int .u32 0) 1 4 Tryz.underlying116 hinf hz0 hz1 hz2 rfl (by decide) _ _ _ rfl (World.ownsRow.alloc hO _) ⟨wr.heap.size,0,none⟩ 1 1 [.int .u32 ((y % 10000:Nat):Int)] rfl rfl (cell_one_new _ _ _) (by simp [Value.oneCell']) (by unfold maxLen;omega) (by omega) (by rw [World.size_alloc];have:=hB.size;omega) ?_);intro v' w' hown' hgrow _;have hB':=below_grown (hB.alloc hB.size _) (Nat.le_refl _) (World.ownsRow.alloc hO _) hgrow))
   have e1:((y:Int) / 10000)=((y / 10000:Nat):Int):=by omega
   rw [e1]
   exact ⟨⟨l ++ [y % 10000],y / 10000,rfl,by omega,by rw [List.length_append];exact hl5,HE,OwnU.snoc hown',hB'⟩,by simp [intOf];omega⟩

theorem shifted_any (l:List Nat) (v:Value) (k:Nat) (w:World) (hv:NA w v l) (hl:l.length+k≤1000000) :
  Calls Tryz.prog 183 #[v,.int .i64 k] w fun e w'=>∃ u,e = .returned u∧OwnU w' w.heap.size u (List.replicate k 0++l)∧u ≠ .slice none 0 0∧Below w.heap.size w w':=by
 go_enter Tryz.func183, Tryz.ntmps183
 have HV:Shut _:=⟨hv⟩
 have hpow:((k:Int))≤1000000:=by omega
 clear hv
 go_wp2_with (first | (at_make;refine make_u32 rfl _ _ rfl w.heap.size k rfl rfl (by omega) (Nat.le_refl _) ?_;intro w1 hO1 hB1) | (at_builtin;refine append_u32 rfl _ _ rfl w.heap.size _ (List.replicate k 0) rfl hO1 v l rfl (HV.o.below hB1 (Nat.le_refl _)) (by rw [List.length_replicate];omega) hB1.size ?_;intro v2 w2 hO2 hn2 hB2))
 go_ret
 exact ⟨_,rfl,hO2,hn2 (show Value.slice (some ⟨w.heap.size,0,none⟩) k k≠Value.slice none 0 0 by simp),hB1.trans hB2⟩
end
section
namespace Nm
def rowR (L:List Nat) (o i r:Nat):List Nat:=L.take o++padL i r++L.drop (o+i)
theorem rowR_zero (L:List Nat) (o:Nat):rowR L o 0 0=L:=by simp [rowR,padL]
theorem rowR_len (L:List Nat) (o i r:Nat) (h:o+i≤L.length):(rowR L o i r).length=L.length:=by simp [rowR,padL_len];omega
theorem rowR_get (L:List Nat) (o i r:Nat) (h:o+i<L.length):(rowR L o i r).getD (o+i) 0=L.getD (o+i) 0:=by
 have hl:(L.take o++padL i r).length=o+i:=by simp [padL_len];omega
 simp only [rowR,List.getD_eq_getElem?_getD]
 rw [List.getElem?_append_right (by omega),hl,Nat.sub_self,List.getElem?_drop,Nat.add_zero]
theorem rowR_set (L:List Nat) (o i r d:Nat) (h:o+i<L.length) (hr:r<10000^i) (hd:d<10000):(rowR L o i r).set (o+i) d=rowR L o (i+1) (r+10000^i*d):=by
 have hl:(L.take o++padL i r).length=o+i:=by simp [padL_len];omega
 rw [rowR,List.set_append_right _ _ (by omega),hl,Nat.sub_self,List.drop_eq_getElem_cons h,List.set_cons_zero,rowR,padL_succ i r d hr hd,←Nat.add_assoc]
 simp only [List.append_assoc,List.cons_append,List.nil_append]
theorem seg_get (L:List Nat) (o n i:Nat) (h:i<n):((L.drop o).take n).getD i 0=L.getD (o+i) 0:=by
 simp only [List.getD_eq_getElem?_getD]
 rw [List.getElem?_take,if_pos h,List.getElem?_drop]
theorem seg_len (L:List Nat) (o n:Nat) (h:o+n≤L.length):((L.drop o).take n).length=n:=by simp;omega
theorem rowR_end {L:List Nat} (hd:Dig L) (o n i r:Nat) (hi:i≤n) (h:o+n≤L.length) (hr:r<10000^i):rowR L o i r=rowR L o n (r+10000^i*nv (((L.drop o).take n).drop i)):=by
 have hs:(((L.drop o).take n).drop i).length=n-i:=by rw [List.length_drop,seg_len L o n h]
 have e:=padL_app i (n-i) r (nv (((L.drop o).take n).drop i)) hr
 rw [show i+(n-i)=n by omega] at e
 have e2:padL (n-i) (nv (((L.drop o).take n).drop i))=((L.drop o).take n).drop i:=by
  have:=padL_eq ((((hd.drop o).take n)).drop i);rwa [hs] at this
 rw [rowR,rowR,e,e2]
 have e3:L.drop (o+i)=((L.drop o).take n).drop i++L.drop (o+n):=by
  rw [List.drop_take,List.drop_drop]
  conv=>lhs;rw [←List.take_append_drop (n-i) (L.drop (o+i))]
  rw [List.drop_drop,show o+i+(n-i)=o+n by omega]
 rw [e3];simp only [List.append_assoc]
theorem rowR_seg (L:List Nat) (o n r:Nat) (h:o+n≤L.length):((rowR L o n r).drop o).take n=padL n r:=by
 have hl:(L.take o).length=o:=by simp;omega
 rw [rowR,List.append_assoc,List.drop_append_of_le_length (by omega)]
 rw [show (L.take o).drop o = [] by rw [List.drop_eq_nil_iff];omega,List.nil_append,List.take_append_of_le_length (by rw [padL_len];exact Nat.le_refl _),List.take_of_length_le (by rw [padL_len];exact Nat.le_refl _)]
theorem add_round {L t:List Nat} (o n i r c f x:Nat) (h:i<n) (hon:o+n≤L.length)
  (he:nv (((L.drop o).take n).take i)+nv (t.take i)*f=r+10000^i*c)
  (hx:x=c+(if i<t.length then t.getD i 0*f else 0)+L.getD (o+i) 0) :
  nv (((L.drop o).take n).take (i+1))+nv (t.take (i+1))*f=(r+10000^i*(x % 10000))+10000^(i+1)*(x / 10000):=by
 have hs:=seg_len L o n hon
 rw [nv_take_succ _ i (by omega),seg_get L o n i h]
 have hm:x=x % 10000+10000*(x / 10000):=by omega
 generalize x % 10000=d at *
 generalize x / 10000=c' at *
 have hP:10000^(i+1)=10000^i*10000:=Nat.pow_succ ..
 rw [hP]
 generalize 10000^i=P at *
 by_cases ht:i<t.length
 ·rw [if_pos ht] at hx
  rw [nv_take_succ t i ht]
  grind
 ·rw [if_neg ht] at hx
  rw [List.take_of_length_le (show t.length≤i+1 by omega)]
  rw [List.take_of_length_le (show t.length≤i by omega)] at he
  grind
theorem take_round {L t:List Nat} (o n i r c f x c' d:Nat) (h:i<n) (hon:o+n≤L.length)
  (he:nv (((L.drop o).take n).take i)+10000^i*c=r+nv (t.take i)*f)
  (hx:x=c+(if i<t.length then t.getD i 0*f else 0))
  (hd:L.getD (o+i) 0+10000*c'=x+d) :
  nv (((L.drop o).take n).take (i+1))+10000^(i+1)*c'=(r+10000^i*d)+nv (t.take (i+1))*f:=by
 have hs:=seg_len L o n hon
 rw [nv_take_succ _ i (by omega),seg_get L o n i h]
 have hP:10000^(i+1)=10000^i*10000:=Nat.pow_succ ..
 rw [hP]
 generalize 10000^i=P at *
 by_cases ht:i<t.length
 ·rw [if_pos ht] at hx
  rw [nv_take_succ t i ht]
  grind
 ·rw [if_neg ht] at hx
  rw [List.take_of_length_le (show t.length≤i+1 by omega)]
  rw [List.take_of_length_le (show t.length≤i by omega)] at he
  grind
theorem add_carry {L t:List Nat} (hL:Dig L) (ht:Dig t) (o n i r c f:Nat) (h:i≤n) (hon:o+n≤L.length) (hf:f≤10000)
  (he:nv (((L.drop o).take n).take i)+nv (t.take i)*f=r+10000^i*c):c≤10000:=by
 have h1:=nv_lt (((hL.drop o).take n).take i)
 rw [List.length_take,seg_len L o n hon,Nat.min_eq_left h] at h1
 have h2:=nv_lt (ht.take i)
 have h2':nv (t.take i)<10000^i:=Nat.lt_of_lt_of_le h2 (Nat.pow_le_pow_right (by decide) (by rw [List.length_take];omega))
 have h3:nv (t.take i)*f≤nv (t.take i)*10000:=Nat.mul_le_mul_left _ hf
 rcases Nat.lt_or_ge c 10001 with h4 | h4
 ·omega
 ·have h5:10000^i*10001≤10000^i*c:=Nat.mul_le_mul_left _ h4
  omega
theorem take_carry {L t:List Nat} (ht:Dig t) (o n i r c f:Nat) (hf:f<10000) (hr:r<10000^i)
  (he:nv (((L.drop o).take n).take i)+10000^i*c=r+nv (t.take i)*f):c<10000:=by
 have h2:=nv_lt (ht.take i)
 have h2':nv (t.take i)<10000^i:=Nat.lt_of_lt_of_le h2 (Nat.pow_le_pow_right (by decide) (by rw [List.length_take];omega))
 have h3:nv (t.take i)*f≤10000^i*9999:=Nat.mul_le_mul (by omega) (by omega)
 rcases Nat.lt_or_ge c 10000 with h4 | h4
 ·exact h4
 ·have h5:10000^i*10000≤10000^i*c:=Nat.mul_le_mul_left _ h4
  omega
theorem pow_gt (i r d:Nat) (hr:r<10000^i) (hd:d<10000):r+10000^i*d<10000^(i+1):=by
 rw [Nat.pow_succ]
 have:10000^i*d≤10000^i*9999:=Nat.mul_le_mul_left _ (by omega)
 omega
end Nm
end
section
open Go.RowKit Nm

theorem add_any (g o n cap:Nat) (L:List Nat) (p':Option Addr) (g' o' cap':Nat) (t:List Nat) (f:Nat) (w:World)
  (hL:UR w g (L)) (hon:o+n≤L.length) (hg:1≤t.length→g'≠g) (hu:UA w g' o' t) (hp:1≤t.length→p'=some ⟨g',o',none⟩) (htn:t.length≤n) (hn:n≤1000000) (hdL:Dig L) (hdt:Dig t) (hf:f≤10000)
  (hroom:nv ((L.drop o).take n)+nv t*f<10000^n) :
  Calls Tryz.prog 179 #[.slice (some ⟨g,o,none⟩) n cap,.slice p' t.length cap',.int .u32 f] w fun e w'=>e = .returned (.tuple #[])∧Only g w w'∧UR w' g ((rowR L o n (nv ((L.drop o).take n)+nv t*f))):=by
 go_enter Tryz.func179, Tryz.ntmps179
 have HL:Shut _:=⟨hL⟩
 have HU:Shut _:=⟨hu⟩
 have HP:Shut _:=⟨hp⟩
 have HR:Shut _:=⟨hroom⟩
 have HD:Shut _:=⟨And.intro hdL hdt⟩
 clear hL hu hp hroom hdL hdt
 obtain ⟨tn,htl⟩:∃ tn,tn=t.length:=⟨_,rfl⟩
 have HTL:Shut _:=⟨htl⟩
 have htn':tn≤n:=by omega
 rw [←htl]
 clear htl htn
 go_wp2
 go_loopw [6,7] (fun cv iv wr=>∃ (i c r:Nat),i≤n∧c≤10000∧cv = .int .u32 c∧iv = .int .i64 i∧Shut (Only g w wr)∧Shut (UR wr g ((rowR L o i r)))∧Shut (r<10000^i∧nv (((L.drop o).take n).take i)+nv (t.take i)*f=r+10000^i*c)) (fun _ iv _=>n-(intOf iv).toNat)
 case atStart=>exact ⟨0,0,0,by omega,by omega,rfl,rfl,⟨Only.refl _ _⟩,⟨by rw [rowR_zero];exact HL.o⟩,⟨by decide,by simp [nv]⟩⟩
 case round =>
  obtain ⟨i,c,r,hin,hc,rfl,rfl,hO,hR,hE⟩:=hrel
  have hcell:i<n→wr.cell? ⟨g,o+i,none⟩=some (.int .u32 ((L.getD (o+i) 0:Nat):Int)):=fun h=>by
   have:=hR.o.u32 (o+i) (by rw [rowR_len L o i r (by omega)];omega)
   rwa [rowR_get L o i r (by omega)] at this
  have hfr:=hR.o.frozen (o+i)
  have hs:L.getD (o+i) 0<10000:=HD.o.1.getD _
  have HS:Shut (∀ x:Nat,i<n→x=c+(if i<t.length then t.getD i 0*f else 0)+L.getD (o+i) 0→Only g w (wr.setCell ⟨g,o+i,none⟩ (.int .u32 ((x % 10000:Nat):Int)))∧UR (wr.setCell ⟨g,o+i,none⟩ (.int .u32 ((x % 10000:Nat):Int))) g ((rowR L o (i+1) (r+10000^i*(x % 10000))))∧r+10000^i*(x % 10000)<10000^(i+1)∧nv (((L.drop o).take n).take (i+1))+nv (t.take (i+1))*f=(r+10000^i*(x % 10000))+10000^(i+1)*(x / 10000)∧x / 10000≤10000):=⟨fun x hi hx=>by
   have h1:=add_round o n i r c f x hi hon hE.o.2 hx
   refine ⟨hO.o.setCell _ _, ?_,pow_gt i r _ hE.o.1 (by omega),h1,add_carry HD.o.1 HD.o.2 o n (i+1) _ _ f (by omega) hon hf h1⟩
   have h2:=hR.o.set32 (o+i) (x % 10000) (by rw [rowR_len L o i r (by omega)];omega)
   rwa [rowR_set L o i r _ (by omega) hE.o.1 (by omega)] at h2⟩
  by_cases hit:i<tn
  ·have hin2:i<n:=by omega
   have ht1:i<t.length:=by have:=HTL.o;omega
   obtain rfl:=HP.o (by omega)
   have hct:=HU.o.only hO.o (hg (by omega)) i ht1
   have hti:t.getD i 0<10000:=HD.o.2.getD _
   have hc2:=hcell hin2
   have HS2:=HS.o
   rw [if_pos ht1] at HS2
   have hS3:=HS2 _ hin2 rfl
   have HS3:Shut _:=⟨hS3⟩
   clear hcell HS HS2 hS3 hE hR hO ht1
   generalize t.getD i 0=ti at *
   generalize L.getD (o+i) 0=s at *
   have hm:ti*f≤9999*10000:=Nat.mul_le_mul (by omega) (by omega)
   obtain ⟨m,hmm⟩:∃ m,m=ti*f:=⟨_,rfl⟩
   have hmi:((ti:Int)*(f:Int))=(m:Int):=by rw [hmm,Int.natCast_mul]
   rw [←hmm] at HS3 hm
   clear hmm
   go_wp2
   have e1:(((c:Int)+m+s) % 10000)=(((c+m+s) % 10000:Nat):Int):=by omega
   have e2:(((c:Int)+m+s) / 10000)=(((c+m+s) / 10000:Nat):Int):=by omega
   rw [e1,e2]
   obtain ⟨k1,k2,k3,k4,k5⟩:=HS3.o
   exact ⟨⟨i+1,_,_,by omega,k5,rfl,by go_num,⟨k1⟩,⟨k2⟩,⟨k3,k4⟩⟩,by simp [intOf];omega⟩
  ·have ht1:¬ i<t.length:=by have:=HTL.o;omega
   by_cases hc0:0<c
   ·have hin2:i<n:=by
     rcases Nat.lt_or_ge i n with h | h
     ·exact h
     ·exfalso
      obtain rfl:i=n:=by omega
      have h1:=hE.o.2
      have h2:=HR.o
      rw [List.take_of_length_le (show t.length≤i by omega),List.take_of_length_le (show ((L.drop o).take i).length≤i by rw [List.length_take];omega)] at h1
      have:10000^i*1≤10000^i*c:=Nat.mul_le_mul_left _ hc0
      omega
    have hc2:=hcell hin2
    have HS2:=HS.o
    rw [if_neg ht1,Nat.add_zero] at HS2
    have hS3:=HS2 _ hin2 rfl
    have HS3:Shut _:=⟨hS3⟩
    clear hcell HS HS2 hS3 hE hR hO ht1
    generalize L.getD (o+i) 0=s at *
    go_wp2
    have e1:(((c:Int)+s) % 10000)=(((c+s) % 10000:Nat):Int):=by omega
    have e2:(((c:Int)+s) / 10000)=(((c+s) / 10000:Nat):Int):=by omega
    rw [e1,e2]
    obtain ⟨k1,k2,k3,k4,k5⟩:=HS3.o
    exact ⟨⟨i+1,_,_,by omega,k5,rfl,by go_num,⟨k1⟩,⟨k2⟩,⟨k3,k4⟩⟩,by simp [intOf];omega⟩
   ·obtain rfl:c=0:=by omega
    have HF:Shut (rowR L o i r=rowR L o n (nv ((L.drop o).take n)+nv t*f)):=⟨by
     rw [rowR_end HD.o.1 o n i r hin hon hE.o.1]
     have h1:=hE.o.2
     rw [List.take_of_length_le (show t.length≤i by omega),Nat.mul_zero,Nat.add_zero] at h1
     have h2:=nv_take_drop ((L.drop o).take n) i (by rw [seg_len L o n hon];exact hin)
     congr 1
     omega⟩
    clear HS hcell hE ht1
    go_wp2
    go_end0
    exact ⟨rfl,hO.o,by rw [←HF.o];exact hR.o⟩

theorem take_any (g o n cap:Nat) (L:List Nat) (p':Option Addr) (g' o' cap':Nat) (t:List Nat) (f:Nat) (w:World)
  (hL:UR w g (L)) (hon:o+n≤L.length) (hg:1≤t.length→g'≠g) (hu:UA w g' o' t) (hp:1≤t.length→p'=some ⟨g',o',none⟩) (htn:t.length≤n) (hn:n≤1000000) (hdL:Dig L) (hdt:Dig t) (hf:f<10000)
  (hroom:nv t*f≤nv ((L.drop o).take n)) :
  Calls Tryz.prog 184 #[.slice (some ⟨g,o,none⟩) n cap,.slice p' t.length cap',.int .u32 f] w fun e w'=>e = .returned (.tuple #[])∧Only g w w'∧UR w' g ((rowR L o n (nv ((L.drop o).take n)-nv t*f))):=by
 go_enter Tryz.func184, Tryz.ntmps184
 have HL:Shut _:=⟨hL⟩
 have HU:Shut _:=⟨hu⟩
 have HP:Shut _:=⟨hp⟩
 have HR:Shut _:=⟨hroom⟩
 have HD:Shut _:=⟨And.intro hdL hdt⟩
 clear hL hu hp hroom hdL hdt
 obtain ⟨tn,htl⟩:∃ tn,tn=t.length:=⟨_,rfl⟩
 have HTL:Shut _:=⟨htl⟩
 have htn':tn≤n:=by omega
 rw [←htl]
 clear htl htn
 go_wp2
 go_loopw [6,7] (fun cv iv wr=>∃ (i c r:Nat),i≤n∧c<10000∧cv = .int .u32 c∧iv = .int .i64 i∧Shut (Only g w wr)∧Shut (UR wr g ((rowR L o i r)))∧Shut (r<10000^i∧nv (((L.drop o).take n).take i)+10000^i*c=r+nv (t.take i)*f)) (fun _ iv _=>n-(intOf iv).toNat)
 case atStart=>exact ⟨0,0,0,by omega,by omega,rfl,rfl,⟨Only.refl _ _⟩,⟨by rw [rowR_zero];exact HL.o⟩,⟨by decide,by simp [nv]⟩⟩
 case round =>
  obtain ⟨i,c,r,hin,hc,rfl,rfl,hO,hR,hE⟩:=hrel
  have hcell:i<n→wr.cell? ⟨g,o+i,none⟩=some (.int .u32 ((L.getD (o+i) 0:Nat):Int)):=fun h=>by
   have:=hR.o.u32 (o+i) (by rw [rowR_len L o i r (by omega)];omega)
   rwa [rowR_get L o i r (by omega)] at this
  have hfr:=hR.o.frozen (o+i)
  have hs:L.getD (o+i) 0<10000:=HD.o.1.getD _
  have HS:Shut (∀ x c' d:Nat,i<n→x=c+(if i<t.length then t.getD i 0*f else 0)→L.getD (o+i) 0+10000*c'=x+d→d<10000→UR (wr.setCell ⟨g,o+i,none⟩ (.int .u32 (d:Int))) g ((rowR L o (i+1) (r+10000^i*d)))∧r+10000^i*d<10000^(i+1)∧nv (((L.drop o).take n).take (i+1))+10000^(i+1)*c'=(r+10000^i*d)+nv (t.take (i+1))*f∧c'<10000):=⟨fun x c' d hi hx he hd=>by
   have h1:=take_round o n i r c f x c' d hi hon hE.o.2 hx he
   have h3:=pow_gt i r d hE.o.1 hd
   refine ⟨?_,h3,h1,take_carry HD.o.2 o n (i+1) _ _ f hf h3 h1⟩
   have h2:=hR.o.set32 (o+i) d (by rw [rowR_len L o i r (by omega)];omega)
   rwa [rowR_set L o i r _ (by omega) hE.o.1 hd] at h2⟩
  have HS9:Shut (∀ a d:Nat,i<n→UR ((wr.setCell ⟨g,o+i,none⟩ (.int .u32 (a:Int))).setCell ⟨g,o+i,none⟩ (.int .u32 (d:Int))) g (((rowR L o i r).set (o+i) d))):=⟨fun a d hi=>by
   have h2:=(hR.o.set32 (o+i) a (by rw [rowR_len L o i r (by omega)];omega)).set32 (o+i) d (by rw [List.length_set,rowR_len L o i r (by omega)];omega)
   rwa [List.set_set] at h2⟩
  by_cases hit:i<tn
  ·have hin2:i<n:=by omega
   have ht1:i<t.length:=by have:=HTL.o;omega
   obtain rfl:=HP.o (by omega)
   have hct:=HU.o.only hO.o (hg (by omega)) i ht1
   have hti:t.getD i 0<10000:=HD.o.2.getD _
   have hc2:=hcell hin2
   have HS2:=HS.o
   rw [if_pos ht1] at HS2
   have HS3:Shut _:=⟨HS2⟩
   clear hcell HS HS2 ht1
   generalize t.getD i 0=ti at *
   generalize L.getD (o+i) 0=s at *
   have hm:ti*f≤9999*9999:=Nat.mul_le_mul (by omega) (by omega)
   obtain ⟨m,hmm⟩:∃ m,m=ti*f:=⟨_,rfl⟩
   have hmi:((ti:Int)*(f:Int))=(m:Int):=by rw [hmm,Int.natCast_mul]
   rw [←hmm] at HS3 hm
   clear hmm
   by_cases hsg:s<(c+m) % 10000
   ·go_wp2
    have e1:((s:Int)+10000-((c:Int)+m) % 10000)=((s+10000-(c+m) % 10000:Nat):Int):=by omega
    have e2:(((c:Int)+m) / 10000+1)=(((c+m) / 10000+1:Nat):Int):=by omega
    obtain ⟨k2,k3,k4,k5⟩:=HS3.o (c+m) ((c+m) / 10000+1) (s+10000-(c+m) % 10000) hin2 rfl (by omega) (by omega)
    rw [e1,e2]
    have k6:=HS9.o (s+10000) (s+10000-(c+m) % 10000) hin2
    rw [rowR_set L o i r _ (by omega) hE.o.1 (by omega)] at k6
    have e3:((s:Int)+10000)=((s+10000:Nat):Int):=by omega
    rw [e3]
    exact ⟨⟨i+1,_,_,by omega,k5,rfl,by go_num,⟨(hO.o.setCell _ _).setCell _ _⟩,⟨k6⟩,⟨k3,k4⟩⟩,by simp [intOf];omega⟩
   ·go_wp2
    have e1:((s:Int)-((c:Int)+m) % 10000)=((s-(c+m) % 10000:Nat):Int):=by omega
    have e2:(((c:Int)+m) / 10000)=(((c+m) / 10000:Nat):Int):=by omega
    obtain ⟨k2,k3,k4,k5⟩:=HS3.o (c+m) ((c+m) / 10000) (s-(c+m) % 10000) hin2 rfl (by omega) (by omega)
    rw [e1,e2]
    exact ⟨⟨i+1,_,_,by omega,k5,rfl,by go_num,⟨hO.o.setCell _ _⟩,⟨k2⟩,⟨k3,k4⟩⟩,by simp [intOf];omega⟩
  ·have ht1:¬ i<t.length:=by have:=HTL.o;omega
   by_cases hc0:0<c
   ·have hin2:i<n:=by
     rcases Nat.lt_or_ge i n with h | h
     ·exact h
     ·exfalso
      obtain rfl:i=n:=by omega
      have h1:=hE.o.2
      have h2:=HR.o
      have h3:=hE.o.1
      rw [List.take_of_length_le (show t.length≤i by omega),List.take_of_length_le (show ((L.drop o).take i).length≤i by rw [List.length_take];omega)] at h1
      have:10000^i*1≤10000^i*c:=Nat.mul_le_mul_left _ hc0
      omega
    have hc2:=hcell hin2
    have HS2:=HS.o
    rw [if_neg ht1,Nat.add_zero] at HS2
    have HS3:Shut _:=⟨HS2⟩
    clear hcell HS HS2 ht1
    generalize L.getD (o+i) 0=s at *
    by_cases hsg:s<c % 10000
    ·go_wp2
     have e1:((s:Int)+10000-((c:Int)) % 10000)=((s+10000-(c) % 10000:Nat):Int):=by omega
     have e2:(((c:Int)) / 10000+1)=(((c) / 10000+1:Nat):Int):=by omega
     obtain ⟨k2,k3,k4,k5⟩:=HS3.o (c) ((c) / 10000+1) (s+10000-(c) % 10000) hin2 rfl (by omega) (by omega)
     rw [e1,e2]
     have k6:=HS9.o (s+10000) (s+10000-(c) % 10000) hin2
     rw [rowR_set L o i r _ (by omega) hE.o.1 (by omega)] at k6
     have e3:((s:Int)+10000)=((s+10000:Nat):Int):=by omega
     rw [e3]
     exact ⟨⟨i+1,_,_,by omega,k5,rfl,by go_num,⟨(hO.o.setCell _ _).setCell _ _⟩,⟨k6⟩,⟨k3,k4⟩⟩,by simp [intOf];omega⟩
    ·go_wp2
     have e1:((s:Int)-((c:Int)) % 10000)=((s-(c) % 10000:Nat):Int):=by omega
     have e2:(((c:Int)) / 10000)=(((c) / 10000:Nat):Int):=by omega
     obtain ⟨k2,k3,k4,k5⟩:=HS3.o (c) ((c) / 10000) (s-(c) % 10000) hin2 rfl (by omega) (by omega)
     rw [e1,e2]
     exact ⟨⟨i+1,_,_,by omega,k5,rfl,by go_num,⟨hO.o.setCell _ _⟩,⟨k2⟩,⟨k3,k4⟩⟩,by simp [intOf];omega⟩
   ·obtain rfl:c=0:=by omega
    have HF:Shut (rowR L o i r=rowR L o n (nv ((L.drop o).take n)-nv t*f)):=⟨by
     rw [rowR_end HD.o.1 o n i r hin hon hE.o.1]
     have h1:=hE.o.2
     rw [List.take_of_length_le (show t.length≤i by omega),Nat.mul_zero,Nat.add_zero] at h1
     have h2:=nv_take_drop ((L.drop o).take n) i (by rw [seg_len L o n hon];exact hin)
     congr 1
     omega⟩
    clear HS HS9 hcell hE ht1
    go_wp2
    go_end0
    exact ⟨rfl,hO.o,by rw [←HF.o];exact hR.o⟩
end
section
open Go.RowKit Nm

theorem infoU1:(Tryz.prog.info? 157).map (·.size)=some 1:=by kernel_rfl
theorem copy_u32 {w:World} {ops:Array Oper} {rest:List Oper} {o:Oper} {a:Act} {Q:Exit→Act→World→Prop} (hgd:o.guard=none) (d s:Operand)
  (ho:o.op = .call {callee:=.builtin .copy,args:=#[d,s],argTypes:=#[116, 116]}) (g dLen dCap:Nat) (hd:a.eval d = .slice (some ⟨g,0,none⟩) dLen dCap) (L:List Nat) (hL:UR w g L) (hdl:dLen≤L.length)
  (vx:Value) (ys:List Nat) (hx:a.eval s=vx) (hys:NA w vx ys) (hle:ys.length≤dLen) (B:Nat) (w0:World) (hb:Below B w0 w) (hBg:B≤g)
  (h:∀ w',UR w' g (ys++L.drop ys.length)→Below B w0 w'→wpList Tryz.prog ops Q rest (a.put o.dst (goInt ys.length)) w'):wpList Tryz.prog ops Q (o :: rest) a w:=by
 obtain ⟨X,hX⟩:=hL
 have hlen:(ys.map fun n:Nat=>Value.int .u32 (n:Int)).length=ys.length:=List.length_map _
 obtain ⟨p,cap,rfl,h1,h2,h3⟩:=hys
 have key:=@wpList_copy_splice Tryz.prog w ops rest o a Q hgd d s 116 116 ho 157 Tryz.underlying116 infoU1 (some ⟨g,0,none⟩) p dLen dCap ys.length cap hd hx g 0 (u32s L++X).toList 157 (by rw [Array.toArray_toList];exact hX) (ys.map fun n:Nat=>Value.int .u32 (n:Int)) (by rw [hlen];exact (Nat.min_eq_left hle).symm) (fun hp=>by
   rw [hlen] at hp
   refine ⟨rfl, ?_⟩
   rcases h3 with ⟨_,e,_⟩ | ⟨g',o',rfl,hg',hu⟩
   ·rw [e] at hp;simp at hp
   ·exact ⟨_,rfl,UA.cells hu⟩) (by rw [hlen];simp [u32s_size];omega) (u32_one ys) B w0 hb hBg (fun w' hrow hB => ?_)
 ·exact key
 ·rw [hlen]
  refine h w' ⟨X, ?_⟩ hB
  have hr:=hrow.out
  have e:(splice (u32s L++X).toList 0 (ys.map fun n:Nat=>Value.int .u32 (n:Int))).toArray=u32s (ys++L.drop ys.length)++X:=by
   apply Array.ext'
   simp only [splice,hlen,Nat.zero_add,List.take_zero,List.nil_append,Array.toList_append,u32s,List.map_append,List.map_drop]
   rw [List.drop_append_of_le_length (by rw [List.length_map];omega),List.append_assoc]
  rw [e] at hr
  exact hr

theorem na_trim {W:World} {g o cap:Nat} {l:List Nat} (hd:Dig l) (hu:UA W g o l) (hg:g<W.heap.size) (hc:l.length≤cap) (hm:cap≤maxLen):NA W (.slice (some ⟨g,o,none⟩) (natL (nv l)).length cap) (natL (nv l)):=by
 refine ⟨_,cap,rfl,Nat.le_trans (trim_len hd) hc,hm,.inr ⟨g,o,rfl,hg, ?_⟩⟩
 have:=hu.take (natL (nv l)).length
 rwa [trim_take hd] at this
theorem NA.lt {W:World} {p:Option Addr} {n cap g o:Nat} {l:List Nat} (h:NA W (.slice p n cap) l) (hp:p=some ⟨g,o,none⟩):g<W.heap.size:=by
 obtain ⟨p',cap',e,h1,h2,⟨rfl,_,_⟩ | ⟨g',o',rfl,hg,_⟩⟩:=h
 ·injection e with e1;rw [e1] at hp;cases hp
 ·injection e with e1;rw [e1] at hp;injection hp with hp;injection hp with hp;omega
theorem pow_max {la lb:Nat} {x y:Nat} (hx:x<10000^la) (hy:y<10000^lb):x+y<10000^(max la lb+1):=by
 have h1:10000^la≤10000^(max la lb):=Nat.pow_le_pow_right (by decide) (Nat.le_max_left _ _)
 have h2:10000^lb≤10000^(max la lb):=Nat.pow_le_pow_right (by decide) (Nat.le_max_right _ _)
 rw [Nat.pow_succ];omega
theorem plus_any (x y:Nat) (va vb:Value) (w:World) (ha:NA w va (natL x)) (hb:NA w vb (natL y)) (hla:(natL x).length≤1000) (hlb:(natL y).length≤1000) :
  Calls Tryz.prog 158 #[va,vb] w fun e w'=>∃ v,e = .returned v∧NA w' v (natL (x+y))∧Below w.heap.size w w':=by
 obtain ⟨pb,cb,gb,ob,rfl,hlb2,hcb,hpb,hub⟩:=hb.open
 obtain ⟨pa,ca,ga,oa,rfl,hla2,hca,hpa,hua⟩:=ha.open
 go_enter Tryz.func158, Tryz.ntmps158
 obtain ⟨n,hn⟩:∃ n,n=max (natL x).length (natL y).length+1:=⟨_,rfl⟩
 have hx:=natL_lt x
 have hy:=natL_lt y
 have hroom:x+y<10000^n:=by rw [hn];exact pow_max hx hy
 have HX:Shut _:=⟨hroom⟩
 have HA:Shut _:=⟨ha⟩
 have HB:Shut _:=⟨And.intro hub hpb⟩
 obtain ⟨k,rfl⟩:∃ k,n=k+1:=⟨n-1,by omega⟩
 have hmax:max (((natL x).length:Nat):Int) (((natL y).length:Nat):Int)=(k:Int):=by omega
 have hmax2:(if (natL x).length<(natL y).length then (((natL y).length:Nat):Int) else (((natL x).length:Nat):Int))=(k:Int):=by split <;> omega
 have HN1:Shut (((k:Int)+1)=((k+1:Nat):Int)):=⟨by omega⟩
 have hnb:k≤1000:=by omega
 have hnl:(natL x).length≤k+1∧(natL y).length≤k+1:=by omega
 have HN:Shut _:=⟨hnl⟩
 clear hx hy hroom ha hub hpb hua hpa hn hnl
 obtain ⟨L,hLe⟩:∃ L,L=natL x++(List.replicate (k+1) 0).drop (natL x).length:=⟨_,rfl⟩
 have hLl:L.length=k+1:=by rw [hLe];simp;omega
 have hLd:Dig L:=by rw [hLe];exact (natL_dig x).append ((dig_rep _).drop _)
 have hLv:nv L=x:=by
  rw [hLe,nv_append,natL_nv,List.drop_replicate,nv_rep];omega
 have hseg:(L.drop 0).take (k+1)=L:=by rw [List.drop_zero,List.take_of_length_le (by omega)]
 have hpv:nv (padL (k+1) (x+y))=x+y:=padL_nv _ _ HX.o
 have hrs:((rowR L 0 (k+1) (x+y)).drop 0).take (k+1)=padL (k+1) (x+y):=rowR_seg L 0 (k+1) (x+y) (by omega)
 have cA:∀ (W:World) (g9 c9:Nat),UR W g9 L→(1≤(natL y).length→gb≠g9)→UA W gb ob (natL y)→Calls Tryz.prog 179 #[.slice (some ⟨g9,0,none⟩) (k+1) c9,.slice pb (natL y).length cb,.int .u32 1] W fun e w'=>e = .returned (.tuple #[])∧Only g9 W w'∧UR w' g9 (rowR L 0 (k+1) (x+y)):=fun W g9 c9 h1 h2 h3=>by
  have:=add_any g9 0 (k+1) c9 L pb gb ob cb (natL y) 1 W h1 (by omega) h2 h3 (fun h=>(HB.o.2 h).1) HN.o.2 (by omega) hLd (natL_dig y) (by decide) (by rw [hseg,hLv,natL_nv,Nat.mul_one];exact HX.o)
  rw [hseg,hLv,natL_nv,Nat.mul_one] at this
  exact this
 have cT:∀ (W:World) (g9 c9:Nat),UR W g9 (rowR L 0 (k+1) (x+y))→k+1≤c9→c9≤maxLen→Calls Tryz.prog 180 #[.slice (some ⟨g9,0,none⟩) (k+1) c9] W fun e w'=>(∃ v,e = .returned v∧NA w' v (natL (x+y)))∧w'=W:=fun W g9 c9 h1 h2 h3=>by
  have hu:=h1.uaSeg 0 (k+1)
  rw [hrs] at hu
  have hl:=padL_len (k+1) (x+y)
  have:=trimmed_any (padL (k+1) (x+y)) (some ⟨g9,0,none⟩) c9 g9 0 W (fun _=>rfl) hu (padL_dig _ _) (by omega) (by omega) h3
  rw [hl] at this
  refine this.mono ?_
  rintro e w' ⟨rfl,rfl⟩
  refine ⟨⟨_,rfl, ?_⟩,rfl⟩
  have h4:=na_trim (padL_dig (k+1) (x+y)) hu h1.lt (by omega) h3
  rwa [hpv] at h4 ⊢
 have HLE:Shut _:=⟨hLe⟩
 have HCA:Shut _:=⟨cA⟩
 have HCT:Shut _:=⟨cT⟩
 clear hLe hLd hLv hseg hpv hrs cA cT hLl
 go_wp2_with (first | (at_make;refine make_u32 rfl _ _ rfl w.heap.size (k+1) (congrArg (Value.int .i64) HN1.o) (congrArg (Value.int .i64) HN1.o) (by omega) (Nat.le_refl _) ?_;intro w1 hO1 hB1;obtain ⟨h9,_⟩ | ⟨c9,g9,h9,hg9,hu9,hc9,hm9⟩:=hO1.open;cases h9) | (refine copy_u32 rfl _ _ rfl g9 (k+1) c9 rfl (List.replicate (k+1) 0) hu9 (by simp) _ (natL x) rfl (HA.o.below hB1 (Nat.le_refl _)) HN.o.1 w.heap.size w hB1 hg9 ?_;intro w2 hu2 hB2;rw [←HLE.o] at hu2) | (go_at_call 179; refine (HCA.o w2 g9 c9 hu2 (fun h=>by have:=(HB.o.2 h).2;omega) (HB.o.1.below1 hB2 (fun h=>(HB.o.2 h).2))).mono ?_;rintro e w3 ⟨rfl,hO3,hu3⟩) | (go_at_call 180; refine (HCT.o w3 g9 c9 hu3 (by simpa using hc9) hm9).mono ?_;rintro e w4 ⟨⟨v4,rfl,hv4⟩,rfl⟩))
 go_ret
 exact ⟨_,rfl,hv4,hB2.trans (hO3.below hg9)⟩

theorem minus_any (x y:Nat) (hxy:y≤x) (va vb:Value) (w:World) (ha:NA w va (natL x)) (hb:NA w vb (natL y)) (hla:(natL x).length≤1000) :
  Calls Tryz.prog 161 #[va,vb] w fun e w'=>∃ v,e = .returned v∧NA w' v (natL (x-y))∧Below w.heap.size w w':=by
 obtain ⟨pb,cb,gb,ob,rfl,hlb2,hcb,hpb,hub⟩:=hb.open
 have hlb:=natL_len_mono hxy
 have HB:Shut _:=⟨And.intro hub hpb⟩
 obtain ⟨n,hn⟩:∃ n,n=(natL x).length:=⟨_,rfl⟩
 have hseg:((natL x).drop 0).take n=natL x:=by rw [List.drop_zero,List.take_of_length_le (by omega)]
 have hlt:=natL_lt x
 have hpv:nv (padL n (x-y))=x-y:=padL_nv _ _ (by rw [hn];omega)
 have hrs:((rowR (natL x) 0 n (x-y)).drop 0).take n=padL n (x-y):=rowR_seg (natL x) 0 n (x-y) (by omega)
 have cS:=fun W (h:NA W va (natL x))=>shifted_any (natL x) va 0 W h (by omega)
 have cA:∀ (W:World) (g9 c9:Nat),UR W g9 (natL x)→(1≤(natL y).length→gb≠g9)→UA W gb ob (natL y)→Calls Tryz.prog 184 #[.slice (some ⟨g9,0,none⟩) n c9,.slice pb (natL y).length cb,.int .u32 1] W fun e w'=>e = .returned (.tuple #[])∧Only g9 W w'∧UR w' g9 (rowR (natL x) 0 n (x-y)):=fun W g9 c9 h1 h2 h3=>by
  have:=take_any g9 0 n c9 (natL x) pb gb ob cb (natL y) 1 W h1 (by omega) h2 h3 (fun h=>(HB.o.2 h).1) (by omega) (by omega) (natL_dig x) (natL_dig y) (by decide) (by rw [hseg,natL_nv,natL_nv,Nat.mul_one];exact hxy)
  rw [hseg,natL_nv,natL_nv,Nat.mul_one] at this
  exact this
 have cT:∀ (W:World) (g9 c9:Nat),UR W g9 (rowR (natL x) 0 n (x-y))→n≤c9→c9≤maxLen→Calls Tryz.prog 180 #[.slice (some ⟨g9,0,none⟩) n c9] W fun e w'=>(∃ v,e = .returned v∧NA w' v (natL (x-y)))∧w'=W:=fun W g9 c9 h1 h2 h3=>by
  have hu:=h1.uaSeg 0 n
  rw [hrs] at hu
  have hl:=padL_len n (x-y)
  have:=trimmed_any (padL n (x-y)) (some ⟨g9,0,none⟩) c9 g9 0 W (fun _=>rfl) hu (padL_dig _ _) (by omega) (by omega) h3
  rw [hl] at this
  refine this.mono ?_
  rintro e w' ⟨rfl,rfl⟩
  refine ⟨⟨_,rfl, ?_⟩,rfl⟩
  have h4:=na_trim (padL_dig n (x-y)) hu h1.lt (by omega) h3
  rwa [hpv] at h4 ⊢
 have HN:Shut _:=⟨hn⟩
 have HA:Shut _:=⟨ha⟩
 have HCA:Shut _:=⟨cA⟩
 have HCT:Shut _:=⟨cT⟩
 go_enter Tryz.func161, Tryz.ntmps161
 clear hn hseg hlt hpv hrs cA cT hub hpb ha hb
 go_wp2_with (first | (go_at_call 183; refine (cS w HA.o).mono ?_;rintro e w1 ⟨u1,rfl,hO1,hn1,hB1⟩;rw [List.replicate_zero,List.nil_append] at hO1;obtain ⟨h9,_⟩ | ⟨c9,g9,h9,hg9,hu9,hc9,hm9⟩:=hO1.open;exact absurd h9 hn1;rw [←HN.o] at h9 hc9;subst h9) | (go_at_call 184; refine (HCA.o w1 g9 c9 hu9 (fun h=>by have:=(HB.o.2 h).2;omega) (HB.o.1.below1 hB1 (fun h=>(HB.o.2 h).2))).mono ?_;rintro e w3 ⟨rfl,hO3,hu3⟩) | (go_at_call 180; refine (HCT.o w3 g9 c9 hu3 hc9 hm9).mono ?_;rintro e w4 ⟨⟨v4,rfl,hv4⟩,rfl⟩))
 go_ret
 exact ⟨_,rfl,hv4,hB1.trans (hO3.below hg9)⟩
end
section
open Go.RowKit Nm

theorem padL_cut (n k v:Nat) (hk:k≤n):padL n v=padL k (v % 10000^k)++padL (n-k) (v / 10000^k):=by
 have:=padL_app k (n-k) (v % 10000^k) (v / 10000^k) (Nat.mod_lt _ (Nat.pow_pos (by decide)))
 rw [Nat.mod_add_div,show k+(n-k)=n by omega] at this
 exact this
theorem rowR_pad (n k v u:Nat) (hk:k≤n):rowR (padL n v) k (n-k) (v / 10000^k+u)=padL n (v+10000^k*u):=by
 have hl:(padL k (v % 10000^k)).length=k:=padL_len _ _
 have h1:(padL n v).take k=padL k (v % 10000^k):=by rw [padL_cut n k v hk,List.take_append_of_le_length (by omega),List.take_of_length_le (by omega)]
 have h2:(padL n v).drop (k+(n-k)) = []:=by rw [List.drop_eq_nil_iff,padL_len];omega
 have h3:=padL_app k (n-k) (v % 10000^k) (v / 10000^k+u) (Nat.mod_lt _ (Nat.pow_pos (by decide)))
 rw [rowR,h1,h2,List.append_nil,←h3,show k+(n-k)=n by omega]
 congr 1
 rw [Nat.mul_add,←Nat.add_assoc,Nat.mod_add_div]
theorem seg_pad (n k v:Nat) (hk:k≤n):((padL n v).drop k).take (n-k)=padL (n-k) (v / 10000^k):=by
 have hl:(padL k (v % 10000^k)).length=k:=padL_len _ _
 rw [padL_cut n k v hk,List.drop_append_of_le_length (by omega),List.drop_eq_nil_iff.2 (by omega),List.nil_append,List.take_of_length_le (by rw [padL_len];exact Nat.le_refl _)]
theorem div_room {n k v u:Nat} (hk:k≤n) (h:v+10000^k*u<10000^n):v / 10000^k+u<10000^(n-k):=by
 have hp:0<10000^k:=Nat.pow_pos (by decide)
 rw [←Nat.add_mul_div_left v u hp]
 refine Nat.div_lt_of_lt_mul ?_
 rw [←Nat.pow_add,show k+(n-k)=n by omega]
 exact h

theorem Only.cell {g:Nat} {w w':World} (h:Only g w w') {b:Nat} (hb:b≠g) (i:Nat):w'.cell? ⟨b,i,none⟩=w.cell? ⟨b,i,none⟩:=by
 unfold World.cell?
 rw [show w'.heap[(⟨b,i,none⟩:Addr).block]? = w.heap[b]? from h.block b hb]
theorem times1_any (x:Nat) (pa:Option Addr) (ca ga oa:Nat) (g n c k f v bx:Nat) (w:World) (hbox:w.cell? ⟨bx,0,none⟩=some (.slice pa (natL x).length ca)) (hpa:1≤(natL x).length→pa=some ⟨ga,oa,none⟩∧ga≠g) (hua:UA w ga oa (natL x))
  (hr:UR w g (padL n v)) (hk:k+(natL x).length≤n) (hkn:k<n) (hbx:bx≠g) (hn:n≤2000) (hc:n≤c) (_:c≤maxLen) (hf:f≤10000) (hv:v<10000^n) (hroom:v+10000^k*(x*f)<10000^n) :
  Calls Tryz.prog 186 #[.slice (some ⟨g,0,none⟩) n c,.int .i64 k,.int .u32 f,.pointer (some ⟨bx,0,none⟩)] w fun e w'=>e = .returned (.slice (some ⟨g,0,none⟩) n c)∧Only g w w'∧UR w' g (padL n (v+10000^k*(x*f))):=by
 have hla:(natL x).length≤n:=by omega
 have hnk:n-k≤c-k:=by omega
 have hl:=padL_len n v
 have cA:=add_any g k (n-k) (c-k) (padL n v) pa ga oa ca (natL x) f w.drew hr (by omega) (fun h=>(hpa h).2) (hua.drewN 1) (fun h=>(hpa h).1) (by omega) (by omega) (padL_dig _ _) (natL_dig _) hf (by
  rw [seg_pad n k v (by omega),padL_nv _ _ (by have:=div_room (u:=0) (show k≤n by omega) (by simpa using hv);simpa using this),natL_nv]
  exact div_room (by omega) hroom)
 rw [seg_pad n k v (by omega),padL_nv _ _ (by have:=div_room (u:=0) (show k≤n by omega) (by simpa using hv);simpa using this),natL_nv,rowR_pad n k v _ (by omega)] at cA
 have i1:(0:Int)≤(k:Int):=by omega
 have i2:(k:Int)≤(n:Int):=by omega
 have i3:(n:Int)≤(c:Int):=by omega
 have i4:¬ c=k:=by omega
 clear hpa hua hr hv hroom hl
 generalize padL n (v+10000^k*(x*f))=L2 at *
 generalize (natL x).length=la at *
 go_enter Tryz.func186, Tryz.ntmps186
 go_wp2
 go_region_held3 (fun w'=>w'.cell? ⟨bx,0,none⟩=some (.slice pa la ca)) (first | go_keep | skip) ((go_at_call 179; refine cA.mono ?_;rintro e w1 ⟨rfl,hO1,hu1⟩;have hb1:w1.cell? ⟨bx,0,none⟩=some (.slice pa la ca):=(hO1.cell hbx 0).trans hbox))
 go_wp2
 go_ret
 exact ⟨rfl,((Only.refl g w).drew).trans hO1,hu1⟩

theorem mul_lt {x y la lb:Nat} (hx:x<10000^la) (hy:y<10000^lb):x*y<10000^(la+lb):=by
 rw [Nat.pow_add]
 have hp:0<10000^lb:=Nat.pow_pos (by decide)
 calc x*y≤x*10000^lb:=Nat.mul_le_mul_left _ (by omega)
  _<10000^la*10000^lb:=Nat.mul_lt_mul_of_pos_right hx hp
theorem nv_take_le (l:List Nat) (k:Nat) (hk:k≤l.length):nv (l.take k)≤nv l:=by rw [nv_take_drop l k hk];omega
theorem fold_times (x:Nat) (l:List Nat) (hle:∀ z∈l,z≤10000) (pa:Option Addr) (ca ga oa:Nat) (pb:Option Addr) (cb gb ob:Nat) (g n c bx:Nat) (w:World) (hbox:w.cell? ⟨bx,0,none⟩=some (.slice pa (natL x).length ca)) (hpa:1≤(natL x).length→pa=some ⟨ga,oa,none⟩∧ga≠g) (hua:UA w ga oa (natL x))
  (hpb:1≤l.length→pb=some ⟨gb,ob,none⟩∧gb≠g) (hub:UA w gb ob l) (hr:UR w g (padL n 0)) (hn:n=(natL x).length+l.length) (hroom:x*nv l<10000^n) (hn2:n≤2000) (hc:n≤c) (hcm:c≤maxLen) (hbx:bx≠g) :
  Calls Tryz.prog 185 #[.slice pb l.length cb,.slice (some ⟨g,0,none⟩) n c,.func (Fn.func 186) #[] #[.pointer (some ⟨bx,0,none⟩)]] w fun e w'=>e = .returned (.slice (some ⟨g,0,none⟩) n c)∧Only g w w'∧UR w' g (padL n (x*nv l)):=by
 have HUB:Shut _:=⟨And.intro hub hpb⟩
 have hlt:∀ z,z≤nv l→x*z<10000^n:=fun z hz=>Nat.lt_of_le_of_lt (Nat.mul_le_mul_left x hz) hroom
 have cT:∀ (W:World) (k:Nat),Only g w W→k<l.length→UR W g (padL n (x*nv (l.take k)))→Calls Tryz.prog 186 #[.slice (some ⟨g,0,none⟩) n c,.int .i64 k,.int .u32 (l.getD k 0:Nat),.pointer (some ⟨bx,0,none⟩)] W fun e w'=>e = .returned (.slice (some ⟨g,0,none⟩) n c)∧Only g W w'∧UR w' g (padL n (x*nv (l.take (k+1)))):=fun W k hO hk hu=>by
  have h1:=nv_take_le l k (by omega)
  have h2:=nv_take_le l (k+1) (by omega)
  have e:x*nv (l.take (k+1))=x*nv (l.take k)+10000^k*(x*l.getD k 0):=by rw [nv_take_succ _ _ hk];grind
  have:=times1_any x pa ca ga oa g n c k (l.getD k 0) (x*nv (l.take k)) bx W ((hO.cell hbx 0).trans hbox) hpa (fun i hi=>(hO.cell (hpa (by omega)).2 _).trans (hua i hi)) hu (by omega) (by omega) hbx hn2 hc hcm (by rw [List.getD_eq_getElem?_getD,List.getElem?_eq_getElem hk];exact hle _ (List.getElem_mem hk)) (hlt _ h1) (by rw [←e];exact hlt _ h2)
  rwa [←e] at this
 have HT:Shut _:=⟨cT⟩
 have HR:Shut (UR w g (padL n (x*nv (l.take 0)))):=⟨by rw [List.take_zero,nv,Nat.mul_zero];exact hr⟩
 have hlb:l.length≤2000:=by omega
 clear hbox hpa hua hpb hub hr hlt cT hn hroom hle
 go_enter Tryz.func185, Tryz.ntmps185
 go_wp2
 go_loopw [7,13] (fun sv iv wr=>∃ k:Nat,k≤l.length∧sv = .slice (some ⟨g,0,none⟩) n c∧iv = .int .i64 k∧Shut (Only g w wr)∧Shut (UR wr g (padL n (x*nv (l.take k))))) (fun _ iv _=>l.length-(intOf iv).toNat)
 case atStart=>exact ⟨0,Nat.zero_le _,rfl,rfl,⟨Only.refl _ _⟩,HR⟩
 case round =>
  obtain ⟨k,hk,rfl,rfl,hO,hu⟩:=hrel
  by_cases hlt:k<l.length
  ·obtain ⟨hp,hg⟩:=HUB.o.2 (by omega)
   subst hp
   have hcl:=HUB.o.1.only hO.o hg k hlt
   have c1:=HT.o wr k hO.o hlt hu.o
   have hd1:decide ((k:Int)<((l.length:Nat):Int))=true:=decide_eq_true (by omega)
   generalize l.getD k 0=f at *
   clear hu
   go_wp2_with (go_at_call 186; refine c1.mono ?_;rintro e w1 ⟨rfl,hO1,hu1⟩)
   exact ⟨⟨k+1,by omega,rfl,by go_num,⟨hO.o.trans hO1⟩,⟨hu1⟩⟩,by simp [intOf];omega⟩
  ·obtain rfl:k=l.length:=by omega
   have hu2:=hu.o
   rw [List.take_length] at hu2
   clear hu
   go_wp2
   go_ret
   exact ⟨rfl,hO.o,hu2⟩

theorem trimPad_any (W:World) (g c n z:Nat) (L:List Nat) (hr:UR W g L) (hL:L.take n=padL n z) (hz:z<10000^n) (hc:n≤c) (hcm:c≤maxLen) (hn:n≤1000000) :
  Calls Tryz.prog 180 #[.slice (some ⟨g,0,none⟩) n c] W fun e w'=>(∃ v,e = .returned v∧NA w' v (natL z))∧w'=W:=by
 have hu:=hr.uaSeg 0 n
 rw [List.drop_zero,hL] at hu
 have hl:=padL_len n z
 have:=trimmed_any (padL n z) (some ⟨g,0,none⟩) c g 0 W (fun _=>rfl) hu (padL_dig _ _) (by omega) (by omega) hcm
 rw [hl] at this
 refine this.mono ?_
 rintro e w' ⟨rfl,rfl⟩
 refine ⟨⟨_,rfl, ?_⟩,rfl⟩
 have h4:=na_trim (padL_dig n z) hu hr.lt (by omega) hcm
 rwa [padL_nv n z hz] at h4 ⊢
theorem padL_zero:∀ n,padL n 0=List.replicate n 0
 | 0=>rfl
 | n+1=>by rw [padL,List.replicate_succ,show 0 / 10000=0 from rfl,padL_zero n]

theorem times_gen (x:Nat) (l:List Nat) (hle:∀ z∈l,z≤10000) (va vb:Value) (w:World) (ha:NA w va (natL x)) (hb:NA w vb l) (hla:(natL x).length≤1000) (hlb:l.length≤1000) (hroom:x*nv l<10000^((natL x).length+l.length)) :
  Calls Tryz.prog 163 #[va,vb] w fun e w'=>∃ v,e = .returned v∧NA w' v (natL (x*nv l))∧Below w.heap.size w w':=by
 obtain ⟨pb,cb,gb,ob,rfl,hlb2,hcb,hpb,hub⟩:=hb.open
 obtain ⟨pa,ca,ga,oa,rfl,hla2,hca,hpa,hua⟩:=ha.open
 obtain ⟨n,hn⟩:∃ n,n=(natL x).length+l.length:=⟨_,rfl⟩
 have HN1:Shut ((((natL x).length:Nat):Int)+((l.length:Nat):Int)=(n:Int)):=⟨by omega⟩
 have hn2:n≤2000:=by omega
 have HN:Shut _:=⟨hn⟩
 have hlt:x*nv l<10000^n:=by rw [hn];exact hroom
 have HLT:Shut _:=⟨hlt⟩
 have HA:Shut _:=⟨And.intro hua hpa⟩
 have HB:Shut _:=⟨And.intro hub hpb⟩
 clear hn hlt hua hpa hub hpb ha hb hroom
 have hB0:Below w.heap.size w (w.alloc (O #[.slice pa (natL x).length ca] 116)):=(Below.refl _ w).alloc (Nat.le_refl _) _
 have hz0:(w.alloc (O #[.slice pa (natL x).length ca] 116)).heap.size=w.heap.size+1:=World.size_alloc _ _
 have hbx0:(w.alloc (O #[.slice pa (natL x).length ca] 116)).cell? ⟨w.heap.size,0,none⟩=some (.slice pa (natL x).length ca):=by
  rw [(RowAt.new w #[.slice pa (natL x).length ca] 116).cell 0];rfl
 have HBX:Shut _:=⟨hbx0⟩
 have HB0:Shut _:=⟨hB0⟩
 clear hB0
 have hadd:decide ((((natL x).length:Nat):Int)+((l.length:Nat):Int)≤9223372036854775807)=true:=decide_eq_true (by omega)
 have cF:∀ (W:World) (g9 c9:Nat),Below (w.heap.size+1) (w.alloc (O #[.slice pa (natL x).length ca] 116)) W→UR W g9 (List.replicate n 0)→w.heap.size+1≤g9→n≤c9→c9≤maxLen→Calls Tryz.prog 185 #[.slice pb l.length cb,.slice (some ⟨g9,0,none⟩) n c9,.func (Fn.func 186) #[] #[.pointer (some ⟨w.heap.size,0,none⟩)]] W fun e w'=>e = .returned (.slice (some ⟨g9,0,none⟩) n c9)∧Only g9 W w'∧UR w' g9 (padL n (x*nv l)):=fun W g9 c9 hW hu hg hc hm=>by
  have hW2:Below w.heap.size w W:=HB0.o.trans (hW.mono (by omega))
  refine fold_times x l hle pa ca ga oa pb cb gb ob g9 n c9 w.heap.size W ?_ (fun h=>⟨(HA.o.2 h).1,by have:=(HA.o.2 h).2;omega⟩) (HA.o.1.below1 hW2 (fun h=>(HA.o.2 h).2)) (fun h=>⟨(HB.o.2 h).1,by have:=(HB.o.2 h).2;omega⟩) (HB.o.1.below1 hW2 (fun h=>(HB.o.2 h).2)) (by rw [padL_zero];exact hu) HN.o HLT.o hn2 hc hm (by omega)
  exact (hW.cell (p:=⟨w.heap.size,0,none⟩) (Nat.lt_succ_self _)).trans HBX.o
 have HCF:Shut _:=⟨cF⟩
 clear cF hle
 go_enter Tryz.func163, Tryz.ntmps163
 go_wp2_with (first | (at_make;refine make_u32 rfl _ _ rfl (w.heap.size+1) n (congrArg (Value.int .i64) HN1.o) (congrArg (Value.int .i64) HN1.o) (by omega) (by rw [hz0];exact Nat.le_refl _) ?_;intro w1 hO1 hB1;obtain ⟨hg9,hu9, -,hc9,hm9⟩:=hO1.openS;rw [List.length_replicate] at hc9;rw [hz0] at hu9 hg9) | (go_at_call 185; refine (HCF.o w1 _ _ hB1 hu9 hg9 hc9 hm9).mono ?_;rintro e w3 ⟨rfl,hO3,hu3⟩) | (go_at_call 180; refine (trimPad_any w3 _ _ n (x*nv l) _ hu3 (List.take_of_length_le (by rw [padL_len];exact Nat.le_refl _)) HLT.o hc9 hm9 (by omega)).mono ?_;rintro e w4 ⟨⟨v4,rfl,hv4⟩,rfl⟩))
 go_ret
 exact ⟨_,rfl,hv4,HB0.o.trans ((hB1.mono (by omega)).trans (hO3.below (by omega)))⟩

theorem times_any (x y:Nat) (va vb:Value) (w:World) (ha:NA w va (natL x)) (hb:NA w vb (natL y)) (hla:(natL x).length≤1000) (hlb:(natL y).length≤1000) :
  Calls Tryz.prog 163 #[va,vb] w fun e w'=>∃ v,e = .returned v∧NA w' v (natL (x*y))∧Below w.heap.size w w':=by
 have:=times_gen x (natL y) (fun z hz=>Nat.le_of_lt (natL_dig y z hz)) va vb w ha hb hla hlb (by rw [natL_nv];exact mul_lt (natL_lt x) (natL_lt y))
 rwa [natL_nv] at this
end
end Go.Proofs.YtbfonkabmehlmaaGreatDoor
