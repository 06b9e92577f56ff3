import Derived.Test.YtihlgifojjeoaaaGreatDoorRows
import Derived.Test.YtihlgifojjeoaaaGreatDoorZ6L
import Derived.IntWalk
import Derived.WalkKit
import Derived.WalkSpells
import Derived.WalkLawsBesides
import Derived.Lib.Hide
import Derived.BigQuiet
import Derived.BigRegion
import Derived.Laws.Rows
import Derived.Laws.Tables
import Derived.Deep.WholeRow
import Derived.Laws.CopyOwn
import Derived.StillTailTactics
import Derived.RegionTactic
import Derived.Laws.AppendOwnNone
import Derived.Deep.RegionLaw
import Derived.RangeFuncBox
import Derived.Maps.AppendAt
import Derived.OwnWalk
import Derived.Deep.RegionHeld3
set_option maxRecDepth 1000000
set_option maxHeartbeats 40000000
open Go.Value renaming string→Z
open Go.Obj renaming cells→O
namespace Go.Proofs.YtihlgifojjeoaaaGreatDoor
section
namespace Nm
def nv:List Nat→Nat
 | []=>0
 | d :: l=>d+10000*nv l
def Dig (l:List Nat):Prop:=∀ x∈l,x<10000
theorem Dig.tail {d:Nat} {l:List Nat} (h:Dig (d :: l)):Dig l:=fun x hx=>h x (List.mem_cons_of_mem _ hx)
theorem Dig.head {d:Nat} {l:List Nat} (h:Dig (d :: l)):d<10000:=h d (by simp)
theorem Dig.take {l:List Nat} (h:Dig l) (k:Nat):Dig (l.take k):=fun x hx=>h x (List.mem_of_mem_take hx)
theorem Dig.drop {l:List Nat} (h:Dig l) (k:Nat):Dig (l.drop k):=fun x hx=>h x (List.mem_of_mem_drop hx)
theorem Dig.append {l m:List Nat} (h:Dig l) (k:Dig m):Dig (l++m):=fun x hx=>(List.mem_append.1 hx).elim (h x) (k x)
theorem Dig.getD {l:List Nat} (h:Dig l) (i:Nat):l.getD i 0<10000:=by
 rw [List.getD_eq_getElem?_getD];rcases Nat.lt_or_ge i l.length with h1 | h1
 ·rw [List.getElem?_eq_getElem h1];exact h _ (List.getElem_mem h1)
 ·rw [List.getElem?_eq_none h1];decide
theorem QdC {l:List Nat} (h:Dig l):nv l<10000^l.length:=by
 induction l with
 | nil=>decide
 | cons d l ih =>
  have h1:=ih h.tail;have h2:=h.head;rw [nv,List.length_cons,Nat.pow_succ];omega
theorem QcI (a b:List Nat):nv (a++b)=nv a+10000^a.length*nv b:=by
 induction a with
 | nil=>simp [nv]
 | cons d l ih=>rw [List.cons_append,nv,nv,ih,List.length_cons,Nat.pow_succ];grind
theorem QaO (l:List Nat) (i:Nat) (h:i<l.length):nv (l.take (i+1))=nv (l.take i)+10000^i*l.getD i 0:=by
 have hg:l.getD i 0=l[i]:=by simp [List.getD,h]
 rw [hg,List.take_succ_eq_append_getElem h,QcI,List.length_take,Nat.min_eq_left (by omega)];simp [nv]
theorem QaH (l:List Nat) (i:Nat) (h:i≤l.length):nv l=nv (l.take i)+10000^i*nv (l.drop i):=by
 conv=>lhs;rw [←List.take_append_drop i l]
 rw [QcI,List.length_take,Nat.min_eq_left h]
theorem Qra (n:Nat):nv (List.replicate n 0)=0:=by
 induction n with
 | zero=>rfl
 | succ n ih=>rw [List.replicate_succ,nv,ih]
theorem Qna (n:Nat):Dig (List.replicate n 0):=fun x hx=>by rw [(List.mem_replicate.1 hx).2];decide
def padL:Nat→Nat→List Nat
 | 0,_ => []
 | n+1,x=>x % 10000 :: padL n (x / 10000)
theorem Qaq:∀ n x,(padL n x).length=n
 | 0,_=>rfl
 | n+1,x=>by rw [padL,List.length_cons,Qaq]
theorem Qbl:∀ n x,Dig (padL n x)
 | 0,_=>fun y hy=>by cases hy
 | n+1,x=>fun y hy=>by
  rw [padL] at hy;rcases List.mem_cons.1 hy with rfl | hy
  ·exact Nat.mod_lt _ (by decide)
  ·exact Qbl n _ y hy
theorem QbZ:∀ n x,x<10000^n→nv (padL n x)=x
 | 0,x,h=>by rw [padL,nv];omega
 | n+1,x,h=>by
  rw [Nat.pow_succ] at h;rw [padL,nv,QbZ n (x / 10000) (by omega)];omega
theorem Qdb {l:List Nat} (h:Dig l):padL l.length (nv l)=l:=by
 induction l with
 | nil=>rfl
 | cons d l ih =>
  have:=h.head;rw [List.length_cons,padL,nv,show (d+10000*nv l) % 10000=d by omega,show (d+10000*nv l) / 10000=nv l by omega,ih h.tail]
theorem QbR (n m x y:Nat) (h:x<10000^n):padL (n+m) (x+10000^n*y)=padL n x++padL m y:=by
 induction n generalizing x with
 | zero =>
  have:x=0:=by simpa using h
  subst this;simp [padL]
 | succ n ih =>
  rw [Nat.pow_succ] at h;rw [show n+1+m=(n+m)+1 by omega,padL,padL,List.cons_append];have e1:(x+10000^(n+1)*y) % 10000=x % 10000:=by rw [Nat.pow_succ,Nat.mul_comm (10000^n) 10000,Nat.mul_assoc,Nat.add_mul_mod_self_left]
  have e2:(x+10000^(n+1)*y) / 10000=x / 10000+10000^n*y:=by rw [Nat.pow_succ,Nat.mul_comm (10000^n) 10000,Nat.mul_assoc,Nat.add_mul_div_left _ _ (by decide)]
  rw [e1,e2,ih (x / 10000) (by omega)]
theorem QhL (d:Nat) (h:d<10000):padL 1 d = [d]:=by rw [padL,padL,Nat.mod_eq_of_lt h]
theorem Qew (n x d:Nat) (h:x<10000^n) (hd:d<10000):padL (n+1) (x+10000^n*d)=padL n x ++ [d]:=by rw [QbR n 1 x d h,QhL d hd]

def natL (n:Nat):List Nat:=if n=0 then [] else n % 10000 :: natL (n / 10000)
decreasing_by omega
theorem Qau:natL 0 = []:=by rw [natL,if_pos rfl]
theorem Qbi {n:Nat} (h:n≠0):natL n=n % 10000 :: natL (n / 10000):=by rw [natL,if_neg h]
theorem Qan (n:Nat):nv (natL n)=n:=by
 induction n using Nat.strongRecOn with
 | ind n ih =>
  by_cases h:n=0
  ·subst h;rw [Qau,nv]
  ·rw [Qbi h,nv,ih (n / 10000) (by omega)];omega
theorem Qao (n:Nat):Dig (natL n):=by
 induction n using Nat.strongRecOn with
 | ind n ih =>
  by_cases h:n=0
  ·subst h;rw [Qau];intro x hx;cases hx
  ·rw [Qbi h];intro x hx;rcases List.mem_cons.1 hx with rfl | hx
   ·exact Nat.mod_lt _ (by decide)
   ·exact ih (n / 10000) (by omega) x hx
theorem QfC {n:Nat}:natL n = []↔n=0:=by
 constructor
 ·intro h;by_cases h0:n=0
  ·exact h0
  ·rw [Qbi h0] at h;cases h
 ·rintro rfl;exact Qau
theorem QaF {n:Nat}:(natL n).length=0↔n=0:=by rw [List.length_eq_zero_iff,QfC]
theorem Qen (l:List Nat) (h:Dig l) (hz:l = []∨l.getD (l.length-1) 0≠0):l=natL (nv l):=by
 induction l with
 | nil=>rw [nv,Qau]
 | cons d l ih =>
  have hd:=h.head
  have hl:l=natL (nv l):=by
   refine ih h.tail ?_;rcases hz with hz | hz
   ·cases hz
   ·cases l with
    | nil=>exact .inl rfl
    | cons e r=>right;simpa using hz
  have h0:nv (d :: l)≠0:=by
   rw [nv];rcases hz with hz | hz
   ·cases hz
   ·cases l with
    | nil=>simp at hz;rw [nv];omega
    | cons e r =>
     intro hn;have:nv (e :: r)=0:=by omega
     rw [this,Qau] at hl;cases hl
  rw [Qbi h0,nv,show (d+10000*nv l) % 10000=d by omega,show (d+10000*nv l) / 10000=nv l by omega,←hl]
theorem QfW (n:Nat) (h:n≠0):(natL n).getD ((natL n).length-1) 0≠0:=by
 induction n using Nat.strongRecOn with
 | ind n ih =>
  rw [Qbi h];by_cases h1:n / 10000=0
  ·rw [h1,Qau];simp;omega
  ·have:=ih (n / 10000) (by omega) h1;have hl:(natL (n / 10000)).length≠0:=fun e=>h1 (QaF.1 e);have e:(n % 10000 :: natL (n / 10000)).length-1=((natL (n / 10000)).length-1)+1:=by rw [List.length_cons];omega
   rw [e,List.getD_cons_succ];exact this
theorem QaI (n:Nat):n<10000^(natL n).length:=by have:=QdC (Qao n);rwa [Qan] at this
theorem QdD (n:Nat) (h:n≠0):10000^((natL n).length-1)≤n:=by
 have h1:=QfW n h;have hl:(natL n).length≠0:=fun e=>h (QaF.1 e);have h2:=QaO (natL n) ((natL n).length-1) (by omega);rw [show (natL n).length-1+1=(natL n).length by omega,List.take_length,Qan] at h2;have h3:10000^((natL n).length-1)*1≤10000^((natL n).length-1)*(natL n).getD ((natL n).length-1) 0:=Nat.mul_le_mul_left _ (by omega);omega
theorem Qat {n k:Nat} (h:n<10000^k):(natL n).length≤k:=by
 by_cases h0:n=0
 ·rw [QaF.2 h0];omega
 ·have h1:=QdD n h0;have h2:10000^((natL n).length-1)<10000^k:=by omega
  have:=(Nat.pow_lt_pow_iff_right (by decide:1<10000)).1 h2;omega
theorem Qal {n m:Nat} (h:n≤m):(natL n).length≤(natL m).length:=Qat (Nat.lt_of_le_of_lt h (QaI m))
theorem QcJ {n m:Nat} (h:(natL n).length<(natL m).length):n<m:=by
 rcases Nat.lt_or_ge n m with h1 | h1
 ·exact h1
 ·have:=Qal h1;omega
theorem Qdp (l:List Nat) (k:Nat) (hk:k≤l.length) (hz:∀ j,k≤j→l.getD j 0=0):nv (l.take k)=nv l:=by
 have h:nv (l.drop k)=0:=by
  have h2:∀ (r:List Nat),(∀ j,r.getD j 0=0)→nv r=0:=by
   intro r
   induction r with
   | nil=>intro _;rfl
   | cons d r ih=>intro hr;have h0:=hr 0;simp at h0;rw [nv,ih (fun j=>by simpa using hr (j+1)),h0]
  refine h2 _ (fun j => ?_);have:=hz (k+j) (by omega);rw [List.getD_eq_getElem?_getD] at this ⊢
  rwa [List.getElem?_drop]
 rw [QaH l k hk,h,Nat.mul_zero,Nat.add_zero]
theorem QfX {a b:List Nat} (ha:Dig a) (hl:a.length=b.length) (i:Nat) (h:i<a.length) (hlt:a.getD i 0<b.getD i 0) (he:a.drop (i+1)=b.drop (i+1)):nv a<nv b:=by
 have e1:=QaH a (i+1) (by omega);have e2:=QaH b (i+1) (by omega);rw [QaO a i h] at e1;rw [QaO b i (by omega)] at e2;rw [he] at e1;have hp:=QdC (ha.take i);rw [List.length_take,Nat.min_eq_left (by omega)] at hp;have h1:10000^i*(a.getD i 0+1)≤10000^i*b.getD i 0:=Nat.mul_le_mul_left _ hlt;rw [Nat.mul_add] at h1;omega
end Nm
end
section
open Go.RowKit

structure Shut (p:Prop):Prop where
 o:p
theorem Qag {B:Nat} {a w:World} (h:Below B a w) (n:Nat):Below B a (w.drewN n):=h.trans ⟨rfl,rfl,rfl,Nat.le_refl _,fun _ _=>rfl⟩
theorem QrQ {a b:Int} (h:a=b):Ending.returned (.int .u32 a) = .returned (.int .u32 b):=by rw [h]
def u32s (l:List Nat):Array Value:=(l.map fun n:Nat=>Value.int .u32 (n:Int)).toArray
theorem QfY (l:List Nat):(u32s l).size=l.length:=by simp [u32s]
theorem Qpr (l:List Nat) (i:Nat) (h:i<l.length):(u32s l)[i]? = some (.int .u32 ((l.getD i 0:Nat):Int)):=by simp [u32s,List.getD,h]
theorem Qps (l:List Nat) (i x:Nat):(u32s l).setIfInBounds i (.int .u32 (x:Int))=u32s (l.set i x):=by simp [u32s,List.map_set]
theorem World.heap_alloc_keep (w:World) (o:Obj) {b:Nat} (h:b<w.heap.size):(w.alloc o).heap[b]? = w.heap[b]? := by
 show (w.heap.push o)[b]? = w.heap[b]?;simp [Array.getElem?_push,show b≠w.heap.size by omega]
def RowAt (W:World) (b:Nat) (c:Array Value) (t:TypeId):Prop:=W.heap[b]? = some (.cells c t (0,0))
theorem RowAt.new (w:World) (c:Array Value) (t:TypeId):RowAt (w.alloc (.cells c t)) w.heap.size c t:=heap_alloc_new w _
theorem RowAt.lt {w:World} {b:Nat} {c:Array Value} {t:TypeId} (h:RowAt w b c t):b<w.heap.size:=(Array.getElem?_eq_some_iff.1 h).1
theorem RowAt.alloc {w:World} {b:Nat} {c:Array Value} {t:TypeId} (h:RowAt w b c t) (o:Obj):RowAt (w.alloc o) b c t:=(World.heap_alloc_keep w o (RowAt.lt h)).trans h
theorem RowAt.below {w w':World} {b B:Nat} {c:Array Value} {t:TypeId} (h:RowAt w b c t) (hB:Below B w w') (hb:b<B):RowAt w' b c t:=(hB.block b hb).trans h
theorem RowAt.set_same {w:World} {b:Nat} {c:Array Value} {t:TypeId} (h:RowAt w b c t) (i:Nat) (v:Value):RowAt (w.setCell ⟨b,i,none⟩ v) b (c.setIfInBounds i v) t:=heap_setCell_same w b i c t v h
theorem RowAt.set_other {w:World} {b:Nat} {c:Array Value} {t:TypeId} (h:RowAt w b c t) (p:Addr) (hp:b≠p.block) (v:Value):RowAt (w.setCell p v) b c t:=(heap_setCell_other w p b v hp).trans h
theorem RowAt.drewN {w:World} {b:Nat} {c:Array Value} {t:TypeId} (h:RowAt w b c t) (n:Nat):RowAt (w.drewN n) b c t:=h
theorem RowAt.cell {w:World} {b:Nat} {c:Array Value} {t:TypeId} (h:RowAt w b c t) (i:Nat):w.cell? ⟨b,i,none⟩=c[i]? := cell_of_row w b i c t _ h
theorem RowAt.frozen {w:World} {b:Nat} {c:Array Value} {t:TypeId} (h:RowAt w b c t) (i:Nat):w.frozen? ⟨b,i,none⟩=false:=frozen_of_row w b i c t h
structure Only (g:Nat) (w w':World):Prop where
 os:w'.os=w.os
 tape:w'.tape=w.tape
 output:w'.output=w.output
 size:w'.heap.size=w.heap.size
 block:∀ k,k≠g→w'.heap[k]? = w.heap[k]?
theorem Only.refl (g:Nat) (w:World):Only g w w:=⟨rfl,rfl,rfl,rfl,fun _ _=>rfl⟩
theorem Only.trans {g:Nat} {a b c:World} (h:Only g a b) (k:Only g b c):Only g a c :=
 ⟨k.os.trans h.os,k.tape.trans h.tape,k.output.trans h.output,k.size.trans h.size,fun i hi=>(k.block i hi).trans (h.block i hi)⟩
theorem Only.drew {g:Nat} {a w:World} (h:Only g a w):Only g a w.drew:=⟨h.os,h.tape,h.output,h.size,h.block⟩
theorem Only.setCell {g:Nat} {a w:World} (h:Only g a w) (i:Nat) (v:Value):Only g a (w.setCell ⟨g,i,none⟩ v) :=
 ⟨h.os,h.tape,h.output,by simp only [World.setCell,Array.size_modify];exact h.size,fun k hk=>(heap_setCell_other w ⟨g,i,none⟩ k v hk).trans (h.block k hk)⟩
theorem Only.below {g B:Nat} {w w':World} (h:Only g w w') (hB:B≤g):Below B w w':=⟨h.os,h.tape,h.output,Nat.le_of_eq h.size.symm,fun k hk=>h.block k (by omega)⟩
def UA (W:World) (g o:Nat) (l:List Nat):Prop:=∀ i,i<l.length→W.cell? ⟨g,o+i,none⟩=some (.int .u32 ((l.getD i 0:Nat):Int))
theorem UA.below {W W':World} {g o:Nat} {l:List Nat} (h:UA W g o l) {B:Nat} (hB:Below B W W') (hg:g<B):UA W' g o l:=fun i hi=>(hB.cell (p:=⟨g,o+i,none⟩) hg).trans (h i hi)
theorem UA.below1 {W W':World} {g o:Nat} {l:List Nat} (h:UA W g o l) {B:Nat} (hB:Below B W W') (hg:1≤l.length→g<B):UA W' g o l:=fun i hi=>(hB.cell (p:=⟨g,o+i,none⟩) (hg (by omega))).trans (h i hi)
theorem UA.only {W W':World} {g o b:Nat} {l:List Nat} (h:UA W g o l) (k:Only b W W') (hb:g≠b):UA W' g o l:=fun i hi=>by
 have e:W'.cell? ⟨g,o+i,none⟩=W.cell? ⟨g,o+i,none⟩:=by
  unfold World.cell?;rw [show W'.heap[(⟨g,o+i,none⟩:Addr).block]? = W.heap[g]? from k.block g hb]
 exact e.trans (h i hi)
theorem UA.drewN {W:World} {g o:Nat} {l:List Nat} (h:UA W g o l) (n:Nat):UA (W.drewN n) g o l:=h
theorem UA.take {W:World} {g o:Nat} {l:List Nat} (h:UA W g o l) (k:Nat):UA W g o (l.take k):=fun i hi=>by
 rw [List.length_take] at hi;have e:(l.take k).getD i 0=l.getD i 0:=by rw [List.getD_eq_getElem?_getD,List.getD_eq_getElem?_getD,List.getElem?_take,if_pos (by omega)]
 rw [e];exact h i (by omega)
theorem UA.drop {W:World} {g o:Nat} {l:List Nat} (h:UA W g o l) (k:Nat):UA W g (o+k) (l.drop k):=fun i hi=>by
 rw [List.length_drop] at hi;have e:(l.drop k).getD i 0=l.getD (k+i) 0:=by rw [List.getD_eq_getElem?_getD,List.getD_eq_getElem?_getD,List.getElem?_drop]
 rw [e,Nat.add_assoc];exact h (k+i) (by omega)
def NA (W:World) (v:Value) (l:List Nat):Prop:=∃ (p:Option Addr) (cap:Nat),v = .slice p l.length cap∧l.length≤cap∧cap≤maxLen∧((p=none∧l = []∧cap=0)∨∃ g o,p=some ⟨g,o,none⟩∧g<W.heap.size∧UA W g o l)
theorem NA.below {W W':World} {v:Value} {l:List Nat} (h:NA W v l) {B:Nat} (hB:Below B W W') (hw:W.heap.size≤B):NA W' v l:=by
 obtain ⟨p,cap,rfl,h1,h2,h3 | ⟨g,o,rfl,hg,hu⟩⟩:=h
 ·exact ⟨p,cap,rfl,h1,h2,.inl h3⟩
 ·exact ⟨_,cap,rfl,h1,h2,.inr ⟨g,o,rfl,by have:=hB.size;omega,hu.below hB (by omega)⟩⟩
theorem NA.open {W:World} {v:Value} {l:List Nat} (h:NA W v l):∃ (p:Option Addr) (cap g o:Nat),v = .slice p l.length cap∧l.length≤cap∧cap≤maxLen∧(1≤l.length→p=some ⟨g,o,none⟩∧g<W.heap.size)∧UA W g o l:=by
 obtain ⟨p,cap,rfl,h1,h2,⟨rfl,rfl,rfl⟩ | ⟨g,o,rfl,hg,hu⟩⟩:=h
 ·exact ⟨none,0,0,0,rfl,Nat.le_refl _,by omega,fun h=>by simp at h,fun i hi=>by simp at hi⟩
 ·exact ⟨_,cap,g,o,rfl,h1,h2,fun _=>⟨rfl,hg⟩,hu⟩
def UR (W:World) (g:Nat) (L:List Nat):Prop:=∃ X,RowAt W g (u32s L++X) 171
theorem UR.u32 {w:World} {b:Nat} {l:List Nat} (h:UR w b l) (i:Nat) (hi:i<l.length):w.cell? ⟨b,i,none⟩=some (.int .u32 ((l.getD i 0:Nat):Int)):=by
 obtain ⟨X,h⟩:=h;refine (h.cell i).trans ?_;rw [Array.getElem?_append_left (by rw [QfY];exact hi)];exact Qpr l i hi
theorem UR.frozen {w:World} {b:Nat} {l:List Nat} (h:UR w b l) (i:Nat):w.frozen? ⟨b,i,none⟩=false:=by
 obtain ⟨X,h⟩:=h;exact RowAt.frozen h i
theorem UR.set32 {w:World} {b:Nat} {l:List Nat} (h:UR w b l) (i x:Nat) (hi:i<l.length):UR (w.setCell ⟨b,i,none⟩ (.int .u32 (x:Int))) b (l.set i x):=by
 obtain ⟨X,h⟩:=h;refine ⟨X, ?_⟩;have:=h.set_same i (.int .u32 (x:Int))
 rwa [Array.setIfInBounds_append_left (by rw [QfY];exact hi),Qps] at this
theorem UR.below {w w':World} {b B:Nat} {l:List Nat} (h:UR w b l) (hB:Below B w w') (hb:b<B):UR w' b l:=by
 obtain ⟨X,h⟩:=h;exact ⟨X,RowAt.below h hB hb⟩
theorem UR.lt {w:World} {b:Nat} {l:List Nat} (h:UR w b l):b<w.heap.size:=by
 obtain ⟨X,h⟩:=h;exact RowAt.lt h
theorem UR.ua {w:World} {b:Nat} {l:List Nat} (h:UR w b l):UA w b 0 l:=fun i hi=>by rw [Nat.zero_add];exact h.u32 i hi
theorem UR.uaSeg {w:World} {b:Nat} {l:List Nat} (h:UR w b l) (o n:Nat):UA w b o ((l.drop o).take n):=by
 have:=(h.ua.drop o).take n;rwa [Nat.zero_add] at this
def OwnU (W:World) (B:Nat) (v:Value) (xs:List Nat):Prop:=W.ownsRow B 171 1 v xs.length (xs.map fun n:Nat=>Value.int .u32 (n:Int))
theorem OwnU.below {W W':World} {B:Nat} {v:Value} {xs:List Nat} (h:OwnU W B v xs) (hb:Below W.heap.size W W'):OwnU W' B v xs:=by
 refine ⟨h.1, ?_⟩;rcases h.2 with hn | ⟨g,cap,cur,e,hg,hgg,rest⟩
 ·exact .inl hn
 ·exact .inr ⟨g,cap,cur,e,hg,by rw [hb.block g (Array.getElem?_eq_some_iff.1 hgg).1];exact hgg,rest⟩
theorem OwnU.nil (W:World) (B:Nat):OwnU W B (.slice none 0 0) []:=World.ownsRow_nil _ _ _ _
theorem OwnU.snoc {W:World} {B:Nat} {v:Value} {xs:List Nat} {x:Nat} (h:W.ownsRow B 171 1 v (xs.length+1) (xs.map (fun n:Nat=>Value.int .u32 (n:Int)) ++ [.int .u32 (x:Int)])):OwnU W B v (xs ++ [x]):=by
 unfold OwnU;rw [List.length_append,List.map_append];exact h
theorem OwnU.open {W:World} {B:Nat} {v:Value} {xs:List Nat} (h:OwnU W B v xs) :
  (v = .slice none 0 0∧xs = [])∨∃ (cap g:Nat),v = .slice (some ⟨g,0,none⟩) xs.length cap∧B≤g∧UR W g xs∧xs.length≤cap∧cap≤maxLen:=by
 rcases h.2 with ⟨hv,hn⟩ | ⟨g,cap,cur,hv,hg,hgg,hle,hm,hsz,htk⟩
 ·exact .inl ⟨hv,List.eq_nil_of_length_eq_zero hn⟩
 ·refine .inr ⟨cap,g,hv,hg,⟨(cur.toList.drop xs.length).toArray, ?_⟩,hle,hm⟩
  have e:u32s xs++(cur.toList.drop xs.length).toArray=cur:=by
   rw [Nat.mul_one] at htk;apply Array.ext';rw [Array.toList_append];show (xs.map _)++_=_;rw [←htk,List.take_append_drop]
  rw [e];exact hgg
theorem OwnU.openS {W:World} {B g n cap:Nat} {xs:List Nat} (h:OwnU W B (.slice (some ⟨g,0,none⟩) n cap) xs):B≤g∧UR W g xs∧n=xs.length∧xs.length≤cap∧cap≤maxLen:=by
 rcases h.open with ⟨h1,_⟩ | ⟨c,g',h1,h2,h3,h4,h5⟩
 ·cases h1
 ·injection h1 with e1 e2 e3;injection e1 with e1;injection e1 with e1;subst e1;subst e3;exact ⟨h2,h3,e2,h4,h5⟩
theorem OwnU.na {W:World} {B:Nat} {v:Value} {xs:List Nat} (h:OwnU W B v xs):NA W v xs:=by
 rcases h.open with ⟨rfl,rfl⟩ | ⟨cap,g,rfl,hg,hu,h1,h2⟩
 ·exact ⟨none,0,rfl,Nat.le_refl _,by omega,.inl ⟨rfl,rfl,rfl⟩⟩
 ·exact ⟨_,cap,rfl,h1,h2,.inr ⟨g,0,rfl,hu.lt,hu.ua⟩⟩
theorem QbT {B:Nat} {w w1 w3:World} {v:Value} {xs:List Nat} (hb:Below B w w1) (hB:B≤w.heap.size) (hO:OwnU w1 B v xs) (hg:w1.grownBy w3 v.ownBlock):Below B w w3 :=
 hb.trans ⟨hg.os,hg.tape,hg.output,hg.size,fun k hk=>hg.block k (Nat.lt_of_lt_of_le (Nat.lt_of_lt_of_le hk hB) hb.size) (fun e=>by
  rcases hO.2 with ⟨rfl,_⟩ | ⟨g,cap,cur,rfl,h1,_⟩
  ·simp [Value.ownBlock] at e
  ·simp [Value.ownBlock] at e;omega)⟩
theorem Qnb:(Tryz.prog.info? 171).map (fun i=>(i.zero,i.size,i.bytes))=some (some (.int .u32 0),1,4):=by kernel_rfl
theorem Qnc (n:Nat):(madeCells (Value.int .u32 0).cells (n*1)).toList=(List.replicate n 0).map fun n:Nat=>Value.int .u32 (n:Int):=by
 rw [Nat.mul_one,List.map_replicate];simp [madeCells,Value.cells];rw [List.eq_replicate_iff];refine ⟨by simp,fun b hb => ?_⟩;simp only [List.mem_map,Nat.mod_one] at hb;obtain ⟨_,_,rfl⟩:=hb;rfl
theorem QfD {w:World} {ops:Array Oper} {rest:List Oper} {o:Oper} {a:Act} {Q:Exit→Act→World→Prop} (hg:o.guard=none) (l c:Operand) (hop:o.op=Op.makeSlice 128 l c)
  (base n:Nat) (hl:a.eval l = .int .i64 (n:Int)) (hc:a.eval c = .int .i64 (n:Int)) (hn:n≤1000000) (hb:base≤w.heap.size)
  (h:∀ w',OwnU w' base (.slice (some ⟨w.heap.size,0,none⟩) n n) (List.replicate n 0)→Below base w w'→wpList Tryz.prog ops Q rest (a.put o.dst (.slice (some ⟨w.heap.size,0,none⟩) n n)) w'):wpList Tryz.prog ops Q (o :: rest) a w:=by
 obtain ⟨i0,hinf,hz0,hz1,hz2⟩:=info_parts Qnb;refine wpList_make_full w hg l c 128 hop base 171 i0 (.int .u32 0) 1 Tryz.underlying128 hinf hz0 hz1 .i64 .i64 (n:Int) (n:Int) n hl hc rfl rfl (by rw [hz2];omega) (by unfold maxLen;omega) hb ?_;intro w' ho hgr;refine h w' ?_ ⟨hgr.os,hgr.tape,hgr.output,hgr.size,fun k hk=>hgr.block k (by omega) (by simp)⟩;unfold OwnU;rw [List.length_replicate,←Qnc];exact ho
theorem UA.cells {W:World} {b o:Nat} {ls:List Nat} (h:UA W b o ls):∀ j u,(ls.map fun n:Nat=>Value.int .u32 (n:Int))[j]? = some u→W.cell? ((⟨b,o,none⟩:Addr).add j)=some u:=by
 intro j u hj;rw [List.getElem?_map] at hj
 have hlt:j<ls.length:=by
  rcases Nat.lt_or_ge j ls.length with h1 | h1
  ·exact h1
  ·rw [List.getElem?_eq_none h1] at hj;cases hj
 rw [List.getElem?_eq_getElem hlt] at hj;cases hj;rw [Addr.add_lit];have:=h j hlt
 rwa [List.getD_eq_getElem?_getD,List.getElem?_eq_getElem hlt] at this
theorem Qnd (ls:List Nat):∀ u∈ls.map (fun n:Nat=>Value.int .u32 (n:Int)),u.oneCell'=true:=by
 intro u hu;simp only [List.mem_map] at hu;obtain ⟨x,_,rfl⟩:=hu;rfl
theorem QlF {w:World} {ops:Array Oper} {rest:List Oper} {o:Oper} {a:Act} {Q:Exit→Act→World→Prop} (hgd:o.guard=none) (s x:Operand)
  (ho:o.op = .call {callee:=.builtin .append,args:=#[s,x],argTypes:=#[128, 128]}) (base:Nat) (v:Value) (xs:List Nat) (hs:a.eval s=v) (hown:OwnU w base v xs)
  (vx:Value) (ys:List Nat) (hx:a.eval x=vx) (hys:NA w vx ys) (hl:xs.length+ys.length≤1000000) (hb:base≤w.heap.size)
  (h:∀ v' w',OwnU w' base v' (xs++ys)→(v ≠ .slice none 0 0→v' ≠ .slice none 0 0)→Below base w w'→wpList Tryz.prog ops Q rest (a.put o.dst v') w'):wpList Tryz.prog ops Q (o :: rest) a w:=by
 obtain ⟨i0,hinf,hz0,hz1,hz2⟩:=info_parts Qnb;obtain ⟨p,cap,rfl,h1,h2,⟨rfl,rfl,rfl⟩ | ⟨g,o,rfl,hg,hu⟩⟩:=hys
 ·exact wpList_append_own_none hgd s x 128 ho base 171 i0 1 Tryz.underlying128 hinf v xs.length _ hs hown hx (h v w (by rw [List.append_nil];exact hown) id (Below.refl _ _))
 ·refine wpList_append_own w hgd s x 128 ho base 171 i0 (.int .u32 0) 1 4 Tryz.underlying128 hinf hz0 hz1 hz2 rfl (by decide) v xs.length _ hs hown ⟨g,o,none⟩ ys.length cap (ys.map fun n:Nat=>Value.int .u32 (n:Int)) hx (by rw [List.length_map,Nat.mul_one]) (UA.cells hu) (Qnd ys) (by unfold maxLen;omega) (by omega) hb ?_;intro v' w' hown' hgrow hnil;refine h v' w' ?_ (fun hv e=>hv (hnil.1 e).1) (QbT (Below.refl _ _) hb hown hgrow);unfold OwnU;rw [List.length_append,List.map_append];exact hown'
end
section
open Go.RowKit Nm

theorem QfZ {l:List Nat} (hd:Dig l) (k:Nat) (hk:k≤l.length) (hz:∀ j,k≤j→l.getD j 0=0) (hl:k=0∨l.getD (k-1) 0≠0):l.take k=natL (nv l):=by
 have h1:=Qdp l k hk hz;rw [←h1];refine Qen _ (hd.take k) ?_;have hlen:(l.take k).length=k:=by rw [List.length_take];omega
 rcases hl with rfl | hl
 ·exact .inl rfl
 ·rcases Nat.eq_zero_or_pos k with rfl | hp
  ·exact .inl rfl
  ·right;rw [hlen];rw [List.getD_eq_getElem?_getD] at hl ⊢
   rwa [List.getElem?_take,if_pos (by omega)]
theorem QdT {l:List Nat} (hd:Dig l):(natL (nv l)).length≤l.length:=Qat (QdC hd)
theorem Qga {l:List Nat} (hd:Dig l):l.take (natL (nv l)).length=natL (nv l):=by
 have h1:=Qdb hd;have h2:=Qdb (Qao (nv l));rw [Qan] at h2;obtain ⟨m,hm⟩:∃ m,l.length=(natL (nv l)).length+m:=⟨l.length-(natL (nv l)).length,by have:=QdT hd;omega⟩;have h3:=QbR (natL (nv l)).length m (nv l) 0 (QaI _);rw [Nat.mul_zero,Nat.add_zero,←hm,h1,h2] at h3;have h4:=congrArg (List.take (natL (nv l)).length) h3;rw [h4,List.take_left' rfl]

theorem QcK (l:List Nat) (p:Option Addr) (cap g o:Nat) (w:World) (hp:1≤l.length→p=some ⟨g,o,none⟩) (hu:UA w g o l) (hd:Dig l) (hl:l.length≤1000000) (hc:l.length≤cap) (hcm:cap≤maxLen) :
  Calls Tryz.prog 191 #[.slice p l.length cap] w fun e w'=>e = .returned (.slice p (natL (nv l)).length cap)∧w'=w:=by
 go_enter Tryz.func191, Tryz.ntmps191;have HU:Shut _:=⟨hu⟩;have HP:Shut _:=⟨hp⟩;have HD:Shut _:=⟨hd⟩;unfold maxLen at hcm;clear hu hp hd;go_wp2
 go_loopw [0] (fun a wr=>∃ k:Nat,k≤l.length∧a = .slice p k cap∧wr=w∧Shut (∀ j,k≤j→l.getD j 0=0)) (fun a _=>match a with | .slice _ k _=>k | _=>0)
 case atStart=>exact ⟨l.length,Nat.le_refl _,rfl,rfl,⟨fun j hj=>by rw [List.getD_eq_getElem?_getD,List.getElem?_eq_none hj];rfl⟩⟩
 case round =>
  obtain ⟨k,hk,rfl,rfl,hz⟩:=hrel;by_cases hk0:k=0
  ·subst hk0;have HF:Shut (l.take 0=natL (nv l)):=⟨QfZ HD.o 0 hk hz.o (.inl rfl)⟩;have HF2:Shut (0=(natL (nv l)).length):=⟨by rw [←HF.o];rfl⟩;go_wp2;go_ret;exact ⟨by rw [←HF2.o];rfl,rfl⟩
  ·obtain rfl:=HP.o (by omega);have hcl:=HU.o (k-1) (by omega);obtain ⟨k,rfl⟩:∃ k',k=k'+1:=⟨k-1,by omega⟩;rw [Nat.add_sub_cancel] at hcl;by_cases hx:l.getD k 0=0
   ·have hz2:Shut (∀ j,k≤j→l.getD j 0=0):=⟨fun j hj=>by
     by_cases e:j=k
     ·rw [e];exact hx
     ·exact hz.o j (by omega)⟩
    rw [hx] at hcl;clear hx hz;go_wp2;exact ⟨⟨k,by omega,rfl,trivial,hz2⟩,Nat.lt_succ_self k⟩
   ·have HF:Shut (k+1=(natL (nv l)).length):=⟨by
     have:=QfZ HD.o (k+1) hk hz.o (.inr (by simpa using hx));rw [←this,List.length_take];omega⟩
    have hxi:((l.getD k 0:Nat):Int)≠0:=by omega
    clear hz;generalize l.getD k 0=x at *
    go_wp2;go_ret;exact ⟨by rw [←HF.o];rfl,rfl⟩

def cmpN (x y:Nat):Int:=if x<y then -1 else if x=y then 0 else 1
theorem QlG (x y:Nat) (w:World) :
  Calls Tryz.prog 193 #[.int .i64 x,.int .i64 y] w fun e w'=>e = .returned (.int .i64 (if x<y then -1 else 1))∧w'=w:=by
 go_enter Tryz.func193, Tryz.ntmps193;by_cases h:x<y
 ·have hi:((x:Int)<(y:Int)):=by omega
  rw [if_pos h];go_wp2;go_ret;exact ⟨rfl,rfl⟩
 ·have hi:¬((x:Int)<(y:Int)):=by omega
  rw [if_neg h];go_wp2;go_ret;exact ⟨rfl,rfl⟩
theorem QlH (x y:Nat) (w:World) :
  Calls Tryz.prog 194 #[.int .u32 x,.int .u32 y] w fun e w'=>e = .returned (.int .i64 (if x<y then -1 else 1))∧w'=w:=by
 go_enter Tryz.func194, Tryz.ntmps194;by_cases h:x<y
 ·have hi:((x:Int)<(y:Int)):=by omega
  rw [if_pos h];go_wp2;go_ret;exact ⟨rfl,rfl⟩
 ·have hi:¬((x:Int)<(y:Int)):=by omega
  rw [if_neg h];go_wp2;go_ret;exact ⟨rfl,rfl⟩

theorem Qgb (x y:Nat) (pa:Option Addr) (ca ga oa:Nat) (pb:Option Addr) (cb gb ob:Nat) (w:World) (hpa:1≤(natL x).length→pa=some ⟨ga,oa,none⟩) (hua:UA w ga oa (natL x)) (hpb:1≤(natL y).length→pb=some ⟨gb,ob,none⟩) (hub:UA w gb ob (natL y))
  (hla:(natL x).length≤1000000) (hlb:(natL y).length≤1000000) :
  Calls Tryz.prog 153 #[.slice pa (natL x).length ca,.slice pb (natL y).length cb] w fun e w'=>e = .returned (.int .i64 (cmpN x y))∧∃ m,w'=w.drewN m:=by
 go_enter Tryz.func153, Tryz.ntmps153;have HA:Shut _:=⟨hua⟩;have HB:Shut _:=⟨hub⟩;have HPa:Shut _:=⟨hpa⟩;have HPb:Shut _:=⟨hpb⟩;clear hua hub hpa hpb;obtain ⟨na,hna⟩:∃ na,na=(natL x).length:=⟨_,rfl⟩;obtain ⟨nb,hnb⟩:∃ nb,nb=(natL y).length:=⟨_,rfl⟩;have HNa:Shut _:=⟨hna⟩;have HNb:Shut _:=⟨hnb⟩;rw [←hna,←hnb];rw [←hna] at hla;rw [←hnb] at hlb;clear hna hnb;by_cases hl:na=nb
 ·subst hl;go_wp2
  go_loopw [5] (fun i5 wr=>∃ k:Nat,k≤na∧i5 = .int .i64 ((k:Int)-1)∧(∃ m,wr=w.drewN m)∧Shut ((natL x).drop k=(natL y).drop k)) (fun i5 _=>(intOf i5+1).toNat)
  case atStart=>exact ⟨na,Nat.le_refl _,rfl,⟨0,rfl⟩,⟨by rw [List.drop_eq_nil_iff.2 (by have:=HNa.o;omega),List.drop_eq_nil_iff.2 (by have:=HNb.o;omega)]⟩⟩
  case round =>
   obtain ⟨k,hk,rfl,⟨m,hw⟩,hd⟩:=hrel;have HW:Shut _:=⟨hw⟩;clear hw;by_cases hk0:k=0
   ·subst hk0
    have hxy:x=y:=by
     have:=hd.o;rw [List.drop_zero,List.drop_zero] at this;rw [←Qan x,this,Qan]
    have HC:Shut (cmpN x y=0):=⟨by rw [cmpN,if_neg (by omega),if_pos hxy]⟩;clear hxy hd;go_wp2;go_ret;exact ⟨by rw [HC.o];rfl,_,HW.o⟩
   ·obtain ⟨k,rfl⟩:∃ k',k=k'+1:=⟨k-1,by omega⟩;have h1:k<(natL x).length:=by rw [←HNa.o];omega
    have h2:k<(natL y).length:=by rw [←HNb.o];omega
    obtain rfl:=HPa.o (by omega);obtain rfl:=HPb.o (by omega);have c1:wr.cell? ⟨ga,oa+k,none⟩=some (.int .u32 (((natL x).getD k 0:Nat):Int)):=by rw [HW.o];exact HA.o k h1
    have c2:wr.cell? ⟨gb,ob+k,none⟩=some (.int .u32 (((natL y).getD k 0:Nat):Int)):=by rw [HW.o];exact HB.o k h2
    have hi:(((k+1:Nat):Int)-1)=(k:Int):=by omega
    rw [hi];have hdx:=(Qao x).getD k;have hdy:=(Qao y).getD k;by_cases he:(natL x).getD k 0=(natL y).getD k 0
    ·have hd2:Shut ((natL x).drop k=(natL y).drop k):=⟨by
      rw [List.drop_eq_getElem_cons h1,List.drop_eq_getElem_cons h2,hd.o];rw [List.getD_eq_getElem?_getD,List.getD_eq_getElem?_getD,List.getElem?_eq_getElem h1,List.getElem?_eq_getElem h2] at he;simp only [Option.getD_some] at he;rw [he]⟩
     rw [←he] at c2;clear he hd h1 h2 hdy;generalize (natL x).getD k 0=d at *
     go_wp2
     go_quiet (fail)
     go_wp2;exact ⟨⟨k,by omega,rfl,⟨_,by rw [HW.o,World.drewN_drewN]⟩,hd2⟩,by simp [intOf]⟩
    ·have hlt:(natL x).getD k 0<(natL y).getD k 0→x<y:=fun h=>by
      have:=QfX (Qao x) (by rw [←HNa.o,←HNb.o]) k h1 h hd.o
      rwa [Qan,Qan] at this
     have hgt:(natL y).getD k 0<(natL x).getD k 0→y<x:=fun h=>by
      have:=QfX (Qao y) (by rw [←HNa.o,←HNb.o]) k h2 h hd.o.symm
      rwa [Qan,Qan] at this
     have HC:Shut (cmpN x y=if (natL x).getD k 0<(natL y).getD k 0 then -1 else 1):=⟨by
      by_cases h:(natL x).getD k 0<(natL y).getD k 0
      ·rw [if_pos h,cmpN,if_pos (hlt h)]
      ·have:=hgt (by omega);rw [if_neg h,cmpN,if_neg (by omega),if_neg (by omega)]⟩
     clear hlt hgt hd h1 h2;generalize (natL x).getD k 0=d at *
     generalize (natL y).getD k 0=e at *
     have hne:((d:Int)≠(e:Int)):=by omega
     have co:=fun w=>QlH d e w;rw [←HC.o] at co;go_wp2
     go_quiet (fail)
     generalize hw2:wr.drewN nq=w2;have HW2:Shut _:=⟨hw2⟩;have c3:w2.cell? ⟨ga,oa+k,none⟩=some (.int .u32 (d:Int)):=by rw [←hw2];exact c1
     have c4:w2.cell? ⟨gb,ob+k,none⟩=some (.int .u32 (e:Int)):=by rw [←hw2];exact c2
     clear c1 c2 hw2;have i1:(0:Int)≤(k:Int):=by omega
     have i2:(k:Int)<(na:Int):=by omega
     go_wp2
     go_region_held3 (fun w'=>w'.cell? ⟨ga,oa+k,none⟩=some (.int .u32 (d:Int))∧w'.cell? ⟨gb,ob+k,none⟩=some (.int .u32 (e:Int))) (go_keep) (first | (go_at_call 194; refine (co _).mono ?_;rintro e w1 ⟨rfl,rfl⟩))
     go_wp2;go_ret;exact ⟨by rfl,_,by rw [←HW2.o,HW.o,World.drewN_drewN,World.drew_drewN]⟩
 ·have hne:((na:Int)≠(nb:Int)):=by omega
  have co:=fun w=>QlG na nb w
  have HC:Shut (cmpN x y=if na<nb then -1 else 1):=⟨by
   have e1:=HNa.o;have e2:=HNb.o;by_cases h:na<nb
   ·rw [if_pos h,cmpN,if_pos (QcJ (by omega))]
   ·have:=QcJ (n:=y) (m:=x) (by omega);rw [if_neg h,cmpN,if_neg (by omega),if_neg (by omega)]⟩
  rw [←HC.o] at co;generalize cmpN x y=cc at *
  go_wp2_with (go_at_call 193; refine (co _).mono ?_;rintro e w1 ⟨rfl,rfl⟩);go_ret;exact ⟨rfl,0,rfl⟩
theorem QlI (l:List Nat) (k:Nat) (hk:k≤l.length):nv (l.drop k)≤nv l:=by
 rw [QaH l k hk];have:1*nv (l.drop k)≤10000^k*nv (l.drop k):=Nat.mul_le_mul_right _ (Nat.pow_pos (by decide));omega
theorem QiA (l:List Nat) (k:Nat) (hk:k<l.length):nv (l.drop k)=l.getD k 0+10000*nv (l.drop (k+1)):=by
 rw [List.drop_eq_getElem_cons hk,nv];simp [List.getD,hk]

theorem Qex (l:List Nat) (p:Option Addr) (cap g o:Nat) (w:World) (hp:1≤l.length→p=some ⟨g,o,none⟩) (hu:UA w g o l) (hd:Dig l) (hl:l.length≤1000000) (hv:nv l<18446744073709551616) :
  Calls Tryz.prog 223 #[.slice p l.length cap] w fun e w'=>e = .returned (.int .u64 (nv l:Nat))∧w'=w:=by
 go_enter Tryz.func223, Tryz.ntmps223;have HU:Shut _:=⟨hu⟩;have HP:Shut _:=⟨hp⟩;have HD:Shut _:=⟨hd⟩;have HV:Shut _:=⟨hv⟩;clear hu hp hd hv;go_wp2
 go_loopw [3,4] (fun x i wr=>∃ k:Nat,k≤l.length∧i = .int .i64 ((k:Int)-1)∧wr=w∧x = .int .u64 (nv (l.drop k):Nat)) (fun _ i _=>(intOf i+1).toNat)
 case atStart=>exact ⟨l.length,Nat.le_refl _,rfl,rfl,by rw [List.drop_eq_nil_iff.2 Lr];rfl⟩
 case round =>
  obtain ⟨k,hk,rfl,rfl,rfl⟩:=hrel;by_cases hk0:k=0
  ·subst hk0;rw [List.drop_zero];have hx:=HV.o;go_wp2;go_ret;exact ⟨rfl,rfl⟩
  ·obtain ⟨k,rfl⟩:∃ k',k=k'+1:=⟨k-1,by omega⟩;obtain rfl:=HP.o (by omega);have hcl:=HU.o k (by omega);have hi:(((k+1:Nat):Int)-1)=(k:Int):=by omega
   rw [hi];have h1:=QiA l k (by omega);have h2:=QlI l k (by omega);have h3:=HV.o;have HE:Shut _:=⟨h1⟩;have hx:10000*nv (l.drop (k+1))+l.getD k 0<18446744073709551616:=by omega
   have hx2:=HD.o.getD k;clear h1 h2 h3;generalize nv (l.drop (k+1))=x at *
   generalize l.getD k 0=d at *
   go_wp2;exact ⟨⟨k,by omega,rfl,trivial,by rw [HE.o];congr 1;omega⟩,by simp [intOf]⟩

theorem QdU (x:Nat) (hx:x<18446744073709551616) (w:World) :
  Calls Tryz.prog 146 #[.int .u64 x] w fun e w'=>∃ v,e = .returned v∧OwnU w' w.heap.size v (natL x)∧Below w.heap.size w w':=by
 go_enter Tryz.func146, Tryz.ntmps146;go_wp2
 go_loopw [0,3] (fun xv v wr=>∃ (l:List Nat) (y:Nat),xv = .int .u64 y∧y<18446744073709551616∧l.length+(natL y).length≤5∧Shut (natL x=l++natL y)∧OwnU wr w.heap.size v l∧Below w.heap.size w wr) (fun xv _ _=>(intOf xv).toNat)
 case atStart=>exact ⟨[],x,rfl,hx,by rw [List.length_nil,Nat.zero_add];exact Qat (by omega),⟨rfl⟩,OwnU.nil _ _,Below.refl _ _⟩
 case round =>
  rename_i v0 _;obtain ⟨l,y,rfl,hy,hlen,hE,hO,hB⟩:=hrel;by_cases hy0:y=0
  ·subst hy0;have HF:Shut (natL x=l):=⟨by rw [hE.o,Qau,List.append_nil]⟩;clear hE;go_wp2;go_ret;exact ⟨_,rfl,by rw [HF.o];exact hO,hB⟩
  ·have hne:=Qbi hy0;have HE:Shut (natL x=(l ++ [y % 10000])++natL (y / 10000)):=⟨by rw [hE.o,hne];simp⟩;have hl5:l.length+1+(natL (y / 10000)).length≤5:=by rw [hne,List.length_cons] at hlen;omega
   obtain ⟨i0,hinf,hz0,hz1,hz2⟩:=info_parts Qnb;clear hE hne hlen;go_wp2_with (first | (at_builtin;go_must (refine wpList_append_own _ rfl _ _ 128 rfl w.heap.size 171 i0 (.int .u32 0) 1 4 Tryz.underlying128 hinf hz0 hz1 hz2 rfl (by decide) _ _ _ rfl (World.ownsRow.alloc hO _) ⟨wr.heap.size,0,none⟩ 1 1 [.int .u32 ((y % 10000:Nat):Int)] rfl rfl (cell_one_new _ _ _) (by simp [Value.oneCell']) (by unfold maxLen;omega) (by omega) (by rw [World.size_alloc];have:=hB.size;omega) ?_);intro v' w' hown' hgrow _;have hB':=QbT (hB.alloc hB.size _) Lr (World.ownsRow.alloc hO _) hgrow));have e1:((y:Int) / 10000)=((y / 10000:Nat):Int):=by omega
   rw [e1];exact ⟨⟨l ++ [y % 10000],y / 10000,rfl,by omega,by rw [List.length_append];exact hl5,HE,OwnU.snoc hown',hB'⟩,by simp [intOf];omega⟩

theorem QcL (l:List Nat) (v:Value) (k:Nat) (w:World) (hv:NA w v l) (hl:l.length+k≤1000000) :
  Calls Tryz.prog 195 #[v,.int .i64 k] w fun e w'=>∃ u,e = .returned u∧OwnU w' w.heap.size u (List.replicate k 0++l)∧u ≠ .slice none 0 0∧Below w.heap.size w w':=by
 go_enter Tryz.func195, Tryz.ntmps195;have HV:Shut _:=⟨hv⟩;have hpow:((k:Int))≤1000000:=by omega
 clear hv;go_wp2_with (first | (at_make;refine QfD rfl _ _ rfl w.heap.size k rfl rfl (by omega) Lr ?_;intro w1 hO1 hB1) | (at_builtin;refine QlF rfl _ _ rfl w.heap.size _ (List.replicate k 0) rfl hO1 v l rfl (HV.o.below hB1 Lr) (by rw [List.length_replicate];omega) hB1.size ?_;intro v2 w2 hO2 hn2 hB2));go_ret;exact ⟨_,rfl,hO2,hn2 (show Value.slice (some ⟨w.heap.size,0,none⟩) k k≠Value.slice none 0 0 by simp),hB1.trans hB2⟩
end
end Go.Proofs.YtihlgifojjeoaaaGreatDoor
