import Derived.Test.YtadcmepaniiciaaGreatDoorZz
import Derived.IntWalk
import Derived.WalkKit
import Derived.WalkSpells
import Derived.WalkLawsBesides
import Derived.Lib.Hide
import Derived.BigQuiet
import Derived.BigRegion
import Derived.Laws.Rows
import Derived.Laws.Tables
import Derived.Deep.WholeRow
import Derived.Laws.CopyOwn
import Derived.StillTailTactics
import Derived.RegionTactic
import Derived.Laws.AppendOwnNone
import Derived.Deep.RegionLaw
import Derived.RangeFuncBox
import Derived.Maps.AppendAt
import Derived.OwnWalk
import Derived.Deep.RegionHeld3
import Derived.Lib.SmallJoins
import Derived.Lib.SlBytesRow
import Derived.Lib.ConvBytes
import Derived.Deep.Cut
set_option maxRecDepth 1000000
set_option maxHeartbeats 40000000
open Go.Value renaming string→Z
open Go.Obj renaming cells→O
namespace Go.Proofs.YtadcmepaniiciaaGreatDoor
section
namespace Nm
def nv:List Nat→Nat
 | []=>0
 | d :: l=>d+10000*nv l
def Dig (l:List Nat):Prop:=∀ x∈l,x<10000
theorem Dig.tail {d:Nat} {l:List Nat} (h:Dig (d :: l)):Dig l:=fun x hx=>h x (List.mem_cons_of_mem _ hx)
theorem Dig.head {d:Nat} {l:List Nat} (h:Dig (d :: l)):d<10000:=h d (by simp)
theorem Dig.take {l:List Nat} (h:Dig l) (k:Nat):Dig (l.take k):=fun x hx=>h x (List.mem_of_mem_take hx)
theorem Dig.drop {l:List Nat} (h:Dig l) (k:Nat):Dig (l.drop k):=fun x hx=>h x (List.mem_of_mem_drop hx)
theorem Dig.append {l m:List Nat} (h:Dig l) (k:Dig m):Dig (l++m):=fun x hx=>(List.mem_append.1 hx).elim (h x) (k x)
theorem Dig.getD {l:List Nat} (h:Dig l) (i:Nat):l.getD i 0<10000:=by
 rw [List.getD_eq_getElem?_getD];rcases Nat.lt_or_ge i l.length with h1 | h1
 ·rw [List.getElem?_eq_getElem h1];exact h _ (List.getElem_mem h1)
 ·rw [List.getElem?_eq_none h1];decide
theorem QdC {l:List Nat} (h:Dig l):nv l<10000^l.length:=by
 induction l with
 | nil=>decide
 | cons d l ih =>
  have h1:=ih h.tail;have h2:=h.head;rw [nv,List.length_cons,Nat.pow_succ];omega
theorem QcI (a b:List Nat):nv (a++b)=nv a+10000^a.length*nv b:=by
 induction a with
 | nil=>simp [nv]
 | cons d l ih=>rw [List.cons_append,nv,nv,ih,List.length_cons,Nat.pow_succ];grind
theorem QaO (l:List Nat) (i:Nat) (h:i<l.length):nv (l.take (i+1))=nv (l.take i)+10000^i*l.getD i 0:=by
 have hg:l.getD i 0=l[i]:=by simp [List.getD,h]
 rw [hg,List.take_succ_eq_append_getElem h,QcI,List.length_take,Nat.min_eq_left (by omega)];simp [nv]
theorem QaH (l:List Nat) (i:Nat) (h:i≤l.length):nv l=nv (l.take i)+10000^i*nv (l.drop i):=by
 conv=>lhs;rw [←List.take_append_drop i l]
 rw [QcI,List.length_take,Nat.min_eq_left h]
theorem Qra (n:Nat):nv (List.replicate n 0)=0:=by
 induction n with
 | zero=>rfl
 | succ n ih=>rw [List.replicate_succ,nv,ih]
theorem Qna (n:Nat):Dig (List.replicate n 0):=fun x hx=>by rw [(List.mem_replicate.1 hx).2];decide
def padL:Nat→Nat→List Nat
 | 0,_ => []
 | n+1,x=>x % 10000 :: padL n (x / 10000)
theorem Qaq:∀ n x,(padL n x).length=n
 | 0,_=>rfl
 | n+1,x=>by rw [padL,List.length_cons,Qaq]
theorem Qbl:∀ n x,Dig (padL n x)
 | 0,_=>fun y hy=>by cases hy
 | n+1,x=>fun y hy=>by
  rw [padL] at hy;rcases List.mem_cons.1 hy with rfl | hy
  ·exact Nat.mod_lt _ (by decide)
  ·exact Qbl n _ y hy
theorem QbZ:∀ n x,x<10000^n→nv (padL n x)=x
 | 0,x,h=>by rw [padL,nv];omega
 | n+1,x,h=>by
  rw [Nat.pow_succ] at h;rw [padL,nv,QbZ n (x / 10000) (by omega)];omega
theorem Qdb {l:List Nat} (h:Dig l):padL l.length (nv l)=l:=by
 induction l with
 | nil=>rfl
 | cons d l ih =>
  have:=h.head;rw [List.length_cons,padL,nv,show (d+10000*nv l) % 10000=d by omega,show (d+10000*nv l) / 10000=nv l by omega,ih h.tail]
theorem QbR (n m x y:Nat) (h:x<10000^n):padL (n+m) (x+10000^n*y)=padL n x++padL m y:=by
 induction n generalizing x with
 | zero =>
  have:x=0:=by simpa using h
  subst this;simp [padL]
 | succ n ih =>
  rw [Nat.pow_succ] at h;rw [show n+1+m=(n+m)+1 by omega,padL,padL,List.cons_append];have e1:(x+10000^(n+1)*y) % 10000=x % 10000:=by rw [Nat.pow_succ,Nat.mul_comm (10000^n) 10000,Nat.mul_assoc,Nat.add_mul_mod_self_left]
  have e2:(x+10000^(n+1)*y) / 10000=x / 10000+10000^n*y:=by rw [Nat.pow_succ,Nat.mul_comm (10000^n) 10000,Nat.mul_assoc,Nat.add_mul_div_left _ _ (by decide)]
  rw [e1,e2,ih (x / 10000) (by omega)]
theorem QhL (d:Nat) (h:d<10000):padL 1 d = [d]:=by rw [padL,padL,Nat.mod_eq_of_lt h]
theorem Qew (n x d:Nat) (h:x<10000^n) (hd:d<10000):padL (n+1) (x+10000^n*d)=padL n x ++ [d]:=by rw [QbR n 1 x d h,QhL d hd]
def natL (n:Nat):List Nat:=if n=0 then [] else n % 10000 :: natL (n / 10000)
decreasing_by omega
theorem Qau:natL 0 = []:=by rw [natL,if_pos rfl]
theorem Qbi {n:Nat} (h:n≠0):natL n=n % 10000 :: natL (n / 10000):=by rw [natL,if_neg h]
theorem Qan (n:Nat):nv (natL n)=n:=by
 induction n using Nat.strongRecOn with
 | ind n ih =>
  by_cases h:n=0
  ·subst h;rw [Qau,nv]
  ·rw [Qbi h,nv,ih (n / 10000) (by omega)];omega
theorem Qao (n:Nat):Dig (natL n):=by
 induction n using Nat.strongRecOn with
 | ind n ih =>
  by_cases h:n=0
  ·subst h;rw [Qau];intro x hx;cases hx
  ·rw [Qbi h];intro x hx;rcases List.mem_cons.1 hx with rfl | hx
   ·exact Nat.mod_lt _ (by decide)
   ·exact ih (n / 10000) (by omega) x hx
theorem QfC {n:Nat}:natL n = []↔n=0:=by
 constructor
 ·intro h;by_cases h0:n=0
  ·exact h0
  ·rw [Qbi h0] at h;cases h
 ·rintro rfl;exact Qau
theorem QaF {n:Nat}:(natL n).length=0↔n=0:=by rw [List.length_eq_zero_iff,QfC]
theorem Qen (l:List Nat) (h:Dig l) (hz:l = []∨l.getD (l.length-1) 0≠0):l=natL (nv l):=by
 induction l with
 | nil=>rw [nv,Qau]
 | cons d l ih =>
  have hd:=h.head
  have hl:l=natL (nv l):=by
   refine ih h.tail ?_;rcases hz with hz | hz
   ·cases hz
   ·cases l with
    | nil=>exact .inl rfl
    | cons e r=>right;simpa using hz
  have h0:nv (d :: l)≠0:=by
   rw [nv];rcases hz with hz | hz
   ·cases hz
   ·cases l with
    | nil=>simp at hz;rw [nv];omega
    | cons e r =>
     intro hn;have:nv (e :: r)=0:=by omega
     rw [this,Qau] at hl;cases hl
  rw [Qbi h0,nv,show (d+10000*nv l) % 10000=d by omega,show (d+10000*nv l) / 10000=nv l by omega,←hl]
theorem QfW (n:Nat) (h:n≠0):(natL n).getD ((natL n).length-1) 0≠0:=by
 induction n using Nat.strongRecOn with
 | ind n ih =>
  rw [Qbi h];by_cases h1:n / 10000=0
  ·rw [h1,Qau];simp;omega
  ·have:=ih (n / 10000) (by omega) h1;have hl:(natL (n / 10000)).length≠0:=fun e=>h1 (QaF.1 e);have e:(n % 10000 :: natL (n / 10000)).length-1=((natL (n / 10000)).length-1)+1:=by rw [List.length_cons];omega
   rw [e,List.getD_cons_succ];exact this
theorem QaI (n:Nat):n<10000^(natL n).length:=by have:=QdC (Qao n);rwa [Qan] at this
theorem QdD (n:Nat) (h:n≠0):10000^((natL n).length-1)≤n:=by
 have h1:=QfW n h;have hl:(natL n).length≠0:=fun e=>h (QaF.1 e);have h2:=QaO (natL n) ((natL n).length-1) (by omega);rw [show (natL n).length-1+1=(natL n).length by omega,List.take_length,Qan] at h2;have h3:10000^((natL n).length-1)*1≤10000^((natL n).length-1)*(natL n).getD ((natL n).length-1) 0:=Nat.mul_le_mul_left _ (by omega);omega
theorem Qat {n k:Nat} (h:n<10000^k):(natL n).length≤k:=by
 by_cases h0:n=0
 ·rw [QaF.2 h0];omega
 ·have h1:=QdD n h0;have h2:10000^((natL n).length-1)<10000^k:=by omega
  have:=(Nat.pow_lt_pow_iff_right (by decide:1<10000)).1 h2;omega
theorem Qal {n m:Nat} (h:n≤m):(natL n).length≤(natL m).length:=Qat (Nat.lt_of_le_of_lt h (QaI m))
theorem QcJ {n m:Nat} (h:(natL n).length<(natL m).length):n<m:=by
 rcases Nat.lt_or_ge n m with h1 | h1
 ·exact h1
 ·have:=Qal h1;omega
theorem Qdp (l:List Nat) (k:Nat) (hk:k≤l.length) (hz:∀ j,k≤j→l.getD j 0=0):nv (l.take k)=nv l:=by
 have h:nv (l.drop k)=0:=by
  have h2:∀ (r:List Nat),(∀ j,r.getD j 0=0)→nv r=0:=by
   intro r
   induction r with
   | nil=>intro _;rfl
   | cons d r ih=>intro hr;have h0:=hr 0;simp at h0;rw [nv,ih (fun j=>by simpa using hr (j+1)),h0]
  refine h2 _ (fun j => ?_);have:=hz (k+j) (by omega);rw [List.getD_eq_getElem?_getD] at this ⊢
  rwa [List.getElem?_drop]
 rw [QaH l k hk,h,Nat.mul_zero,Nat.add_zero]
theorem QfX {a b:List Nat} (ha:Dig a) (hl:a.length=b.length) (i:Nat) (h:i<a.length) (hlt:a.getD i 0<b.getD i 0) (he:a.drop (i+1)=b.drop (i+1)):nv a<nv b:=by
 have e1:=QaH a (i+1) (by omega);have e2:=QaH b (i+1) (by omega);rw [QaO a i h] at e1;rw [QaO b i (by omega)] at e2;rw [he] at e1;have hp:=QdC (ha.take i);rw [List.length_take,Nat.min_eq_left (by omega)] at hp;have h1:10000^i*(a.getD i 0+1)≤10000^i*b.getD i 0:=Nat.mul_le_mul_left _ hlt;rw [Nat.mul_add] at h1;omega
end Nm
end
section
open Go.RowKit
structure Shut (p:Prop):Prop where
 o:p
theorem Qag {B:Nat} {a w:World} (h:Below B a w) (n:Nat):Below B a (w.drewN n):=h.trans ⟨rfl,rfl,rfl,Nat.le_refl _,fun _ _=>rfl⟩
theorem QrQ {a b:Int} (h:a=b):Ending.returned (.int .u32 a) = .returned (.int .u32 b):=by rw [h]
def u32s (l:List Nat):Array Value:=(l.map fun n:Nat=>Value.int .u32 (n:Int)).toArray
theorem QfY (l:List Nat):(u32s l).size=l.length:=by simp [u32s]
theorem Qpr (l:List Nat) (i:Nat) (h:i<l.length):(u32s l)[i]? = some (.int .u32 ((l.getD i 0:Nat):Int)):=by simp [u32s,List.getD,h]
theorem Qps (l:List Nat) (i x:Nat):(u32s l).setIfInBounds i (.int .u32 (x:Int))=u32s (l.set i x):=by simp [u32s,List.map_set]
theorem World.heap_alloc_keep (w:World) (o:Obj) {b:Nat} (h:b<w.heap.size):(w.alloc o).heap[b]? = w.heap[b]? := by
 show (w.heap.push o)[b]? = w.heap[b]?;simp [Array.getElem?_push,show b≠w.heap.size by omega]
def RowAt (W:World) (b:Nat) (c:Array Value) (t:TypeId):Prop:=W.heap[b]? = some (.cells c t (0,0))
theorem RowAt.new (w:World) (c:Array Value) (t:TypeId):RowAt (w.alloc (.cells c t)) w.heap.size c t:=heap_alloc_new w _
theorem RowAt.lt {w:World} {b:Nat} {c:Array Value} {t:TypeId} (h:RowAt w b c t):b<w.heap.size:=(Array.getElem?_eq_some_iff.1 h).1
theorem RowAt.alloc {w:World} {b:Nat} {c:Array Value} {t:TypeId} (h:RowAt w b c t) (o:Obj):RowAt (w.alloc o) b c t:=(World.heap_alloc_keep w o (RowAt.lt h)).trans h
theorem RowAt.below {w w':World} {b B:Nat} {c:Array Value} {t:TypeId} (h:RowAt w b c t) (hB:Below B w w') (hb:b<B):RowAt w' b c t:=(hB.block b hb).trans h
theorem RowAt.set_same {w:World} {b:Nat} {c:Array Value} {t:TypeId} (h:RowAt w b c t) (i:Nat) (v:Value):RowAt (w.setCell ⟨b,i,none⟩ v) b (c.setIfInBounds i v) t:=heap_setCell_same w b i c t v h
theorem RowAt.set_other {w:World} {b:Nat} {c:Array Value} {t:TypeId} (h:RowAt w b c t) (p:Addr) (hp:b≠p.block) (v:Value):RowAt (w.setCell p v) b c t:=(heap_setCell_other w p b v hp).trans h
theorem RowAt.drewN {w:World} {b:Nat} {c:Array Value} {t:TypeId} (h:RowAt w b c t) (n:Nat):RowAt (w.drewN n) b c t:=h
theorem RowAt.cell {w:World} {b:Nat} {c:Array Value} {t:TypeId} (h:RowAt w b c t) (i:Nat):w.cell? ⟨b,i,none⟩=c[i]? := cell_of_row w b i c t _ h
theorem RowAt.frozen {w:World} {b:Nat} {c:Array Value} {t:TypeId} (h:RowAt w b c t) (i:Nat):w.frozen? ⟨b,i,none⟩=false:=frozen_of_row w b i c t h
structure Only (g:Nat) (w w':World):Prop where
 os:w'.os=w.os
 tape:w'.tape=w.tape
 output:w'.output=w.output
 size:w'.heap.size=w.heap.size
 block:∀ k,k≠g→w'.heap[k]? = w.heap[k]?
theorem Only.refl (g:Nat) (w:World):Only g w w:=⟨rfl,rfl,rfl,rfl,fun _ _=>rfl⟩
theorem Only.trans {g:Nat} {a b c:World} (h:Only g a b) (k:Only g b c):Only g a c :=
 ⟨k.os.trans h.os,k.tape.trans h.tape,k.output.trans h.output,k.size.trans h.size,fun i hi=>(k.block i hi).trans (h.block i hi)⟩
theorem Only.drew {g:Nat} {a w:World} (h:Only g a w):Only g a w.drew:=⟨h.os,h.tape,h.output,h.size,h.block⟩
theorem Only.setCell {g:Nat} {a w:World} (h:Only g a w) (i:Nat) (v:Value):Only g a (w.setCell ⟨g,i,none⟩ v) :=
 ⟨h.os,h.tape,h.output,by simp only [World.setCell,Array.size_modify];exact h.size,fun k hk=>(heap_setCell_other w ⟨g,i,none⟩ k v hk).trans (h.block k hk)⟩
theorem Only.below {g B:Nat} {w w':World} (h:Only g w w') (hB:B≤g):Below B w w':=⟨h.os,h.tape,h.output,Nat.le_of_eq h.size.symm,fun k hk=>h.block k (by omega)⟩
def UA (W:World) (g o:Nat) (l:List Nat):Prop:=∀ i,i<l.length→W.cell? ⟨g,o+i,none⟩=some (.int .u32 ((l.getD i 0:Nat):Int))
theorem UA.below {W W':World} {g o:Nat} {l:List Nat} (h:UA W g o l) {B:Nat} (hB:Below B W W') (hg:g<B):UA W' g o l:=fun i hi=>(hB.cell (p:=⟨g,o+i,none⟩) hg).trans (h i hi)
theorem UA.below1 {W W':World} {g o:Nat} {l:List Nat} (h:UA W g o l) {B:Nat} (hB:Below B W W') (hg:1≤l.length→g<B):UA W' g o l:=fun i hi=>(hB.cell (p:=⟨g,o+i,none⟩) (hg (by omega))).trans (h i hi)
theorem UA.only {W W':World} {g o b:Nat} {l:List Nat} (h:UA W g o l) (k:Only b W W') (hb:g≠b):UA W' g o l:=fun i hi=>by
 have e:W'.cell? ⟨g,o+i,none⟩=W.cell? ⟨g,o+i,none⟩:=by
  unfold World.cell?;rw [show W'.heap[(⟨g,o+i,none⟩:Addr).block]? = W.heap[g]? from k.block g hb]
 exact e.trans (h i hi)
theorem UA.drewN {W:World} {g o:Nat} {l:List Nat} (h:UA W g o l) (n:Nat):UA (W.drewN n) g o l:=h
theorem UA.take {W:World} {g o:Nat} {l:List Nat} (h:UA W g o l) (k:Nat):UA W g o (l.take k):=fun i hi=>by
 rw [List.length_take] at hi;have e:(l.take k).getD i 0=l.getD i 0:=by rw [List.getD_eq_getElem?_getD,List.getD_eq_getElem?_getD,List.getElem?_take,if_pos (by omega)]
 rw [e];exact h i (by omega)
theorem UA.drop {W:World} {g o:Nat} {l:List Nat} (h:UA W g o l) (k:Nat):UA W g (o+k) (l.drop k):=fun i hi=>by
 rw [List.length_drop] at hi;have e:(l.drop k).getD i 0=l.getD (k+i) 0:=by rw [List.getD_eq_getElem?_getD,List.getD_eq_getElem?_getD,List.getElem?_drop]
 rw [e,Nat.add_assoc];exact h (k+i) (by omega)
def NA (W:World) (v:Value) (l:List Nat):Prop:=∃ (p:Option Addr) (cap:Nat),v = .slice p l.length cap∧l.length≤cap∧cap≤maxLen∧((p=none∧l = []∧cap=0)∨∃ g o,p=some ⟨g,o,none⟩∧g<W.heap.size∧UA W g o l)
theorem NA.below {W W':World} {v:Value} {l:List Nat} (h:NA W v l) {B:Nat} (hB:Below B W W') (hw:W.heap.size≤B):NA W' v l:=by
 obtain ⟨p,cap,rfl,h1,h2,h3 | ⟨g,o,rfl,hg,hu⟩⟩:=h
 ·exact ⟨p,cap,rfl,h1,h2,.inl h3⟩
 ·exact ⟨_,cap,rfl,h1,h2,.inr ⟨g,o,rfl,by have:=hB.size;omega,hu.below hB (by omega)⟩⟩
theorem NA.open {W:World} {v:Value} {l:List Nat} (h:NA W v l):∃ (p:Option Addr) (cap g o:Nat),v = .slice p l.length cap∧l.length≤cap∧cap≤maxLen∧(1≤l.length→p=some ⟨g,o,none⟩∧g<W.heap.size)∧UA W g o l:=by
 obtain ⟨p,cap,rfl,h1,h2,⟨rfl,rfl,rfl⟩ | ⟨g,o,rfl,hg,hu⟩⟩:=h
 ·exact ⟨none,0,0,0,rfl,Nat.le_refl _,by omega,fun h=>by simp at h,fun i hi=>by simp at hi⟩
 ·exact ⟨_,cap,g,o,rfl,h1,h2,fun _=>⟨rfl,hg⟩,hu⟩
def UR (W:World) (g:Nat) (L:List Nat):Prop:=∃ X,RowAt W g (u32s L++X) 171
theorem UR.u32 {w:World} {b:Nat} {l:List Nat} (h:UR w b l) (i:Nat) (hi:i<l.length):w.cell? ⟨b,i,none⟩=some (.int .u32 ((l.getD i 0:Nat):Int)):=by
 obtain ⟨X,h⟩:=h;refine (h.cell i).trans ?_;rw [Array.getElem?_append_left (by rw [QfY];exact hi)];exact Qpr l i hi
theorem UR.frozen {w:World} {b:Nat} {l:List Nat} (h:UR w b l) (i:Nat):w.frozen? ⟨b,i,none⟩=false:=by
 obtain ⟨X,h⟩:=h;exact RowAt.frozen h i
theorem UR.set32 {w:World} {b:Nat} {l:List Nat} (h:UR w b l) (i x:Nat) (hi:i<l.length):UR (w.setCell ⟨b,i,none⟩ (.int .u32 (x:Int))) b (l.set i x):=by
 obtain ⟨X,h⟩:=h;refine ⟨X, ?_⟩;have:=h.set_same i (.int .u32 (x:Int))
 rwa [Array.setIfInBounds_append_left (by rw [QfY];exact hi),Qps] at this
theorem UR.below {w w':World} {b B:Nat} {l:List Nat} (h:UR w b l) (hB:Below B w w') (hb:b<B):UR w' b l:=by
 obtain ⟨X,h⟩:=h;exact ⟨X,RowAt.below h hB hb⟩
theorem UR.lt {w:World} {b:Nat} {l:List Nat} (h:UR w b l):b<w.heap.size:=by
 obtain ⟨X,h⟩:=h;exact RowAt.lt h
theorem UR.ua {w:World} {b:Nat} {l:List Nat} (h:UR w b l):UA w b 0 l:=fun i hi=>by rw [Nat.zero_add];exact h.u32 i hi
theorem UR.uaSeg {w:World} {b:Nat} {l:List Nat} (h:UR w b l) (o n:Nat):UA w b o ((l.drop o).take n):=by
 have:=(h.ua.drop o).take n;rwa [Nat.zero_add] at this
def OwnU (W:World) (B:Nat) (v:Value) (xs:List Nat):Prop:=W.ownsRow B 171 1 v xs.length (xs.map fun n:Nat=>Value.int .u32 (n:Int))
theorem OwnU.below {W W':World} {B:Nat} {v:Value} {xs:List Nat} (h:OwnU W B v xs) (hb:Below W.heap.size W W'):OwnU W' B v xs:=by
 refine ⟨h.1, ?_⟩;rcases h.2 with hn | ⟨g,cap,cur,e,hg,hgg,rest⟩
 ·exact .inl hn
 ·exact .inr ⟨g,cap,cur,e,hg,by rw [hb.block g (Array.getElem?_eq_some_iff.1 hgg).1];exact hgg,rest⟩
theorem OwnU.nil (W:World) (B:Nat):OwnU W B (.slice none 0 0) []:=World.ownsRow_nil _ _ _ _
theorem OwnU.snoc {W:World} {B:Nat} {v:Value} {xs:List Nat} {x:Nat} (h:W.ownsRow B 171 1 v (xs.length+1) (xs.map (fun n:Nat=>Value.int .u32 (n:Int)) ++ [.int .u32 (x:Int)])):OwnU W B v (xs ++ [x]):=by
 unfold OwnU;rw [List.length_append,List.map_append];exact h
theorem OwnU.open {W:World} {B:Nat} {v:Value} {xs:List Nat} (h:OwnU W B v xs) :
  (v = .slice none 0 0∧xs = [])∨∃ (cap g:Nat),v = .slice (some ⟨g,0,none⟩) xs.length cap∧B≤g∧UR W g xs∧xs.length≤cap∧cap≤maxLen:=by
 rcases h.2 with ⟨hv,hn⟩ | ⟨g,cap,cur,hv,hg,hgg,hle,hm,hsz,htk⟩
 ·exact .inl ⟨hv,List.eq_nil_of_length_eq_zero hn⟩
 ·refine .inr ⟨cap,g,hv,hg,⟨(cur.toList.drop xs.length).toArray, ?_⟩,hle,hm⟩
  have e:u32s xs++(cur.toList.drop xs.length).toArray=cur:=by
   rw [Nat.mul_one] at htk;apply Array.ext';rw [Array.toList_append];show (xs.map _)++_=_;rw [←htk,List.take_append_drop]
  rw [e];exact hgg
theorem OwnU.openS {W:World} {B g n cap:Nat} {xs:List Nat} (h:OwnU W B (.slice (some ⟨g,0,none⟩) n cap) xs):B≤g∧UR W g xs∧n=xs.length∧xs.length≤cap∧cap≤maxLen:=by
 rcases h.open with ⟨h1,_⟩ | ⟨c,g',h1,h2,h3,h4,h5⟩
 ·cases h1
 ·injection h1 with e1 e2 e3;injection e1 with e1;injection e1 with e1;subst e1;subst e3;exact ⟨h2,h3,e2,h4,h5⟩
theorem OwnU.na {W:World} {B:Nat} {v:Value} {xs:List Nat} (h:OwnU W B v xs):NA W v xs:=by
 rcases h.open with ⟨rfl,rfl⟩ | ⟨cap,g,rfl,hg,hu,h1,h2⟩
 ·exact ⟨none,0,rfl,Nat.le_refl _,by omega,.inl ⟨rfl,rfl,rfl⟩⟩
 ·exact ⟨_,cap,rfl,h1,h2,.inr ⟨g,0,rfl,hu.lt,hu.ua⟩⟩
theorem QbT {B:Nat} {w w1 w3:World} {v:Value} {xs:List Nat} (hb:Below B w w1) (hB:B≤w.heap.size) (hO:OwnU w1 B v xs) (hg:w1.grownBy w3 v.ownBlock):Below B w w3 :=
 hb.trans ⟨hg.os,hg.tape,hg.output,hg.size,fun k hk=>hg.block k (Nat.lt_of_lt_of_le (Nat.lt_of_lt_of_le hk hB) hb.size) (fun e=>by
  rcases hO.2 with ⟨rfl,_⟩ | ⟨g,cap,cur,rfl,h1,_⟩
  ·simp [Value.ownBlock] at e
  ·simp [Value.ownBlock] at e;omega)⟩
theorem Qnb:(Tryz.prog.info? 171).map (fun i=>(i.zero,i.size,i.bytes))=some (some (.int .u32 0),1,4):=by kernel_rfl
theorem Qnc (n:Nat):(madeCells (Value.int .u32 0).cells (n*1)).toList=(List.replicate n 0).map fun n:Nat=>Value.int .u32 (n:Int):=by
 rw [Nat.mul_one,List.map_replicate];simp [madeCells,Value.cells];rw [List.eq_replicate_iff];refine ⟨by simp,fun b hb => ?_⟩;simp only [List.mem_map,Nat.mod_one] at hb;obtain ⟨_,_,rfl⟩:=hb;rfl
theorem QfD {w:World} {ops:Array Oper} {rest:List Oper} {o:Oper} {a:Act} {Q:Exit→Act→World→Prop} (hg:o.guard=none) (l c:Operand) (hop:o.op=Op.makeSlice 128 l c)
  (base n:Nat) (hl:a.eval l = .int .i64 (n:Int)) (hc:a.eval c = .int .i64 (n:Int)) (hn:n≤1000000) (hb:base≤w.heap.size)
  (h:∀ w',OwnU w' base (.slice (some ⟨w.heap.size,0,none⟩) n n) (List.replicate n 0)→Below base w w'→wpList Tryz.prog ops Q rest (a.put o.dst (.slice (some ⟨w.heap.size,0,none⟩) n n)) w'):wpList Tryz.prog ops Q (o :: rest) a w:=by
 obtain ⟨i0,hinf,hz0,hz1,hz2⟩:=info_parts Qnb;refine wpList_make_full w hg l c 128 hop base 171 i0 (.int .u32 0) 1 Tryz.underlying128 hinf hz0 hz1 .i64 .i64 (n:Int) (n:Int) n hl hc rfl rfl (by rw [hz2];omega) (by unfold maxLen;omega) hb ?_;intro w' ho hgr;refine h w' ?_ ⟨hgr.os,hgr.tape,hgr.output,hgr.size,fun k hk=>hgr.block k (by omega) (by simp)⟩;unfold OwnU;rw [List.length_replicate,←Qnc];exact ho
theorem UA.cells {W:World} {b o:Nat} {ls:List Nat} (h:UA W b o ls):∀ j u,(ls.map fun n:Nat=>Value.int .u32 (n:Int))[j]? = some u→W.cell? ((⟨b,o,none⟩:Addr).add j)=some u:=by
 intro j u hj;rw [List.getElem?_map] at hj
 have hlt:j<ls.length:=by
  rcases Nat.lt_or_ge j ls.length with h1 | h1
  ·exact h1
  ·rw [List.getElem?_eq_none h1] at hj;cases hj
 rw [List.getElem?_eq_getElem hlt] at hj;cases hj;rw [Addr.add_lit];have:=h j hlt
 rwa [List.getD_eq_getElem?_getD,List.getElem?_eq_getElem hlt] at this
theorem Qnd (ls:List Nat):∀ u∈ls.map (fun n:Nat=>Value.int .u32 (n:Int)),u.oneCell'=true:=by
 intro u hu;simp only [List.mem_map] at hu;obtain ⟨x,_,rfl⟩:=hu;rfl
theorem QlF {w:World} {ops:Array Oper} {rest:List Oper} {o:Oper} {a:Act} {Q:Exit→Act→World→Prop} (hgd:o.guard=none) (s x:Operand)
  (ho:o.op = .call {callee:=.builtin .append,args:=#[s,x],argTypes:=#[128, 128]}) (base:Nat) (v:Value) (xs:List Nat) (hs:a.eval s=v) (hown:OwnU w base v xs)
  (vx:Value) (ys:List Nat) (hx:a.eval x=vx) (hys:NA w vx ys) (hl:xs.length+ys.length≤1000000) (hb:base≤w.heap.size)
  (h:∀ v' w',OwnU w' base v' (xs++ys)→(v ≠ .slice none 0 0→v' ≠ .slice none 0 0)→Below base w w'→wpList Tryz.prog ops Q rest (a.put o.dst v') w'):wpList Tryz.prog ops Q (o :: rest) a w:=by
 obtain ⟨i0,hinf,hz0,hz1,hz2⟩:=info_parts Qnb;obtain ⟨p,cap,rfl,h1,h2,⟨rfl,rfl,rfl⟩ | ⟨g,o,rfl,hg,hu⟩⟩:=hys
 ·exact wpList_append_own_none hgd s x 128 ho base 171 i0 1 Tryz.underlying128 hinf v xs.length _ hs hown hx (h v w (by rw [List.append_nil];exact hown) id (Below.refl _ _))
 ·refine wpList_append_own w hgd s x 128 ho base 171 i0 (.int .u32 0) 1 4 Tryz.underlying128 hinf hz0 hz1 hz2 rfl (by decide) v xs.length _ hs hown ⟨g,o,none⟩ ys.length cap (ys.map fun n:Nat=>Value.int .u32 (n:Int)) hx (by rw [List.length_map,Nat.mul_one]) (UA.cells hu) (Qnd ys) (by unfold maxLen;omega) (by omega) hb ?_;intro v' w' hown' hgrow hnil;refine h v' w' ?_ (fun hv e=>hv (hnil.1 e).1) (QbT (Below.refl _ _) hb hown hgrow);unfold OwnU;rw [List.length_append,List.map_append];exact hown'
end
section
open Go.RowKit Nm
theorem QfZ {l:List Nat} (hd:Dig l) (k:Nat) (hk:k≤l.length) (hz:∀ j,k≤j→l.getD j 0=0) (hl:k=0∨l.getD (k-1) 0≠0):l.take k=natL (nv l):=by
 have h1:=Qdp l k hk hz;rw [←h1];refine Qen _ (hd.take k) ?_;have hlen:(l.take k).length=k:=by rw [List.length_take];omega
 rcases hl with rfl | hl
 ·exact .inl rfl
 ·rcases Nat.eq_zero_or_pos k with rfl | hp
  ·exact .inl rfl
  ·right;rw [hlen];rw [List.getD_eq_getElem?_getD] at hl ⊢
   rwa [List.getElem?_take,if_pos (by omega)]
theorem QdT {l:List Nat} (hd:Dig l):(natL (nv l)).length≤l.length:=Qat (QdC hd)
theorem Qga {l:List Nat} (hd:Dig l):l.take (natL (nv l)).length=natL (nv l):=by
 have h1:=Qdb hd;have h2:=Qdb (Qao (nv l));rw [Qan] at h2;obtain ⟨m,hm⟩:∃ m,l.length=(natL (nv l)).length+m:=⟨l.length-(natL (nv l)).length,by have:=QdT hd;omega⟩;have h3:=QbR (natL (nv l)).length m (nv l) 0 (QaI _);rw [Nat.mul_zero,Nat.add_zero,←hm,h1,h2] at h3;have h4:=congrArg (List.take (natL (nv l)).length) h3;rw [h4,List.take_left' rfl]
theorem QcK (l:List Nat) (p:Option Addr) (cap g o:Nat) (w:World) (hp:1≤l.length→p=some ⟨g,o,none⟩) (hu:UA w g o l) (hd:Dig l) (hl:l.length≤1000000) (hc:l.length≤cap) (hcm:cap≤maxLen) :
  Calls Tryz.prog 191 #[.slice p l.length cap] w fun e w'=>e = .returned (.slice p (natL (nv l)).length cap)∧w'=w:=by
 go_enter Tryz.func191, Tryz.ntmps191;have HU:Shut _:=⟨hu⟩;have HP:Shut _:=⟨hp⟩;have HD:Shut _:=⟨hd⟩;unfold maxLen at hcm;clear hu hp hd;go_wp2
 go_loopw [0] (fun a wr=>∃ k:Nat,k≤l.length∧a = .slice p k cap∧wr=w∧Shut (∀ j,k≤j→l.getD j 0=0)) (fun a _=>match a with | .slice _ k _=>k | _=>0)
 case atStart=>exact ⟨l.length,Nat.le_refl _,rfl,rfl,⟨fun j hj=>by rw [List.getD_eq_getElem?_getD,List.getElem?_eq_none hj];rfl⟩⟩
 case round =>
  obtain ⟨k,hk,rfl,rfl,hz⟩:=hrel;by_cases hk0:k=0
  ·subst hk0;have HF:Shut (l.take 0=natL (nv l)):=⟨QfZ HD.o 0 hk hz.o (.inl rfl)⟩;have HF2:Shut (0=(natL (nv l)).length):=⟨by rw [←HF.o];rfl⟩;go_wp2;go_ret;exact ⟨by rw [←HF2.o];rfl,rfl⟩
  ·obtain rfl:=HP.o (by omega);have hcl:=HU.o (k-1) (by omega);obtain ⟨k,rfl⟩:∃ k',k=k'+1:=⟨k-1,by omega⟩;rw [Nat.add_sub_cancel] at hcl;by_cases hx:l.getD k 0=0
   ·have hz2:Shut (∀ j,k≤j→l.getD j 0=0):=⟨fun j hj=>by
     by_cases e:j=k
     ·rw [e];exact hx
     ·exact hz.o j (by omega)⟩
    rw [hx] at hcl;clear hx hz;go_wp2;exact ⟨⟨k,by omega,rfl,trivial,hz2⟩,Nat.lt_succ_self k⟩
   ·have HF:Shut (k+1=(natL (nv l)).length):=⟨by
     have:=QfZ HD.o (k+1) hk hz.o (.inr (by simpa using hx));rw [←this,List.length_take];omega⟩
    have hxi:((l.getD k 0:Nat):Int)≠0:=by omega
    clear hz;generalize l.getD k 0=x at *
    go_wp2;go_ret;exact ⟨by rw [←HF.o];rfl,rfl⟩
def cmpN (x y:Nat):Int:=if x<y then -1 else if x=y then 0 else 1
theorem QlG (x y:Nat) (w:World) :
  Calls Tryz.prog 193 #[.int .i64 x,.int .i64 y] w fun e w'=>e = .returned (.int .i64 (if x<y then -1 else 1))∧w'=w:=by
 go_enter Tryz.func193, Tryz.ntmps193;by_cases h:x<y
 ·have hi:((x:Int)<(y:Int)):=by omega
  rw [if_pos h];go_wp2;go_ret;exact ⟨rfl,rfl⟩
 ·have hi:¬((x:Int)<(y:Int)):=by omega
  rw [if_neg h];go_wp2;go_ret;exact ⟨rfl,rfl⟩
theorem QlH (x y:Nat) (w:World) :
  Calls Tryz.prog 194 #[.int .u32 x,.int .u32 y] w fun e w'=>e = .returned (.int .i64 (if x<y then -1 else 1))∧w'=w:=by
 go_enter Tryz.func194, Tryz.ntmps194;by_cases h:x<y
 ·have hi:((x:Int)<(y:Int)):=by omega
  rw [if_pos h];go_wp2;go_ret;exact ⟨rfl,rfl⟩
 ·have hi:¬((x:Int)<(y:Int)):=by omega
  rw [if_neg h];go_wp2;go_ret;exact ⟨rfl,rfl⟩
theorem Qgb (x y:Nat) (pa:Option Addr) (ca ga oa:Nat) (pb:Option Addr) (cb gb ob:Nat) (w:World) (hpa:1≤(natL x).length→pa=some ⟨ga,oa,none⟩) (hua:UA w ga oa (natL x)) (hpb:1≤(natL y).length→pb=some ⟨gb,ob,none⟩) (hub:UA w gb ob (natL y))
  (hla:(natL x).length≤1000000) (hlb:(natL y).length≤1000000) :
  Calls Tryz.prog 153 #[.slice pa (natL x).length ca,.slice pb (natL y).length cb] w fun e w'=>e = .returned (.int .i64 (cmpN x y))∧∃ m,w'=w.drewN m:=by
 go_enter Tryz.func153, Tryz.ntmps153;have HA:Shut _:=⟨hua⟩;have HB:Shut _:=⟨hub⟩;have HPa:Shut _:=⟨hpa⟩;have HPb:Shut _:=⟨hpb⟩;clear hua hub hpa hpb;obtain ⟨na,hna⟩:∃ na,na=(natL x).length:=⟨_,rfl⟩;obtain ⟨nb,hnb⟩:∃ nb,nb=(natL y).length:=⟨_,rfl⟩;have HNa:Shut _:=⟨hna⟩;have HNb:Shut _:=⟨hnb⟩;rw [←hna,←hnb];rw [←hna] at hla;rw [←hnb] at hlb;clear hna hnb;by_cases hl:na=nb
 ·subst hl;go_wp2
  go_loopw [5] (fun i5 wr=>∃ k:Nat,k≤na∧i5 = .int .i64 ((k:Int)-1)∧(∃ m,wr=w.drewN m)∧Shut ((natL x).drop k=(natL y).drop k)) (fun i5 _=>(intOf i5+1).toNat)
  case atStart=>exact ⟨na,Nat.le_refl _,rfl,⟨0,rfl⟩,⟨by rw [List.drop_eq_nil_iff.2 (by have:=HNa.o;omega),List.drop_eq_nil_iff.2 (by have:=HNb.o;omega)]⟩⟩
  case round =>
   obtain ⟨k,hk,rfl,⟨m,hw⟩,hd⟩:=hrel;have HW:Shut _:=⟨hw⟩;clear hw;by_cases hk0:k=0
   ·subst hk0
    have hxy:x=y:=by
     have:=hd.o;rw [List.drop_zero,List.drop_zero] at this;rw [←Qan x,this,Qan]
    have HC:Shut (cmpN x y=0):=⟨by rw [cmpN,if_neg (by omega),if_pos hxy]⟩;clear hxy hd;go_wp2;go_ret;exact ⟨by rw [HC.o];rfl,_,HW.o⟩
   ·obtain ⟨k,rfl⟩:∃ k',k=k'+1:=⟨k-1,by omega⟩;have h1:k<(natL x).length:=by rw [←HNa.o];omega
    have h2:k<(natL y).length:=by rw [←HNb.o];omega
    obtain rfl:=HPa.o (by omega);obtain rfl:=HPb.o (by omega);have c1:wr.cell? ⟨ga,oa+k,none⟩=some (.int .u32 (((natL x).getD k 0:Nat):Int)):=by rw [HW.o];exact HA.o k h1
    have c2:wr.cell? ⟨gb,ob+k,none⟩=some (.int .u32 (((natL y).getD k 0:Nat):Int)):=by rw [HW.o];exact HB.o k h2
    have hi:(((k+1:Nat):Int)-1)=(k:Int):=by omega
    rw [hi];have hdx:=(Qao x).getD k;have hdy:=(Qao y).getD k;by_cases he:(natL x).getD k 0=(natL y).getD k 0
    ·have hd2:Shut ((natL x).drop k=(natL y).drop k):=⟨by
      rw [List.drop_eq_getElem_cons h1,List.drop_eq_getElem_cons h2,hd.o];rw [List.getD_eq_getElem?_getD,List.getD_eq_getElem?_getD,List.getElem?_eq_getElem h1,List.getElem?_eq_getElem h2] at he;simp only [Option.getD_some] at he;rw [he]⟩
     rw [←he] at c2;clear he hd h1 h2 hdy;generalize (natL x).getD k 0=d at *
     go_wp2
     go_quiet (fail)
     go_wp2;exact ⟨⟨k,by omega,rfl,⟨_,by rw [HW.o,World.drewN_drewN]⟩,hd2⟩,by simp [intOf]⟩
    ·have hlt:(natL x).getD k 0<(natL y).getD k 0→x<y:=fun h=>by
      have:=QfX (Qao x) (by rw [←HNa.o,←HNb.o]) k h1 h hd.o
      rwa [Qan,Qan] at this
     have hgt:(natL y).getD k 0<(natL x).getD k 0→y<x:=fun h=>by
      have:=QfX (Qao y) (by rw [←HNa.o,←HNb.o]) k h2 h hd.o.symm
      rwa [Qan,Qan] at this
     have HC:Shut (cmpN x y=if (natL x).getD k 0<(natL y).getD k 0 then -1 else 1):=⟨by
      by_cases h:(natL x).getD k 0<(natL y).getD k 0
      ·rw [if_pos h,cmpN,if_pos (hlt h)]
      ·have:=hgt (by omega);rw [if_neg h,cmpN,if_neg (by omega),if_neg (by omega)]⟩
     clear hlt hgt hd h1 h2;generalize (natL x).getD k 0=d at *
     generalize (natL y).getD k 0=e at *
     have hne:((d:Int)≠(e:Int)):=by omega
     have co:=fun w=>QlH d e w;rw [←HC.o] at co;go_wp2
     go_quiet (fail)
     generalize hw2:wr.drewN nq=w2;have HW2:Shut _:=⟨hw2⟩;have c3:w2.cell? ⟨ga,oa+k,none⟩=some (.int .u32 (d:Int)):=by rw [←hw2];exact c1
     have c4:w2.cell? ⟨gb,ob+k,none⟩=some (.int .u32 (e:Int)):=by rw [←hw2];exact c2
     clear c1 c2 hw2;have i1:(0:Int)≤(k:Int):=by omega
     have i2:(k:Int)<(na:Int):=by omega
     go_wp2
     go_region_held3 (fun w'=>w'.cell? ⟨ga,oa+k,none⟩=some (.int .u32 (d:Int))∧w'.cell? ⟨gb,ob+k,none⟩=some (.int .u32 (e:Int))) (go_keep) (first | (go_at_call 194; refine (co _).mono ?_;rintro e w1 ⟨rfl,rfl⟩))
     go_wp2;go_ret;exact ⟨by rfl,_,by rw [←HW2.o,HW.o,World.drewN_drewN,World.drew_drewN]⟩
 ·have hne:((na:Int)≠(nb:Int)):=by omega
  have co:=fun w=>QlG na nb w
  have HC:Shut (cmpN x y=if na<nb then -1 else 1):=⟨by
   have e1:=HNa.o;have e2:=HNb.o;by_cases h:na<nb
   ·rw [if_pos h,cmpN,if_pos (QcJ (by omega))]
   ·have:=QcJ (n:=y) (m:=x) (by omega);rw [if_neg h,cmpN,if_neg (by omega),if_neg (by omega)]⟩
  rw [←HC.o] at co;generalize cmpN x y=cc at *
  go_wp2_with (go_at_call 193; refine (co _).mono ?_;rintro e w1 ⟨rfl,rfl⟩);go_ret;exact ⟨rfl,0,rfl⟩
theorem QlI (l:List Nat) (k:Nat) (hk:k≤l.length):nv (l.drop k)≤nv l:=by
 rw [QaH l k hk];have:1*nv (l.drop k)≤10000^k*nv (l.drop k):=Nat.mul_le_mul_right _ (Nat.pow_pos (by decide));omega
theorem QiA (l:List Nat) (k:Nat) (hk:k<l.length):nv (l.drop k)=l.getD k 0+10000*nv (l.drop (k+1)):=by
 rw [List.drop_eq_getElem_cons hk,nv];simp [List.getD,hk]
theorem Qex (l:List Nat) (p:Option Addr) (cap g o:Nat) (w:World) (hp:1≤l.length→p=some ⟨g,o,none⟩) (hu:UA w g o l) (hd:Dig l) (hl:l.length≤1000000) (hv:nv l<18446744073709551616) :
  Calls Tryz.prog 223 #[.slice p l.length cap] w fun e w'=>e = .returned (.int .u64 (nv l:Nat))∧w'=w:=by
 go_enter Tryz.func223, Tryz.ntmps223;have HU:Shut _:=⟨hu⟩;have HP:Shut _:=⟨hp⟩;have HD:Shut _:=⟨hd⟩;have HV:Shut _:=⟨hv⟩;clear hu hp hd hv;go_wp2
 go_loopw [3,4] (fun x i wr=>∃ k:Nat,k≤l.length∧i = .int .i64 ((k:Int)-1)∧wr=w∧x = .int .u64 (nv (l.drop k):Nat)) (fun _ i _=>(intOf i+1).toNat)
 case atStart=>exact ⟨l.length,Nat.le_refl _,rfl,rfl,by rw [List.drop_eq_nil_iff.2 Lr];rfl⟩
 case round =>
  obtain ⟨k,hk,rfl,rfl,rfl⟩:=hrel;by_cases hk0:k=0
  ·subst hk0;rw [List.drop_zero];have hx:=HV.o;go_wp2;go_ret;exact ⟨rfl,rfl⟩
  ·obtain ⟨k,rfl⟩:∃ k',k=k'+1:=⟨k-1,by omega⟩;obtain rfl:=HP.o (by omega);have hcl:=HU.o k (by omega);have hi:(((k+1:Nat):Int)-1)=(k:Int):=by omega
   rw [hi];have h1:=QiA l k (by omega);have h2:=QlI l k (by omega);have h3:=HV.o;have HE:Shut _:=⟨h1⟩;have hx:10000*nv (l.drop (k+1))+l.getD k 0<18446744073709551616:=by omega
   have hx2:=HD.o.getD k;clear h1 h2 h3;generalize nv (l.drop (k+1))=x at *
   generalize l.getD k 0=d at *
   go_wp2;exact ⟨⟨k,by omega,rfl,trivial,by rw [HE.o];congr 1;omega⟩,by simp [intOf]⟩
theorem QdU (x:Nat) (hx:x<18446744073709551616) (w:World) :
  Calls Tryz.prog 146 #[.int .u64 x] w fun e w'=>∃ v,e = .returned v∧OwnU w' w.heap.size v (natL x)∧Below w.heap.size w w':=by
 go_enter Tryz.func146, Tryz.ntmps146;go_wp2
 go_loopw [0,3] (fun xv v wr=>∃ (l:List Nat) (y:Nat),xv = .int .u64 y∧y<18446744073709551616∧l.length+(natL y).length≤5∧Shut (natL x=l++natL y)∧OwnU wr w.heap.size v l∧Below w.heap.size w wr) (fun xv _ _=>(intOf xv).toNat)
 case atStart=>exact ⟨[],x,rfl,hx,by rw [List.length_nil,Nat.zero_add];exact Qat (by omega),⟨rfl⟩,OwnU.nil _ _,Below.refl _ _⟩
 case round =>
  rename_i v0 _;obtain ⟨l,y,rfl,hy,hlen,hE,hO,hB⟩:=hrel;by_cases hy0:y=0
  ·subst hy0;have HF:Shut (natL x=l):=⟨by rw [hE.o,Qau,List.append_nil]⟩;clear hE;go_wp2;go_ret;exact ⟨_,rfl,by rw [HF.o];exact hO,hB⟩
  ·have hne:=Qbi hy0;have HE:Shut (natL x=(l ++ [y % 10000])++natL (y / 10000)):=⟨by rw [hE.o,hne];simp⟩;have hl5:l.length+1+(natL (y / 10000)).length≤5:=by rw [hne,List.length_cons] at hlen;omega
   obtain ⟨i0,hinf,hz0,hz1,hz2⟩:=info_parts Qnb;clear hE hne hlen;go_wp2_with (first | (at_builtin;go_must (refine wpList_append_own _ rfl _ _ 128 rfl w.heap.size 171 i0 (.int .u32 0) 1 4 Tryz.underlying128 hinf hz0 hz1 hz2 rfl (by decide) _ _ _ rfl (World.ownsRow.alloc hO _) ⟨wr.heap.size,0,none⟩ 1 1 [.int .u32 ((y % 10000:Nat):Int)] rfl rfl (cell_one_new _ _ _) (by simp [Value.oneCell']) (by unfold maxLen;omega) (by omega) (by rw [World.size_alloc];have:=hB.size;omega) ?_);intro v' w' hown' hgrow _;have hB':=QbT (hB.alloc hB.size _) Lr (World.ownsRow.alloc hO _) hgrow));have e1:((y:Int) / 10000)=((y / 10000:Nat):Int):=by omega
   rw [e1];exact ⟨⟨l ++ [y % 10000],y / 10000,rfl,by omega,by rw [List.length_append];exact hl5,HE,OwnU.snoc hown',hB'⟩,by simp [intOf];omega⟩
theorem QcL (l:List Nat) (v:Value) (k:Nat) (w:World) (hv:NA w v l) (hl:l.length+k≤1000000) :
  Calls Tryz.prog 195 #[v,.int .i64 k] w fun e w'=>∃ u,e = .returned u∧OwnU w' w.heap.size u (List.replicate k 0++l)∧u ≠ .slice none 0 0∧Below w.heap.size w w':=by
 go_enter Tryz.func195, Tryz.ntmps195;have HV:Shut _:=⟨hv⟩;have hpow:((k:Int))≤1000000:=by omega
 clear hv;go_wp2_with (first | (at_make;refine QfD rfl _ _ rfl w.heap.size k rfl rfl (by omega) Lr ?_;intro w1 hO1 hB1) | (at_builtin;refine QlF rfl _ _ rfl w.heap.size _ (List.replicate k 0) rfl hO1 v l rfl (HV.o.below hB1 Lr) (by rw [List.length_replicate];omega) hB1.size ?_;intro v2 w2 hO2 hn2 hB2));go_ret;exact ⟨_,rfl,hO2,hn2 (show Value.slice (some ⟨w.heap.size,0,none⟩) k k≠Value.slice none 0 0 by simp),hB1.trans hB2⟩
end
section
namespace Nm
def rowR (L:List Nat) (o i r:Nat):List Nat:=L.take o++padL i r++L.drop (o+i)
theorem QiB (L:List Nat) (o:Nat):rowR L o 0 0=L:=by simp [rowR,padL]
theorem QdV (L:List Nat) (o i r:Nat) (h:o+i≤L.length):(rowR L o i r).length=L.length:=by simp [rowR,Qaq];omega
theorem Qkt (L:List Nat) (o i r:Nat) (h:o+i<L.length):(rowR L o i r).getD (o+i) 0=L.getD (o+i) 0:=by
 have hl:(L.take o++padL i r).length=o+i:=by simp [Qaq];omega
 simp only [rowR,List.getD_eq_getElem?_getD];rw [List.getElem?_append_right (by omega),hl,Nat.sub_self,List.getElem?_drop,Nat.add_zero]
theorem QfE (L:List Nat) (o i r d:Nat) (h:o+i<L.length) (hr:r<10000^i) (hd:d<10000):(rowR L o i r).set (o+i) d=rowR L o (i+1) (r+10000^i*d):=by
 have hl:(L.take o++padL i r).length=o+i:=by simp [Qaq];omega
 rw [rowR,List.set_append_right _ _ (by omega),hl,Nat.sub_self,List.drop_eq_getElem_cons h,List.set_cons_zero,rowR,Qew i r d hr hd,←Nat.add_assoc];simp only [List.append_assoc,List.cons_append,List.nil_append]
theorem Qne (L:List Nat) (o n i:Nat) (h:i<n):((L.drop o).take n).getD i 0=L.getD (o+i) 0:=by
 simp only [List.getD_eq_getElem?_getD];rw [List.getElem?_take,if_pos h,List.getElem?_drop]
theorem Qfb (L:List Nat) (o n:Nat) (h:o+n≤L.length):((L.drop o).take n).length=n:=by simp;omega
theorem Qku {L:List Nat} (hd:Dig L) (o n i r:Nat) (hi:i≤n) (h:o+n≤L.length) (hr:r<10000^i):rowR L o i r=rowR L o n (r+10000^i*nv (((L.drop o).take n).drop i)):=by
 have hs:(((L.drop o).take n).drop i).length=n-i:=by rw [List.length_drop,Qfb L o n h]
 have e:=QbR i (n-i) r (nv (((L.drop o).take n).drop i)) hr;rw [show i+(n-i)=n by omega] at e
 have e2:padL (n-i) (nv (((L.drop o).take n).drop i))=((L.drop o).take n).drop i:=by
  have:=Qdb ((((hd.drop o).take n)).drop i);rwa [hs] at this
 rw [rowR,rowR,e,e2]
 have e3:L.drop (o+i)=((L.drop o).take n).drop i++L.drop (o+n):=by
  rw [List.drop_take,List.drop_drop]
  conv=>lhs;rw [←List.take_append_drop (n-i) (L.drop (o+i))]
  rw [List.drop_drop,show o+i+(n-i)=o+n by omega]
 rw [e3];simp only [List.append_assoc]
theorem Qkv (L:List Nat) (o n r:Nat) (h:o+n≤L.length):((rowR L o n r).drop o).take n=padL n r:=by
 have hl:(L.take o).length=o:=by simp;omega
 rw [rowR,List.append_assoc,List.drop_append_of_le_length (by omega)];rw [show (L.take o).drop o = [] by rw [List.drop_eq_nil_iff];omega,List.nil_append,List.take_append_of_le_length (by rw [Qaq];exact Nat.le_refl _),List.take_of_length_le (by rw [Qaq];exact Nat.le_refl _)]
theorem Qnf {L t:List Nat} (o n i r c f x:Nat) (h:i<n) (hon:o+n≤L.length)
  (he:nv (((L.drop o).take n).take i)+nv (t.take i)*f=r+10000^i*c)
  (hx:x=c+(if i<t.length then t.getD i 0*f else 0)+L.getD (o+i) 0) :
  nv (((L.drop o).take n).take (i+1))+nv (t.take (i+1))*f=(r+10000^i*(x % 10000))+10000^(i+1)*(x / 10000):=by
 have hs:=Qfb L o n hon;rw [QaO _ i (by omega),Qne L o n i h];have hm:x=x % 10000+10000*(x / 10000):=by omega
 generalize x % 10000=d at *
 generalize x / 10000=c' at *
 have hP:10000^(i+1)=10000^i*10000:=Nat.pow_succ ..;rw [hP];generalize 10000^i=P at *
 by_cases ht:i<t.length
 ·rw [if_pos ht] at hx;rw [QaO t i ht]
  grind
 ·rw [if_neg ht] at hx;rw [List.take_of_length_le (show t.length≤i+1 by omega)];rw [List.take_of_length_le (show t.length≤i by omega)] at he
  grind
theorem QlJ {L t:List Nat} (o n i r c f x c' d:Nat) (h:i<n) (hon:o+n≤L.length)
  (he:nv (((L.drop o).take n).take i)+10000^i*c=r+nv (t.take i)*f)
  (hx:x=c+(if i<t.length then t.getD i 0*f else 0))
  (hd:L.getD (o+i) 0+10000*c'=x+d) :
  nv (((L.drop o).take n).take (i+1))+10000^(i+1)*c'=(r+10000^i*d)+nv (t.take (i+1))*f:=by
 have hs:=Qfb L o n hon;rw [QaO _ i (by omega),Qne L o n i h];have hP:10000^(i+1)=10000^i*10000:=Nat.pow_succ ..;rw [hP];generalize 10000^i=P at *
 by_cases ht:i<t.length
 ·rw [if_pos ht] at hx;rw [QaO t i ht]
  grind
 ·rw [if_neg ht] at hx;rw [List.take_of_length_le (show t.length≤i+1 by omega)];rw [List.take_of_length_le (show t.length≤i by omega)] at he
  grind
theorem Qng {L t:List Nat} (hL:Dig L) (ht:Dig t) (o n i r c f:Nat) (h:i≤n) (hon:o+n≤L.length) (hf:f≤10000)
  (he:nv (((L.drop o).take n).take i)+nv (t.take i)*f=r+10000^i*c):c≤10000:=by
 have h1:=QdC (((hL.drop o).take n).take i);rw [List.length_take,Qfb L o n hon,Nat.min_eq_left h] at h1;have h2:=QdC (ht.take i);have h2':nv (t.take i)<10000^i:=Nat.lt_of_lt_of_le h2 (Nat.pow_le_pow_right (by decide) (by rw [List.length_take];omega));have h3:nv (t.take i)*f≤nv (t.take i)*10000:=Nat.mul_le_mul_left _ hf;rcases Nat.lt_or_ge c 10001 with h4 | h4
 ·omega
 ·have h5:10000^i*10001≤10000^i*c:=Nat.mul_le_mul_left _ h4;omega
theorem QlK {L t:List Nat} (ht:Dig t) (o n i r c f:Nat) (hf:f<10000) (hr:r<10000^i)
  (he:nv (((L.drop o).take n).take i)+10000^i*c=r+nv (t.take i)*f):c<10000:=by
 have h2:=QdC (ht.take i);have h2':nv (t.take i)<10000^i:=Nat.lt_of_lt_of_le h2 (Nat.pow_le_pow_right (by decide) (by rw [List.length_take];omega));have h3:nv (t.take i)*f≤10000^i*9999:=Nat.mul_le_mul (by omega) (by omega);rcases Nat.lt_or_ge c 10000 with h4 | h4
 ·exact h4
 ·have h5:10000^i*10000≤10000^i*c:=Nat.mul_le_mul_left _ h4;omega
theorem Qrb (i r d:Nat) (hr:r<10000^i) (hd:d<10000):r+10000^i*d<10000^(i+1):=by
 rw [Nat.pow_succ];have:10000^i*d≤10000^i*9999:=Nat.mul_le_mul_left _ (by omega);omega
end Nm
end
section
open Go.RowKit Nm
theorem Qnh (g o n cap:Nat) (L:List Nat) (p':Option Addr) (g' o' cap':Nat) (t:List Nat) (f:Nat) (w:World)
  (hL:UR w g (L)) (hon:o+n≤L.length) (hg:1≤t.length→g'≠g) (hu:UA w g' o' t) (hp:1≤t.length→p'=some ⟨g',o',none⟩) (htn:t.length≤n) (hn:n≤1000000) (hdL:Dig L) (hdt:Dig t) (hf:f≤10000)
  (hroom:nv ((L.drop o).take n)+nv t*f<10000^n) :
  Calls Tryz.prog 190 #[.slice (some ⟨g,o,none⟩) n cap,.slice p' t.length cap',.int .u32 f] w fun e w'=>e = .returned (.tuple #[])∧Only g w w'∧UR w' g ((rowR L o n (nv ((L.drop o).take n)+nv t*f))):=by
 go_enter Tryz.func190, Tryz.ntmps190;have HL:Shut _:=⟨hL⟩;have HU:Shut _:=⟨hu⟩;have HP:Shut _:=⟨hp⟩;have HR:Shut _:=⟨hroom⟩;have HD:Shut _:=⟨And.intro hdL hdt⟩;clear hL hu hp hroom hdL hdt;obtain ⟨tn,htl⟩:∃ tn,tn=t.length:=⟨_,rfl⟩;have HTL:Shut _:=⟨htl⟩;have htn':tn≤n:=by omega
 rw [←htl];clear htl htn;go_wp2
 go_loopw [6,7] (fun cv iv wr=>∃ (i c r:Nat),i≤n∧c≤10000∧cv = .int .u32 c∧iv = .int .i64 i∧Shut (Only g w wr)∧Shut (UR wr g ((rowR L o i r)))∧Shut (r<10000^i∧nv (((L.drop o).take n).take i)+nv (t.take i)*f=r+10000^i*c)) (fun _ iv _=>n-(intOf iv).toNat)
 case atStart=>exact ⟨0,0,0,by omega,by omega,rfl,rfl,⟨Only.refl _ _⟩,⟨by rw [QiB];exact HL.o⟩,⟨by decide,by simp [nv]⟩⟩
 case round =>
  obtain ⟨i,c,r,hin,hc,rfl,rfl,hO,hR,hE⟩:=hrel
  have hcell:i<n→wr.cell? ⟨g,o+i,none⟩=some (.int .u32 ((L.getD (o+i) 0:Nat):Int)):=fun h=>by
   have:=hR.o.u32 (o+i) (by rw [QdV L o i r (by omega)];omega)
   rwa [Qkt L o i r (by omega)] at this
  have hfr:=hR.o.frozen (o+i);have hs:L.getD (o+i) 0<10000:=HD.o.1.getD _
  have HS:Shut (∀ x:Nat,i<n→x=c+(if i<t.length then t.getD i 0*f else 0)+L.getD (o+i) 0→Only g w (wr.setCell ⟨g,o+i,none⟩ (.int .u32 ((x % 10000:Nat):Int)))∧UR (wr.setCell ⟨g,o+i,none⟩ (.int .u32 ((x % 10000:Nat):Int))) g ((rowR L o (i+1) (r+10000^i*(x % 10000))))∧r+10000^i*(x % 10000)<10000^(i+1)∧nv (((L.drop o).take n).take (i+1))+nv (t.take (i+1))*f=(r+10000^i*(x % 10000))+10000^(i+1)*(x / 10000)∧x / 10000≤10000):=⟨fun x hi hx=>by
   have h1:=Qnf o n i r c f x hi hon hE.o.2 hx;refine ⟨hO.o.setCell _ _, ?_,Qrb i r _ hE.o.1 (by omega),h1,Qng HD.o.1 HD.o.2 o n (i+1) _ _ f (by omega) hon hf h1⟩;have h2:=hR.o.set32 (o+i) (x % 10000) (by rw [QdV L o i r (by omega)];omega)
   rwa [QfE L o i r _ (by omega) hE.o.1 (by omega)] at h2⟩
  by_cases hit:i<tn
  ·have hin2:i<n:=by omega
   have ht1:i<t.length:=by have:=HTL.o;omega
   obtain rfl:=HP.o (by omega);have hct:=HU.o.only hO.o (hg (by omega)) i ht1;have hti:t.getD i 0<10000:=HD.o.2.getD _;have hc2:=hcell hin2;have HS2:=HS.o;rw [if_pos ht1] at HS2;have hS3:=HS2 _ hin2 rfl;have HS3:Shut _:=⟨hS3⟩;clear hcell HS HS2 hS3 hE hR hO ht1;generalize t.getD i 0=ti at *
   generalize L.getD (o+i) 0=s at *
   have hm:ti*f≤9999*10000:=Nat.mul_le_mul (by omega) (by omega);obtain ⟨m,hmm⟩:∃ m,m=ti*f:=⟨_,rfl⟩;have hmi:((ti:Int)*(f:Int))=(m:Int):=by rw [hmm,Int.natCast_mul]
   rw [←hmm] at HS3 hm;clear hmm;go_wp2;have e1:(((c:Int)+m+s) % 10000)=(((c+m+s) % 10000:Nat):Int):=by omega
   have e2:(((c:Int)+m+s) / 10000)=(((c+m+s) / 10000:Nat):Int):=by omega
   rw [e1,e2];obtain ⟨k1,k2,k3,k4,k5⟩:=HS3.o;exact ⟨⟨i+1,_,_,by omega,k5,rfl,by go_num,⟨k1⟩,⟨k2⟩,⟨k3,k4⟩⟩,by simp [intOf];omega⟩
  ·have ht1:¬ i<t.length:=by have:=HTL.o;omega
   by_cases hc0:0<c
   ·have hin2:i<n:=by
     rcases Nat.lt_or_ge i n with h | h
     ·exact h
     ·exfalso;obtain rfl:i=n:=by omega
      have h1:=hE.o.2;have h2:=HR.o;rw [List.take_of_length_le (show t.length≤i by omega),List.take_of_length_le (show ((L.drop o).take i).length≤i by rw [List.length_take];omega)] at h1;have:10000^i*1≤10000^i*c:=Nat.mul_le_mul_left _ hc0;omega
    have hc2:=hcell hin2;have HS2:=HS.o;rw [if_neg ht1,Nat.add_zero] at HS2;have hS3:=HS2 _ hin2 rfl;have HS3:Shut _:=⟨hS3⟩;clear hcell HS HS2 hS3 hE hR hO ht1;generalize L.getD (o+i) 0=s at *
    go_wp2;have e1:(((c:Int)+s) % 10000)=(((c+s) % 10000:Nat):Int):=by omega
    have e2:(((c:Int)+s) / 10000)=(((c+s) / 10000:Nat):Int):=by omega
    rw [e1,e2];obtain ⟨k1,k2,k3,k4,k5⟩:=HS3.o;exact ⟨⟨i+1,_,_,by omega,k5,rfl,by go_num,⟨k1⟩,⟨k2⟩,⟨k3,k4⟩⟩,by simp [intOf];omega⟩
   ·obtain rfl:c=0:=by omega
    have HF:Shut (rowR L o i r=rowR L o n (nv ((L.drop o).take n)+nv t*f)):=⟨by
     rw [Qku HD.o.1 o n i r hin hon hE.o.1];have h1:=hE.o.2;rw [List.take_of_length_le (show t.length≤i by omega),Nat.mul_zero,Nat.add_zero] at h1;have h2:=QaH ((L.drop o).take n) i (by rw [Qfb L o n hon];exact hin);congr 1;omega⟩
    clear HS hcell hE ht1;go_wp2
    go_end0
    exact ⟨rfl,hO.o,by rw [←HF.o];exact hR.o⟩
theorem Qkw (g o n cap:Nat) (L:List Nat) (p':Option Addr) (g' o' cap':Nat) (t:List Nat) (f:Nat) (w:World)
  (hL:UR w g (L)) (hon:o+n≤L.length) (hg:1≤t.length→g'≠g) (hu:UA w g' o' t) (hp:1≤t.length→p'=some ⟨g',o',none⟩) (htn:t.length≤n) (hn:n≤1000000) (hdL:Dig L) (hdt:Dig t) (hf:f<10000)
  (hroom:nv t*f≤nv ((L.drop o).take n)) :
  Calls Tryz.prog 197 #[.slice (some ⟨g,o,none⟩) n cap,.slice p' t.length cap',.int .u32 f] w fun e w'=>e = .returned (.tuple #[])∧Only g w w'∧UR w' g ((rowR L o n (nv ((L.drop o).take n)-nv t*f))):=by
 go_enter Tryz.func197, Tryz.ntmps197;have HL:Shut _:=⟨hL⟩;have HU:Shut _:=⟨hu⟩;have HP:Shut _:=⟨hp⟩;have HR:Shut _:=⟨hroom⟩;have HD:Shut _:=⟨And.intro hdL hdt⟩;clear hL hu hp hroom hdL hdt;obtain ⟨tn,htl⟩:∃ tn,tn=t.length:=⟨_,rfl⟩;have HTL:Shut _:=⟨htl⟩;have htn':tn≤n:=by omega
 rw [←htl];clear htl htn;go_wp2
 go_loopw [6,7] (fun cv iv wr=>∃ (i c r:Nat),i≤n∧c<10000∧cv = .int .u32 c∧iv = .int .i64 i∧Shut (Only g w wr)∧Shut (UR wr g ((rowR L o i r)))∧Shut (r<10000^i∧nv (((L.drop o).take n).take i)+10000^i*c=r+nv (t.take i)*f)) (fun _ iv _=>n-(intOf iv).toNat)
 case atStart=>exact ⟨0,0,0,by omega,by omega,rfl,rfl,⟨Only.refl _ _⟩,⟨by rw [QiB];exact HL.o⟩,⟨by decide,by simp [nv]⟩⟩
 case round =>
  obtain ⟨i,c,r,hin,hc,rfl,rfl,hO,hR,hE⟩:=hrel
  have hcell:i<n→wr.cell? ⟨g,o+i,none⟩=some (.int .u32 ((L.getD (o+i) 0:Nat):Int)):=fun h=>by
   have:=hR.o.u32 (o+i) (by rw [QdV L o i r (by omega)];omega)
   rwa [Qkt L o i r (by omega)] at this
  have hfr:=hR.o.frozen (o+i);have hs:L.getD (o+i) 0<10000:=HD.o.1.getD _
  have HS:Shut (∀ x c' d:Nat,i<n→x=c+(if i<t.length then t.getD i 0*f else 0)→L.getD (o+i) 0+10000*c'=x+d→d<10000→UR (wr.setCell ⟨g,o+i,none⟩ (.int .u32 (d:Int))) g ((rowR L o (i+1) (r+10000^i*d)))∧r+10000^i*d<10000^(i+1)∧nv (((L.drop o).take n).take (i+1))+10000^(i+1)*c'=(r+10000^i*d)+nv (t.take (i+1))*f∧c'<10000):=⟨fun x c' d hi hx he hd=>by
   have h1:=QlJ o n i r c f x c' d hi hon hE.o.2 hx he;have h3:=Qrb i r d hE.o.1 hd;refine ⟨?_,h3,h1,QlK HD.o.2 o n (i+1) _ _ f hf h3 h1⟩;have h2:=hR.o.set32 (o+i) d (by rw [QdV L o i r (by omega)];omega)
   rwa [QfE L o i r _ (by omega) hE.o.1 hd] at h2⟩
  have HS9:Shut (∀ a d:Nat,i<n→UR ((wr.setCell ⟨g,o+i,none⟩ (.int .u32 (a:Int))).setCell ⟨g,o+i,none⟩ (.int .u32 (d:Int))) g (((rowR L o i r).set (o+i) d))):=⟨fun a d hi=>by
   have h2:=(hR.o.set32 (o+i) a (by rw [QdV L o i r (by omega)];omega)).set32 (o+i) d (by rw [List.length_set,QdV L o i r (by omega)];omega)
   rwa [List.set_set] at h2⟩
  by_cases hit:i<tn
  ·have hin2:i<n:=by omega
   have ht1:i<t.length:=by have:=HTL.o;omega
   obtain rfl:=HP.o (by omega);have hct:=HU.o.only hO.o (hg (by omega)) i ht1;have hti:t.getD i 0<10000:=HD.o.2.getD _;have hc2:=hcell hin2;have HS2:=HS.o;rw [if_pos ht1] at HS2;have HS3:Shut _:=⟨HS2⟩;clear hcell HS HS2 ht1;generalize t.getD i 0=ti at *
   generalize L.getD (o+i) 0=s at *
   have hm:ti*f≤9999*9999:=Nat.mul_le_mul (by omega) (by omega);obtain ⟨m,hmm⟩:∃ m,m=ti*f:=⟨_,rfl⟩;have hmi:((ti:Int)*(f:Int))=(m:Int):=by rw [hmm,Int.natCast_mul]
   rw [←hmm] at HS3 hm;clear hmm;by_cases hsg:s<(c+m) % 10000
   ·go_wp2;have e1:((s:Int)+10000-((c:Int)+m) % 10000)=((s+10000-(c+m) % 10000:Nat):Int):=by omega
    have e2:(((c:Int)+m) / 10000+1)=(((c+m) / 10000+1:Nat):Int):=by omega
    obtain ⟨k2,k3,k4,k5⟩:=HS3.o (c+m) ((c+m) / 10000+1) (s+10000-(c+m) % 10000) hin2 rfl (by omega) (by omega);rw [e1,e2];have k6:=HS9.o (s+10000) (s+10000-(c+m) % 10000) hin2;rw [QfE L o i r _ (by omega) hE.o.1 (by omega)] at k6;have e3:((s:Int)+10000)=((s+10000:Nat):Int):=by omega
    rw [e3];exact ⟨⟨i+1,_,_,by omega,k5,rfl,by go_num,⟨(hO.o.setCell _ _).setCell _ _⟩,⟨k6⟩,⟨k3,k4⟩⟩,by simp [intOf];omega⟩
   ·go_wp2;have e1:((s:Int)-((c:Int)+m) % 10000)=((s-(c+m) % 10000:Nat):Int):=by omega
    have e2:(((c:Int)+m) / 10000)=(((c+m) / 10000:Nat):Int):=by omega
    obtain ⟨k2,k3,k4,k5⟩:=HS3.o (c+m) ((c+m) / 10000) (s-(c+m) % 10000) hin2 rfl (by omega) (by omega);rw [e1,e2];exact ⟨⟨i+1,_,_,by omega,k5,rfl,by go_num,⟨hO.o.setCell _ _⟩,⟨k2⟩,⟨k3,k4⟩⟩,by simp [intOf];omega⟩
  ·have ht1:¬ i<t.length:=by have:=HTL.o;omega
   by_cases hc0:0<c
   ·have hin2:i<n:=by
     rcases Nat.lt_or_ge i n with h | h
     ·exact h
     ·exfalso;obtain rfl:i=n:=by omega
      have h1:=hE.o.2;have h2:=HR.o;have h3:=hE.o.1;rw [List.take_of_length_le (show t.length≤i by omega),List.take_of_length_le (show ((L.drop o).take i).length≤i by rw [List.length_take];omega)] at h1;have:10000^i*1≤10000^i*c:=Nat.mul_le_mul_left _ hc0;omega
    have hc2:=hcell hin2;have HS2:=HS.o;rw [if_neg ht1,Nat.add_zero] at HS2;have HS3:Shut _:=⟨HS2⟩;clear hcell HS HS2 ht1;generalize L.getD (o+i) 0=s at *
    by_cases hsg:s<c % 10000
    ·go_wp2;have e1:((s:Int)+10000-((c:Int)) % 10000)=((s+10000-(c) % 10000:Nat):Int):=by omega
     have e2:(((c:Int)) / 10000+1)=(((c) / 10000+1:Nat):Int):=by omega
     obtain ⟨k2,k3,k4,k5⟩:=HS3.o (c) ((c) / 10000+1) (s+10000-(c) % 10000) hin2 rfl (by omega) (by omega);rw [e1,e2];have k6:=HS9.o (s+10000) (s+10000-(c) % 10000) hin2;rw [QfE L o i r _ (by omega) hE.o.1 (by omega)] at k6;have e3:((s:Int)+10000)=((s+10000:Nat):Int):=by omega
     rw [e3];exact ⟨⟨i+1,_,_,by omega,k5,rfl,by go_num,⟨(hO.o.setCell _ _).setCell _ _⟩,⟨k6⟩,⟨k3,k4⟩⟩,by simp [intOf];omega⟩
    ·go_wp2;have e1:((s:Int)-((c:Int)) % 10000)=((s-(c) % 10000:Nat):Int):=by omega
     have e2:(((c:Int)) / 10000)=(((c) / 10000:Nat):Int):=by omega
     obtain ⟨k2,k3,k4,k5⟩:=HS3.o (c) ((c) / 10000) (s-(c) % 10000) hin2 rfl (by omega) (by omega);rw [e1,e2];exact ⟨⟨i+1,_,_,by omega,k5,rfl,by go_num,⟨hO.o.setCell _ _⟩,⟨k2⟩,⟨k3,k4⟩⟩,by simp [intOf];omega⟩
   ·obtain rfl:c=0:=by omega
    have HF:Shut (rowR L o i r=rowR L o n (nv ((L.drop o).take n)-nv t*f)):=⟨by
     rw [Qku HD.o.1 o n i r hin hon hE.o.1];have h1:=hE.o.2;rw [List.take_of_length_le (show t.length≤i by omega),Nat.mul_zero,Nat.add_zero] at h1;have h2:=QaH ((L.drop o).take n) i (by rw [Qfb L o n hon];exact hin);congr 1;omega⟩
    clear HS HS9 hcell hE ht1;go_wp2
    go_end0
    exact ⟨rfl,hO.o,by rw [←HF.o];exact hR.o⟩
theorem QtT:(Tryz.prog.info? 171).map (·.size)=some 1:=by kernel_rfl
theorem Qpt {w:World} {ops:Array Oper} {rest:List Oper} {o:Oper} {a:Act} {Q:Exit→Act→World→Prop} (hgd:o.guard=none) (d s:Operand)
  (ho:o.op = .call {callee:=.builtin .copy,args:=#[d,s],argTypes:=#[128, 128]}) (g dLen dCap:Nat) (hd:a.eval d = .slice (some ⟨g,0,none⟩) dLen dCap) (L:List Nat) (hL:UR w g L) (hdl:dLen≤L.length)
  (vx:Value) (ys:List Nat) (hx:a.eval s=vx) (hys:NA w vx ys) (hle:ys.length≤dLen) (B:Nat) (w0:World) (hb:Below B w0 w) (hBg:B≤g)
  (h:∀ w',UR w' g (ys++L.drop ys.length)→Below B w0 w'→wpList Tryz.prog ops Q rest (a.put o.dst (goInt ys.length)) w'):wpList Tryz.prog ops Q (o :: rest) a w:=by
 obtain ⟨X,hX⟩:=hL;have hlen:(ys.map fun n:Nat=>Value.int .u32 (n:Int)).length=ys.length:=List.length_map _;obtain ⟨p,cap,rfl,h1,h2,h3⟩:=hys
 have key:=@wpList_copy_splice Tryz.prog w ops rest o a Q hgd d s 128 128 ho 171 Tryz.underlying128 QtT (some ⟨g,0,none⟩) p dLen dCap ys.length cap hd hx g 0 (u32s L++X).toList 171 (by rw [Array.toArray_toList];exact hX) (ys.map fun n:Nat=>Value.int .u32 (n:Int)) (by rw [hlen];exact (Nat.min_eq_left hle).symm) (fun hp=>by
   rw [hlen] at hp;refine ⟨rfl, ?_⟩;rcases h3 with ⟨_,e,_⟩ | ⟨g',o',rfl,hg',hu⟩
   ·rw [e] at hp;simp at hp
   ·exact ⟨_,rfl,UA.cells hu⟩) (by rw [hlen];simp [QfY];omega) (Qnd ys) B w0 hb hBg (fun w' hrow hB => ?_)
 ·exact key
 ·rw [hlen];refine h w' ⟨X, ?_⟩ hB;have hr:=hrow.out
  have e:(splice (u32s L++X).toList 0 (ys.map fun n:Nat=>Value.int .u32 (n:Int))).toArray=u32s (ys++L.drop ys.length)++X:=by
   apply Array.ext';simp only [splice,hlen,Nat.zero_add,List.take_zero,List.nil_append,Array.toList_append,u32s,List.map_append,List.map_drop];rw [List.drop_append_of_le_length (by rw [List.length_map];omega),List.append_assoc]
  rw [e] at hr;exact hr
theorem QhM {W:World} {g o cap:Nat} {l:List Nat} (hd:Dig l) (hu:UA W g o l) (hg:g<W.heap.size) (hc:l.length≤cap) (hm:cap≤maxLen):NA W (.slice (some ⟨g,o,none⟩) (natL (nv l)).length cap) (natL (nv l)):=by
 refine ⟨_,cap,rfl,Nat.le_trans (QdT hd) hc,hm,.inr ⟨g,o,rfl,hg, ?_⟩⟩;have:=hu.take (natL (nv l)).length
 rwa [Qga hd] at this
theorem QrR {la lb:Nat} {x y:Nat} (hx:x<10000^la) (hy:y<10000^lb):x+y<10000^(max la lb+1):=by
 have h1:10000^la≤10000^(max la lb):=Nat.pow_le_pow_right (by decide) (Nat.le_max_left _ _);have h2:10000^lb≤10000^(max la lb):=Nat.pow_le_pow_right (by decide) (Nat.le_max_right _ _);rw [Nat.pow_succ];omega
theorem Qey (x y:Nat) (va vb:Value) (w:World) (ha:NA w va (natL x)) (hb:NA w vb (natL y)) (hla:(natL x).length≤1000) (hlb:(natL y).length≤1000) :
  Calls Tryz.prog 155 #[va,vb] w fun e w'=>∃ v,e = .returned v∧NA w' v (natL (x+y))∧Below w.heap.size w w':=by
 obtain ⟨pb,cb,gb,ob,rfl,hlb2,hcb,hpb,hub⟩:=hb.open;obtain ⟨pa,ca,ga,oa,rfl,hla2,hca,hpa,hua⟩:=ha.open;go_enter Tryz.func155, Tryz.ntmps155;obtain ⟨n,hn⟩:∃ n,n=max (natL x).length (natL y).length+1:=⟨_,rfl⟩;have hx:=QaI x;have hy:=QaI y;have hroom:x+y<10000^n:=by rw [hn];exact QrR hx hy
 have HX:Shut _:=⟨hroom⟩;have HA:Shut _:=⟨ha⟩;have HB:Shut _:=⟨And.intro hub hpb⟩;obtain ⟨k,rfl⟩:∃ k,n=k+1:=⟨n-1,by omega⟩;have hmax:max (((natL x).length:Nat):Int) (((natL y).length:Nat):Int)=(k:Int):=by omega
 have hmax2:(if (natL x).length<(natL y).length then (((natL y).length:Nat):Int) else (((natL x).length:Nat):Int))=(k:Int):=by split <;> omega
 have HN1:Shut (((k:Int)+1)=((k+1:Nat):Int)):=⟨by omega⟩;have hnb:k≤1000:=by omega
 have hnl:(natL x).length≤k+1∧(natL y).length≤k+1:=by omega
 have HN:Shut _:=⟨hnl⟩;clear hx hy hroom ha hub hpb hua hpa hn hnl;obtain ⟨L,hLe⟩:∃ L,L=natL x++(List.replicate (k+1) 0).drop (natL x).length:=⟨_,rfl⟩;have hLl:L.length=k+1:=by rw [hLe];simp;omega
 have hLd:Dig L:=by rw [hLe];exact (Qao x).append ((Qna _).drop _)
 have hLv:nv L=x:=by
  rw [hLe,QcI,Qan,List.drop_replicate,Qra];omega
 have hseg:(L.drop 0).take (k+1)=L:=by rw [List.drop_zero,List.take_of_length_le (by omega)]
 have hpv:nv (padL (k+1) (x+y))=x+y:=QbZ _ _ HX.o;have hrs:((rowR L 0 (k+1) (x+y)).drop 0).take (k+1)=padL (k+1) (x+y):=Qkv L 0 (k+1) (x+y) (by omega)
 have cA:∀ (W:World) (g9 c9:Nat),UR W g9 L→(1≤(natL y).length→gb≠g9)→UA W gb ob (natL y)→Calls Tryz.prog 190 #[.slice (some ⟨g9,0,none⟩) (k+1) c9,.slice pb (natL y).length cb,.int .u32 1] W fun e w'=>e = .returned (.tuple #[])∧Only g9 W w'∧UR w' g9 (rowR L 0 (k+1) (x+y)):=fun W g9 c9 h1 h2 h3=>by
  have:=Qnh g9 0 (k+1) c9 L pb gb ob cb (natL y) 1 W h1 (by omega) h2 h3 (fun h=>(HB.o.2 h).1) HN.o.2 (by omega) hLd (Qao y) (by decide) (by rw [hseg,hLv,Qan,Nat.mul_one];exact HX.o);rw [hseg,hLv,Qan,Nat.mul_one] at this;exact this
 have cT:∀ (W:World) (g9 c9:Nat),UR W g9 (rowR L 0 (k+1) (x+y))→k+1≤c9→c9≤maxLen→Calls Tryz.prog 191 #[.slice (some ⟨g9,0,none⟩) (k+1) c9] W fun e w'=>(∃ v,e = .returned v∧NA w' v (natL (x+y)))∧w'=W:=fun W g9 c9 h1 h2 h3=>by
  have hu:=h1.uaSeg 0 (k+1);rw [hrs] at hu;have hl:=Qaq (k+1) (x+y);have:=QcK (padL (k+1) (x+y)) (some ⟨g9,0,none⟩) c9 g9 0 W (fun _=>rfl) hu (Qbl _ _) (by omega) (by omega) h3;rw [hl] at this;refine this.mono ?_;rintro e w' ⟨rfl,rfl⟩;refine ⟨⟨_,rfl, ?_⟩,rfl⟩;have h4:=QhM (Qbl (k+1) (x+y)) hu h1.lt (by omega) h3
  rwa [hpv] at h4 ⊢
 have HLE:Shut _:=⟨hLe⟩;have HCA:Shut _:=⟨cA⟩;have HCT:Shut _:=⟨cT⟩;clear hLe hLd hLv hseg hpv hrs cA cT hLl;go_wp2_with (first | (at_make;refine QfD rfl _ _ rfl w.heap.size (k+1) (congrArg (Value.int .i64) HN1.o) (congrArg (Value.int .i64) HN1.o) (by omega) Lr ?_;intro w1 hO1 hB1;obtain ⟨h9,_⟩ | ⟨c9,g9,h9,hg9,hu9,hc9,hm9⟩:=hO1.open;cases h9) | (refine Qpt rfl _ _ rfl g9 (k+1) c9 rfl (List.replicate (k+1) 0) hu9 (by simp) _ (natL x) rfl (HA.o.below hB1 Lr) HN.o.1 w.heap.size w hB1 hg9 ?_;intro w2 hu2 hB2;rw [←HLE.o] at hu2) | (go_at_call 190; refine (HCA.o w2 g9 c9 hu2 (fun h=>by have:=(HB.o.2 h).2;omega) (HB.o.1.below1 hB2 (fun h=>(HB.o.2 h).2))).mono ?_;rintro e w3 ⟨rfl,hO3,hu3⟩) | (go_at_call 191; refine (HCT.o w3 g9 c9 hu3 (by simpa using hc9) hm9).mono ?_;rintro e w4 ⟨⟨v4,rfl,hv4⟩,rfl⟩));go_ret;exact ⟨_,rfl,hv4,hB2.trans (hO3.below hg9)⟩
theorem QdE (x y:Nat) (hxy:y≤x) (va vb:Value) (w:World) (ha:NA w va (natL x)) (hb:NA w vb (natL y)) (hla:(natL x).length≤1000) :
  Calls Tryz.prog 156 #[va,vb] w fun e w'=>∃ v,e = .returned v∧NA w' v (natL (x-y))∧Below w.heap.size w w':=by
 obtain ⟨pb,cb,gb,ob,rfl,hlb2,hcb,hpb,hub⟩:=hb.open;have hlb:=Qal hxy;have HB:Shut _:=⟨And.intro hub hpb⟩;obtain ⟨n,hn⟩:∃ n,n=(natL x).length:=⟨_,rfl⟩;have hseg:((natL x).drop 0).take n=natL x:=by rw [List.drop_zero,List.take_of_length_le (by omega)]
 have hlt:=QaI x;have hpv:nv (padL n (x-y))=x-y:=QbZ _ _ (by rw [hn];omega);have hrs:((rowR (natL x) 0 n (x-y)).drop 0).take n=padL n (x-y):=Qkv (natL x) 0 n (x-y) (by omega);have cS:=fun W (h:NA W va (natL x))=>QcL (natL x) va 0 W h (by omega)
 have cA:∀ (W:World) (g9 c9:Nat),UR W g9 (natL x)→(1≤(natL y).length→gb≠g9)→UA W gb ob (natL y)→Calls Tryz.prog 197 #[.slice (some ⟨g9,0,none⟩) n c9,.slice pb (natL y).length cb,.int .u32 1] W fun e w'=>e = .returned (.tuple #[])∧Only g9 W w'∧UR w' g9 (rowR (natL x) 0 n (x-y)):=fun W g9 c9 h1 h2 h3=>by
  have:=Qkw g9 0 n c9 (natL x) pb gb ob cb (natL y) 1 W h1 (by omega) h2 h3 (fun h=>(HB.o.2 h).1) (by omega) (by omega) (Qao x) (Qao y) (by decide) (by rw [hseg,Qan,Qan,Nat.mul_one];exact hxy);rw [hseg,Qan,Qan,Nat.mul_one] at this;exact this
 have cT:∀ (W:World) (g9 c9:Nat),UR W g9 (rowR (natL x) 0 n (x-y))→n≤c9→c9≤maxLen→Calls Tryz.prog 191 #[.slice (some ⟨g9,0,none⟩) n c9] W fun e w'=>(∃ v,e = .returned v∧NA w' v (natL (x-y)))∧w'=W:=fun W g9 c9 h1 h2 h3=>by
  have hu:=h1.uaSeg 0 n;rw [hrs] at hu;have hl:=Qaq n (x-y);have:=QcK (padL n (x-y)) (some ⟨g9,0,none⟩) c9 g9 0 W (fun _=>rfl) hu (Qbl _ _) (by omega) (by omega) h3;rw [hl] at this;refine this.mono ?_;rintro e w' ⟨rfl,rfl⟩;refine ⟨⟨_,rfl, ?_⟩,rfl⟩;have h4:=QhM (Qbl n (x-y)) hu h1.lt (by omega) h3
  rwa [hpv] at h4 ⊢
 have HN:Shut _:=⟨hn⟩;have HA:Shut _:=⟨ha⟩;have HCA:Shut _:=⟨cA⟩;have HCT:Shut _:=⟨cT⟩;go_enter Tryz.func156, Tryz.ntmps156;clear hn hseg hlt hpv hrs cA cT hub hpb ha hb;go_wp2_with (first | (go_at_call 195; refine (cS w HA.o).mono ?_;rintro e w1 ⟨u1,rfl,hO1,hn1,hB1⟩;rw [List.replicate_zero,List.nil_append] at hO1;obtain ⟨h9,_⟩ | ⟨c9,g9,h9,hg9,hu9,hc9,hm9⟩:=hO1.open;exact absurd h9 hn1;rw [←HN.o] at h9 hc9;subst h9) | (go_at_call 197; refine (HCA.o w1 g9 c9 hu9 (fun h=>by have:=(HB.o.2 h).2;omega) (HB.o.1.below1 hB1 (fun h=>(HB.o.2 h).2))).mono ?_;rintro e w3 ⟨rfl,hO3,hu3⟩) | (go_at_call 191; refine (HCT.o w3 g9 c9 hu3 hc9 hm9).mono ?_;rintro e w4 ⟨⟨v4,rfl,hv4⟩,rfl⟩));go_ret;exact ⟨_,rfl,hv4,hB1.trans (hO3.below hg9)⟩
theorem Qdq (n k v:Nat) (hk:k≤n):padL n v=padL k (v % 10000^k)++padL (n-k) (v / 10000^k):=by
 have:=QbR k (n-k) (v % 10000^k) (v / 10000^k) (Nat.mod_lt _ (Nat.pow_pos (by decide)));rw [Nat.mod_add_div,show k+(n-k)=n by omega] at this;exact this
theorem Qpu (n k v u:Nat) (hk:k≤n):rowR (padL n v) k (n-k) (v / 10000^k+u)=padL n (v+10000^k*u):=by
 have hl:(padL k (v % 10000^k)).length=k:=Qaq _ _;have h1:(padL n v).take k=padL k (v % 10000^k):=by rw [Qdq n k v hk,List.take_append_of_le_length (by omega),List.take_of_length_le (by omega)]
 have h2:(padL n v).drop (k+(n-k)) = []:=by rw [List.drop_eq_nil_iff,Qaq];omega
 have h3:=QbR k (n-k) (v % 10000^k) (v / 10000^k+u) (Nat.mod_lt _ (Nat.pow_pos (by decide)));rw [rowR,h1,h2,List.append_nil,←h3,show k+(n-k)=n by omega];congr 1;rw [Nat.mul_add,←Nat.add_assoc,Nat.mod_add_div]
theorem Qni (n k v:Nat) (hk:k≤n):((padL n v).drop k).take (n-k)=padL (n-k) (v / 10000^k):=by
 have hl:(padL k (v % 10000^k)).length=k:=Qaq _ _;rw [Qdq n k v hk,List.drop_append_of_le_length (by omega),List.drop_eq_nil_iff.2 (by omega),List.nil_append,List.take_of_length_le (by rw [Qaq];exact Nat.le_refl _)]
theorem QhN {n k v u:Nat} (hk:k≤n) (h:v+10000^k*u<10000^n):v / 10000^k+u<10000^(n-k):=by
 have hp:0<10000^k:=Nat.pow_pos (by decide);rw [←Nat.add_mul_div_left v u hp];refine Nat.div_lt_of_lt_mul ?_;rw [←Nat.pow_add,show k+(n-k)=n by omega];exact h
theorem Only.cell {g:Nat} {w w':World} (h:Only g w w') {b:Nat} (hb:b≠g) (i:Nat):w'.cell? ⟨b,i,none⟩=w.cell? ⟨b,i,none⟩:=by
 unfold World.cell?;rw [show w'.heap[(⟨b,i,none⟩:Addr).block]? = w.heap[b]? from h.block b hb]
theorem QlL (x:Nat) (pa:Option Addr) (ca ga oa:Nat) (g n c k f v bx:Nat) (w:World) (hbox:w.cell? ⟨bx,0,none⟩=some (.slice pa (natL x).length ca)) (hpa:1≤(natL x).length→pa=some ⟨ga,oa,none⟩∧ga≠g) (hua:UA w ga oa (natL x))
  (hr:UR w g (padL n v)) (hk:k+(natL x).length≤n) (hkn:k<n) (hbx:bx≠g) (hn:n≤2000) (hc:n≤c) (_:c≤maxLen) (hf:f≤10000) (hv:v<10000^n) (hroom:v+10000^k*(x*f)<10000^n) :
  Calls Tryz.prog 189 #[.slice (some ⟨g,0,none⟩) n c,.int .i64 k,.int .u32 f,.pointer (some ⟨bx,0,none⟩)] w fun e w'=>e = .returned (.slice (some ⟨g,0,none⟩) n c)∧Only g w w'∧UR w' g (padL n (v+10000^k*(x*f))):=by
 have hla:(natL x).length≤n:=by omega
 have hnk:n-k≤c-k:=by omega
 have hl:=Qaq n v
 have cA:=Qnh g k (n-k) (c-k) (padL n v) pa ga oa ca (natL x) f w.drew hr (by omega) (fun h=>(hpa h).2) (hua.drewN 1) (fun h=>(hpa h).1) (by omega) (by omega) (Qbl _ _) (Qao _) hf (by
  rw [Qni n k v (by omega),QbZ _ _ (by have:=QhN (u:=0) (show k≤n by omega) (by simpa using hv);simpa using this),Qan];exact QhN (by omega) hroom)
 rw [Qni n k v (by omega),QbZ _ _ (by have:=QhN (u:=0) (show k≤n by omega) (by simpa using hv);simpa using this),Qan,Qpu n k v _ (by omega)] at cA;have i1:(0:Int)≤(k:Int):=by omega
 have i2:(k:Int)≤(n:Int):=by omega
 have i3:(n:Int)≤(c:Int):=by omega
 have i4:¬ c=k:=by omega
 clear hpa hua hr hv hroom hl;generalize padL n (v+10000^k*(x*f))=L2 at *
 generalize (natL x).length=la at *
 go_enter Tryz.func189, Tryz.ntmps189;go_wp2
 go_region_held3 (fun w'=>w'.cell? ⟨bx,0,none⟩=some (.slice pa la ca)) (first | go_keep | skip) ((go_at_call 190; refine cA.mono ?_;rintro e w1 ⟨rfl,hO1,hu1⟩;have hb1:w1.cell? ⟨bx,0,none⟩=some (.slice pa la ca):=(hO1.cell hbx 0).trans hbox))
 go_wp2;go_ret;exact ⟨rfl,((Only.refl g w).drew).trans hO1,hu1⟩
theorem QtU {x y la lb:Nat} (hx:x<10000^la) (hy:y<10000^lb):x*y<10000^(la+lb):=by
 rw [Nat.pow_add];have hp:0<10000^lb:=Nat.pow_pos (by decide)
 calc x*y≤x*10000^lb:=Nat.mul_le_mul_left _ (by omega)
  _<10000^la*10000^lb:=Nat.mul_lt_mul_of_pos_right hx hp
theorem Qhd (l:List Nat) (k:Nat) (hk:k≤l.length):nv (l.take k)≤nv l:=by rw [QaH l k hk];omega
theorem QlM (x:Nat) (l:List Nat) (hle:∀ z∈l,z≤10000) (pa:Option Addr) (ca ga oa:Nat) (pb:Option Addr) (cb gb ob:Nat) (g n c bx:Nat) (w:World) (hbox:w.cell? ⟨bx,0,none⟩=some (.slice pa (natL x).length ca)) (hpa:1≤(natL x).length→pa=some ⟨ga,oa,none⟩∧ga≠g) (hua:UA w ga oa (natL x))
  (hpb:1≤l.length→pb=some ⟨gb,ob,none⟩∧gb≠g) (hub:UA w gb ob l) (hr:UR w g (padL n 0)) (hn:n=(natL x).length+l.length) (hroom:x*nv l<10000^n) (hn2:n≤2000) (hc:n≤c) (hcm:c≤maxLen) (hbx:bx≠g) :
  Calls Tryz.prog 188 #[.slice pb l.length cb,.slice (some ⟨g,0,none⟩) n c,.func (Fn.func 189) #[] #[.pointer (some ⟨bx,0,none⟩)]] w fun e w'=>e = .returned (.slice (some ⟨g,0,none⟩) n c)∧Only g w w'∧UR w' g (padL n (x*nv l)):=by
 have HUB:Shut _:=⟨And.intro hub hpb⟩;have hlt:∀ z,z≤nv l→x*z<10000^n:=fun z hz=>Nat.lt_of_le_of_lt (Nat.mul_le_mul_left x hz) hroom
 have cT:∀ (W:World) (k:Nat),Only g w W→k<l.length→UR W g (padL n (x*nv (l.take k)))→Calls Tryz.prog 189 #[.slice (some ⟨g,0,none⟩) n c,.int .i64 k,.int .u32 (l.getD k 0:Nat),.pointer (some ⟨bx,0,none⟩)] W fun e w'=>e = .returned (.slice (some ⟨g,0,none⟩) n c)∧Only g W w'∧UR w' g (padL n (x*nv (l.take (k+1)))):=fun W k hO hk hu=>by
  have h1:=Qhd l k (by omega);have h2:=Qhd l (k+1) (by omega);have e:x*nv (l.take (k+1))=x*nv (l.take k)+10000^k*(x*l.getD k 0):=by rw [QaO _ _ hk];grind
  have:=QlL x pa ca ga oa g n c k (l.getD k 0) (x*nv (l.take k)) bx W ((hO.cell hbx 0).trans hbox) hpa (fun i hi=>(hO.cell (hpa (by omega)).2 _).trans (hua i hi)) hu (by omega) (by omega) hbx hn2 hc hcm (by rw [List.getD_eq_getElem?_getD,List.getElem?_eq_getElem hk];exact hle _ (List.getElem_mem hk)) (hlt _ h1) (by rw [←e];exact hlt _ h2)
  rwa [←e] at this
 have HT:Shut _:=⟨cT⟩;have HR:Shut (UR w g (padL n (x*nv (l.take 0)))):=⟨by rw [List.take_zero,nv,Nat.mul_zero];exact hr⟩;have hlb:l.length≤2000:=by omega
 clear hbox hpa hua hpb hub hr hlt cT hn hroom hle;go_enter Tryz.func188, Tryz.ntmps188;go_wp2
 go_loopw [7,13] (fun sv iv wr=>∃ k:Nat,k≤l.length∧sv = .slice (some ⟨g,0,none⟩) n c∧iv = .int .i64 k∧Shut (Only g w wr)∧Shut (UR wr g (padL n (x*nv (l.take k))))) (fun _ iv _=>l.length-(intOf iv).toNat)
 case atStart=>exact ⟨0,Nat.zero_le _,rfl,rfl,⟨Only.refl _ _⟩,HR⟩
 case round =>
  obtain ⟨k,hk,rfl,rfl,hO,hu⟩:=hrel;by_cases hlt:k<l.length
  ·obtain ⟨hp,hg⟩:=HUB.o.2 (by omega);subst hp;have hcl:=HUB.o.1.only hO.o hg k hlt;have c1:=HT.o wr k hO.o hlt hu.o;have hd1:decide ((k:Int)<((l.length:Nat):Int))=true:=decide_eq_true (by omega);generalize l.getD k 0=f at *
   clear hu;go_wp2_with (go_at_call 189; refine c1.mono ?_;rintro e w1 ⟨rfl,hO1,hu1⟩);exact ⟨⟨k+1,by omega,rfl,by go_num,⟨hO.o.trans hO1⟩,⟨hu1⟩⟩,by simp [intOf];omega⟩
  ·obtain rfl:k=l.length:=by omega
   have hu2:=hu.o;rw [List.take_length] at hu2;clear hu;go_wp2;go_ret;exact ⟨rfl,hO.o,hu2⟩
theorem Qdr (W:World) (g c n z:Nat) (L:List Nat) (hr:UR W g L) (hL:L.take n=padL n z) (hz:z<10000^n) (hc:n≤c) (hcm:c≤maxLen) (hn:n≤1000000) :
  Calls Tryz.prog 191 #[.slice (some ⟨g,0,none⟩) n c] W fun e w'=>(∃ v,e = .returned v∧NA w' v (natL z))∧w'=W:=by
 have hu:=hr.uaSeg 0 n;rw [List.drop_zero,hL] at hu;have hl:=Qaq n z;have:=QcK (padL n z) (some ⟨g,0,none⟩) c g 0 W (fun _=>rfl) hu (Qbl _ _) (by omega) (by omega) hcm;rw [hl] at this;refine this.mono ?_;rintro e w' ⟨rfl,rfl⟩;refine ⟨⟨_,rfl, ?_⟩,rfl⟩;have h4:=QhM (Qbl n z) hu hr.lt (by omega) hcm
 rwa [QbZ n z hz] at h4 ⊢
theorem QcM:∀ n,padL n 0=List.replicate n 0
 | 0=>rfl
 | n+1=>by rw [padL,List.replicate_succ,show 0 / 10000=0 from rfl,QcM n]
theorem QiC (x:Nat) (l:List Nat) (hle:∀ z∈l,z≤10000) (va vb:Value) (w:World) (ha:NA w va (natL x)) (hb:NA w vb l) (hla:(natL x).length≤1000) (hlb:l.length≤1000) (hroom:x*nv l<10000^((natL x).length+l.length)) :
  Calls Tryz.prog 151 #[va,vb] w fun e w'=>∃ v,e = .returned v∧NA w' v (natL (x*nv l))∧Below w.heap.size w w':=by
 obtain ⟨pb,cb,gb,ob,rfl,hlb2,hcb,hpb,hub⟩:=hb.open;obtain ⟨pa,ca,ga,oa,rfl,hla2,hca,hpa,hua⟩:=ha.open;obtain ⟨n,hn⟩:∃ n,n=(natL x).length+l.length:=⟨_,rfl⟩;have HN1:Shut ((((natL x).length:Nat):Int)+((l.length:Nat):Int)=(n:Int)):=⟨by omega⟩;have hn2:n≤2000:=by omega
 have HN:Shut _:=⟨hn⟩;have hlt:x*nv l<10000^n:=by rw [hn];exact hroom
 have HLT:Shut _:=⟨hlt⟩;have HA:Shut _:=⟨And.intro hua hpa⟩;have HB:Shut _:=⟨And.intro hub hpb⟩;clear hn hlt hua hpa hub hpb ha hb hroom;have hB0:Below w.heap.size w (w.alloc (O #[.slice pa (natL x).length ca] 128)):=(Below.refl _ w).alloc Lr _;have hz0:(w.alloc (O #[.slice pa (natL x).length ca] 128)).heap.size=w.heap.size+1:=World.size_alloc _ _
 have hbx0:(w.alloc (O #[.slice pa (natL x).length ca] 128)).cell? ⟨w.heap.size,0,none⟩=some (.slice pa (natL x).length ca):=by
  rw [(RowAt.new w #[.slice pa (natL x).length ca] 128).cell 0];rfl
 have HBX:Shut _:=⟨hbx0⟩;have HB0:Shut _:=⟨hB0⟩;clear hB0;have hadd:decide ((((natL x).length:Nat):Int)+((l.length:Nat):Int)≤9223372036854775807)=true:=decide_eq_true (by omega)
 have cF:∀ (W:World) (g9 c9:Nat),Below (w.heap.size+1) (w.alloc (O #[.slice pa (natL x).length ca] 128)) W→UR W g9 (List.replicate n 0)→w.heap.size+1≤g9→n≤c9→c9≤maxLen→Calls Tryz.prog 188 #[.slice pb l.length cb,.slice (some ⟨g9,0,none⟩) n c9,.func (Fn.func 189) #[] #[.pointer (some ⟨w.heap.size,0,none⟩)]] W fun e w'=>e = .returned (.slice (some ⟨g9,0,none⟩) n c9)∧Only g9 W w'∧UR w' g9 (padL n (x*nv l)):=fun W g9 c9 hW hu hg hc hm=>by
  have hW2:Below w.heap.size w W:=HB0.o.trans (hW.mono (by omega));refine QlM x l hle pa ca ga oa pb cb gb ob g9 n c9 w.heap.size W ?_ (fun h=>⟨(HA.o.2 h).1,by have:=(HA.o.2 h).2;omega⟩) (HA.o.1.below1 hW2 (fun h=>(HA.o.2 h).2)) (fun h=>⟨(HB.o.2 h).1,by have:=(HB.o.2 h).2;omega⟩) (HB.o.1.below1 hW2 (fun h=>(HB.o.2 h).2)) (by rw [QcM];exact hu) HN.o HLT.o hn2 hc hm (by omega);exact (hW.cell (p:=⟨w.heap.size,0,none⟩) (Nat.lt_succ_self _)).trans HBX.o
 have HCF:Shut _:=⟨cF⟩;clear cF hle;go_enter Tryz.func151, Tryz.ntmps151;go_wp2_with (first | (at_make;refine QfD rfl _ _ rfl (w.heap.size+1) n (congrArg (Value.int .i64) HN1.o) (congrArg (Value.int .i64) HN1.o) (by omega) (by rw [hz0];exact Nat.le_refl _) ?_;intro w1 hO1 hB1;obtain ⟨hg9,hu9, -,hc9,hm9⟩:=hO1.openS;rw [List.length_replicate] at hc9;rw [hz0] at hu9 hg9) | (go_at_call 188; refine (HCF.o w1 _ _ hB1 hu9 hg9 hc9 hm9).mono ?_;rintro e w3 ⟨rfl,hO3,hu3⟩) | (go_at_call 191; refine (Qdr w3 _ _ n (x*nv l) _ hu3 (List.take_of_length_le (by rw [Qaq];exact Nat.le_refl _)) HLT.o hc9 hm9 (by omega)).mono ?_;rintro e w4 ⟨⟨v4,rfl,hv4⟩,rfl⟩));go_ret;exact ⟨_,rfl,hv4,HB0.o.trans ((hB1.mono (by omega)).trans (hO3.below (by omega)))⟩
theorem Qdd (x y:Nat) (va vb:Value) (w:World) (ha:NA w va (natL x)) (hb:NA w vb (natL y)) (hla:(natL x).length≤1000) (hlb:(natL y).length≤1000) :
  Calls Tryz.prog 151 #[va,vb] w fun e w'=>∃ v,e = .returned v∧NA w' v (natL (x*y))∧Below w.heap.size w w':=by
 have:=QiC x (natL y) (fun z hz=>Nat.le_of_lt (Qao y z hz)) va vb w ha hb hla hlb (by rw [Qan];exact QtU (QaI x) (QaI y))
 rwa [Qan] at this
end
section
namespace Nm
def dg:Nat→Nat→List Nat
 | 0,_ => []
 | t+1,x=>(48+x / 10^t % 10) :: dg t x
theorem Qrc:∀ t x,(dg t x).length=t
 | 0,_=>rfl
 | t+1,x=>by rw [dg,List.length_cons,Qrc]
def dvl (l:List Nat):Nat:=l.foldl (fun a d=>10*a+(d-48)) 0
theorem Qez (l:List Nat) (d:Nat):dvl (l ++ [d])=10*dvl l+(d-48):=by simp [dvl]
theorem Qhe (l:List Nat) (a:Nat):l.foldl (fun a d=>10*a+(d-48)) a=a*10^l.length+dvl l:=by
 induction l generalizing a with
 | nil=>simp [dvl]
 | cons d l ih =>
  rw [List.foldl_cons,ih,show dvl (d :: l)=(d :: l).foldl (fun a d=>10*a+(d-48)) 0 from rfl,List.foldl_cons,ih,List.length_cons,Nat.pow_succ]
  grind
theorem QhO (d:Nat) (l:List Nat):dvl (d :: l)=(d-48)*10^l.length+dvl l:=by
 rw [dvl,List.foldl_cons,Qhe];simp
theorem QdW (l m:List Nat):dvl (l++m)=dvl l*10^m.length+dvl m:=by
 rw [dvl,List.foldl_append,Qhe];rfl
theorem Qhf (l:List Nat) (h:∀ y∈l,48≤y∧y<58):dvl l<10^l.length:=by
 induction l with
 | nil=>decide
 | cons d l ih =>
  have h1:=ih (fun y hy=>h y (List.mem_cons_of_mem _ hy));have h2:=h d (by simp);rw [QhO,List.length_cons,Nat.pow_succ];have h3:(d-48)*10^l.length≤9*10^l.length:=Nat.mul_le_mul_right _ (by omega);omega
theorem Qnj (l:List Nat) (h:∀ y∈l,48≤y∧y<58):dg l.length (dvl l)=l:=by
 induction l with
 | nil=>rfl
 | cons d l ih =>
  have hl:=fun y hy=>h y (List.mem_cons_of_mem d hy);have h1:=Qhf l hl;have h2:=h d (by simp);have hp:0<10^l.length:=Nat.pow_pos (by decide);rw [List.length_cons,dg,QhO]
  have e1:((d-48)*10^l.length+dvl l) / 10^l.length=d-48:=by
   rw [Nat.add_comm,Nat.add_mul_div_right _ _ hp,Nat.div_eq_of_lt h1,Nat.zero_add]
  have e2:dg l.length ((d-48)*10^l.length+dvl l)=dg l.length (dvl l):=by
   have:∀ t k,t≤l.length→dg t (k*10^l.length+dvl l)=dg t (dvl l):=by
    intro t
    induction t with
    | zero=>intro k _;rfl
    | succ t iht =>
     intro k ht;rw [dg,dg,iht k (by omega)];congr 2;obtain ⟨m,hm⟩:∃ m,l.length=t+1+m:=⟨l.length-(t+1),by omega⟩;have e:k*10^l.length+dvl l=dvl l+10^t*(10*(k*10^m)):=by rw [hm,Nat.pow_add,Nat.pow_succ];grind
     rw [e,Nat.add_mul_div_left _ _ (Nat.pow_pos (by decide)),Nat.add_mul_mod_self_left]
   exact this l.length (d-48) Lr
  rw [e1,e2,ih hl];congr 1;omega
def decN (n:Nat):List Nat:=if n=0 then [] else decN (n / 10) ++ [48+n % 10]
decreasing_by omega
theorem Qbe:decN 0 = []:=by rw [decN,if_pos rfl]
theorem Qcl {n:Nat} (h:n≠0):decN n=decN (n / 10) ++ [48+n % 10]:=by rw [decN,if_neg h]
theorem QdX (n:Nat):dvl (decN n)=n:=by
 induction n using Nat.strongRecOn with
 | ind n ih =>
  by_cases h:n=0
  ·subst h;rw [Qbe];rfl
  ·rw [Qcl h,Qez,ih (n / 10) (by omega)];omega
theorem QaQ (n:Nat):∀ y∈decN n,48≤y∧y<58:=by
 induction n using Nat.strongRecOn with
 | ind n ih =>
  by_cases h:n=0
  ·subst h;rw [Qbe];intro x hx;cases hx
  ·rw [Qcl h];intro x hx;rcases List.mem_append.1 hx with hx | hx
   ·exact ih (n / 10) (by omega) x hx
   ·rw [List.mem_singleton.1 hx];omega
theorem QeA {n:Nat}:decN n = []↔n=0:=by
 constructor
 ·intro h;by_cases h0:n=0
  ·exact h0
  ·rw [Qcl h0] at h;simp at h
 ·rintro rfl;exact Qbe
theorem QcN (n:Nat) (h:n≠0):(decN n).getD 0 0≠48:=by
 induction n using Nat.strongRecOn with
 | ind n ih =>
  rw [Qcl h];by_cases h1:n / 10=0
  ·rw [h1,Qbe];simp;omega
  ·have h2:=ih (n / 10) (by omega) h1;have h3:decN (n / 10) ≠ []:=fun e=>h1 (QeA.1 e);cases hd:decN (n / 10) with
   | nil=>exact absurd hd h3
   | cons a r=>rw [hd] at h2;simpa using h2
theorem QrS (l : List Nat) (h : ∀ y ∈ l, 48 ≤ y ∧ y < 58) (hz : l = [] ∨ l.getD 0 0 ≠ 48) : l = decN (dvl l) := by
  have key : ∀ k (l : List Nat), l.length = k → (∀ y ∈ l, 48 ≤ y ∧ y < 58) → (l = [] ∨ l.getD 0 0 ≠ 48) → l = decN (dvl l) := by
    intro k
    induction k with
    | zero => intro l hl _ _; obtain rfl := List.eq_nil_of_length_eq_zero hl; rw [show dvl [] = 0 from rfl, Qbe]
    | succ k ih =>
      intro l hl h hz;obtain ⟨m, d, rfl⟩ : ∃ m d, l = m ++ [d] := ⟨l.dropLast, l.getLast (by intro e; rw [e] at hl; simp at hl), (List.dropLast_concat_getLast _).symm⟩;have hd := h d (by simp);have hm : ∀ y ∈ m, 48 ≤ y ∧ y < 58 := fun y hy => h y (by simp [hy]);have hml : m.length = k := by simpa using hl
      have hmz : m = [] ∨ m.getD 0 0 ≠ 48 := by
        cases m with
        | nil => exact .inl rfl
        | cons a r => right; rcases hz with hz | hz
                      · simp at hz
                      · simpa using hz
      have e := ih m hml hm hmz
      have hne : dvl (m ++ [d]) ≠ 0 := by
        rw [Qez];rcases hmz with rfl | hm0
        · rcases hz with hz | hz
          · simp at hz
          · simp at hz; omega
        · intro h0
          have : dvl m = 0 := by omega
          rw [this, Qbe] at e;rw [e] at hm0; simp at hm0;rcases hz with hz | hz
          · rw [e] at hz; simp at hz
          · rw [e] at hz; simp at hz; omega
      rw [Qcl hne, Qez, show (10 * dvl m + (d - 48)) / 10 = dvl m by omega, show 48 + (10 * dvl m + (d - 48)) % 10 = d by omega, ← e]
  exact key l.length l rfl h hz
theorem QjF (n:Nat):n<10^(decN n).length:=by have:=Qhf _ (QaQ n);rwa [QdX] at this
theorem Qce {n t : Nat} (h : n < 10 ^ t) : (decN n).length ≤ t := by
  induction t generalizing n with
  | zero => have : n = 0 := by simpa using h
            subst this; rw [Qbe]; exact Nat.le_refl _
  | succ t ih =>
    by_cases h0 : n = 0
    · subst h0; rw [Qbe]; simp
    · rw [Qcl h0, List.length_append]
      have := ih (n := n / 10) (by rw [Nat.pow_succ] at h; omega);simpa using this
theorem QrT (t n:Nat) (h:n<10^t):dg t n=List.replicate (t-(decN n).length) 48++decN n:=by
 have hl:=Qce h
 have hu:=Qnj (List.replicate (t-(decN n).length) 48++decN n) (fun y hy=>by
  rcases List.mem_append.1 hy with hy | hy
  ·rw [(List.mem_replicate.1 hy).2];decide
  ·exact QaQ n y hy)
 have hv:dvl (List.replicate (t-(decN n).length) 48++decN n)=n:=by
  rw [QdW,QdX]
  have:∀ k,dvl (List.replicate k 48)=0:=by
   intro k
   induction k with
   | zero=>rfl
   | succ k ih=>rw [List.replicate_succ,QhO,ih];simp
  rw [this];omega
 rw [hv,List.length_append,List.length_replicate,show t-(decN n).length+(decN n).length=t by omega] at hu;exact hu
theorem Qpv (l:List Nat) (h:Dig l) (i:Nat) (hi:i<l.length) (j:Nat) (hj:j<4):nv l / 10^(4*i+j) % 10=l.getD i 0 / 10^j % 10:=by
 have h1:=QaH l i (by omega);have h2:=QdC (h.take i);rw [List.length_take,Nat.min_eq_left (by omega)] at h2;have hp:10000^i=10^(4*i):=by rw [show (10000:Nat)=10^4 from rfl,←Nat.pow_mul]
 have h3:nv (l.drop i)=l.getD i 0+10000*nv (l.drop (i+1)):=by
  rw [List.drop_eq_getElem_cons hi,nv];simp [List.getD,hi]
 have h4:(nv (l.take i)+10000^i*nv (l.drop i)) / 10000^i=nv (l.drop i):=by rw [Nat.add_mul_div_left _ _ (Nat.pow_pos (by decide)),Nat.div_eq_of_lt h2,Nat.zero_add]
 rw [←h1] at h4;rw [Nat.pow_add,←Nat.div_div_eq_div_mul,←hp,h4,h3];have hd:=h.getD i;generalize l.getD i 0=d at *
 generalize nv (l.drop (i+1))=r at *
 rcases (show j=0∨j=1∨j=2∨j=3 by omega) with rfl | rfl | rfl | rfl <;> omega
end Nm
end
section
open Go.RowKit Nm
def bl (s:ByteArray):List Nat:=s.data.toList.map UInt8.toNat
def ba (l:List Nat):ByteArray:=⟨(l.map UInt8.ofNat).toArray⟩
theorem QcA (s:ByteArray):(bl s).length=s.size:=by simp [bl]
theorem QtV (s:ByteArray):ba (bl s)=s:=by
 simp only [ba,bl,List.map_map];have:(UInt8.ofNat ∘ UInt8.toNat)=id:=by funext x;simp
 rw [this,List.map_id]
theorem QeB (l:List Nat) (h:∀ x∈l,x<256):bl (ba l)=l:=by
 simp only [bl,ba,List.map_map]
 conv=>rhs;rw [←List.map_id l]
 exact List.map_congr_left (fun x hx=>by simp;exact h x hx)
theorem Qeo (l:List Nat):(ba l).size=l.length:=by rw [←QcA];simp [bl,ba]
theorem QeC (s:ByteArray) (i:Nat) (h:i<s.size):(bl s).getD i 0=s[i].toNat:=by
 have h2:i<s.data.size:=h;simp only [bl,List.getD_eq_getElem?_getD,List.getElem?_map,Array.getElem?_toList,Array.getElem?_eq_getElem h2,Option.map_some,Option.getD_some];rfl
theorem Qnk (l m:List Nat):ba (l++m)=ba l++ba m:=by
 apply ByteArray.ext;simp [ba]
theorem QtW {l m:List Nat} (hl:∀ x∈l,x<256) (hm:∀ x∈m,x<256) (h:ba l=ba m):l=m:=by rw [←QeB l hl,h,QeB m hm]
theorem Qkx {s t:ByteArray} (h:bl s=bl t):s=t:=by rw [←QtV s,h,QtV]
def u8s (l:List Nat):Array Value:=(l.map fun n:Nat=>Value.int .u8 (n:Int)).toArray
theorem QrU (l:List Nat) (i:Nat) (h:i<l.length):(u8s l)[i]? = some (.int .u8 ((l.getD i 0:Nat):Int)):=by simp [u8s,List.getD,h]
theorem QrV (l:List Nat) (i x:Nat):(u8s l).setIfInBounds i (.int .u8 (x:Int))=u8s (l.set i x):=by simp [u8s,List.map_set]
def BR (W:World) (g:Nat) (L:List Nat):Prop:=RowAt W g (u8s L) 5
theorem BR.u8 {w:World} {b:Nat} {l:List Nat} (h:BR w b l) (i:Nat) (hi:i<l.length):w.cell? ⟨b,i,none⟩=some (.int .u8 ((l.getD i 0:Nat):Int)):=(RowAt.cell h i).trans (QrU l i hi)
theorem BR.frozen {w:World} {b:Nat} {l:List Nat} (h:BR w b l) (i:Nat):w.frozen? ⟨b,i,none⟩=false:=RowAt.frozen h i
theorem BR.set8 {w:World} {b:Nat} {l:List Nat} (h:BR w b l) (i x:Nat):BR (w.setCell ⟨b,i,none⟩ (.int .u8 (x:Int))) b (l.set i x):=by unfold BR;rw [←QrV];exact RowAt.set_same h i _
theorem Qrd:(Tryz.prog.info? 5).map (fun i=>(i.zero,i.size,i.bytes))=some (some (.int .u8 0),1,1):=by kernel_rfl
theorem QlN (n:Nat):(madeCells (Value.int .u8 0).cells (n*1)).toList=(List.replicate n 0).map fun n:Nat=>Value.int .u8 (n:Int):=by
 rw [Nat.mul_one,List.map_replicate];simp [madeCells,Value.cells];rw [List.eq_replicate_iff];refine ⟨by simp,fun b hb => ?_⟩;simp only [List.mem_map,Nat.mod_one] at hb;obtain ⟨_,_,rfl⟩:=hb;rfl
theorem QrW {w:World} {ops:Array Oper} {rest:List Oper} {o:Oper} {a:Act} {Q:Exit→Act→World→Prop} (hg:o.guard=none) (l c:Operand) (hop:o.op=Op.makeSlice 202 l c)
  (base n:Nat) (hl:a.eval l = .int .i64 (n:Int)) (hc:a.eval c = .int .i64 (n:Int)) (hn:n≤1000000) (hb:base≤w.heap.size)
  (h:∀ w',BR w' w.heap.size (List.replicate n 0)→Below base w w'→wpList Tryz.prog ops Q rest (a.put o.dst (.slice (some ⟨w.heap.size,0,none⟩) n n)) w'):wpList Tryz.prog ops Q (o :: rest) a w:=by
 obtain ⟨i0,hinf,hz0,hz1,hz2⟩:=info_parts Qrd;refine wpList_make_full w hg l c 202 hop base 5 i0 (.int .u8 0) 1 Tryz.underlying202 hinf hz0 hz1 .i64 .i64 (n:Int) (n:Int) n hl hc rfl rfl (by rw [hz2];omega) (by unfold maxLen;omega) hb ?_;intro w' ho hgr;refine h w' ?_ ⟨hgr.os,hgr.tape,hgr.output,hgr.size,fun k hk=>hgr.block k (by omega) (by simp)⟩;rw [QlN] at ho;rcases ho.2 with ⟨h1,_⟩ | ⟨g,cap,cur,h1,_,h2,_,_,h3,h4⟩
 ·cases h1
 ·injection h1 with e1 e2 e3;injection e1 with e1;injection e1 with e1;subst e1;subst e3
  have:cur=u8s (List.replicate n 0):=by
   apply Array.ext';rw [show (u8s (List.replicate n 0)).toList=(List.replicate n 0).map fun n:Nat=>Value.int .u8 (n:Int) from rfl,←h4,List.take_of_length_le];rw [Array.length_toList,h3];exact Nat.le_refl _
  unfold BR RowAt;rw [this] at h2;exact h2
theorem Qep (w:World) (g o cap:Nat) (l:List Nat) (hl:∀ x∈l,x<256) (h:∀ i,i<l.length→w.cell? ⟨g,o+i,none⟩=some (.int .u8 ((l.getD i 0:Nat):Int))) :
  Sem.run Tryz.prog (convert 202 9 (.slice (some ⟨g,o,none⟩) l.length cap)) w = .ok (Z (ba l)) w:=by
 have:=Go.run_convert_bytes_back (P:=Tryz.prog) w 202 9 5 ⟨g,o,none⟩ cap (l.map UInt8.ofNat) Tryz.underlying202 Tryz.underlying5 Tryz.underlying9 (fun i hi=>by
  rw [List.length_map] at hi;rw [Addr.add_lit,h i hi];have hx:l.getD i 0<256:=by rw [List.getD_eq_getElem?_getD,List.getElem?_eq_getElem hi];exact hl _ (List.getElem_mem hi)
  have e:l[i]=l.getD i 0:=by simp [List.getD,hi]
  simp only [List.getElem_map];rw [e];congr 3;rw [UInt8.toNat_ofNat_of_lt' hx])
 rwa [List.length_map] at this
def rowD (m t x:Nat):List Nat:=List.replicate (m-t) 0++dg t x
theorem Qpw (m t x:Nat) (h:t≤m):(rowD m t x).length=m:=by simp [rowD,Qrc];omega
theorem Qpx (m t x:Nat) (h:t<m):(rowD m t x).set (m-t-1) (48+x / 10^t % 10)=rowD m (t+1) x:=by
 obtain ⟨k,hk⟩:∃ k,m-t=k+1:=⟨m-t-1,by omega⟩;rw [rowD,rowD,hk,show m-(t+1)=k by omega,Nat.add_sub_cancel,List.replicate_succ',List.append_assoc,List.set_append_right _ _ (by simp),List.length_replicate,Nat.sub_self,List.singleton_append,List.set_cons_zero,dg]
theorem Qnl (m x:Nat) (h:x<10^m):rowD m m x=List.replicate (m-(decN x).length) 48++decN x:=by
 rw [rowD,Nat.sub_self,List.replicate_zero,List.nil_append,QrT m x h]
theorem Qhg (l r:List Nat) (i:Nat):(l++r).getD (l.length+i) 0=r.getD i 0:=by
 simp only [List.getD_eq_getElem?_getD];rw [List.getElem?_append_right (by omega),Nat.add_sub_cancel_left]
theorem Qpy (n i y:Nat) (r:List Nat) (h:i<n):(List.replicate n y++r).getD i 0=y:=by
 simp only [List.getD_eq_getElem?_getD];rw [List.getElem?_append_left (by simpa using h),List.getElem?_replicate,if_pos h];rfl
set_option maxRecDepth 100000 in
theorem QlO (x:Nat) (hx:x≠0) (va:Value) (w:World) (ha:NA w va (natL x)) (hla:(natL x).length≤1000) :
  Calls Tryz.prog 157 #[va] w fun e w'=>e = .returned (Z (ba (decN x)))∧Below w.heap.size w w':=by
 obtain ⟨pa,ca,ga,oa,rfl,hla2,hca,hpa,hua⟩:=ha.open;obtain ⟨m,hm⟩:∃ m,m=4*(natL x).length:=⟨_,rfl⟩;have hxm:x<10^m:=by have:=QaI x;rw [hm,Nat.pow_mul];exact this
 have hdl:=Qce hxm
 have hd0:1≤(decN x).length:=by
  rcases Nat.eq_zero_or_pos (decN x).length with h | h
  ·exact absurd (QeA.1 (List.eq_nil_of_length_eq_zero h)) hx
  ·exact h
 have HM1:Shut ((4:Int)*(((natL x).length:Nat):Int)=(m:Int)):=⟨by omega⟩;have hm4:m≤4000:=by omega
 have HM:Shut _:=⟨hm⟩;have HA:Shut _:=⟨And.intro hua hpa⟩;have HFULL:Shut _:=⟨Qnl m x hxm⟩;have HHEAD:Shut _:=⟨QcN x hx⟩;obtain ⟨dl,hdle⟩:∃ dl,dl=(decN x).length:=⟨_,rfl⟩;rw [←hdle] at hdl hd0;have HDL:Shut _:=⟨hdle⟩;have HX:Shut _:=⟨hx⟩;clear hm hua hpa ha hxm hdle hx;go_enter Tryz.func157, Tryz.ntmps157;go_wp2_with (first | (at_make;refine QrW rfl _ _ rfl w.heap.size m (congrArg (Value.int .i64) HM1.o) (congrArg (Value.int .i64) HM1.o) (by omega) Lr ?_;intro w1 hu1 hB1));have HU1:Shut (BR w1 w.heap.size (rowD m (4*0) x)):=⟨by rw [rowD,dg,Nat.mul_zero,Nat.sub_zero,List.append_nil];exact hu1⟩;clear hu1
 go_loopw [4,15] (fun ev iv wr=>∃ i e:Nat,i≤(natL x).length∧e+4*i=m∧ev = .int .i64 e∧iv = .int .i64 i∧Shut (BR wr w.heap.size (rowD m (4*i) x))∧Shut (Below w.heap.size w wr)) (fun _ iv _=>(natL x).length-(intOf iv).toNat)
 case atStart=>exact ⟨0,m,Nat.zero_le _,rfl,rfl,rfl,HU1,⟨hB1⟩⟩
 case round =>
  obtain ⟨i,e0,hi,he0,rfl,rfl,hu,hB⟩:=hrel;by_cases hlt:i<(natL x).length
  ·obtain ⟨hp,hg⟩:=HA.o.2 (by omega);subst hp;have hcl:=HA.o.1.below hB.o hg i hlt;have hd1:decide ((i:Int)<(((natL x).length:Nat):Int))=true:=decide_eq_true (by omega)
   have HDG:Shut (∀ j,j<4→x / 10^(4*i+j) % 10=(natL x).getD i 0 / 10^j % 10):=⟨fun j hj=>by
    have:=Qpv (natL x) (Qao x) i hlt j hj
    rwa [Qan] at this⟩
   have hd:=(Qao x).getD i;have hmi:4*i+4≤m:=by have:=HM.o;omega
   generalize (natL x).getD i 0=d at *
   go_wp2
   go_loopw [4,6,19] (fun ev gv jv wr'=>∃ j e:Nat,j≤4∧e+(4*i+j)=m∧ev = .int .i64 e∧gv = .int .u32 ((d / 10^j:Nat):Int)∧jv = .int .i64 j∧Shut (BR wr' w.heap.size (rowD m (4*i+j) x))∧Shut (Below w.heap.size w wr')) (fun _ _ jv _=>4-(intOf jv).toNat)
   case atStart=>exact ⟨0,e0,by omega,by omega,rfl,by simp,rfl,hu,hB⟩
   case round =>
    obtain ⟨j,e1,hj,he1,rfl,rfl,rfl,hu2,hB2⟩:=hrel;by_cases hj4:j<4
    ·obtain ⟨e,rfl⟩:∃ e,e1=e+1:=⟨e1-1,by omega⟩;have HG:Shut (d / 10^j / 10=d / 10^(j+1)):=⟨by rw [Nat.div_div_eq_div_mul,Nat.pow_succ]⟩;have hfr:=hu2.o.frozen e;have hce:=hu2.o.u8 e (by rw [Qpw m _ x (by omega)];omega);have hgj:d / 10^j<10000:=Nat.lt_of_le_of_lt (Nat.div_le_self _ _) hd
     have HC:Shut (BR (wr.setCell ⟨w.heap.size,e,none⟩ (.int .u8 ((48+d / 10^j % 10:Nat):Int))) w.heap.size (rowD m (4*i+(j+1)) x)):=⟨by
      have h1:=hu2.o.set8 e (48+d / 10^j % 10);have h2:=Qpx m (4*i+j) x (by omega);rw [HDG.o j hj4,show m-(4*i+j)-1=e by omega] at h2;rw [h2] at h1;exact h1⟩
     have HB2:Shut (∀ v,Below w.heap.size w (wr.setCell ⟨w.heap.size,e,none⟩ v)):=⟨fun v=>hB2.o.trans ((Only.setCell (Only.refl w.heap.size wr) e v).below Lr)⟩;clear hu2 hB2;generalize (rowD m (4*i+j) x).getD e 0=old at *
     generalize d / 10^j=gj at *
     go_wp2;have e1:(48+(gj:Int) % 10)=((48+gj % 10:Nat):Int):=by omega
     have e2:((gj:Int) / 10)=((gj / 10:Nat):Int):=by omega
     rw [e1,e2];exact ⟨⟨j+1,e,by omega,by omega,by go_num,by rw [HG.o],by go_num,HC,⟨HB2.o _⟩⟩,by simp [intOf];omega⟩
    ·obtain rfl:j=4:=by omega
     go_wp2;exact ⟨⟨i+1,e1,by omega,by omega,rfl,by go_num,hu2,hB2⟩,by simp [intOf];omega⟩
  ·obtain rfl:i=(natL x).length:=by omega
   obtain rfl:e0=0:=by have:=HM.o;omega
   have HR:Shut (BR wr w.heap.size (List.replicate (m-dl) 48++decN x)):=⟨by
    have h1:=hu.o;rw [show 4*(natL x).length=m by omega,HFULL.o,←HDL.o] at h1;exact h1⟩
   clear hu;go_wp2
   go_loopw [3] (fun sv wr'=>∃ o r:Nat,o+r=m∧dl≤r∧sv = .slice (some ⟨w.heap.size,o,none⟩) r r∧wr'=wr) (fun sv _=>match sv with | .slice _ k _=>k | _=>0)
   case atStart=>exact ⟨0,m,by omega,by omega,rfl,rfl⟩
   case round =>
    obtain ⟨o,r,hor,hr,rfl,rfl⟩:=hrel;by_cases ho2:dl<r
    ·obtain ⟨r,rfl⟩:∃ r',r=r'+1:=⟨r-1,by omega⟩;have hc:=HR.o.u8 o (by rw [List.length_append,List.length_replicate];omega);rw [Qpy (m-dl) o 48 _ (by omega)] at hc;have hr1:¬ r+1=1:=by omega
     have hr2:r≠0:=by omega
     go_wp2;exact ⟨⟨o+1,r,by omega,by omega,rfl,trivial⟩,Nat.lt_succ_self r⟩
    ·obtain rfl:r=dl:=by omega
     have hc:=HR.o.u8 o (by rw [List.length_append,List.length_replicate,←HDL.o];omega)
     have hcv:=Qep wr w.heap.size o r (decN x) (fun y hy=>by have:=QaQ x y hy;omega) (fun i hi=>by
      have h1:=HR.o.u8 (o+i) (by rw [List.length_append,List.length_replicate];omega);have h2:=Qhg (List.replicate (m-r) 48) (decN x) i;rw [List.length_replicate,show m-r=o by omega] at h2;rw [show m-r=o by omega,h2] at h1;exact h1)
     rw [←HDL.o] at hcv;have h2:=Qhg (List.replicate (m-r) 48) (decN x) 0;rw [List.length_replicate,show m-r=o by omega,Nat.add_zero] at h2;rw [show m-r=o by omega,h2] at hc;have h48:=HHEAD.o;have h48i:(((decN x).getD 0 0:Nat):Int)≠48:=by omega
     have hr0:0<r:=by omega
     clear h2 hor hr hdl hi;generalize (decN x).getD 0 0=hd at *
     obtain ⟨str,hstr⟩:∃ str,str=ba (decN x):=⟨_,rfl⟩;rw [←hstr] at hcv;have HSTR:Shut _:=⟨hstr⟩;clear hstr he0 hlt ho2;go_wp2;go_ret;exact ⟨by rw [←HSTR.o];rfl,hB.o⟩
theorem Qnm (k x:Nat):padL (k+1) x=padL k x ++ [x / 10000^k % 10000]:=by
 have h1:=Qdq (k+1) k x (by omega);have h2:=Qdq k k x Lr;rw [Nat.sub_self,padL,List.append_nil] at h2;rw [h1,←h2,show k+1-k=1 by omega,padL,padL]
theorem Qde (s:ByteArray) (i j:Nat):bl (s.extract i j)=((bl s).take j).drop i:=by
 simp [bl,List.map_take,List.map_drop,List.drop_take]
theorem QrX (t:ByteArray) (n:Nat) (hn:t.size=n) (w:World):∃ (W1:World) (cap:Nat),
  Sem.run Tryz.prog (convert 9 202 (Z t)) w = .ok (.slice (some ⟨w.heap.size,0,none⟩) n cap) W1∧(∀ i,i<n→W1.cell? ⟨w.heap.size,i,none⟩=some (.int .u8 (((bl t).getD i 0:Nat):Int)))∧Below w.heap.size w W1:=by
 subst hn;refine ⟨Lib.bytesWorld w 5 t,grownCap w t.size 0 5, Lib.run_convert_string_bytes w 9 202 5 t Tryz.underlying9 Tryz.underlying202 Tryz.underlying5, fun i hi => ?_,Joins.below_bytesWorld _ w 5 t Lr⟩;rw [Lib.bytesWorld_cell w 5 t i hi,QeC t i hi];congr 3;simp [List.getD,hi];rfl
theorem Qpz (a i c:Nat) (ha:a<100000) (h1:48≤c) (h2:c<58) (w:World) :
  Calls Tryz.prog 225 #[.int .u32 a,.int .i64 i,.int .u8 c] w fun e w'=>e = .returned (.int .u32 ((10*a+(c-48):Nat):Int))∧w'=w:=by
 go_enter Tryz.func225, Tryz.ntmps225;obtain ⟨d,rfl⟩:∃ d,c=48+d:=⟨c-48,by omega⟩;go_wp2;go_ret;exact ⟨QrQ (by omega),rfl⟩
theorem Qnn (l:List Nat) (g cap n:Nat) (hn:l.length=n) (h4:n≤4) (hl:∀ y∈l,48≤y∧y<58) (w:World) (hc:∀ i,i<n→w.cell? ⟨g,i,none⟩=some (.int .u8 ((l.getD i 0:Nat):Int))) :
  Calls Tryz.prog 224 #[.slice (some ⟨g,0,none⟩) n cap,.int .u32 0,.func (Fn.func 225) #[] #[]] w fun e w'=>e = .returned (.int .u32 (dvl l:Nat))∧w'=w:=by
 go_enter Tryz.func224, Tryz.ntmps224;have HC:Shut _:=⟨hc⟩;have HL:Shut _:=⟨hl⟩;have HN:Shut _:=⟨hn⟩;clear hc hl hn;go_wp2
 go_loopw [7,13] (fun sv iv wr=>∃ k:Nat,k≤n∧sv = .int .u32 (dvl (l.take k):Nat)∧iv = .int .i64 k∧wr=w) (fun _ iv _=>n-(intOf iv).toNat)
 case atStart=>exact ⟨0,Nat.zero_le _,rfl,rfl,rfl⟩
 case round =>
  obtain ⟨k,hk,rfl,rfl,rfl⟩:=hrel;by_cases hlt:k<n
  ·have hkl:k<l.length:=by have:=HN.o;omega
   have hcl:=HC.o k hlt;have hg:l.getD k 0=l[k]:=by simp [List.getD,hkl]
   have hd:=HL.o _ (List.getElem_mem hkl);rw [←hg] at hd;have hv:=Qhf (l.take k) (fun y hy=>HL.o y (List.mem_of_mem_take hy));have hp:10^(l.take k).length≤10^4:=Nat.pow_le_pow_right (by decide) (by rw [List.length_take];omega);have HV:Shut (dvl (l.take (k+1))=10*dvl (l.take k)+(l.getD k 0-48)):=⟨by rw [List.take_succ_eq_append_getElem hkl,Qez,hg]⟩;have hv2:dvl (l.take k)<100000:=by omega
   have hd1:decide ((k:Int)<(n:Int))=true:=decide_eq_true (by omega);clear hg hv hp hkl;generalize dvl (l.take k)=a at *
   generalize l.getD k 0=c at *
   have c1:=Qpz a k c hv2 hd.1 hd.2 wr;go_wp2_with (go_at_call 225; refine c1.mono ?_;rintro e w1 ⟨rfl,rfl⟩);exact ⟨⟨k+1,by omega,by rw [HV.o];congr 1,by go_num,trivial⟩,by simp [intOf];omega⟩
  ·obtain rfl:k=n:=by omega
   have HF:Shut (dvl (l.take k)=dvl l):=⟨by rw [←HN.o,List.take_length]⟩;rw [HF.o];go_wp2;go_ret;exact ⟨rfl,rfl⟩
theorem Qno (l:List Nat) (hl:∀ y∈l,48≤y∧y<58) (k e:Nat) (he:e+4*k=l.length):dvl ((l.take e).drop (e-4))=dvl l / 10000^k % 10000:=by
 have h1:dvl l=dvl (l.take e)*10^(l.drop e).length+dvl (l.drop e):=by rw [←QdW,List.take_append_drop]
 have h2:=Qhf (l.drop e) (fun y hy=>hl y (List.mem_of_mem_drop hy));have h3:(l.drop e).length=4*k:=by rw [List.length_drop];omega
 rw [h3] at h1 h2;have hp:10000^k=10^(4*k):=by rw [show (10000:Nat)=10^4 from rfl,←Nat.pow_mul]
 have h4:dvl l / 10000^k=dvl (l.take e):=by
  rw [hp,h1,Nat.add_comm,Nat.add_mul_div_right _ _ (Nat.pow_pos (by decide)),Nat.div_eq_of_lt h2,Nat.zero_add]
 rw [h4];have h5:dvl (l.take e)=dvl ((l.take e).take (e-4))*10^((l.take e).drop (e-4)).length+dvl ((l.take e).drop (e-4)):=by rw [←QdW,List.take_append_drop]
 have h6:=Qhf ((l.take e).drop (e-4)) (fun y hy=>hl y (List.mem_of_mem_take (List.mem_of_mem_drop hy)));have h7:((l.take e).drop (e-4)).length=e-(e-4):=by rw [List.length_drop,List.length_take];omega
 rw [h7] at h5 h6;by_cases he4:4≤e
 ·rw [show e-(e-4)=4 by omega] at h5 h6;rw [h5];omega
 ·rw [show e-4=0 by omega,List.drop_zero];have h8:10^(e-(e-4))≤10^4:=Nat.pow_le_pow_right (by decide) (by omega);rw [show e-4=0 by omega,List.drop_zero] at h6;rw [show e-4=0 by omega] at h8;omega
theorem Qbt {w:World} {y:Nat} {ops:Array Oper} {rest:List Oper} {o:Oper} {a:Act} {Q:Exit→Act→World→Prop} (hgd:o.guard=none) (s x:Operand)
  (ho:o.op = .call {callee:=.builtin .append,args:=#[s,x],argTypes:=#[128, 128]}) (base:Nat) (v:Value) (xs:List Nat) (hs:a.eval s=v) (w0:World) (hw:w=w0.alloc (O #[.int .u32 (y:Nat)] 171)) (hown:OwnU w0 base v xs)
  (hx:a.eval x = .slice (some ⟨w0.heap.size,0,none⟩) 1 1) (hl:xs.length+1≤1000000) (hb:base≤w0.heap.size)
  (h:∀ v' w',OwnU w' base v' (xs ++ [y])→v' ≠ .slice none 0 0→Below base w0 w'→wpList Tryz.prog ops Q rest (a.put o.dst v') w'):wpList Tryz.prog ops Q (o :: rest) a w:=by
 subst hw;obtain ⟨i0,hinf,hz0,hz1,hz2⟩:=info_parts Qnb;have hB0:Below base w0 (w0.alloc (O #[.int .u32 (y:Nat)] 171)):=(Below.refl _ _).alloc hb _;refine wpList_append_own _ hgd s x 128 ho base 171 i0 (.int .u32 0) 1 4 Tryz.underlying128 hinf hz0 hz1 hz2 rfl (by decide) v xs.length _ hs (World.ownsRow.alloc hown _) ⟨w0.heap.size,0,none⟩ 1 1 [.int .u32 (y:Nat)] hx rfl (cell_one_new _ _ _) (by simp [Value.oneCell']) (by unfold maxLen;omega) (by omega) (by rw [World.size_alloc];omega) ?_;intro v' w' hown' hgrow hnil;exact h v' w' (OwnU.snoc hown') (fun e=>by have:=(hnil.1 e).2;omega) (QbT hB0 hb (World.ownsRow.alloc hown _) hgrow)
set_option maxRecDepth 100000 in
theorem QiD (s:ByteArray) (hs:s.size≤1000) (hl:∀ y∈bl s,48≤y∧y<58) (w:World) :
  Calls Tryz.prog 192 #[Z s] w fun e w'=>∃ v,e = .returned v∧NA w' v (natL (dvl (bl s)))∧Below w.heap.size w w':=by
 have hbl:=QcA s;obtain ⟨V,hV⟩:∃ V,V=dvl (bl s):=⟨_,rfl⟩;have hVlt:V<10^s.size:=by rw [hV,←hbl];exact Qhf _ hl
 obtain ⟨n,hn⟩:∃ n,n=s.size:=⟨_,rfl⟩;have HV:Shut _:=⟨hV⟩;have HVL:Shut _:=⟨hVlt⟩;have HL:Shut _:=⟨hl⟩;have HBL:Shut _:=⟨hbl⟩;have HN:Shut _:=⟨hn⟩;obtain ⟨cp,hcp⟩:∃ cp,cp=(n+3) / 4:=⟨_,rfl⟩;have HCP:Shut ((((n:Int)+4-1) / 4)=(cp:Int)):=⟨by omega⟩;have hcp2:cp≤1000:=by omega
 have hn2:n≤1000:=by omega
 rw [←hV];clear hV hVlt hl hbl hcp hs;go_enter Tryz.func192, Tryz.ntmps192;obtain ⟨i0,hinf,hz0,hz1,hz2⟩:=info_parts Qnb;have hsz:s.size=n:=hn.symm;clear hn;go_wp2_with (first | (at_make;refine wpList_make_own w rfl _ _ 128 rfl w.heap.size 171 i0 (.int .u32 0) 1 Tryz.underlying128 hinf hz0 hz1 .i64 .i64 (cp:Int) cp rfl (congrArg (Value.int .i64) HCP.o) rfl (by rw [hz2];omega) (by unfold maxLen;omega) Lr ?_;intro w1 hO1 hgr1));have hB1:Below w.heap.size w w1:=⟨hgr1.os,hgr1.tape,hgr1.output,hgr1.size,fun k hk=>hgr1.block k (by omega) (by simp)⟩
 go_loopw [3,4] (fun v ev wr=>∃ k:Nat,4*k<n+4∧ev = .int .i64 ((n:Int)-4*k)∧v ≠ .slice none 0 0∧OwnU wr w.heap.size v (padL k V)∧Below w.heap.size w wr) (fun _ ev _=>(intOf ev).toNat)
 case atStart=>exact ⟨0,by omega,by simp,by simp,hO1,hB1⟩
 case round =>
  rename_i v0 _;obtain ⟨k,hk,rfl,hne,hO,hB⟩:=hrel;by_cases hlt:4*k<n
  ·obtain ⟨e,he⟩:∃ e,e+4*k=n:=⟨n-4*k,by omega⟩;obtain ⟨st,hst⟩:∃ st,st=e-4:=⟨_,rfl⟩;have hei:((n:Int)-4*(k:Int))=(e:Int):=by omega
   have hmax:max ((e:Int)-4) 0=(st:Int):=by omega
   have hmax2:(if (e:Int)-4<0 then (0:Int) else (e:Int)-4)=(st:Int):=by split <;> omega
   have hse:st≤e:=by omega
   have hen:e≤n:=by omega
   have hseg:bl (s.extract st e)=((bl s).take e).drop st:=Qde s st e;have hsegl:(s.extract st e).size=e-st:=by rw [ByteArray.size_extract];omega
   have hsegd:∀ y∈bl (s.extract st e),48≤y∧y<58:=fun y hy=>by rw [hseg] at hy;exact HL.o y (List.mem_of_mem_take (List.mem_of_mem_drop hy))
   have HG:Shut (padL (k+1) V=padL k V ++ [dvl (bl (s.extract st e))]):=⟨by
    rw [Qnm,hseg,hst,Qno (bl s) HL.o k e (by rw [HBL.o];omega),HV.o]⟩
   have hsl:=QcA (s.extract st e);have hpl:=Qaq k V;obtain ⟨W1,c1,hcv,hcell,hBc⟩:=QrX (s.extract st e) (e-st) hsegl wr;have cF:=Qnn (bl (s.extract st e)) wr.heap.size c1 (e-st) (by rw [hsl,hsegl]) (by omega) hsegd W1 hcell;have hB1':Below w.heap.size w W1:=hB.trans (hBc.mono hB.size);have hO1':=hO.below hBc;have hes:(e:Int)≤(n:Int):=by omega
   have hss:(st:Int)≤(e:Int):=by omega
   rw [hei];clear hst hseg hsegl hsegd hsl hcell hO hO1 hgr1 hB1 hBc;generalize dvl (bl (s.extract st e))=gd at *
   generalize hsg:s.extract st e=sg at *
   go_wp2_with (first | (go_at_call 224; refine cF.mono ?_;rintro e9 w5 ⟨rfl,rfl⟩) | (at_builtin;go_must (refine Qbt rfl _ _ rfl w.heap.size _ (padL k V) rfl w5 rfl hO1' rfl (by omega) hB1'.size ?_);intro v3 w3 hO3 hn3 hB3));exact ⟨⟨k+1,by omega,by congr 1;omega,hn3,by rw [HG.o];exact hO3,hB1'.trans hB3⟩,by simp [intOf];omega⟩
  ·have hei:¬(0:Int)<((n:Int)-4*(k:Int)):=by omega
   rcases hO.open with ⟨h1,_⟩ | ⟨cap,g,rfl,hg,hu,hc,hm⟩
   ·exact absurd h1 hne
   rw [Qaq] at hc ⊢
   have hz:V<10000^k:=by
    have:=HVL.o;rw [show (10000:Nat)=10^4 from rfl,←Nat.pow_mul];exact Nat.lt_of_lt_of_le this (Nat.pow_le_pow_right (by decide) (by omega))
   have cT:=Qdr wr g cap k V (padL k V) hu (List.take_of_length_le (by rw [Qaq];exact Nat.le_refl _)) hz hc hm (by omega);clear hu hz hO hne hO1 hgr1 hB1;go_wp2_with (go_at_call 191; refine cT.mono ?_;rintro e w4 ⟨⟨v4,rfl,hv4⟩,rfl⟩);go_ret;exact ⟨_,rfl,hv4,hB⟩
theorem Qcf (neg:Bool) (p:Option Addr) (n cap:Nat) (w:World) :
  Calls Tryz.prog 150 #[.bool neg,.slice p n cap] w fun e w'=>e = .returned (.agg #[.bool (neg && decide (0<n)),.slice p n cap])∧Below w.heap.size w w':=by
 go_enter Tryz.func150, Tryz.ntmps150;cases neg with
 | true =>
  go_wp2;refine bodyPost_ret (v:=.agg #[.bool (decide (0<n)),.slice p n cap]) (by simp [results,Tryz.results150, go_sem]) rfl ⟨by rw [Bool.true_and],(Below.refl _ w).alloc Lr _⟩
 | false =>
  go_wp2;refine bodyPost_ret (v:=.agg #[.bool false,.slice p n cap]) (by simp [results,Tryz.results150, go_sem]) rfl ⟨by rw [Bool.false_and],(Below.refl _ w).alloc Lr _⟩
theorem Qaf {w0 w1:World} {b:Nat} {x y:Value} (h:RowAt w0 b #[x,y] 130) (hB:Below w0.heap.size w0 w1):w1.cell? ⟨b,0,none⟩=some x∧w1.cell? ⟨b,1,none⟩=some y∧w1.frozen? ⟨b,0,none⟩=false∧w1.frozen? ⟨b,1,none⟩=false:=by
 have h1:=RowAt.below h hB (RowAt.lt h);exact ⟨RowAt.cell h1 0,RowAt.cell h1 1,RowAt.frozen h1 0,RowAt.frozen h1 1⟩
theorem box2 (w:World) (o:Obj) (x y:Value):RowAt ((w.alloc o).alloc (O #[x,y] 130)) (w.heap.size+1) #[x,y] 130 := by
 have:=RowAt.new (w.alloc o) #[x,y] 130
 rwa [World.size_alloc] at this
def IsN (W:World) (u:Value) (z:Int):Prop:=∃ (p:Option Addr) (cap:Nat),u = .agg #[.bool (decide (z<0)),.slice p (natL z.natAbs).length cap]∧NA W (.slice p (natL z.natAbs).length cap) (natL z.natAbs)
theorem IsN.below {W W':World} {u:Value} {z:Int} (h:IsN W u z) {B:Nat} (hB:Below B W W') (hw:W.heap.size≤B):IsN W' u z:=by
 obtain ⟨p,cap,e,h⟩:=h;exact ⟨p,cap,e,h.below hB hw⟩
theorem Qcg (z:Int) (u:Value) (w:World) (h:IsN w u z) :
  Calls Tryz.prog 116 #[u] w fun e w'=>e = .returned (.bool (decide (z=0)))∧Below w.heap.size w w':=by
 obtain ⟨p,cap,rfl,hN⟩:=h;have hz:(natL z.natAbs).length=0↔z=0:=by rw [QaF];omega
 go_enter Tryz.func116, Tryz.ntmps116
 have HZ:Shut (((((natL z.natAbs).length:Nat):Int) == 0)=decide (z=0)):=⟨by
  by_cases h0:z=0
  ·rw [decide_eq_true h0,hz.2 h0];rfl
  ·have:=mt hz.1 h0;rw [decide_eq_false h0,beq_eq_false_iff_ne];omega⟩
 clear hz hN;go_wp2;go_ret;refine ⟨by rw [←HZ.o];rfl,(Below.refl _ w).alloc Lr _⟩
theorem QjG (z:Int) (u:Value) (w:World) (h:IsN w u z) :
  Calls Tryz.prog 221 #[u] w fun e w'=>∃ v,e = .returned v∧IsN w' v (-z)∧Below w.heap.size w w':=by
 obtain ⟨p,cap,rfl,hN⟩:=h
 have HZ:Shut ((!decide (z<0) && decide (0<(natL z.natAbs).length))=decide (-z<0)):=⟨by
  have hz:(natL z.natAbs).length=0↔z=0:=by rw [QaF];omega
  by_cases h0:z<0
  ·rw [decide_eq_true h0,decide_eq_false (show ¬ -z<0 by omega)];rfl
  ·rw [decide_eq_false h0];by_cases h1:z=0
   ·rw [hz.2 h1,decide_eq_false (show ¬ -z<0 by omega)];rfl
   ·have:=mt hz.1 h1;rw [decide_eq_true (show -z<0 by omega),decide_eq_true (show 0<(natL z.natAbs).length by omega)];rfl⟩
 have HN:Shut _:=⟨hN⟩;have hB0:Below w.heap.size w ((w.alloc (O #[.bool (decide (z<0)),.slice p (natL z.natAbs).length cap] 130)).alloc (O #[.bool false,.slice none 0 0] 130)):=((Below.refl _ w).alloc Lr _).alloc (by rw [World.size_alloc];omega) _;have HR:Shut _:=⟨box2 w (O #[.bool (decide (z<0)),.slice p (natL z.natAbs).length cap] 130) (.bool false) (.slice none 0 0)⟩;have HB0:Shut _:=⟨hB0⟩;go_enter Tryz.func221, Tryz.ntmps221;clear hN hB0;go_wp2_with (go_at_call 150; refine (Qcf _ p _ cap _).mono ?_;rintro e w1 ⟨rfl,hB1⟩;obtain ⟨k1,k2,k3,k4⟩:=Qaf HR.o hB1);have hF:=((HB0.o.trans (hB1.mono HB0.o.size)).setCell (p:=⟨w.heap.size+1,0,none⟩) (Nat.le_succ _) (.bool (!decide (z<0) && decide (0<(natL z.natAbs).length)))).setCell (p:=⟨w.heap.size+1,1,none⟩) (Nat.le_succ _) (.slice p (natL z.natAbs).length cap);refine bodyPost_ret (v:=.agg #[.bool (!decide (z<0) && decide (0<(natL z.natAbs).length)),.slice p (natL z.natAbs).length cap]) (by simp [results,Tryz.results221, go_sem,k1,k2]) rfl ⟨_,rfl,⟨p,cap,by rw [Int.natAbs_neg,HZ.o],by rw [Int.natAbs_neg];exact HN.o.below hF Lr⟩,hF⟩
def txt (z:Int):ByteArray:=if z=0 then ba [48] else if z<0 then ba (45 :: decN z.natAbs) else ba (decN z.natAbs)
theorem QcT (z:Int) (u:Value) (w:World) (h:IsN w u z) (hl:(natL z.natAbs).length≤1000) :
  Calls Tryz.prog 118 #[u] w fun e w'=>e = .returned (Z (txt z))∧Below w.heap.size w w':=by
 have hi:=fun W (hW:IsN W u z)=>Qcg z u W hW;have HI:=h;obtain ⟨p,cap,rfl,hN⟩:=h;have hB0:Below w.heap.size w (w.alloc (O #[.bool (decide (z<0)),.slice p (natL z.natAbs).length cap] 130)):=(Below.refl _ w).alloc Lr _;have HR:Shut _:=⟨RowAt.new w #[.bool (decide (z<0)),.slice p (natL z.natAbs).length cap] 130⟩;have HN:Shut _:=⟨hN⟩;have HB0:Shut _:=⟨hB0⟩;have c1:=hi _ (HI.below hB0 Lr);have HD:Shut (∀ W,Below w.heap.size w W→z≠0→Calls Tryz.prog 157 #[.slice p (natL z.natAbs).length cap] W fun e w'=>e = .returned (Z (ba (decN z.natAbs)))∧Below W.heap.size W w'):=⟨fun W hW hz=>QlO z.natAbs (by omega) _ W (HN.o.below hW Lr) hl⟩;go_enter Tryz.func118, Tryz.ntmps118;clear hN hB0 hi HI;by_cases h0:z=0
 ·have HT:Shut (txt z=⟨#[48]⟩):=⟨by rw [txt,if_pos h0];rfl⟩;have hd:decide (z=0)=true:=decide_eq_true h0;rw [hd] at c1;clear h0 hd;go_wp2_with (go_at_call 116; refine c1.mono ?_;rintro e w1 ⟨rfl,hB1⟩);go_ret;exact ⟨by rw [HT.o];rfl,HB0.o.trans (hB1.mono HB0.o.size)⟩
 ·have hd:decide (z=0)=false:=decide_eq_false h0;rw [hd] at c1;by_cases hn:z<0
  ·have HT:Shut (txt z=⟨#[45]⟩++ba (decN z.natAbs)):=⟨by rw [txt,if_neg h0,if_pos hn,show (45 :: decN z.natAbs) = [45]++decN z.natAbs from rfl,Qnk];rfl⟩;have hdn:decide (z<0)=true:=decide_eq_true hn
   have hsz:(ba (decN z.natAbs)).size≤100000:=by
    rw [Qeo];have:=Qce (n:=z.natAbs) (t:=4*(natL z.natAbs).length) (by have:=QaI z.natAbs;rw [Nat.pow_mul];exact this);omega
   have h1s:(⟨#[45]⟩:ByteArray).size=1:=rfl;rw [hdn] at c1 HR HB0 ⊢;have HZ:Shut _:=⟨h0⟩;clear h0 hd hn hdn;generalize ba (decN z.natAbs)=ds at *
   go_wp2_with (first | (go_at_call 116; refine c1.mono ?_;rintro e w1 ⟨rfl,hB1⟩;obtain ⟨k1,k2,k3,k4⟩:=Qaf HR.o hB1) | (go_at_call 157; refine (HD.o w1 (HB0.o.trans (hB1.mono HB0.o.size)) HZ.o).mono ?_;rintro e w2 ⟨rfl,hB2⟩));go_ret;exact ⟨by rw [HT.o];rfl,(HB0.o.trans (hB1.mono HB0.o.size)).trans (hB2.mono (HB0.o.trans (hB1.mono HB0.o.size)).size)⟩
  ·have HT:Shut (txt z=ba (decN z.natAbs)):=⟨by rw [txt,if_neg h0,if_neg hn]⟩;have hdn:decide (z<0)=false:=decide_eq_false hn;rw [hdn] at c1 HR HB0 ⊢;have HZ:Shut _:=⟨h0⟩;clear h0 hd hn hdn;generalize ba (decN z.natAbs)=ds at *
   go_wp2_with (first | (go_at_call 116; refine c1.mono ?_;rintro e w1 ⟨rfl,hB1⟩;obtain ⟨k1,k2,k3,k4⟩:=Qaf HR.o hB1) | (go_at_call 157; refine (HD.o w1 (HB0.o.trans (hB1.mono HB0.o.size)) HZ.o).mono ?_;rintro e w2 ⟨rfl,hB2⟩));go_ret;exact ⟨by rw [HT.o];rfl,(HB0.o.trans (hB1.mono HB0.o.size)).trans (hB2.mono (HB0.o.trans (hB1.mono HB0.o.size)).size)⟩
def cmpZ (x y:Int):Int:=if x<y then -1 else if x=y then 0 else 1
theorem QgY (x y:Int) (u v:Value) (w:World) (hx:IsN w u x) (hy:IsN w v y) (hl:(natL x.natAbs).length≤1000) (hl2:(natL y.natAbs).length≤1000) :
  Calls Tryz.prog 115 #[u,v] w fun e w'=>e = .returned (.int .i64 (cmpZ x y))∧Below w.heap.size w w':=by
 obtain ⟨p,cap,rfl,hN⟩:=hx;obtain ⟨q,cap',rfl,hN'⟩:=hy;have hB0:Below w.heap.size w ((w.alloc (O #[.bool (decide (x<0)),.slice p (natL x.natAbs).length cap] 130)).alloc (O #[.bool (decide (y<0)),.slice q (natL y.natAbs).length cap'] 130)):=((Below.refl _ w).alloc Lr _).alloc (by rw [World.size_alloc];omega) _
 have cmp:∀ (a b:Nat) (pa pb:Option Addr) (ca cb:Nat) (W:World),Below w.heap.size w W→NA w (.slice pa (natL a).length ca) (natL a)→NA w (.slice pb (natL b).length cb) (natL b)→(natL a).length≤1000→(natL b).length≤1000→Calls Tryz.prog 153 #[.slice pa (natL a).length ca,.slice pb (natL b).length cb] W fun e w'=>e = .returned (.int .i64 (cmpN a b))∧Below W.heap.size W w':=fun a b pa pb ca cb W hW h1 h2 h3 h4=>by
  obtain ⟨p1,c1,g1,o1,e1,_,_,hp1,hu1⟩:=(h1.below hW Lr).open;obtain ⟨p2,c2,g2,o2,e2,_,_,hp2,hu2⟩:=(h2.below hW Lr).open;injection e1 with e11 e12 e13;injection e2 with e21 e22 e23;subst e11;subst e13;subst e21;subst e23;refine (Qgb a b pa ca g1 o1 pb cb g2 o2 W (fun h=>(hp1 h).1) hu1 (fun h=>(hp2 h).1) hu2 (by omega) (by omega)).mono ?_;rintro e w' ⟨rfl,m,rfl⟩;exact ⟨rfl,Qag (Below.refl _ _) m⟩
 have HB0:Shut _:=⟨hB0⟩;go_enter Tryz.func115, Tryz.ntmps115;by_cases hx0:x<0
 ·have hdx:decide (x<0)=true:=decide_eq_true hx0;by_cases hy0:y<0
  ·have hdy:decide (y<0)=true:=decide_eq_true hy0;have HC:Shut (cmpN y.natAbs x.natAbs=cmpZ x y):=⟨by unfold cmpN cmpZ;(repeat' split) <;> omega⟩;rw [hdx,hdy] at HB0 ⊢;have c1:=cmp y.natAbs x.natAbs q p cap' cap _ HB0.o hN' hN hl2 hl;rw [HC.o] at c1;clear cmp hN hN' hB0 hdx hdy hx0 hy0;go_wp2_with (go_at_call 153; refine c1.mono ?_;rintro e w1 ⟨rfl,hB1⟩);go_ret;exact ⟨rfl,HB0.o.trans (hB1.mono HB0.o.size)⟩
  ·have hdy:decide (y<0)=false:=decide_eq_false hy0;have HC:Shut (cmpZ x y = -1):=⟨by rw [cmpZ,if_pos (by omega)]⟩;rw [hdx,hdy] at HB0 ⊢;clear cmp hN hN' hB0 hdx hdy hx0 hy0;go_wp2;go_ret;exact ⟨by rw [HC.o];rfl,HB0.o⟩
 ·have hdx:decide (x<0)=false:=decide_eq_false hx0;by_cases hy0:y<0
  ·have hdy:decide (y<0)=true:=decide_eq_true hy0;have HC:Shut (cmpZ x y=1):=⟨by rw [cmpZ,if_neg (by omega),if_neg (by omega)]⟩;rw [hdx,hdy] at HB0 ⊢;clear cmp hN hN' hB0 hdx hdy hx0 hy0;go_wp2;go_ret;exact ⟨by rw [HC.o];rfl,HB0.o⟩
  ·have hdy:decide (y<0)=false:=decide_eq_false hy0;have HC:Shut (cmpN x.natAbs y.natAbs=cmpZ x y):=⟨by unfold cmpN cmpZ;(repeat' split) <;> omega⟩;rw [hdx,hdy] at HB0 ⊢;have c1:=cmp x.natAbs y.natAbs p q cap cap' _ HB0.o hN hN' hl hl2;rw [HC.o] at c1;clear cmp hN hN' hB0 hdx hdy hx0 hy0;go_wp2_with (go_at_call 153; refine c1.mono ?_;rintro e w1 ⟨rfl,hB1⟩);go_ret;exact ⟨rfl,HB0.o.trans (hB1.mono HB0.o.size)⟩
def box3 (w:World) (a b c:Array Value):World:=((w.alloc (.cells a 130)).alloc (.cells b 130)).alloc (.cells c 130)
theorem QcF (w:World) (a b c:Array Value):Below w.heap.size w (box3 w a b c):=(((Below.refl _ w).alloc Lr _).alloc (by rw [World.size_alloc];omega) _).alloc (by rw [World.size_alloc,World.size_alloc];omega) _
theorem QiE (w:World) (a b c:Array Value):(box3 w a b c).heap.size=w.heap.size+3:=by rw [box3,World.size_alloc,World.size_alloc,World.size_alloc]
theorem QeD (w:World) (a b c:Array Value):RowAt (box3 w a b c) w.heap.size a 130 ∧ RowAt (box3 w a b c) (w.heap.size+1) b 130 ∧ RowAt (box3 w a b c) (w.heap.size+2) c 130 := by
 have h1:=((RowAt.new w a 130).alloc (.cells b 130)).alloc (.cells c 130);have h2:=(RowAt.new (w.alloc (.cells a 130)) b 130).alloc (.cells c 130);have h3:=RowAt.new ((w.alloc (.cells a 130)).alloc (.cells b 130)) c 130;rw [World.size_alloc] at h2;rw [World.size_alloc,World.size_alloc] at h3;exact ⟨h1,h2,h3⟩
theorem NA.setNum {W:World} {v:Value} {l:List Nat} {b:Nat} {x y:Value} (h:NA W v l) (hr:RowAt W b #[x,y] 130) (hx:∀ k n,x ≠ .int k n) (hy:∀ k n,y ≠ .int k n) (i:Nat) (z:Value):NA (W.setCell ⟨b,i,none⟩ z) v l:=by
 obtain ⟨p,cap,rfl,h1,h2,h3 | ⟨g,o,rfl,hg,hu⟩⟩:=h
 ·exact ⟨p,cap,rfl,h1,h2,.inl h3⟩
 ·refine ⟨_,cap,rfl,h1,h2,.inr ⟨g,o,rfl,by simp only [World.setCell,Array.size_modify];exact hg,fun j hj => ?_⟩⟩;have hc:=hu j hj;by_cases hgb:g=b
  ·subst hgb;rw [RowAt.cell hr (o+j)] at hc;rcases Nat.lt_or_ge (o+j) 2 with h5 | h5
   ·rcases (show o+j=0∨o+j=1 by omega) with h6 | h6
    ·rw [h6] at hc;exact absurd (Option.some.inj hc) (hx _ _)
    ·rw [h6] at hc;exact absurd (Option.some.inj hc) (hy _ _)
   ·rw [Array.getElem?_eq_none (by simpa using h5)] at hc;cases hc
  ·have e:(W.setCell ⟨b,i,none⟩ z).cell? ⟨g,o+j,none⟩=W.cell? ⟨g,o+j,none⟩:=by
    unfold World.cell?;rw [show (W.setCell ⟨b,i,none⟩ z).heap[(⟨g,o+j,none⟩:Addr).block]? = W.heap[g]? from heap_setCell_other W ⟨b,i,none⟩ g z hgb]
   exact e.trans hc
theorem NA.setNum2 {W:World} {v:Value} {l:List Nat} {b:Nat} {x y:Value} (h:NA W v l) (hr:RowAt W b #[x,y] 130) (hx:∀ k n,x ≠ .int k n) (hy:∀ k n,y ≠ .int k n) (B:Bool) (z:Value):NA ((W.setCell ⟨b,0,none⟩ (.bool B)).setCell ⟨b,1,none⟩ z) v l :=
 (h.setNum hr hx hy 0 (.bool B)).setNum (x:=.bool B) (y:=y) (RowAt.set_same hr 0 (.bool B)) (fun _ _=>by simp) hy 1 z
theorem NA.out {W:World} {v:Value} {l:List Nat} (h:NA W v l):∃ (p:Option Addr) (cap:Nat),v = .slice p l.length cap∧NA W (.slice p l.length cap) l:=by
 obtain ⟨p,cap,rfl,h1⟩:=h;exact ⟨p,cap,rfl,p,cap,rfl,h1⟩
theorem Qak (x y:Int):(!(decide (x<0) == decide (y<0)) && decide (0<(natL (x.natAbs*y.natAbs)).length))=decide (x*y<0):=by
 have hz:(natL (x.natAbs*y.natAbs)).length=0↔x.natAbs*y.natAbs=0:=QaF;by_cases hx:x=0
 ·subst hx;rw [Int.zero_mul,show (0:Int).natAbs*y.natAbs=0 by simp,Qau];simp
 ·by_cases hy:y=0
  ·subst hy;rw [Int.mul_zero,show x.natAbs*(0:Int).natAbs=0 by simp,Qau];simp
  ·have hp:x.natAbs*y.natAbs≠0:=Nat.mul_ne_zero (by omega) (by omega);have hl:decide (0<(natL (x.natAbs*y.natAbs)).length)=true:=decide_eq_true (by have:=mt hz.1 hp;omega);rw [hl,Bool.and_true];by_cases h1:x<0
   ·by_cases h2:y<0
    ·have:=Int.mul_pos_of_neg_of_neg h1 h2;rw [decide_eq_true h1,decide_eq_true h2,decide_eq_false (show ¬ x*y<0 by omega)];rfl
    ·have:=Int.mul_neg_of_neg_of_pos h1 (show 0<y by omega);rw [decide_eq_true h1,decide_eq_false h2,decide_eq_true this];rfl
   ·by_cases h2:y<0
    ·have:=Int.mul_neg_of_pos_of_neg (show 0<x by omega) h2;rw [decide_eq_false h1,decide_eq_true h2,decide_eq_true this];rfl
    ·have:=Int.mul_pos (show 0<x by omega) (show 0<y by omega);rw [decide_eq_false h1,decide_eq_false h2,decide_eq_false (show ¬ x*y<0 by omega)];rfl
theorem QiF (x y:Int) (u v:Value) (w:World) (hx:IsN w u x) (hy:IsN w v y) (hl:(natL x.natAbs).length≤1000) (hl2:(natL y.natAbs).length≤1000) :
  Calls Tryz.prog 113 #[u,v] w fun e w'=>∃ r,e = .returned r∧IsN w' r (x*y)∧Below w.heap.size w w':=by
 obtain ⟨p,cap,rfl,hN⟩:=hx;obtain ⟨q,cap',rfl,hN'⟩:=hy;have HB0:Shut _:=⟨QcF w #[.bool (decide (x<0)),.slice p (natL x.natAbs).length cap] #[.bool (decide (y<0)),.slice q (natL y.natAbs).length cap'] #[.bool false,.slice none 0 0]⟩;have hZ:=QiE w #[.bool (decide (x<0)),.slice p (natL x.natAbs).length cap] #[.bool (decide (y<0)),.slice q (natL y.natAbs).length cap'] #[.bool false,.slice none 0 0];obtain ⟨r1,r2,r3⟩:=QeD w #[.bool (decide (x<0)),.slice p (natL x.natAbs).length cap] #[.bool (decide (y<0)),.slice q (natL y.natAbs).length cap'] #[.bool false,.slice none 0 0];go_enter Tryz.func113, Tryz.ntmps113;go_wp2;rw [show ((w.alloc (O #[.bool (decide (x<0)),.slice p (natL x.natAbs).length cap] 130)).alloc (O #[.bool (decide (y<0)),.slice q (natL y.natAbs).length cap'] 130)).alloc (O #[.bool false,.slice none 0 0] 130)=box3 w #[.bool (decide (x<0)),.slice p (natL x.natAbs).length cap] #[.bool (decide (y<0)),.slice q (natL y.natAbs).length cap'] #[.bool false,.slice none 0 0] from rfl];generalize box3 w #[.bool (decide (x<0)),.slice p (natL x.natAbs).length cap] #[.bool (decide (y<0)),.slice q (natL y.natAbs).length cap'] #[.bool false,.slice none 0 0]=W0 at *
 have hd:Below W0.heap.size W0 W0.drew:=(Below.refl _ _).drew;have hwd:Below w.heap.size w W0.drew:=HB0.o.drew;obtain ⟨a1,a2,_,_⟩:=Qaf r1 (Below.refl _ W0);obtain ⟨b1,b2,_,_⟩:=Qaf r2 (Below.refl _ W0);obtain ⟨d1,d2,d3,d4⟩:=Qaf r3 (Below.refl _ W0);have ct:=Qdd x.natAbs y.natAbs (.slice p (natL x.natAbs).length cap) (.slice q (natL y.natAbs).length cap') W0.drew (hN.below hwd Lr) (hN'.below hwd Lr) hl hl2;have HR1:Shut _:=⟨r1⟩;have HR2:Shut _:=⟨r2⟩;have HR3:Shut _:=⟨r3⟩;have n1:¬(w.heap.size=w.heap.size+1+1):=by omega
 have n2:¬(w.heap.size+1+1=w.heap.size):=by omega
 clear r1 r2 r3 hN hN'
 go_region_held3 (fun w'=>w'.cell? ⟨w.heap.size,0,none⟩=some (.bool (decide (x<0)))∧w'.cell? ⟨w.heap.size,1,none⟩=some (.slice p (natL x.natAbs).length cap)∧w'.cell? ⟨w.heap.size+1,0,none⟩=some (.bool (decide (y<0)))∧w'.cell? ⟨w.heap.size+1,1,none⟩=some (.slice q (natL y.natAbs).length cap')) (go_keep) (first | (go_at_call 151; refine ct.mono ?_;rintro e w1 ⟨v1,rfl,hv1,hB1⟩;obtain ⟨p1,cp1,rfl,hv1'⟩:=hv1.out;have hB1':=hd.trans hB1;obtain ⟨e1,e2,_,_⟩:=Qaf HR1.o hB1';obtain ⟨f1,f2,_,_⟩:=Qaf HR2.o hB1';obtain ⟨g1,g2,g3,g4⟩:=Qaf HR3.o hB1') | (go_at_call 150; refine (Qcf _ p1 _ cp1 _).mono ?_;rintro e w2 ⟨rfl,hB2⟩;have hB2':=hB1'.trans (hB2.mono hB1'.size);obtain ⟨h1,h2,_,_⟩:=Qaf HR1.o hB2';obtain ⟨i1,i2,_,_⟩:=Qaf HR2.o hB2';obtain ⟨j1,j2,j3,j4⟩:=Qaf HR3.o hB2'))
 all_goals go_wp2
 all_goals (have hF:=((HB0.o.trans (hB2'.mono HB0.o.size)).setCell (p:=⟨w.heap.size+1+1,0,none⟩) (by show w.heap.size≤w.heap.size+1+1;omega) (.bool (!(decide (x<0) == decide (y<0)) && decide (0<(natL (x.natAbs*y.natAbs)).length)))).setCell (p:=⟨w.heap.size+1+1,1,none⟩) (by show w.heap.size≤w.heap.size+1+1;omega) (.slice p1 (natL (x.natAbs*y.natAbs)).length cp1))
 all_goals (have hv2:=(hv1.below hB2 Lr).setNum2 (RowAt.below HR3.o hB2' (RowAt.lt HR3.o)) (fun _ _=>by simp) (fun _ _=>by simp) (!(decide (x<0) == decide (y<0)) && decide (0<(natL (x.natAbs*y.natAbs)).length)) (.slice p1 (natL (x.natAbs*y.natAbs)).length cp1))
 all_goals refine bodyPost_ret (v:=.agg #[.bool (!(decide (x<0) == decide (y<0)) && decide (0<(natL (x.natAbs*y.natAbs)).length)),.slice p1 (natL (x.natAbs*y.natAbs)).length cp1]) (by simp [results,Tryz.results113, go_sem,j1,j2]) rfl ⟨_,rfl,⟨p1,cp1,by rw [Int.natAbs_mul,Qak],by rw [Int.natAbs_mul];exact hv2⟩,hF⟩
theorem QpA {x y:Int} (h:(decide (x<0) == decide (y<0))=true):decide (x+y<0)=decide (x<0)∧(x+y).natAbs=x.natAbs+y.natAbs:=by
 rw [beq_iff_eq,decide_eq_decide] at h;rw [decide_eq_decide];constructor <;> omega
theorem Qky {x y:Int} (h:(decide (x<0) == decide (y<0))=false) (hl:y.natAbs≤x.natAbs):(decide (x<0) && decide (0<(natL (x.natAbs-y.natAbs)).length))=decide (x+y<0)∧(x+y).natAbs=x.natAbs-y.natAbs:=by
 have hz:(natL (x.natAbs-y.natAbs)).length=0↔x.natAbs-y.natAbs=0:=QaF
 have hn:¬(x<0↔y<0):=by
  intro h2;have h3:decide (x<0)=decide (y<0):=decide_eq_decide.2 h2;rw [h3] at h;simp at h
 refine ⟨?_,by omega⟩;by_cases h1:x<0
 ·rw [decide_eq_true h1,Bool.true_and,decide_eq_decide];constructor
  ·intro h3;omega
  ·intro h3;have:x.natAbs-y.natAbs≠0:=by omega
   have:=mt hz.1 this;omega
 ·rw [decide_eq_false h1,Bool.false_and,decide_eq_false (show ¬ x+y<0 by omega)]
theorem Qnp {W:World} {b:Nat} {x1 x2 y1 y2:Value} {c:Array Value} {T:TypeId} (r1:RowAt W b #[x1,x2] T) (r2:RowAt W (b+1) #[y1,y2] T) (r3:RowAt W (b+2) c T) :
  RowAt ((((W.setCell ⟨b,0,none⟩ y1).setCell ⟨b,1,none⟩ y2).setCell ⟨b+1,0,none⟩ x1).setCell ⟨b+1,1,none⟩ x2) b #[y1,y2] T∧RowAt ((((W.setCell ⟨b,0,none⟩ y1).setCell ⟨b,1,none⟩ y2).setCell ⟨b+1,0,none⟩ x1).setCell ⟨b+1,1,none⟩ x2) (b+1) #[x1,x2] T∧RowAt ((((W.setCell ⟨b,0,none⟩ y1).setCell ⟨b,1,none⟩ y2).setCell ⟨b+1,0,none⟩ x1).setCell ⟨b+1,1,none⟩ x2) (b+2) c T:=by
 have e1:b≠b+1:=by omega
 have e2:b+1≠b:=by omega
 have e3:b+2≠b:=by omega
 have e4:b+2≠b+1:=by omega
 exact ⟨((RowAt.set_same (RowAt.set_same r1 0 y1) 1 y2).set_other ⟨b+1,0,none⟩ e1 x1).set_other ⟨b+1,1,none⟩ e1 x2,
  RowAt.set_same (RowAt.set_same ((RowAt.set_other r2 ⟨b,0,none⟩ e2 y1).set_other ⟨b,1,none⟩ e2 y2) 0 x1) 1 x2,
  (((RowAt.set_other r3 ⟨b,0,none⟩ e3 y1).set_other ⟨b,1,none⟩ e3 y2).set_other ⟨b+1,0,none⟩ e4 x1).set_other ⟨b+1,1,none⟩ e4 x2⟩
theorem QrY (a b:Nat) (pa pb:Option Addr) (ca cb:Nat) (W:World) (h1:NA W (.slice pa (natL a).length ca) (natL a)) (h2:NA W (.slice pb (natL b).length cb) (natL b)) (h3:(natL a).length≤1000) (h4:(natL b).length≤1000) :
  Calls Tryz.prog 153 #[.slice pa (natL a).length ca,.slice pb (natL b).length cb] W fun e w'=>e = .returned (.int .i64 (cmpN a b))∧∃ m,w'=W.drewN m:=by
 obtain ⟨p1,c1,g1,o1,e1,_,_,hp1,hu1⟩:=h1.open;obtain ⟨p2,c2,g2,o2,e2,_,_,hp2,hu2⟩:=h2.open;injection e1 with e11 e12 e13;injection e2 with e21 e22 e23;subst e11;subst e13;subst e21;subst e23;exact Qgb a b pa ca g1 o1 pb cb g2 o2 W (fun h=>(hp1 h).1) hu1 (fun h=>(hp2 h).1) hu2 (by omega) (by omega)
theorem Qgc (x y:Int) (u v:Value) (w:World) (hx:IsN w u x) (hy:IsN w v y) (hl:(natL x.natAbs).length≤1000) (hl2:(natL y.natAbs).length≤1000) :
  Calls Tryz.prog 168 #[u,v] w fun e w'=>∃ r,e = .returned r∧IsN w' r (x+y)∧Below w.heap.size w w':=by
 obtain ⟨p,cap,rfl,hN⟩:=hx;obtain ⟨q,cap',rfl,hN'⟩:=hy;have HB0:Shut _:=⟨QcF w #[.bool (decide (x<0)),.slice p (natL x.natAbs).length cap] #[.bool (decide (y<0)),.slice q (natL y.natAbs).length cap'] #[.bool false,.slice none 0 0]⟩;obtain ⟨r1,r2,r3⟩:=QeD w #[.bool (decide (x<0)),.slice p (natL x.natAbs).length cap] #[.bool (decide (y<0)),.slice q (natL y.natAbs).length cap'] #[.bool false,.slice none 0 0];go_enter Tryz.func168, Tryz.ntmps168;go_upto_region 1 with fail
 rw [show ((w.alloc (O #[.bool (decide (x<0)),.slice p (natL x.natAbs).length cap] 130)).alloc (O #[.bool (decide (y<0)),.slice q (natL y.natAbs).length cap'] 130)).alloc (O #[.bool false,.slice none 0 0] 130)=box3 w #[.bool (decide (x<0)),.slice p (natL x.natAbs).length cap] #[.bool (decide (y<0)),.slice q (natL y.natAbs).length cap'] #[.bool false,.slice none 0 0] from rfl];generalize box3 w #[.bool (decide (x<0)),.slice p (natL x.natAbs).length cap] #[.bool (decide (y<0)),.slice q (natL y.natAbs).length cap'] #[.bool false,.slice none 0 0]=W0 at *
 have hd:Below W0.heap.size W0 W0.drew:=(Below.refl _ _).drew;have hwd:Below w.heap.size w W0.drew:=HB0.o.drew;obtain ⟨a1,a2,a3,a4⟩:=Qaf r1 (Below.refl _ W0);obtain ⟨b1,b2,b3,b4⟩:=Qaf r2 (Below.refl _ W0);obtain ⟨d1,d2,d3,d4⟩:=Qaf r3 (Below.refl _ W0);have HR1:Shut _:=⟨r1⟩;have HR2:Shut _:=⟨r2⟩;have HR3:Shut _:=⟨r3⟩;have HN:Shut _:=⟨hN⟩;have HN':Shut _:=⟨hN'⟩;have n1:¬(w.heap.size=w.heap.size+1+1):=by omega
 have n2:¬(w.heap.size+1+1=w.heap.size):=by omega
 clear r1 r2 r3 hN hN';cases hs:(decide (x<0) == decide (y<0)) with
 | true =>
  have HS:Shut _:=⟨QpA hs⟩;have ct:=Qey x.natAbs y.natAbs (.slice p (natL x.natAbs).length cap) (.slice q (natL y.natAbs).length cap') W0.drew (HN.o.below hwd Lr) (HN'.o.below hwd Lr) hl hl2;go_upto_region 2 with fail
  go_region_held3 (fun w'=>w'.cell? ⟨w.heap.size,0,none⟩=some (.bool (decide (x<0)))∧w'.cell? ⟨w.heap.size,1,none⟩=some (.slice p (natL x.natAbs).length cap)∧w'.cell? ⟨w.heap.size+1,0,none⟩=some (.bool (decide (y<0)))∧w'.cell? ⟨w.heap.size+1,1,none⟩=some (.slice q (natL y.natAbs).length cap')) (go_keep) (first | (go_at_call 155; refine ct.mono ?_;rintro e w1 ⟨v1,rfl,hv1,hB1⟩;obtain ⟨p1,cp1,rfl,hv1'⟩:=hv1.out;have hB1':=hd.trans hB1;obtain ⟨e1,e2,_,_⟩:=Qaf HR1.o hB1';obtain ⟨f1,f2,_,_⟩:=Qaf HR2.o hB1';obtain ⟨g1,g2,g3,g4⟩:=Qaf HR3.o hB1'))
  all_goals go_wp2
  all_goals (have hF:=((HB0.o.trans (hB1'.mono HB0.o.size)).setCell (p:=⟨w.heap.size+1+1,0,none⟩) (by show w.heap.size≤w.heap.size+1+1;omega) (.bool (decide (x<0)))).setCell (p:=⟨w.heap.size+1+1,1,none⟩) (by show w.heap.size≤w.heap.size+1+1;omega) (.slice p1 (natL (x.natAbs+y.natAbs)).length cp1))
  all_goals (have hv2:=hv1.setNum2 (RowAt.below HR3.o hB1' (RowAt.lt HR3.o)) (fun _ _=>by simp) (fun _ _=>by simp) (decide (x<0)) (.slice p1 (natL (x.natAbs+y.natAbs)).length cp1))
  all_goals refine bodyPost_ret (v:=.agg #[.bool (decide (x<0)),.slice p1 (natL (x.natAbs+y.natAbs)).length cp1]) (by simp [results,Tryz.results168, go_sem,g1,g2]) rfl ⟨_,rfl,⟨p1,cp1,by rw [HS.o.1,HS.o.2],by rw [HS.o.2];exact hv2⟩,hF⟩
 | false =>
  have cc:=QrY x.natAbs y.natAbs p q cap cap' W0 (HN.o.below HB0.o Lr) (HN'.o.below HB0.o Lr) hl hl2;by_cases hle:y.natAbs≤x.natAbs
  ·have HCM:0≤cmpN x.natAbs y.natAbs:=by unfold cmpN;(repeat' split) <;> omega
   have HS:Shut _:=⟨Qky hs hle⟩;have hcm:¬ cmpN x.natAbs y.natAbs<0:=by omega
   generalize cmpN x.natAbs y.natAbs=cv at *
   clear HCM;go_upto_region 5 with (go_at_call 153; refine cc.mono ?_;rintro e w9 ⟨rfl,m,rfl⟩)
   have hB9:Below W0.heap.size W0 (W0.drewN m):=Qag (Below.refl _ _) m;generalize W0.drewN m=W1 at *
   obtain ⟨a1,a2,a3,a4⟩:=Qaf HR1.o hB9;obtain ⟨b1,b2,b3,b4⟩:=Qaf HR2.o hB9;obtain ⟨d1,d2,d3,d4⟩:=Qaf HR3.o hB9;have hd9:Below W0.heap.size W0 W1.drew:=hB9.drew;have hw9:Below w.heap.size w W1.drew:=HB0.o.trans (hd9.mono HB0.o.size);have cm:=QdE x.natAbs y.natAbs hle (.slice p (natL x.natAbs).length cap) (.slice q (natL y.natAbs).length cap') W1.drew (HN.o.below hw9 Lr) (HN'.o.below hw9 Lr) hl
   go_region_held3 (fun w'=>w'.cell? ⟨w.heap.size,0,none⟩=some (.bool (decide (x<0)))∧w'.cell? ⟨w.heap.size,1,none⟩=some (.slice p (natL x.natAbs).length cap)∧w'.cell? ⟨w.heap.size+1,1,none⟩=some (.slice q (natL y.natAbs).length cap')) (go_keep) (first | (go_at_call 156; refine cm.mono ?_;rintro e w1 ⟨v1,rfl,hv1,hB1⟩;obtain ⟨p1,cp1,rfl,hv1'⟩:=hv1.out;have hB1':=hd9.trans (hB1.mono hd9.size);obtain ⟨e1,e2,_,_⟩:=Qaf HR1.o hB1';obtain ⟨f1,f2,_,_⟩:=Qaf HR2.o hB1';obtain ⟨g1,g2,g3,g4⟩:=Qaf HR3.o hB1') | (go_at_call 150; refine (Qcf _ p1 _ cp1 _).mono ?_;rintro e w2 ⟨rfl,hB2⟩;have hB2':=hB1'.trans (hB2.mono hB1'.size);obtain ⟨h1,h2,_,_⟩:=Qaf HR1.o hB2';obtain ⟨i1,i2,_,_⟩:=Qaf HR2.o hB2';obtain ⟨j1,j2,j3,j4⟩:=Qaf HR3.o hB2'))
   all_goals go_wp2
   all_goals (have hF:=((HB0.o.trans (hB2'.mono HB0.o.size)).setCell (p:=⟨w.heap.size+1+1,0,none⟩) (by show w.heap.size≤w.heap.size+1+1;omega) (.bool (decide (x<0) && decide (0<(natL (x.natAbs-y.natAbs)).length)))).setCell (p:=⟨w.heap.size+1+1,1,none⟩) (by show w.heap.size≤w.heap.size+1+1;omega) (.slice p1 (natL (x.natAbs-y.natAbs)).length cp1))
   all_goals (have hv2:=(hv1.below hB2 Lr).setNum2 (RowAt.below HR3.o hB2' (RowAt.lt HR3.o)) (fun _ _=>by simp) (fun _ _=>by simp) (decide (x<0) && decide (0<(natL (x.natAbs-y.natAbs)).length)) (.slice p1 (natL (x.natAbs-y.natAbs)).length cp1))
   all_goals refine bodyPost_ret (v:=.agg #[.bool (decide (x<0) && decide (0<(natL (x.natAbs-y.natAbs)).length)),.slice p1 (natL (x.natAbs-y.natAbs)).length cp1]) (by simp [results,Tryz.results168, go_sem,j1,j2]) rfl ⟨_,rfl,⟨p1,cp1,by rw [HS.o.1,HS.o.2],by rw [HS.o.2];exact hv2⟩,hF⟩
  ·have hcm:cmpN x.natAbs y.natAbs<0:=by unfold cmpN;(repeat' split) <;> omega
   have hs':(decide (y<0) == decide (x<0))=false:=by rw [←hs];exact Bool.beq_comm
   have HS:Shut _:=⟨Qky hs' (show x.natAbs≤y.natAbs by omega)⟩;generalize cmpN x.natAbs y.natAbs=cv at *
   go_upto_region 5 with (go_at_call 153; refine cc.mono ?_;rintro e w9 ⟨rfl,m,rfl⟩)
   have hB9:Below W0.heap.size W0 (W0.drewN m):=Qag (Below.refl _ _) m;have hQ:=Qnp (RowAt.drewN HR1.o m) (RowAt.drewN HR2.o m) (RowAt.drewN HR3.o m);have hQB:=((((HB0.o.trans (hB9.mono HB0.o.size)).setCell (p:=⟨w.heap.size,0,none⟩) Lr (.bool (decide (y<0)))).setCell (p:=⟨w.heap.size,1,none⟩) Lr (.slice q (natL y.natAbs).length cap')).setCell (p:=⟨w.heap.size+1,0,none⟩) (Nat.le_succ _) (.bool (decide (x<0)))).setCell (p:=⟨w.heap.size+1,1,none⟩) (Nat.le_succ _) (.slice p (natL x.natAbs).length cap);generalize ((((W0.drewN m).setCell ⟨w.heap.size,0,none⟩ (.bool (decide (y<0)))).setCell ⟨w.heap.size,1,none⟩ (.slice q (natL y.natAbs).length cap')).setCell ⟨w.heap.size+1,0,none⟩ (.bool (decide (x<0)))).setCell ⟨w.heap.size+1,1,none⟩ (.slice p (natL x.natAbs).length cap)=W1 at *
   have QR1:Shut _:=⟨hQ.1⟩;have QR2:Shut _:=⟨hQ.2.1⟩;have QR3:Shut _:=⟨hQ.2.2⟩;have QB0:Shut _:=⟨hQB⟩;clear hQ hQB a1 a2 a3 a4 b1 b2 b3 b4 d1 d2 d3 d4;obtain ⟨a1,a2,a3,a4⟩:=Qaf QR1.o (Below.refl _ W1);obtain ⟨b1,b2,b3,b4⟩:=Qaf QR2.o (Below.refl _ W1);obtain ⟨d1,d2,d3,d4⟩:=Qaf QR3.o (Below.refl _ W1);have hd9:Below W1.heap.size W1 W1.drew:=(Below.refl _ _).drew;have hw9:Below w.heap.size w W1.drew:=QB0.o.drew;have cm:=QdE y.natAbs x.natAbs (by omega) (.slice q (natL y.natAbs).length cap') (.slice p (natL x.natAbs).length cap) W1.drew (HN'.o.below hw9 Lr) (HN.o.below hw9 Lr) hl2
   go_region_held3 (fun w'=>w'.cell? ⟨w.heap.size,0,none⟩=some (.bool (decide (y<0)))∧w'.cell? ⟨w.heap.size,1,none⟩=some (.slice q (natL y.natAbs).length cap')∧w'.cell? ⟨w.heap.size+1,1,none⟩=some (.slice p (natL x.natAbs).length cap)) (go_keep) (first | (go_at_call 156; refine cm.mono ?_;rintro e w1 ⟨v1,rfl,hv1,hB1⟩;obtain ⟨p1,cp1,rfl,hv1'⟩:=hv1.out;have hB1':=hd9.trans (hB1.mono hd9.size);obtain ⟨e1,e2,_,_⟩:=Qaf QR1.o hB1';obtain ⟨f1,f2,_,_⟩:=Qaf QR2.o hB1';obtain ⟨g1,g2,g3,g4⟩:=Qaf QR3.o hB1') | (go_at_call 150; refine (Qcf _ p1 _ cp1 _).mono ?_;rintro e w2 ⟨rfl,hB2⟩;have hB2':=hB1'.trans (hB2.mono hB1'.size);obtain ⟨h1,h2,_,_⟩:=Qaf QR1.o hB2';obtain ⟨i1,i2,_,_⟩:=Qaf QR2.o hB2';obtain ⟨j1,j2,j3,j4⟩:=Qaf QR3.o hB2'))
   all_goals go_wp2
   all_goals (have hF:=((QB0.o.trans (hB2'.mono QB0.o.size)).setCell (p:=⟨w.heap.size+1+1,0,none⟩) (by show w.heap.size≤w.heap.size+1+1;omega) (.bool (decide (y<0) && decide (0<(natL (y.natAbs-x.natAbs)).length)))).setCell (p:=⟨w.heap.size+1+1,1,none⟩) (by show w.heap.size≤w.heap.size+1+1;omega) (.slice p1 (natL (y.natAbs-x.natAbs)).length cp1))
   all_goals (have hv2:=(hv1.below hB2 Lr).setNum2 (RowAt.below QR3.o hB2' (RowAt.lt QR3.o)) (fun _ _=>by simp) (fun _ _=>by simp) (decide (y<0) && decide (0<(natL (y.natAbs-x.natAbs)).length)) (.slice p1 (natL (y.natAbs-x.natAbs)).length cp1))
   all_goals refine bodyPost_ret (v:=.agg #[.bool (decide (y<0) && decide (0<(natL (y.natAbs-x.natAbs)).length)),.slice p1 (natL (y.natAbs-x.natAbs)).length cp1]) (by simp [results,Tryz.results168, go_sem,j1,j2]) rfl ⟨_,rfl,⟨p1,cp1,by rw [Int.add_comm,HS.o.1,HS.o.2],by rw [Int.add_comm,HS.o.2];exact hv2⟩,hF⟩
end
end Go.Proofs.YtadcmepaniiciaaGreatDoor
