/-
  Numbers in digits, the lowest first.
-/
import Derived.Test.YtbfonkabmehlmaaGreatDoorY6A3
import Derived.Maps.AppendAt
import Derived.Deep.RegionHeld3
import Derived.Deep.RegionWith
set_option maxRecDepth 1000000
set_option maxHeartbeats 40000000
open Go.Value renaming string→Z
open Go.Obj renaming cells→O
namespace Go.Proofs.YtbfonkabmehlmaaGreatDoor
section
namespace N10
def nv:List Nat→Nat
 | []=>0
 | d :: l=>d+10*nv l
def Dig (l:List Nat):Prop:=∀ x∈l,x<10
theorem Dig.tail {d:Nat} {l:List Nat} (h:Dig (d :: l)):Dig l:=fun x hx=>h x (List.mem_cons_of_mem _ hx)
theorem Dig.head {d:Nat} {l:List Nat} (h:Dig (d :: l)):d<10:=h d (by simp)
theorem Dig.take {l:List Nat} (h:Dig l) (k:Nat):Dig (l.take k):=fun x hx=>h x (List.mem_of_mem_take hx)
theorem Dig.drop {l:List Nat} (h:Dig l) (k:Nat):Dig (l.drop k):=fun x hx=>h x (List.mem_of_mem_drop hx)
theorem Dig.append {l m:List Nat} (h:Dig l) (k:Dig m):Dig (l++m):=fun x hx=>(List.mem_append.1 hx).elim (h x) (k x)
theorem Dig.getD {l:List Nat} (h:Dig l) (i:Nat):l.getD i 0<10:=by
 rw [List.getD_eq_getElem?_getD]
 rcases Nat.lt_or_ge i l.length with h1 | h1
 ·rw [List.getElem?_eq_getElem h1];exact h _ (List.getElem_mem h1)
 ·rw [List.getElem?_eq_none h1];decide
theorem nv_lt {l:List Nat} (h:Dig l):nv l<10^l.length:=by
 induction l with
 | nil=>decide
 | cons d l ih =>
  have h1:=ih h.tail
  have h2:=h.head
  rw [nv,List.length_cons,Nat.pow_succ]
  omega
theorem nv_append (a b:List Nat):nv (a++b)=nv a+10^a.length*nv b:=by
 induction a with
 | nil=>simp [nv]
 | cons d l ih=>rw [List.cons_append,nv,nv,ih,List.length_cons,Nat.pow_succ];grind
theorem nv_take_succ (l:List Nat) (i:Nat) (h:i<l.length):nv (l.take (i+1))=nv (l.take i)+10^i*l.getD i 0:=by
 have hg:l.getD i 0=l[i]:=by simp [List.getD,h]
 rw [hg,List.take_succ_eq_append_getElem h,nv_append,List.length_take,Nat.min_eq_left (by omega)]
 simp [nv]
theorem nv_take_drop (l:List Nat) (i:Nat) (h:i≤l.length):nv l=nv (l.take i)+10^i*nv (l.drop i):=by
 conv=>lhs;rw [←List.take_append_drop i l]
 rw [nv_append,List.length_take,Nat.min_eq_left h]
theorem nv_rep (n:Nat):nv (List.replicate n 0)=0:=by
 induction n with
 | zero=>rfl
 | succ n ih=>rw [List.replicate_succ,nv,ih]
theorem dig_rep (n:Nat):Dig (List.replicate n 0):=fun x hx=>by rw [(List.mem_replicate.1 hx).2];decide
def padL:Nat→Nat→List Nat
 | 0,_ => []
 | n+1,x=>x % 10 :: padL n (x / 10)
theorem padL_len:∀ n x,(padL n x).length=n
 | 0,_=>rfl
 | n+1,x=>by rw [padL,List.length_cons,padL_len]
theorem padL_dig:∀ n x,Dig (padL n x)
 | 0,_=>fun y hy=>by cases hy
 | n+1,x=>fun y hy=>by
  rw [padL] at hy
  rcases List.mem_cons.1 hy with rfl | hy
  ·exact Nat.mod_lt _ (by decide)
  ·exact padL_dig n _ y hy
theorem padL_nv:∀ n x,x<10^n→nv (padL n x)=x
 | 0,x,h=>by rw [padL,nv];omega
 | n+1,x,h=>by
  rw [Nat.pow_succ] at h
  rw [padL,nv,padL_nv n (x / 10) (by omega)];omega
theorem padL_eq {l:List Nat} (h:Dig l):padL l.length (nv l)=l:=by
 induction l with
 | nil=>rfl
 | cons d l ih =>
  have:=h.head
  rw [List.length_cons,padL,nv,show (d+10*nv l) % 10=d by omega,show (d+10*nv l) / 10=nv l by omega,ih h.tail]
theorem padL_app (n m x y:Nat) (h:x<10^n):padL (n+m) (x+10^n*y)=padL n x++padL m y:=by
 induction n generalizing x with
 | zero =>
  have:x=0:=by simpa using h
  subst this
  simp [padL]
 | succ n ih =>
  rw [Nat.pow_succ] at h
  rw [show n+1+m=(n+m)+1 by omega,padL,padL,List.cons_append]
  have e1:(x+10^(n+1)*y) % 10=x % 10:=by rw [Nat.pow_succ,Nat.mul_comm (10^n) 10,Nat.mul_assoc,Nat.add_mul_mod_self_left]
  have e2:(x+10^(n+1)*y) / 10=x / 10+10^n*y:=by rw [Nat.pow_succ,Nat.mul_comm (10^n) 10,Nat.mul_assoc,Nat.add_mul_div_left _ _ (by decide)]
  rw [e1,e2,ih (x / 10) (by omega)]
theorem padL_one (d:Nat) (h:d<10):padL 1 d = [d]:=by rw [padL,padL,Nat.mod_eq_of_lt h]
theorem padL_succ (n x d:Nat) (h:x<10^n) (hd:d<10):padL (n+1) (x+10^n*d)=padL n x ++ [d]:=by rw [padL_app n 1 x d h,padL_one d hd]

def natL (n:Nat):List Nat:=if n=0 then [] else n % 10 :: natL (n / 10)
decreasing_by omega
theorem natL_zero:natL 0 = []:=by rw [natL,if_pos rfl]
theorem natL_pos {n:Nat} (h:n≠0):natL n=n % 10 :: natL (n / 10):=by rw [natL,if_neg h]
theorem natL_nv (n:Nat):nv (natL n)=n:=by
 induction n using Nat.strongRecOn with
 | ind n ih =>
  by_cases h:n=0
  ·subst h;rw [natL_zero,nv]
  ·rw [natL_pos h,nv,ih (n / 10) (by omega)];omega
theorem natL_dig (n:Nat):Dig (natL n):=by
 induction n using Nat.strongRecOn with
 | ind n ih =>
  by_cases h:n=0
  ·subst h;rw [natL_zero];intro x hx;cases hx
  ·rw [natL_pos h]
   intro x hx
   rcases List.mem_cons.1 hx with rfl | hx
   ·exact Nat.mod_lt _ (by decide)
   ·exact ih (n / 10) (by omega) x hx
theorem natL_nil {n:Nat}:natL n = []↔n=0:=by
 constructor
 ·intro h;by_cases h0:n=0
  ·exact h0
  ·rw [natL_pos h0] at h;cases h
 ·rintro rfl;exact natL_zero
theorem natL_len0 {n:Nat}:(natL n).length=0↔n=0:=by rw [List.length_eq_zero_iff,natL_nil]
theorem natL_append (l:List Nat) (h:Dig l) (hz:l = []∨l.getD (l.length-1) 0≠0):l=natL (nv l):=by
 induction l with
 | nil=>rw [nv,natL_zero]
 | cons d l ih =>
  have hd:=h.head
  have hl:l=natL (nv l):=by
   refine ih h.tail ?_
   rcases hz with hz | hz
   ·cases hz
   ·cases l with
    | nil=>exact .inl rfl
    | cons e r=>right;simpa using hz
  have h0:nv (d :: l)≠0:=by
   rw [nv]
   rcases hz with hz | hz
   ·cases hz
   ·cases l with
    | nil=>simp at hz;rw [nv];omega
    | cons e r =>
     intro hn
     have:nv (e :: r)=0:=by omega
     rw [this,natL_zero] at hl;cases hl
  rw [natL_pos h0,nv,show (d+10*nv l) % 10=d by omega,show (d+10*nv l) / 10=nv l by omega,←hl]
theorem natL_last (n:Nat) (h:n≠0):(natL n).getD ((natL n).length-1) 0≠0:=by
 induction n using Nat.strongRecOn with
 | ind n ih =>
  rw [natL_pos h]
  by_cases h1:n / 10=0
  ·rw [h1,natL_zero];simp;omega
  ·have:=ih (n / 10) (by omega) h1
   have hl:(natL (n / 10)).length≠0:=fun e=>h1 (natL_len0.1 e)
   have e:(n % 10 :: natL (n / 10)).length-1=((natL (n / 10)).length-1)+1:=by rw [List.length_cons];omega
   rw [e,List.getD_cons_succ];exact this
theorem natL_lt (n:Nat):n<10^(natL n).length:=by have:=nv_lt (natL_dig n);rwa [natL_nv] at this
theorem natL_ge (n:Nat) (h:n≠0):10^((natL n).length-1)≤n:=by
 have h1:=natL_last n h
 have hl:(natL n).length≠0:=fun e=>h (natL_len0.1 e)
 have h2:=nv_take_succ (natL n) ((natL n).length-1) (by omega)
 rw [show (natL n).length-1+1=(natL n).length by omega,List.take_length,natL_nv] at h2
 have h3:10^((natL n).length-1)*1≤10^((natL n).length-1)*(natL n).getD ((natL n).length-1) 0:=Nat.mul_le_mul_left _ (by omega)
 omega
theorem natL_len_le {n k:Nat} (h:n<10^k):(natL n).length≤k:=by
 by_cases h0:n=0
 ·rw [natL_len0.2 h0];omega
 ·have h1:=natL_ge n h0
  have h2:10^((natL n).length-1)<10^k:=by omega
  have:=(Nat.pow_lt_pow_iff_right (by decide:1<10)).1 h2
  omega
theorem natL_len_mono {n m:Nat} (h:n≤m):(natL n).length≤(natL m).length:=natL_len_le (Nat.lt_of_le_of_lt h (natL_lt m))
theorem natL_len_lt {n m:Nat} (h:(natL n).length<(natL m).length):n<m:=by
 rcases Nat.lt_or_ge n m with h1 | h1
 ·exact h1
 ·have:=natL_len_mono h1;omega
theorem nv_take_zeros (l:List Nat) (k:Nat) (hk:k≤l.length) (hz:∀ j,k≤j→l.getD j 0=0):nv (l.take k)=nv l:=by
 have h:nv (l.drop k)=0:=by
  have h2:∀ (r:List Nat),(∀ j,r.getD j 0=0)→nv r=0:=by
   intro r
   induction r with
   | nil=>intro _;rfl
   | cons d r ih=>intro hr;have h0:=hr 0;simp at h0;rw [nv,ih (fun j=>by simpa using hr (j+1)),h0]
  refine h2 _ (fun j => ?_)
  have:=hz (k+j) (by omega)
  rw [List.getD_eq_getElem?_getD] at this ⊢
  rwa [List.getElem?_drop]
 rw [nv_take_drop l k hk,h,Nat.mul_zero,Nat.add_zero]
theorem nv_less {a b:List Nat} (ha:Dig a) (hl:a.length=b.length) (i:Nat) (h:i<a.length) (hlt:a.getD i 0<b.getD i 0) (he:a.drop (i+1)=b.drop (i+1)):nv a<nv b:=by
 have e1:=nv_take_drop a (i+1) (by omega)
 have e2:=nv_take_drop b (i+1) (by omega)
 rw [nv_take_succ a i h] at e1
 rw [nv_take_succ b i (by omega)] at e2
 rw [he] at e1
 have hp:=nv_lt (ha.take i)
 rw [List.length_take,Nat.min_eq_left (by omega)] at hp
 have h1:10^i*(a.getD i 0+1)≤10^i*b.getD i 0:=Nat.mul_le_mul_left _ hlt
 rw [Nat.mul_add] at h1
 omega
end N10
end
section
open Go.RowKit

def j64s (l:List Nat):Array Value:=(l.map fun n:Nat=>Value.int .i64 (n:Int)).toArray
theorem j64s_size (l:List Nat):(j64s l).size=l.length:=by simp [j64s]
theorem j64s_get (l:List Nat) (i:Nat) (h:i<l.length):(j64s l)[i]? = some (.int .i64 ((l.getD i 0:Nat):Int)):=by simp [j64s,List.getD,h]
theorem j64s_set (l:List Nat) (i x:Nat):(j64s l).setIfInBounds i (.int .i64 (x:Int))=j64s (l.set i x):=by simp [j64s,List.map_set]
theorem RowAt.j64 {w:World} {b:Nat} {l:List Nat} {t:TypeId} (h:RowAt w b (j64s l) t) (i:Nat) (hi:i<l.length):w.cell? ⟨b,i,none⟩=some (.int .i64 ((l.getD i 0:Nat):Int)):=(h.cell i).trans (j64s_get l i hi)
theorem RowAt.set64 {w:World} {b:Nat} {l:List Nat} {t:TypeId} (h:RowAt w b (j64s l) t) (i x:Nat):RowAt (w.setCell ⟨b,i,none⟩ (.int .i64 (x:Int))) b (j64s (l.set i x)) t:=j64s_set l i x▸h.set_same i _
def IA (W:World) (g o:Nat) (l:List Nat):Prop:=∀ i,i<l.length→W.cell? ⟨g,o+i,none⟩=some (.int .i64 ((l.getD i 0:Nat):Int))
theorem IA.below {W W':World} {g o:Nat} {l:List Nat} (h:IA W g o l) {B:Nat} (hB:Below B W W') (hg:g<B):IA W' g o l:=fun i hi=>(hB.cell (p:=⟨g,o+i,none⟩) hg).trans (h i hi)
theorem IA.below1 {W W':World} {g o:Nat} {l:List Nat} (h:IA W g o l) {B:Nat} (hB:Below B W W') (hg:1≤l.length→g<B):IA W' g o l:=fun i hi=>(hB.cell (p:=⟨g,o+i,none⟩) (hg (by omega))).trans (h i hi)
theorem IA.only {W W':World} {g o b:Nat} {l:List Nat} (h:IA W g o l) (k:Only b W W') (hb:g≠b):IA W' g o l:=fun i hi=>by
 have e:W'.cell? ⟨g,o+i,none⟩=W.cell? ⟨g,o+i,none⟩:=by
  unfold World.cell?
  rw [show W'.heap[(⟨g,o+i,none⟩:Addr).block]? = W.heap[g]? from k.block g hb]
 exact e.trans (h i hi)
theorem IA.drewN {W:World} {g o:Nat} {l:List Nat} (h:IA W g o l) (n:Nat):IA (W.drewN n) g o l:=h
theorem IA.take {W:World} {g o:Nat} {l:List Nat} (h:IA W g o l) (k:Nat):IA W g o (l.take k):=fun i hi=>by
 rw [List.length_take] at hi
 have e:(l.take k).getD i 0=l.getD i 0:=by rw [List.getD_eq_getElem?_getD,List.getD_eq_getElem?_getD,List.getElem?_take,if_pos (by omega)]
 rw [e];exact h i (by omega)
theorem IA.drop {W:World} {g o:Nat} {l:List Nat} (h:IA W g o l) (k:Nat):IA W g (o+k) (l.drop k):=fun i hi=>by
 rw [List.length_drop] at hi
 have e:(l.drop k).getD i 0=l.getD (k+i) 0:=by rw [List.getD_eq_getElem?_getD,List.getD_eq_getElem?_getD,List.getElem?_drop]
 rw [e,Nat.add_assoc];exact h (k+i) (by omega)
theorem IA.lt {W:World} {g o:Nat} {l:List Nat} (h:IA W g o l) (hl:1≤l.length):g<W.heap.size:=World.block_lt_of_cell? W _ (h 0 hl)
theorem RowAt.ia {w:World} {b:Nat} {l:List Nat} {t:TypeId} (h:RowAt w b (j64s l) t):IA w b 0 l:=fun i hi=>by rw [Nat.zero_add];exact h.j64 i hi
def NI (W:World) (v:Value) (l:List Nat):Prop:=∃ (p:Option Addr) (cap:Nat),v = .slice p l.length cap∧l.length≤cap∧cap≤maxLen∧((p=none∧l = []∧cap=0)∨∃ g o,p=some ⟨g,o,none⟩∧g<W.heap.size∧IA W g o l)
theorem NI.below {W W':World} {v:Value} {l:List Nat} (h:NI W v l) {B:Nat} (hB:Below B W W') (hw:W.heap.size≤B):NI W' v l:=by
 obtain ⟨p,cap,rfl,h1,h2,h3 | ⟨g,o,rfl,hg,hu⟩⟩:=h
 ·exact ⟨p,cap,rfl,h1,h2,.inl h3⟩
 ·exact ⟨_,cap,rfl,h1,h2,.inr ⟨g,o,rfl,by have:=hB.size;omega,hu.below hB (by omega)⟩⟩
theorem NI.open {W:World} {v:Value} {l:List Nat} (h:NI W v l):∃ (p:Option Addr) (cap g o:Nat),v = .slice p l.length cap∧l.length≤cap∧cap≤maxLen∧(1≤l.length→p=some ⟨g,o,none⟩∧g<W.heap.size)∧IA W g o l:=by
 obtain ⟨p,cap,rfl,h1,h2,⟨rfl,rfl,rfl⟩ | ⟨g,o,rfl,hg,hu⟩⟩:=h
 ·exact ⟨none,0,0,0,rfl,Nat.le_refl _,by omega,fun h=>by simp at h,fun i hi=>by simp at hi⟩
 ·exact ⟨_,cap,g,o,rfl,h1,h2,fun _=>⟨rfl,hg⟩,hu⟩
def IR (W:World) (g:Nat) (L:List Nat):Prop:=∃ X,RowAt W g (j64s L++X) 3
theorem IR.j64 {w:World} {b:Nat} {l:List Nat} (h:IR w b l) (i:Nat) (hi:i<l.length):w.cell? ⟨b,i,none⟩=some (.int .i64 ((l.getD i 0:Nat):Int)):=by
 obtain ⟨X,h⟩:=h
 refine (h.cell i).trans ?_
 rw [Array.getElem?_append_left (by rw [j64s_size];exact hi)]
 exact j64s_get l i hi
theorem IR.frozen {w:World} {b:Nat} {l:List Nat} (h:IR w b l) (i:Nat):w.frozen? ⟨b,i,none⟩=false:=by
 obtain ⟨X,h⟩:=h;exact RowAt.frozen h i
theorem IR.set64 {w:World} {b:Nat} {l:List Nat} (h:IR w b l) (i x:Nat) (hi:i<l.length):IR (w.setCell ⟨b,i,none⟩ (.int .i64 (x:Int))) b (l.set i x):=by
 obtain ⟨X,h⟩:=h
 refine ⟨X, ?_⟩
 have:=h.set_same i (.int .i64 (x:Int))
 rwa [Array.setIfInBounds_append_left (by rw [j64s_size];exact hi),j64s_set] at this
theorem IR.only {w w':World} {b g:Nat} {l:List Nat} (h:IR w b l) (k:Only g w w') (hb:b≠g):IR w' b l:=by
 obtain ⟨X,h⟩:=h;exact ⟨X,RowAt.only h k hb⟩
theorem IR.below {w w':World} {b B:Nat} {l:List Nat} (h:IR w b l) (hB:Below B w w') (hb:b<B):IR w' b l:=by
 obtain ⟨X,h⟩:=h;exact ⟨X,RowAt.below h hB hb⟩
theorem IR.drewN {w:World} {b:Nat} {l:List Nat} (h:IR w b l) (n:Nat):IR (w.drewN n) b l:=h
theorem IR.lt {w:World} {b:Nat} {l:List Nat} (h:IR w b l):b<w.heap.size:=by
 obtain ⟨X,h⟩:=h;exact RowAt.lt h
theorem IR.ia {w:World} {b:Nat} {l:List Nat} (h:IR w b l):IA w b 0 l:=fun i hi=>by rw [Nat.zero_add];exact h.j64 i hi
def OwnJ (W:World) (B:Nat) (v:Value) (xs:List Nat):Prop:=W.ownsRow B 3 1 v xs.length (xs.map fun n:Nat=>Value.int .i64 (n:Int))
theorem OwnJ.below {W W':World} {B:Nat} {v:Value} {xs:List Nat} (h:OwnJ W B v xs) (hb:Below W.heap.size W W'):OwnJ W' B v xs:=by
 refine ⟨h.1, ?_⟩
 rcases h.2 with hn | ⟨g,cap,cur,e,hg,hgg,rest⟩
 ·exact .inl hn
 ·exact .inr ⟨g,cap,cur,e,hg,by rw [hb.block g (Array.getElem?_eq_some_iff.1 hgg).1];exact hgg,rest⟩
theorem OwnJ.nil (W:World) (B:Nat):OwnJ W B (.slice none 0 0) []:=World.ownsRow_nil _ _ _ _
theorem OwnJ.snoc {W:World} {B:Nat} {v:Value} {xs:List Nat} {x:Nat} (h:W.ownsRow B 3 1 v (xs.length+1) (xs.map (fun n:Nat=>Value.int .i64 (n:Int)) ++ [.int .i64 (x:Int)])):OwnJ W B v (xs ++ [x]):=by
 unfold OwnJ;rw [List.length_append,List.map_append];exact h
theorem OwnJ.open {W:World} {B:Nat} {v:Value} {xs:List Nat} (h:OwnJ W B v xs) :
  (v = .slice none 0 0∧xs = [])∨∃ (cap g:Nat),v = .slice (some ⟨g,0,none⟩) xs.length cap∧B≤g∧IR W g xs∧xs.length≤cap∧cap≤maxLen:=by
 rcases h.2 with ⟨hv,hn⟩ | ⟨g,cap,cur,hv,hg,hgg,hle,hm,hsz,htk⟩
 ·exact .inl ⟨hv,List.eq_nil_of_length_eq_zero hn⟩
 ·refine .inr ⟨cap,g,hv,hg,⟨(cur.toList.drop xs.length).toArray, ?_⟩,hle,hm⟩
  have e:j64s xs++(cur.toList.drop xs.length).toArray=cur:=by
   rw [Nat.mul_one] at htk
   apply Array.ext'
   rw [Array.toList_append]
   show (xs.map _)++_=_
   rw [←htk,List.take_append_drop]
  rw [e];exact hgg
theorem OwnJ.openS {W:World} {B g n cap:Nat} {xs:List Nat} (h:OwnJ W B (.slice (some ⟨g,0,none⟩) n cap) xs):B≤g∧IR W g xs∧n=xs.length∧xs.length≤cap∧cap≤maxLen:=by
 rcases h.open with ⟨h1,_⟩ | ⟨c,g',h1,h2,h3,h4,h5⟩
 ·cases h1
 ·injection h1 with e1 e2 e3
  injection e1 with e1
  injection e1 with e1
  subst e1
  subst e3
  exact ⟨h2,h3,e2,h4,h5⟩
theorem OwnJ.ni {W:World} {B:Nat} {v:Value} {xs:List Nat} (h:OwnJ W B v xs):NI W v xs:=by
 rcases h.open with ⟨rfl,rfl⟩ | ⟨cap,g,rfl,hg,hu,h1,h2⟩
 ·exact ⟨none,0,rfl,Nat.le_refl _,by omega,.inl ⟨rfl,rfl,rfl⟩⟩
 ·exact ⟨_,cap,rfl,h1,h2,.inr ⟨g,0,rfl,hu.lt,hu.ia⟩⟩
theorem below_grownJ {B:Nat} {w w1 w3:World} {v:Value} {xs:List Nat} (hb:Below B w w1) (hB:B≤w.heap.size) (hO:OwnJ w1 B v xs) (hg:w1.grownBy w3 v.ownBlock):Below B w w3 :=
 hb.trans ⟨hg.os,hg.tape,hg.output,hg.size,fun k hk=>hg.block k (Nat.lt_of_lt_of_le (Nat.lt_of_lt_of_le hk hB) hb.size) (fun e=>by
  rcases hO.2 with ⟨rfl,_⟩ | ⟨g,cap,cur,rfl,h1,_⟩
  ·simp [Value.ownBlock] at e
  ·simp [Value.ownBlock] at e;omega)⟩
theorem infoJ:(Tryz.prog.info? 3).map (fun i=>(i.zero,i.size,i.bytes))=some (some (.int .i64 0),1,8):=by kernel_rfl
theorem cells_repJ (n:Nat):(madeCells (Value.int .i64 0).cells (n*1)).toList=(List.replicate n 0).map fun n:Nat=>Value.int .i64 (n:Int):=by
 rw [Nat.mul_one,List.map_replicate]
 simp [madeCells,Value.cells]
 rw [List.eq_replicate_iff]
 refine ⟨by simp,fun b hb => ?_⟩
 simp only [List.mem_map,Nat.mod_one] at hb
 obtain ⟨_,_,rfl⟩:=hb
 rfl
theorem make_j64 {w:World} {ops:Array Oper} {rest:List Oper} {o:Oper} {a:Act} {Q:Exit→Act→World→Prop} (hg:o.guard=none) (l c:Operand) (hop:o.op=Op.makeSlice 39 l c)
  (base n:Nat) (hl:a.eval l = .int .i64 (n:Int)) (hc:a.eval c = .int .i64 (n:Int)) (hn:n≤1000000) (hb:base≤w.heap.size)
  (h:∀ w',OwnJ w' base (.slice (some ⟨w.heap.size,0,none⟩) n n) (List.replicate n 0)→Below base w w'→wpList Tryz.prog ops Q rest (a.put o.dst (.slice (some ⟨w.heap.size,0,none⟩) n n)) w'):wpList Tryz.prog ops Q (o :: rest) a w:=by
 obtain ⟨i0,hinf,hz0,hz1,hz2⟩:=info_parts infoJ
 refine wpList_make_full w hg l c 39 hop base 3 i0 (.int .i64 0) 1 Tryz.underlying39 hinf hz0 hz1 .i64 .i64 (n:Int) (n:Int) n hl hc rfl rfl (by rw [hz2];omega) (by unfold maxLen;omega) hb ?_
 intro w' ho hgr
 refine h w' ?_ ⟨hgr.os,hgr.tape,hgr.output,hgr.size,fun k hk=>hgr.block k (by omega) (by simp)⟩
 unfold OwnJ
 rw [List.length_replicate,←cells_repJ]
 exact ho
theorem IA.cells {W:World} {b o:Nat} {ls:List Nat} (h:IA W b o ls):∀ j u,(ls.map fun n:Nat=>Value.int .i64 (n:Int))[j]? = some u→W.cell? ((⟨b,o,none⟩:Addr).add j)=some u:=by
 intro j u hj
 rw [List.getElem?_map] at hj
 have hlt:j<ls.length:=by
  rcases Nat.lt_or_ge j ls.length with h1 | h1
  ·exact h1
  ·rw [List.getElem?_eq_none h1] at hj;cases hj
 rw [List.getElem?_eq_getElem hlt] at hj
 cases hj
 rw [Addr.add_lit]
 have:=h j hlt
 rwa [List.getD_eq_getElem?_getD,List.getElem?_eq_getElem hlt] at this
theorem j64_one (ls:List Nat):∀ u∈ls.map (fun n:Nat=>Value.int .i64 (n:Int)),u.oneCell'=true:=by
 intro u hu;simp only [List.mem_map] at hu;obtain ⟨x,_,rfl⟩:=hu;rfl
theorem append_j64 {w:World} {ops:Array Oper} {rest:List Oper} {o:Oper} {a:Act} {Q:Exit→Act→World→Prop} (hgd:o.guard=none) (s x:Operand)
  (ho:o.op = .call {callee:=.builtin .append,args:=#[s,x],argTypes:=#[39, 39]}) (base:Nat) (v:Value) (xs:List Nat) (hs:a.eval s=v) (hown:OwnJ w base v xs)
  (vx:Value) (ys:List Nat) (hx:a.eval x=vx) (hys:NI w vx ys) (hl:xs.length+ys.length≤1000000) (hb:base≤w.heap.size)
  (h:∀ v' w',OwnJ w' base v' (xs++ys)→(v ≠ .slice none 0 0→v' ≠ .slice none 0 0)→Below base w w'→wpList Tryz.prog ops Q rest (a.put o.dst v') w'):wpList Tryz.prog ops Q (o :: rest) a w:=by
 obtain ⟨i0,hinf,hz0,hz1,hz2⟩:=info_parts infoJ
 obtain ⟨p,cap,rfl,h1,h2,⟨rfl,rfl,rfl⟩ | ⟨g,o,rfl,hg,hu⟩⟩:=hys
 ·exact wpList_append_own_none hgd s x 39 ho base 3 i0 1 Tryz.underlying39 hinf v xs.length _ hs hown hx (h v w (by rw [List.append_nil];exact hown) id (Below.refl _ _))
 ·refine wpList_append_own w hgd s x 39 ho base 3 i0 (.int .i64 0) 1 8 Tryz.underlying39 hinf hz0 hz1 hz2 rfl (by decide) v xs.length _ hs hown ⟨g,o,none⟩ ys.length cap (ys.map fun n:Nat=>Value.int .i64 (n:Int)) hx (by rw [List.length_map,Nat.mul_one]) (IA.cells hu) (j64_one ys) (by unfold maxLen;omega) (by omega) hb ?_
  intro v' w' hown' hgrow hnil
  refine h v' w' ?_ (fun hv e=>hv (hnil.1 e).1) (below_grownJ (Below.refl _ _) hb hown hgrow)
  unfold OwnJ
  rw [List.length_append,List.map_append]
  exact hown'
end
section
namespace N10
open Go.RowKit

theorem trim_eq {l:List Nat} (hd:Dig l) (k:Nat) (hk:k≤l.length) (hz:∀ j,k≤j→l.getD j 0=0) (hl:k=0∨l.getD (k-1) 0≠0):l.take k=natL (nv l):=by
 have h1:=nv_take_zeros l k hk hz
 rw [←h1]
 refine natL_append _ (hd.take k) ?_
 have hlen:(l.take k).length=k:=by rw [List.length_take];omega
 rcases hl with rfl | hl
 ·exact .inl rfl
 ·rcases Nat.eq_zero_or_pos k with rfl | hp
  ·exact .inl rfl
  ·right
   rw [hlen]
   rw [List.getD_eq_getElem?_getD] at hl ⊢
   rwa [List.getElem?_take,if_pos (by omega)]
theorem trim_len {l:List Nat} (hd:Dig l):(natL (nv l)).length≤l.length:=natL_len_le (nv_lt hd)
theorem trim_take {l:List Nat} (hd:Dig l):l.take (natL (nv l)).length=natL (nv l):=by
 have h1:=padL_eq hd
 have h2:=padL_eq (natL_dig (nv l))
 rw [natL_nv] at h2
 obtain ⟨m,hm⟩:∃ m,l.length=(natL (nv l)).length+m:=⟨l.length-(natL (nv l)).length,by have:=trim_len hd;omega⟩
 have h3:=padL_app (natL (nv l)).length m (nv l) 0 (natL_lt _)
 rw [Nat.mul_zero,Nat.add_zero,←hm,h1,h2] at h3
 have h4:=congrArg (List.take (natL (nv l)).length) h3
 rw [h4,List.take_left' rfl]

theorem trim_any (l:List Nat) (p:Option Addr) (cap g o:Nat) (w:World) (hp:1≤l.length→p=some ⟨g,o,none⟩) (hu:IA w g o l) (hd:Dig l) (hl:l.length≤1000000) (hc:l.length≤cap) (hcm:cap≤maxLen) :
  Calls Tryz.prog 151 #[.slice p l.length cap] w fun e w'=>e = .returned (.slice p (natL (nv l)).length cap)∧w'=w:=by
 go_enter Tryz.func151, Tryz.ntmps151
 have HU:Shut _:=⟨hu⟩
 have HP:Shut _:=⟨hp⟩
 have HD:Shut _:=⟨hd⟩
 unfold maxLen at hcm
 clear hu hp hd
 go_wp2
 go_loopw [0] (fun a wr=>∃ k:Nat,k≤l.length∧a = .slice p k cap∧wr=w∧Shut (∀ j,k≤j→l.getD j 0=0)) (fun a _=>match a with | .slice _ k _=>k | _=>0)
 case atStart=>exact ⟨l.length,Nat.le_refl _,rfl,rfl,⟨fun j hj=>by rw [List.getD_eq_getElem?_getD,List.getElem?_eq_none hj];rfl⟩⟩
 case round =>
  obtain ⟨k,hk,rfl,rfl,hz⟩:=hrel
  by_cases hk0:k=0
  ·subst hk0
   have HF:Shut (l.take 0=natL (nv l)):=⟨trim_eq HD.o 0 hk hz.o (.inl rfl)⟩
   have HF2:Shut (0=(natL (nv l)).length):=⟨by rw [←HF.o];rfl⟩
   go_wp2
   go_ret
   exact ⟨by rw [←HF2.o];rfl,rfl⟩
  ·obtain rfl:=HP.o (by omega)
   have hcl:=HU.o (k-1) (by omega)
   obtain ⟨k,rfl⟩:∃ k',k=k'+1:=⟨k-1,by omega⟩
   rw [Nat.add_sub_cancel] at hcl
   by_cases hx:l.getD k 0=0
   ·have hz2:Shut (∀ j,k≤j→l.getD j 0=0):=⟨fun j hj=>by
     by_cases e:j=k
     ·rw [e];exact hx
     ·exact hz.o j (by omega)⟩
    rw [hx] at hcl
    clear hx hz
    go_wp2
    exact ⟨⟨k,by omega,rfl,trivial,hz2⟩,Nat.lt_succ_self k⟩
   ·have HF:Shut (k+1=(natL (nv l)).length):=⟨by
     have:=trim_eq HD.o (k+1) hk hz.o (.inr (by simpa using hx))
     rw [←this,List.length_take];omega⟩
    have hxi:((l.getD k 0:Nat):Int)≠0:=by omega
    clear hz
    generalize l.getD k 0=x at *
    go_wp2
    go_ret
    exact ⟨by rw [←HF.o];rfl,rfl⟩

theorem order_any (x y:Nat) (pa:Option Addr) (ca ga oa:Nat) (pb:Option Addr) (cb gb ob:Nat) (w:World) (hpa:1≤(natL x).length→pa=some ⟨ga,oa,none⟩) (hua:IA w ga oa (natL x)) (hpb:1≤(natL y).length→pb=some ⟨gb,ob,none⟩) (hub:IA w gb ob (natL y))
  (hla:(natL x).length≤1000000) (hlb:(natL y).length≤1000000) :
  Calls Tryz.prog 103 #[.slice pa (natL x).length ca,.slice pb (natL y).length cb] w fun e w'=>e = .returned (.int .i64 (cmpN x y))∧∃ m,w'=w.drewN m:=by
 go_enter Tryz.func103, Tryz.ntmps103
 have HA:Shut _:=⟨hua⟩
 have HB:Shut _:=⟨hub⟩
 have HPa:Shut _:=⟨hpa⟩
 have HPb:Shut _:=⟨hpb⟩
 clear hua hub hpa hpb
 obtain ⟨na,hna⟩:∃ na,na=(natL x).length:=⟨_,rfl⟩
 obtain ⟨nb,hnb⟩:∃ nb,nb=(natL y).length:=⟨_,rfl⟩
 have HNa:Shut _:=⟨hna⟩
 have HNb:Shut _:=⟨hnb⟩
 rw [←hna,←hnb]
 rw [←hna] at hla
 rw [←hnb] at hlb
 clear hna hnb
 by_cases hl:na=nb
 ·subst hl
  go_wp2
  go_loopw [5] (fun i5 wr=>∃ k:Nat,k≤na∧i5 = .int .i64 ((k:Int)-1)∧(∃ m,wr=w.drewN m)∧Shut ((natL x).drop k=(natL y).drop k)) (fun i5 _=>(intOf i5+1).toNat)
  case atStart=>exact ⟨na,Nat.le_refl _,rfl,⟨0,rfl⟩,⟨by rw [List.drop_eq_nil_iff.2 (by have:=HNa.o;omega),List.drop_eq_nil_iff.2 (by have:=HNb.o;omega)]⟩⟩
  case round =>
   obtain ⟨k,hk,rfl,⟨m,hw⟩,hd⟩:=hrel
   have HW:Shut _:=⟨hw⟩
   clear hw
   by_cases hk0:k=0
   ·subst hk0
    have hxy:x=y:=by
     have:=hd.o
     rw [List.drop_zero,List.drop_zero] at this
     rw [←natL_nv x,this,natL_nv]
    have HC:Shut (cmpN x y=0):=⟨by rw [cmpN,if_neg (by omega),if_pos hxy]⟩
    clear hxy hd
    go_wp2
    go_ret
    exact ⟨by rw [HC.o];rfl,_,HW.o⟩
   ·obtain ⟨k,rfl⟩:∃ k',k=k'+1:=⟨k-1,by omega⟩
    have h1:k<(natL x).length:=by rw [←HNa.o];omega
    have h2:k<(natL y).length:=by rw [←HNb.o];omega
    obtain rfl:=HPa.o (by omega)
    obtain rfl:=HPb.o (by omega)
    have c1:wr.cell? ⟨ga,oa+k,none⟩=some (.int .i64 (((natL x).getD k 0:Nat):Int)):=by rw [HW.o];exact HA.o k h1
    have c2:wr.cell? ⟨gb,ob+k,none⟩=some (.int .i64 (((natL y).getD k 0:Nat):Int)):=by rw [HW.o];exact HB.o k h2
    have hi:(((k+1:Nat):Int)-1)=(k:Int):=by omega
    rw [hi]
    have hdx:=(natL_dig x).getD k
    have hdy:=(natL_dig y).getD k
    by_cases he:(natL x).getD k 0=(natL y).getD k 0
    ·have hd2:Shut ((natL x).drop k=(natL y).drop k):=⟨by
      rw [List.drop_eq_getElem_cons h1,List.drop_eq_getElem_cons h2,hd.o]
      rw [List.getD_eq_getElem?_getD,List.getD_eq_getElem?_getD,List.getElem?_eq_getElem h1,List.getElem?_eq_getElem h2] at he
      simp only [Option.getD_some] at he
      rw [he]⟩
     rw [←he] at c2
     clear he hd h1 h2 hdy
     generalize (natL x).getD k 0=d at *
     go_wp2
     go_quiet (fail)
     go_wp2
     exact ⟨⟨k,by omega,rfl,⟨_,by rw [HW.o,World.drewN_drewN]⟩,hd2⟩,by simp [intOf]⟩
    ·have hlt:(natL x).getD k 0<(natL y).getD k 0→x<y:=fun h=>by
      have:=nv_less (natL_dig x) (by rw [←HNa.o,←HNb.o]) k h1 h hd.o
      rwa [natL_nv,natL_nv] at this
     have hgt:(natL y).getD k 0<(natL x).getD k 0→y<x:=fun h=>by
      have:=nv_less (natL_dig y) (by rw [←HNa.o,←HNb.o]) k h2 h hd.o.symm
      rwa [natL_nv,natL_nv] at this
     have HC:Shut (cmpN x y=if (natL x).getD k 0<(natL y).getD k 0 then -1 else 1):=⟨by
      by_cases h:(natL x).getD k 0<(natL y).getD k 0
      ·rw [if_pos h,cmpN,if_pos (hlt h)]
      ·have:=hgt (by omega)
       rw [if_neg h,cmpN,if_neg (by omega),if_neg (by omega)]⟩
     clear hlt hgt hd h1 h2
     generalize (natL x).getD k 0=d at *
     generalize (natL y).getD k 0=e at *
     have hne:((d:Int)≠(e:Int)):=by omega
     go_wp2
     go_quiet (fail)
     generalize hw2:wr.drewN nq=w2
     have HW2:Shut _:=⟨hw2⟩
     have c3:w2.cell? ⟨ga,oa+k,none⟩=some (.int .i64 (d:Int)):=by rw [←hw2];exact c1
     have c4:w2.cell? ⟨gb,ob+k,none⟩=some (.int .i64 (e:Int)):=by rw [←hw2];exact c2
     clear c1 c2 hw2
     have i1:(0:Int)≤(k:Int):=by omega
     have i2:(k:Int)<(na:Int):=by omega
     by_cases hde:d<e
     ·rw [if_pos hde] at HC
      go_wp2
      go_quiet (fail)
      go_wp2
      go_ret
      exact ⟨by rw [HC.o];rfl,_,by rw [←HW2.o,HW.o,World.drewN_drewN,World.drewN_drewN]⟩
     ·rw [if_neg hde] at HC
      go_wp2
      go_quiet (fail)
      go_wp2
      go_ret
      exact ⟨by rw [HC.o];rfl,_,by rw [←HW2.o,HW.o,World.drewN_drewN,World.drewN_drewN]⟩
 ·have hne:((na:Int)≠(nb:Int)):=by omega
  have HC:Shut (cmpN x y=if na<nb then -1 else 1):=⟨by
   have e1:=HNa.o
   have e2:=HNb.o
   by_cases h:na<nb
   ·rw [if_pos h,cmpN,if_pos (natL_len_lt (by omega))]
   ·have:=natL_len_lt (n:=y) (m:=x) (by omega)
    rw [if_neg h,cmpN,if_neg (by omega),if_neg (by omega)]⟩
  by_cases h:na<nb
  ·rw [if_pos h] at HC
   go_wp2
   go_ret
   exact ⟨by rw [HC.o];rfl,0,rfl⟩
  ·rw [if_neg h] at HC
   go_wp2
   go_ret
   exact ⟨by rw [HC.o];rfl,0,rfl⟩

theorem order_ref (x y:Nat) (va vb:Value) (w:World) (ha:NI w va (natL x)) (hb:NI w vb (natL y)) (hla:(natL x).length≤1000) (hlb:(natL y).length≤1000) :
  Calls Tryz.prog 103 #[va,vb] w fun e w'=>e = .returned (.int .i64 (cmpN x y))∧∃ m,w'=w.drewN m:=by
 obtain ⟨p1,c1,g1,o1,rfl,_,_,hp1,hu1⟩:=ha.open
 obtain ⟨p2,c2,g2,o2,rfl,_,_,hp2,hu2⟩:=hb.open
 exact order_any x y p1 c1 g1 o1 p2 c2 g2 o2 w (fun h=>(hp1 h).1) hu1 (fun h=>(hp2 h).1) hu2 (by omega) (by omega)
theorem NI.trimmed {W:World} {g o cap:Nat} {l:List Nat} (hd:Dig l) (hu:IA W g o l) (hg:g<W.heap.size) (hc:l.length≤cap) (hm:cap≤maxLen):NI W (.slice (some ⟨g,o,none⟩) (natL (nv l)).length cap) (natL (nv l)):=by
 refine ⟨_,cap,rfl,Nat.le_trans (trim_len hd) hc,hm,.inr ⟨g,o,rfl,hg, ?_⟩⟩
 have:=hu.take (natL (nv l)).length
 rwa [trim_take hd] at this
theorem OwnJ.fresh {W:World} {B:Nat} {v:Value} {xs:List Nat} (h:OwnJ W B v xs):∀ g,v.ownBlock=some g→B≤g:=by
 intro g hg
 rcases h.open with ⟨rfl,_⟩ | ⟨c,g',rfl,hB,_⟩
 ·cases hg
 ·injection hg with hg;subst hg;exact hB
theorem NI.setOther {W:World} {v:Value} {l:List Nat} {g i:Nat} {x:Value} (h:NI W v l) (hne:∀ k,v.ownBlock=some k→k≠g):NI (W.setCell ⟨g,i,none⟩ x) v l:=by
 obtain ⟨p,cap,rfl,h1,h2,h3 | ⟨b,o,rfl,hb,hu⟩⟩:=h
 ·exact ⟨p,cap,rfl,h1,h2,.inl h3⟩
 ·have hbg:b≠g:=hne b rfl
  refine ⟨_,cap,rfl,h1,h2,.inr ⟨b,o,rfl,by simp only [World.setCell,Array.size_modify];exact hb,fun j hj => ?_⟩⟩
  rw [World.cell?_setCell_far W ⟨g,i,none⟩ ⟨b,o+j,none⟩ x (Ne.symm hbg)]
  exact hu j hj
theorem trim_ref (l:List Nat) (v:Value) (w:World) (h:NI w v l) (hd:Dig l) (hl:l.length≤1000000) :
  Calls Tryz.prog 151 #[v] w fun e w'=>∃ u,e = .returned u∧NI w u (natL (nv l))∧u.ownBlock=v.ownBlock∧w'=w:=by
 obtain ⟨p,cap,rfl,h1,h2,⟨rfl,rfl,rfl⟩ | ⟨g,o,rfl,hg,hu⟩⟩:=h
 ·refine (trim_any [] none 0 0 0 w (by simp) (fun i hi=>by simp at hi) hd (by simp) (by simp) (by unfold maxLen;omega)).mono ?_
  rintro e w' ⟨rfl,rfl⟩
  rw [nv,natL_zero]
  exact ⟨_,rfl,⟨none,0,rfl,Nat.le_refl _,by omega,.inl ⟨rfl,rfl,rfl⟩⟩,rfl,rfl⟩
 ·refine (trim_any l _ cap g o w (fun _=>rfl) hu hd hl h1 h2).mono ?_
  rintro e w' ⟨rfl,rfl⟩
  exact ⟨_,rfl,NI.trimmed hd hu hg h1 h2,rfl,rfl⟩
end N10
end
section
namespace N10
open Go.RowKit
open Nm (decN decN_zero decN_pos decN_dig decN_head)

theorem decN_natL (n:Nat):decN n=(natL n).reverse.map (48 + ·):=by
 induction n using Nat.strongRecOn with
 | ind n ih =>
  by_cases h:n=0
  ·subst h;rw [decN_zero,natL_zero];rfl
  ·rw [decN_pos h,natL_pos h,ih (n / 10) (by omega),List.reverse_cons,List.map_append];rfl
def sg (neg:Bool) (n:Nat):Int:=if neg=true then -(n:Int) else (n:Int)
theorem txt_dig (n:Nat) (hn:n≠0) (neg:Bool):ba ((if neg=true then [45] else [])++(natL n).reverse.map (48 + ·))=txt (sg neg n):=by
 rw [←decN_natL]
 cases neg with
 | false=>rw [sg,if_neg (by simp),if_neg (by simp),txt,if_neg (by omega),if_neg (by omega),Int.natAbs_natCast];rfl
 | true=>rw [sg,if_pos rfl,if_pos rfl,txt,if_neg (by omega),if_pos (by omega),Int.natAbs_neg,Int.natAbs_natCast];rfl
theorem ds_dig (n:Nat) (hn:n≠0):(∀ y∈(natL n).reverse.map (48 + ·),48≤y∧y<58)∧((natL n).reverse.map (48 + ·)).getD 0 0≠48:=by
 rw [←decN_natL];exact ⟨decN_dig n,decN_head n hn⟩
theorem text_pos (n:Nat) (hn:n≠0) (neg:Bool) (p:Option Addr) (cap g o:Nat) (w:World) (hp:p=some ⟨g,o,none⟩) (hu:IA w g o (natL n)) (hg:g<w.heap.size) (hl:(natL n).length≤1000) :
  Calls Tryz.prog 149 #[.bool neg,.slice p (natL n).length cap] w fun e w'=>e = .returned (.tuple #[Z (txt (sg neg n)),.bool (decide ((natL n).length≤200))])∧Below w.heap.size w w':=by
 have hd:∀ x∈natL n,x<10:=natL_dig n
 have h0:¬(natL n).length=0:=fun h=>hn (natL_len0.1 h)
 have tx:=txt_dig n hn
 have hds:=ds_dig n hn
 have hne:natL n ≠ []:=fun h=>hn (natL_nil.1 h)
 generalize hxs:natL n=xs at *
 subst hp
 have HTX:Shut _:=⟨tx⟩
 clear tx hxs
 go_enter Tryz.func149, Tryz.ntmps149
 obtain ⟨i0,hinf,hz0,hz1,hz2⟩:=info_parts infoB8
 have HU:Shut _:=⟨hu⟩
 have HD:Shut _:=⟨hd⟩
 have HDS:Shut _:=⟨hds⟩
 have HDEC:Shut (decide (((xs.length:Nat):Int)≤200)=decide (xs.length≤200)):=⟨by rw [decide_eq_decide];omega⟩
 clear hu hd hds
 cases neg with
 | true =>
  go_wp2_with (at_builtin;go_must (refine wpList_append_own _ rfl _ _ 65 rfl w.heap.size 5 i0 (.int .u8 0) 1 1 Tryz.underlying65 hinf hz0 hz1 hz2 rfl (by decide) _ _ _ rfl (World.ownsRow.alloc (OwnB.nil w w.heap.size) _) ⟨_,0,none⟩ 1 1 [(.int .u8 45)] rfl rfl (cell_one_new _ _ _) (by simp [Value.oneCell']) (by simp [maxLen]) (by simp) (by rw [World.size_alloc];omega) ?_);intro v' w' hown' hgrow _;have hB':=below_grownV ((Below.refl _ w).alloc (Nat.le_refl _) _) (Nat.le_refl _) (World.ownsRow.alloc (OwnB.nil w w.heap.size) _) hgrow)
  have hO1:OwnB w' w.heap.size v' [45]:=OwnB.snoc hown'
  have hB1:Below w.heap.size w w':=hB'
  clear hown' hgrow hB'
  go_loopw [6,7] (fun v i wr=>∃ k:Nat,k≤xs.length∧i = .int .i64 ((k:Int)-1)∧Shut (OwnB wr w.heap.size v ([45]++((xs.drop k).reverse.map (48 + ·))))∧Shut (Below w.heap.size w wr)) (fun _ i _=>(intOf i+1).toNat)
  case atStart=>exact ⟨xs.length,Nat.le_refl _,rfl,⟨by rw [List.drop_eq_nil_iff.2 (Nat.le_refl _)];exact hO1⟩,⟨hB1⟩⟩
  case round =>
   obtain ⟨k,hk,rfl,hO,hB⟩:=hrel
   by_cases hk0:k=0
   ·subst hk0
    have hz1:=HTX.o true
    have hO2:=hO.o
    rw [List.drop_zero] at hO2
    obtain ⟨cp,g2,rfl,hb⟩:=OwnB.open hO2 (by simp)
    have hcv:=back_string wr g2 0 cp _ (fun y hy=>by
     have:y=45∨y<58:=by
      rcases List.mem_append.1 hy with h | h
      ·simp at h;try exact .inl h
      ·exact .inr (HDS.o.1 y h).2
     omega) hb
    rw [show ba ([45]++xs.reverse.map (48 + ·))=txt (sg true n) from hz1] at hcv
    obtain ⟨str,hstr⟩:∃ str,str=txt (sg true n):=⟨_,rfl⟩
    rw [←hstr] at hcv
    have HSTR:Shut _:=⟨hstr⟩
    clear hstr hz1 hO2 hb hO
    generalize ([45]++xs.reverse.map (48 + ·)).length=nn at *
    go_wp2
    go_ret2
    exact ⟨by rw [←HSTR.o,←HDEC.o];rfl,hB.o⟩
   ·obtain ⟨k,rfl⟩:∃ k',k=k'+1:=⟨k-1,by omega⟩
    have hi:(((k+1:Nat):Int)-1)=(k:Int):=by omega
    rw [hi]
    have hcl:=(hB.o.cell (p:=⟨g,o+k,none⟩) hg).trans (HU.o k (by omega))
    have hx:xs.getD k 0<10:=by
     rw [List.getD_eq_getElem?_getD,List.getElem?_eq_getElem (show k<xs.length by omega)];exact HD.o _ (List.getElem_mem _)
    have HE:Shut ([45]++((xs.drop k).reverse.map (48 + ·))=([45]++((xs.drop (k+1)).reverse.map (48 + ·))) ++ [48+xs.getD k 0]):=⟨by
     rw [List.drop_eq_getElem_cons (show k<xs.length by omega),List.reverse_cons,List.map_append,←List.append_assoc,List.map_cons,List.map_nil,List.getD_eq_getElem?_getD,List.getElem?_eq_getElem (show k<xs.length by omega)];rfl⟩
    have hln:([45]++((xs.drop (k+1)).reverse.map (48 + ·))).length≤1001:=by simp;omega
    have hO2:=hO.o
    clear hO
    generalize [45]++((xs.drop (k+1)).reverse.map (48 + ·))=L at *
    generalize xs.getD k 0=d at *
    have hbs:=hB.o.size
    go_wp2_with (at_builtin;go_must (refine wpList_append_own _ rfl _ _ 65 rfl w.heap.size 5 i0 (.int .u8 0) 1 1 Tryz.underlying65 hinf hz0 hz1 hz2 rfl (by decide) _ _ _ rfl (World.ownsRow.alloc hO2 _) ⟨_,0,none⟩ 1 1 [(.int .u8 (48+(d:Int)))] rfl rfl (cell_one_new _ _ _) (by simp [Value.oneCell']) (by unfold maxLen;omega) (by omega) (by rw [World.size_alloc];omega) ?_);intro v' w' hown' hgrow _;have hB':=below_grownV (hB.o.alloc hbs _) (Nat.le_refl _) (World.ownsRow.alloc hO2 _) hgrow)
    rw [show (48+(d:Int))=((48+d:Nat):Int) by omega] at hown'
    exact ⟨⟨k,by omega,by go_num,⟨by rw [HE.o];exact OwnB.snoc hown'⟩,⟨hB'⟩⟩,by simp [intOf]⟩
 | false =>
  go_wp2
  have hO1:OwnB w w.heap.size (.slice none 0 0) []:=OwnB.nil _ _
  have hB1:Below w.heap.size w w:=Below.refl _ _
  go_loopw [6,7] (fun v i wr=>∃ k:Nat,k≤xs.length∧i = .int .i64 ((k:Int)-1)∧Shut (OwnB wr w.heap.size v ([]++((xs.drop k).reverse.map (48 + ·))))∧Shut (Below w.heap.size w wr)) (fun _ i _=>(intOf i+1).toNat)
  case atStart=>exact ⟨xs.length,Nat.le_refl _,rfl,⟨by rw [List.drop_eq_nil_iff.2 (Nat.le_refl _)];exact hO1⟩,⟨hB1⟩⟩
  case round =>
   obtain ⟨k,hk,rfl,hO,hB⟩:=hrel
   by_cases hk0:k=0
   ·subst hk0
    have hz1:=HTX.o false
    have hO2:=hO.o
    rw [List.drop_zero] at hO2
    obtain ⟨cp,g2,rfl,hb⟩:=OwnB.open hO2 (by simp;omega)
    have hcv:=back_string wr g2 0 cp _ (fun y hy=>by
     have:y=45∨y<58:=by
      rcases List.mem_append.1 hy with h | h
      ·simp at h;try exact .inl h
      ·exact .inr (HDS.o.1 y h).2
     omega) hb
    rw [show ba ([]++xs.reverse.map (48 + ·))=txt (sg false n) from hz1] at hcv
    obtain ⟨str,hstr⟩:∃ str,str=txt (sg false n):=⟨_,rfl⟩
    rw [←hstr] at hcv
    have HSTR:Shut _:=⟨hstr⟩
    clear hstr hz1 hO2 hb hO
    generalize ([]++xs.reverse.map (48 + ·)).length=nn at *
    go_wp2
    go_ret2
    exact ⟨by rw [←HSTR.o,←HDEC.o];rfl,hB.o⟩
   ·obtain ⟨k,rfl⟩:∃ k',k=k'+1:=⟨k-1,by omega⟩
    have hi:(((k+1:Nat):Int)-1)=(k:Int):=by omega
    rw [hi]
    have hcl:=(hB.o.cell (p:=⟨g,o+k,none⟩) hg).trans (HU.o k (by omega))
    have hx:xs.getD k 0<10:=by
     rw [List.getD_eq_getElem?_getD,List.getElem?_eq_getElem (show k<xs.length by omega)];exact HD.o _ (List.getElem_mem _)
    have HE:Shut ([]++((xs.drop k).reverse.map (48 + ·))=([]++((xs.drop (k+1)).reverse.map (48 + ·))) ++ [48+xs.getD k 0]):=⟨by
     rw [List.drop_eq_getElem_cons (show k<xs.length by omega),List.reverse_cons,List.map_append,←List.append_assoc,List.map_cons,List.map_nil,List.getD_eq_getElem?_getD,List.getElem?_eq_getElem (show k<xs.length by omega)];rfl⟩
    have hln:([]++((xs.drop (k+1)).reverse.map (48 + ·))).length≤1001:=by simp;omega
    have hO2:=hO.o
    clear hO
    generalize []++((xs.drop (k+1)).reverse.map (48 + ·))=L at *
    generalize xs.getD k 0=d at *
    have hbs:=hB.o.size
    go_wp2_with (at_builtin;go_must (refine wpList_append_own _ rfl _ _ 65 rfl w.heap.size 5 i0 (.int .u8 0) 1 1 Tryz.underlying65 hinf hz0 hz1 hz2 rfl (by decide) _ _ _ rfl (World.ownsRow.alloc hO2 _) ⟨_,0,none⟩ 1 1 [(.int .u8 (48+(d:Int)))] rfl rfl (cell_one_new _ _ _) (by simp [Value.oneCell']) (by unfold maxLen;omega) (by omega) (by rw [World.size_alloc];omega) ?_);intro v' w' hown' hgrow _;have hB':=below_grownV (hB.o.alloc hbs _) (Nat.le_refl _) (World.ownsRow.alloc hO2 _) hgrow)
    rw [show (48+(d:Int))=((48+d:Nat):Int) by omega] at hown'
    exact ⟨⟨k,by omega,by go_num,⟨by rw [HE.o];exact OwnB.snoc hown'⟩,⟨hB'⟩⟩,by simp [intOf]⟩

theorem text_ref2 (n:Nat) (neg:Bool) (v:Value) (w:World) (h:NI w v (natL n)) (hl:(natL n).length≤1000) :
  Calls Tryz.prog 149 #[.bool neg,v] w fun e w'=>e = .returned (.tuple #[Z (txt (sg neg n)),.bool (decide ((natL n).length≤200))])∧Below w.heap.size w w':=by
 by_cases hn:n=0
 ·subst hn
  obtain ⟨p,cap,rfl, -, -, -⟩:=h
  rw [natL_zero]
  refine (text_nil neg p cap w).mono ?_
  rintro e w' ⟨rfl,rfl⟩
  refine ⟨?_,Below.refl _ _⟩
  have:sg neg 0=0:=by cases neg <;> rfl
  rw [this,txt_0];rfl
 ·obtain ⟨p,cap,g,o,rfl,h1,h2,hp,hu⟩:=h.open
  have hlen:1≤(natL n).length:=by
   rcases Nat.eq_zero_or_pos (natL n).length with h0 | h0
   ·exact absurd (natL_len0.1 h0) hn
   ·exact h0
  exact text_pos n hn neg p cap g o w (hp hlen).1 hu (hp hlen).2 hl
end N10
end
section
namespace N10
open Go.RowKit
open Nm (decN decN_zero decN_pos decN_dig decN_head decN_len_le decN_lt)

theorem decN_len (n:Nat):(decN n).length=(natL n).length:=by rw [decN_natL];simp
theorem byte_at (n k:Nat) (hk:k<(natL n).length) (h:(natL n).length-1-k<(ba (decN n)).size):(ba (decN n))[(natL n).length-1-k].toNat=48+(natL n).getD k 0:=by
 have h1:=bl_get (ba (decN n)) ((natL n).length-1-k) h
 rw [←h1,bl_ba _ (fun y hy=>by have:=decN_dig n y hy;omega),decN_natL]
 have hlen:((natL n).reverse.map (48 + ·)).length=(natL n).length:=by simp
 rw [List.getD_eq_getElem?_getD,List.getElem?_eq_getElem (by omega),List.getD_eq_getElem?_getD,List.getElem?_eq_getElem hk]
 simp only [List.getElem_map,List.getElem_reverse,Option.getD_some]
 congr 2
 omega
theorem dec_ne (n:Nat):((ba (decN n)).toList == [48])=false∨n=0:=by
 by_cases h:n=0
 ·exact .inr h
 ·left
  have h2:=decN_head n h
  rw [show ([48]:List UInt8)=(⟨#[48]⟩:ByteArray).toList by decide +kernel,str_eq]
  refine decide_eq_false fun e => ?_
  have h3:bl (ba (decN n))=bl ⟨#[48]⟩:=by rw [e]
  rw [bl_ba _ (fun y hy=>by have:=decN_dig n y hy;omega)] at h3
  rw [h3] at h2
  exact h2 rfl

theorem digits_pos (n:Nat) (hn:n≠0) (hl:(natL n).length≤1000) (w:World) :
  Calls Tryz.prog 100 #[Z (txt (n:Int))] w fun e w'=>∃ v,e = .returned (.tuple #[.bool false,v])∧NI w' v (natL n)∧Below w.heap.size w w':=by
 obtain ⟨L,hL⟩:∃ L,L=(natL n).length:=⟨_,rfl⟩
 have hLs:(ba (decN n)).size=L:=by rw [ba_size,decN_len,hL]
 have hbys:=byte_at n
 rw [←hL] at hbys
 have hne:=(dec_ne n).resolve_right hn
 have htx:txt (n:Int)=ba (decN n):=by rw [txt,if_neg (by omega),if_neg (by omega),Int.natAbs_natCast]
 rw [htx]
 have hL0:0<L:=by rw [hL];rcases Nat.eq_zero_or_pos (natL n).length with h | h;exact absurd (natL_len0.1 h) hn;exact h
 obtain ⟨i0,hinf,hz0,hz1,hz2⟩:=info_parts infoI8
 generalize hds:ba (decN n)=ds at *
 have hp:0<ds.size:=by omega
 have hb0:ds[0].toNat≠45:=by
  have h1:=hbys (L-1) (by omega) (by omega)
  simp only [show L-1-(L-1)=0 by omega] at h1
  omega
 have hb0i:((ds[0].toNat:Nat):Int)≠45:=by omega
 have hbe:(((ds[0].toNat:Nat):Int) == 45)=false:=by rw [beq_eq_false_iff_ne];exact hb0i
 have HBY:Shut _:=⟨hbys⟩
 have HL:Shut _:=⟨hL⟩
 have hLL:L≤1000:=by omega
 clear hbys hL htx hds hl hn
 go_enter Tryz.func100, Tryz.ntmps100
 go_upto_region 6 with fail

 go_loopw [5,6] (fun v i wr=>∃ k:Nat,k≤L∧i = .int .i64 ((L:Int)-1-(k:Int))∧Shut (OwnJ wr w.heap.size v ((natL n).take k))∧Shut (Below w.heap.size w wr)) (fun _ i _=>(intOf i+1).toNat)
 case atStart=>exact ⟨0,Nat.zero_le _,by congr 1;omega,⟨OwnJ.nil _ _⟩,⟨Below.refl _ _⟩⟩
 case round =>
  obtain ⟨k,hk,rfl,hO,hB⟩:=hrel
  by_cases hkl:k=L
  ·have HF:Shut ((natL n).take k=natL n):=⟨List.take_of_length_le (by rw [←HL.o];omega)⟩
   have hlt:¬(0:Int)≤(L:Int)-1-(k:Int):=by omega
   have hO2:=hO.o
   rw [HF.o] at hO2
   have HO:Shut _:=⟨hO2⟩
   clear hO hO2
   go_wp2
   go_ret2
   exact ⟨_,rfl,HO.o.ni,hB.o⟩
  ·have hkL:k<L:=by omega
   obtain ⟨j,hj⟩:∃ j:Nat,j=L-1-k:=⟨_,rfl⟩
   have hji:(L:Int)-1-(k:Int)=(j:Int):=by omega
   rw [hji]
   have hjL:j<ds.size:=by omega
   have hby:ds[j].toNat=48+(natL n).getD k 0:=by
    subst hj
    exact HBY.o k hkL (by omega)
   have hdg:=(natL_dig n).getD k
   have HT:Shut ((natL n).take (k+1)=(natL n).take k ++ [(natL n).getD k 0]):=⟨by
    have hk2:k<(natL n).length:=by rw [←HL.o];exact hkL
    rw [List.take_succ_eq_append_getElem hk2,List.getD_eq_getElem?_getD,List.getElem?_eq_getElem hk2];rfl⟩
   have htl:((natL n).take k).length≤1000:=by rw [List.length_take];omega
   have hO2:=hO.o
   have hbs:=hB.o.size
   obtain ⟨b,hb⟩:∃ b:Nat,ds[j].toNat=b:=⟨_,rfl⟩
   have hb48:b=48+(natL n).getD k 0:=by rw [←hb];exact hby
   have hb1:48≤b:=by omega
   have hb2:b<58:=by omega
   have HBD:Shut (b-48=(natL n).getD k 0):=⟨by omega⟩
   have HJ:Shut _:=⟨hj⟩
   clear hO hby hdg hb48 hji hj
   generalize (natL n).take k=xs at *
   generalize (natL n).getD k 0=d at *
   go_wp2_with (at_builtin;go_must (refine wpList_append_own _ rfl _ _ 39 rfl w.heap.size 3 i0 (.int .i64 0) 1 8 Tryz.underlying39 hinf hz0 hz1 hz2 rfl (by decide) _ _ _ rfl (World.ownsRow.alloc hO2 _) ⟨_,0,none⟩ 1 1 [.int .i64 ((b:Int)-48)] rfl rfl (cell_one_new _ _ _) (by simp [Value.oneCell']) (by unfold maxLen;omega) (by omega) (by rw [World.size_alloc];omega) ?_);intro v' w' hown' hgrow _;have hB':=below_grownV (hB.o.alloc hbs _) (Nat.le_refl _) (World.ownsRow.alloc hO2 _) hgrow)
   rw [show ((b:Int)-48)=((d:Nat):Int) by have:=HBD.o;omega] at hown'
   exact ⟨⟨k+1,by omega,by rw [HJ.o];congr 1;omega,⟨by rw [HT.o];exact OwnJ.snoc hown'⟩,⟨hB'⟩⟩,by simp [intOf]⟩

theorem digits_neg (n:Nat) (hn:n≠0) (hl:(natL n).length≤1000) (w:World) :
  Calls Tryz.prog 100 #[Z (txt (-(n:Int)))] w fun e w'=>∃ v,e = .returned (.tuple #[.bool true,v])∧NI w' v (natL n)∧Below w.heap.size w w':=by
 obtain ⟨L,hL⟩:∃ L,L=(natL n).length:=⟨_,rfl⟩
 have hLs:(ba (decN n)).size=L:=by rw [ba_size,decN_len,hL]
 have hbys:=byte_at n
 rw [←hL] at hbys
 have hne:=(dec_ne n).resolve_right hn
 have htx:txt (-(n:Int))=ba (45 :: decN n):=by rw [txt,if_neg (by omega),if_pos (by omega),Int.natAbs_neg,Int.natAbs_natCast]
 have hfull:(ba (45 :: decN n)).size=L+1:=by rw [ba_size,List.length_cons,decN_len,hL]
 have hext:(ba (45 :: decN n)).extract 1 (L+1)=ba (decN n):=by
  apply bl_inj
  rw [bl_extract,bl_ba (45 :: decN n) (fun y hy=>by
   rcases List.mem_cons.1 hy with rfl | h
   ·decide
   ·have:=decN_dig n y h;omega),bl_ba (decN n) (fun y hy=>by have:=decN_dig n y hy;omega)]
  rw [List.take_of_length_le (by rw [List.length_cons,decN_len,←hL];omega)];rfl
 have hfirst:∀ h:0<(ba (45 :: decN n)).size,(ba (45 :: decN n))[0].toNat=45:=fun h=>by
  rw [←bl_get _ 0 h,bl_ba _ (fun y hy=>by
   rcases List.mem_cons.1 hy with rfl | h
   ·decide
   ·have:=decN_dig n y h;omega)];rfl
 rw [htx]
 have hL0:0<L:=by rw [hL];rcases Nat.eq_zero_or_pos (natL n).length with h | h;exact absurd (natL_len0.1 h) hn;exact h
 obtain ⟨i0,hinf,hz0,hz1,hz2⟩:=info_parts infoI8
 generalize hds:ba (decN n)=ds at *
 generalize hfs:ba (45 :: decN n)=fs at *
 have hp:0<fs.size:=by omega
 have hb0:=hfirst hp
 have hI:(1:Int)≤(L:Int)+1:=by omega
 have HBY:Shut _:=⟨hbys⟩
 have HL:Shut _:=⟨hL⟩
 have hLL:L≤1000:=by omega
 clear hbys hL htx hds hl hn hfs hfirst
 go_enter Tryz.func100, Tryz.ntmps100
 go_upto_region 6 with fail

 go_loopw [5,6] (fun v i wr=>∃ k:Nat,k≤L∧i = .int .i64 ((L:Int)-1-(k:Int))∧Shut (OwnJ wr w.heap.size v ((natL n).take k))∧Shut (Below w.heap.size w wr)) (fun _ i _=>(intOf i+1).toNat)
 case atStart=>exact ⟨0,Nat.zero_le _,by congr 1;omega,⟨OwnJ.nil _ _⟩,⟨Below.refl _ _⟩⟩
 case round =>
  obtain ⟨k,hk,rfl,hO,hB⟩:=hrel
  by_cases hkl:k=L
  ·have HF:Shut ((natL n).take k=natL n):=⟨List.take_of_length_le (by rw [←HL.o];omega)⟩
   have hlt:¬(0:Int)≤(L:Int)-1-(k:Int):=by omega
   have hO2:=hO.o
   rw [HF.o] at hO2
   have HO:Shut _:=⟨hO2⟩
   clear hO hO2
   go_wp2
   go_ret2
   exact ⟨_,rfl,HO.o.ni,hB.o⟩
  ·have hkL:k<L:=by omega
   obtain ⟨j,hj⟩:∃ j:Nat,j=L-1-k:=⟨_,rfl⟩
   have hji:(L:Int)-1-(k:Int)=(j:Int):=by omega
   rw [hji]
   have hjL:j<ds.size:=by omega
   have hby:ds[j].toNat=48+(natL n).getD k 0:=by
    subst hj
    exact HBY.o k hkL (by omega)
   have hdg:=(natL_dig n).getD k
   have HT:Shut ((natL n).take (k+1)=(natL n).take k ++ [(natL n).getD k 0]):=⟨by
    have hk2:k<(natL n).length:=by rw [←HL.o];exact hkL
    rw [List.take_succ_eq_append_getElem hk2,List.getD_eq_getElem?_getD,List.getElem?_eq_getElem hk2];rfl⟩
   have htl:((natL n).take k).length≤1000:=by rw [List.length_take];omega
   have hO2:=hO.o
   have hbs:=hB.o.size
   obtain ⟨b,hb⟩:∃ b:Nat,ds[j].toNat=b:=⟨_,rfl⟩
   have hb48:b=48+(natL n).getD k 0:=by rw [←hb];exact hby
   have hb1:48≤b:=by omega
   have hb2:b<58:=by omega
   have HBD:Shut (b-48=(natL n).getD k 0):=⟨by omega⟩
   have HJ:Shut _:=⟨hj⟩
   clear hO hby hdg hb48 hji hj
   generalize (natL n).take k=xs at *
   generalize (natL n).getD k 0=d at *
   go_wp2_with (at_builtin;go_must (refine wpList_append_own _ rfl _ _ 39 rfl w.heap.size 3 i0 (.int .i64 0) 1 8 Tryz.underlying39 hinf hz0 hz1 hz2 rfl (by decide) _ _ _ rfl (World.ownsRow.alloc hO2 _) ⟨_,0,none⟩ 1 1 [.int .i64 ((b:Int)-48)] rfl rfl (cell_one_new _ _ _) (by simp [Value.oneCell']) (by unfold maxLen;omega) (by omega) (by rw [World.size_alloc];omega) ?_);intro v' w' hown' hgrow _;have hB':=below_grownV (hB.o.alloc hbs _) (Nat.le_refl _) (World.ownsRow.alloc hO2 _) hgrow)
   rw [show ((b:Int)-48)=((d:Nat):Int) by have:=HBD.o;omega] at hown'
   exact ⟨⟨k+1,by omega,by rw [HJ.o];congr 1;omega,⟨by rw [HT.o];exact OwnJ.snoc hown'⟩,⟨hB'⟩⟩,by simp [intOf]⟩

theorem digits_zero (w:World) :
  Calls Tryz.prog 100 #[Z ⟨#[48]⟩] w fun e w'=>∃ v,e = .returned (.tuple #[.bool (decide ((0:Int)<0)),v])∧NI w' v []∧Below w.heap.size w w':=by
 have hd:decide ((0:Int)<0)=false:=by decide
 rw [hd]
 go_enter Tryz.func100, Tryz.ntmps100
 go_upto_region 6 with fail
 go_loopw [5,6] (fun v i wr=>v = .slice none 0 0∧i = .int .i64 0∧wr=w) (fun _ _ _=>0)
 case atStart=>exact ⟨rfl,rfl,rfl⟩
 case round =>
  obtain ⟨rfl,rfl,rfl⟩:=hrel
  go_wp2
  go_ret2
  exact ⟨_,rfl,⟨none,0,rfl,Nat.le_refl _,by unfold maxLen;omega,.inl ⟨rfl,rfl,rfl⟩⟩,Below.refl _ _⟩
theorem digits_ref (z:Int) (hl:(natL z.natAbs).length≤1000) (w:World) :
  Calls Tryz.prog 100 #[Z (txt z)] w fun e w'=>∃ v,e = .returned (.tuple #[.bool (decide (z<0)),v])∧NI w' v (natL z.natAbs)∧Below w.heap.size w w':=by
 rcases Int.lt_trichotomy z 0 with h | h | h
 ·have:=digits_neg z.natAbs (by omega) hl w
  rw [show -((z.natAbs:Nat):Int)=z by omega] at this
  rw [decide_eq_true h];exact this
 ·subst h
  rw [show (0:Int).natAbs=0 from rfl,natL_zero,txt_0]
  exact digits_zero w
 ·have:=digits_pos z.natAbs (by omega) hl w
  rw [show ((z.natAbs:Nat):Int)=z by omega] at this
  rw [decide_eq_false (by omega)];exact this
end N10
end
end Go.Proofs.YtbfonkabmehlmaaGreatDoor
