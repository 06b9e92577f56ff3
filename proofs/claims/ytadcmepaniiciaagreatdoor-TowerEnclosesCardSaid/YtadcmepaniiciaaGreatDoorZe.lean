import Derived.Deep.RegionWith
import Derived.Test.YtadcmepaniiciaaGreatDoorZd
import Derived.Deep.DeepCutAuto
set_option maxRecDepth 1000000
set_option maxHeartbeats 40000000
open Go.Value renaming string→Z
open Go.Obj renaming cells→O
namespace Go.Proofs.YtadcmepaniiciaaGreatDoor
section
namespace N10
def nv:List Nat→Nat
 | []=>0
 | d :: l=>d+10*nv l
def Dig (l:List Nat):Prop:=∀ x∈l,x<10
theorem Dig.tail {d:Nat} {l:List Nat} (h:Dig (d :: l)):Dig l:=fun x hx=>h x (List.mem_cons_of_mem _ hx)
theorem Dig.head {d:Nat} {l:List Nat} (h:Dig (d :: l)):d<10:=h d (by simp)
theorem Dig.take {l:List Nat} (h:Dig l) (k:Nat):Dig (l.take k):=fun x hx=>h x (List.mem_of_mem_take hx)
theorem Dig.drop {l:List Nat} (h:Dig l) (k:Nat):Dig (l.drop k):=fun x hx=>h x (List.mem_of_mem_drop hx)
theorem Dig.append {l m:List Nat} (h:Dig l) (k:Dig m):Dig (l++m):=fun x hx=>(List.mem_append.1 hx).elim (h x) (k x)
theorem Dig.getD {l:List Nat} (h:Dig l) (i:Nat):l.getD i 0<10:=by
 rw [List.getD_eq_getElem?_getD];rcases Nat.lt_or_ge i l.length with h1 | h1
 ·rw [List.getElem?_eq_getElem h1];exact h _ (List.getElem_mem h1)
 ·rw [List.getElem?_eq_none h1];decide
theorem QdC {l:List Nat} (h:Dig l):nv l<10^l.length:=by
 induction l with
 | nil=>decide
 | cons d l ih =>
  have h1:=ih h.tail;have h2:=h.head;rw [nv,List.length_cons,Nat.pow_succ];omega
theorem QcI (a b:List Nat):nv (a++b)=nv a+10^a.length*nv b:=by
 induction a with
 | nil=>simp [nv]
 | cons d l ih=>rw [List.cons_append,nv,nv,ih,List.length_cons,Nat.pow_succ];grind
theorem QaO (l:List Nat) (i:Nat) (h:i<l.length):nv (l.take (i+1))=nv (l.take i)+10^i*l.getD i 0:=by
 have hg:l.getD i 0=l[i]:=by simp [List.getD,h]
 rw [hg,List.take_succ_eq_append_getElem h,QcI,List.length_take,Nat.min_eq_left (by omega)];simp [nv]
theorem QaH (l:List Nat) (i:Nat) (h:i≤l.length):nv l=nv (l.take i)+10^i*nv (l.drop i):=by
 conv=>lhs;rw [←List.take_append_drop i l]
 rw [QcI,List.length_take,Nat.min_eq_left h]
theorem Qra (n:Nat):nv (List.replicate n 0)=0:=by
 induction n with
 | zero=>rfl
 | succ n ih=>rw [List.replicate_succ,nv,ih]
theorem Qna (n:Nat):Dig (List.replicate n 0):=fun x hx=>by rw [(List.mem_replicate.1 hx).2];decide
def padL:Nat→Nat→List Nat
 | 0,_ => []
 | n+1,x=>x % 10 :: padL n (x / 10)
theorem Qaq:∀ n x,(padL n x).length=n
 | 0,_=>rfl
 | n+1,x=>by rw [padL,List.length_cons,Qaq]
theorem Qbl:∀ n x,Dig (padL n x)
 | 0,_=>fun y hy=>by cases hy
 | n+1,x=>fun y hy=>by
  rw [padL] at hy;rcases List.mem_cons.1 hy with rfl | hy
  ·exact Nat.mod_lt _ (by decide)
  ·exact Qbl n _ y hy
theorem QbZ:∀ n x,x<10^n→nv (padL n x)=x
 | 0,x,h=>by rw [padL,nv];omega
 | n+1,x,h=>by
  rw [Nat.pow_succ] at h;rw [padL,nv,QbZ n (x / 10) (by omega)];omega
theorem Qdb {l:List Nat} (h:Dig l):padL l.length (nv l)=l:=by
 induction l with
 | nil=>rfl
 | cons d l ih =>
  have:=h.head;rw [List.length_cons,padL,nv,show (d+10*nv l) % 10=d by omega,show (d+10*nv l) / 10=nv l by omega,ih h.tail]
theorem QbR (n m x y:Nat) (h:x<10^n):padL (n+m) (x+10^n*y)=padL n x++padL m y:=by
 induction n generalizing x with
 | zero =>
  have:x=0:=by simpa using h
  subst this;simp [padL]
 | succ n ih =>
  rw [Nat.pow_succ] at h;rw [show n+1+m=(n+m)+1 by omega,padL,padL,List.cons_append];have e1:(x+10^(n+1)*y) % 10=x % 10:=by rw [Nat.pow_succ,Nat.mul_comm (10^n) 10,Nat.mul_assoc,Nat.add_mul_mod_self_left]
  have e2:(x+10^(n+1)*y) / 10=x / 10+10^n*y:=by rw [Nat.pow_succ,Nat.mul_comm (10^n) 10,Nat.mul_assoc,Nat.add_mul_div_left _ _ (by decide)]
  rw [e1,e2,ih (x / 10) (by omega)]
theorem QhL (d:Nat) (h:d<10):padL 1 d = [d]:=by rw [padL,padL,Nat.mod_eq_of_lt h]
theorem Qew (n x d:Nat) (h:x<10^n) (hd:d<10):padL (n+1) (x+10^n*d)=padL n x ++ [d]:=by rw [QbR n 1 x d h,QhL d hd]
def natL (n:Nat):List Nat:=if n=0 then [] else n % 10 :: natL (n / 10)
decreasing_by omega
theorem Qau:natL 0 = []:=by rw [natL,if_pos rfl]
theorem Qbi {n:Nat} (h:n≠0):natL n=n % 10 :: natL (n / 10):=by rw [natL,if_neg h]
theorem Qan (n:Nat):nv (natL n)=n:=by
 induction n using Nat.strongRecOn with
 | ind n ih =>
  by_cases h:n=0
  ·subst h;rw [Qau,nv]
  ·rw [Qbi h,nv,ih (n / 10) (by omega)];omega
theorem Qao (n:Nat):Dig (natL n):=by
 induction n using Nat.strongRecOn with
 | ind n ih =>
  by_cases h:n=0
  ·subst h;rw [Qau];intro x hx;cases hx
  ·rw [Qbi h];intro x hx;rcases List.mem_cons.1 hx with rfl | hx
   ·exact Nat.mod_lt _ (by decide)
   ·exact ih (n / 10) (by omega) x hx
theorem QfC {n:Nat}:natL n = []↔n=0:=by
 constructor
 ·intro h;by_cases h0:n=0
  ·exact h0
  ·rw [Qbi h0] at h;cases h
 ·rintro rfl;exact Qau
theorem QaF {n:Nat}:(natL n).length=0↔n=0:=by rw [List.length_eq_zero_iff,QfC]
theorem Qen (l:List Nat) (h:Dig l) (hz:l = []∨l.getD (l.length-1) 0≠0):l=natL (nv l):=by
 induction l with
 | nil=>rw [nv,Qau]
 | cons d l ih =>
  have hd:=h.head
  have hl:l=natL (nv l):=by
   refine ih h.tail ?_;rcases hz with hz | hz
   ·cases hz
   ·cases l with
    | nil=>exact .inl rfl
    | cons e r=>right;simpa using hz
  have h0:nv (d :: l)≠0:=by
   rw [nv];rcases hz with hz | hz
   ·cases hz
   ·cases l with
    | nil=>simp at hz;rw [nv];omega
    | cons e r =>
     intro hn;have:nv (e :: r)=0:=by omega
     rw [this,Qau] at hl;cases hl
  rw [Qbi h0,nv,show (d+10*nv l) % 10=d by omega,show (d+10*nv l) / 10=nv l by omega,←hl]
theorem QfW (n:Nat) (h:n≠0):(natL n).getD ((natL n).length-1) 0≠0:=by
 induction n using Nat.strongRecOn with
 | ind n ih =>
  rw [Qbi h];by_cases h1:n / 10=0
  ·rw [h1,Qau];simp;omega
  ·have:=ih (n / 10) (by omega) h1;have hl:(natL (n / 10)).length≠0:=fun e=>h1 (QaF.1 e);have e:(n % 10 :: natL (n / 10)).length-1=((natL (n / 10)).length-1)+1:=by rw [List.length_cons];omega
   rw [e,List.getD_cons_succ];exact this
theorem QaI (n:Nat):n<10^(natL n).length:=by have:=QdC (Qao n);rwa [Qan] at this
theorem QdD (n:Nat) (h:n≠0):10^((natL n).length-1)≤n:=by
 have h1:=QfW n h;have hl:(natL n).length≠0:=fun e=>h (QaF.1 e);have h2:=QaO (natL n) ((natL n).length-1) (by omega);rw [show (natL n).length-1+1=(natL n).length by omega,List.take_length,Qan] at h2;have h3:10^((natL n).length-1)*1≤10^((natL n).length-1)*(natL n).getD ((natL n).length-1) 0:=Nat.mul_le_mul_left _ (by omega);omega
theorem Qat {n k:Nat} (h:n<10^k):(natL n).length≤k:=by
 by_cases h0:n=0
 ·rw [QaF.2 h0];omega
 ·have h1:=QdD n h0;have h2:10^((natL n).length-1)<10^k:=by omega
  have:=(Nat.pow_lt_pow_iff_right (by decide:1<10)).1 h2;omega
theorem Qal {n m:Nat} (h:n≤m):(natL n).length≤(natL m).length:=Qat (Nat.lt_of_le_of_lt h (QaI m))
theorem QcJ {n m:Nat} (h:(natL n).length<(natL m).length):n<m:=by
 rcases Nat.lt_or_ge n m with h1 | h1
 ·exact h1
 ·have:=Qal h1;omega
theorem Qdp (l:List Nat) (k:Nat) (hk:k≤l.length) (hz:∀ j,k≤j→l.getD j 0=0):nv (l.take k)=nv l:=by
 have h:nv (l.drop k)=0:=by
  have h2:∀ (r:List Nat),(∀ j,r.getD j 0=0)→nv r=0:=by
   intro r
   induction r with
   | nil=>intro _;rfl
   | cons d r ih=>intro hr;have h0:=hr 0;simp at h0;rw [nv,ih (fun j=>by simpa using hr (j+1)),h0]
  refine h2 _ (fun j => ?_);have:=hz (k+j) (by omega);rw [List.getD_eq_getElem?_getD] at this ⊢
  rwa [List.getElem?_drop]
 rw [QaH l k hk,h,Nat.mul_zero,Nat.add_zero]
theorem QfX {a b:List Nat} (ha:Dig a) (hl:a.length=b.length) (i:Nat) (h:i<a.length) (hlt:a.getD i 0<b.getD i 0) (he:a.drop (i+1)=b.drop (i+1)):nv a<nv b:=by
 have e1:=QaH a (i+1) (by omega);have e2:=QaH b (i+1) (by omega);rw [QaO a i h] at e1;rw [QaO b i (by omega)] at e2;rw [he] at e1;have hp:=QdC (ha.take i);rw [List.length_take,Nat.min_eq_left (by omega)] at hp;have h1:10^i*(a.getD i 0+1)≤10^i*b.getD i 0:=Nat.mul_le_mul_left _ hlt;rw [Nat.mul_add] at h1;omega
end N10
end
section
open Go.RowKit Go.Proofs.YtadcmepaniiciaaGreatDoor.Nm
def byts (l:List Nat):List Value:=l.map fun n:Nat=>Value.int .u8 (n:Int)
def OwnB (W:World) (B:Nat) (v:Value) (xs:List Nat):Prop:=W.ownsRow B 5 1 v xs.length (byts xs)
theorem OwnB.nil (W:World) (B:Nat):OwnB W B (.slice none 0 0) []:=World.ownsRow_nil _ _ _ _
theorem OwnB.snoc {W:World} {B:Nat} {v:Value} {xs:List Nat} {x:Nat} (h:W.ownsRow B 5 1 v (xs.length+1) (byts xs ++ [.int .u8 (x:Int)])):OwnB W B v (xs ++ [x]):=by
 unfold OwnB byts;rw [List.length_append,List.map_append];exact h
theorem Qui {W:World} {g:Nat} {cur:Array Value} {T:TypeId} {n:Nat} {l:List Value} (hgg:RowAt W g cur T) (htk:cur.toList.take n=l) (i:Nat) (hi:i<n):W.cell? ⟨g,i,none⟩=l[i]? := by
 rw [RowAt.cell hgg i,←htk,List.getElem?_take,if_pos hi,Array.getElem?_toList]
theorem OwnB.open {W:World} {B:Nat} {v:Value} {xs:List Nat} (h:OwnB W B v xs) (hn:1≤xs.length):∃ (cap g:Nat),v = .slice (some ⟨g,0,none⟩) xs.length cap∧∀ i,i<xs.length→W.cell? ⟨g,0+i,none⟩=some (.int .u8 ((xs.getD i 0:Nat):Int)):=by
 rcases h.2 with ⟨-,h0⟩ | ⟨g,cap,cur,hv, -,hgg, -, -, -,htk⟩
 ·rw [h0] at hn;exact absurd hn (by decide)
 ·rw [Nat.mul_one] at htk;refine ⟨cap,g,hv,fun i hi => ?_⟩;rw [Nat.zero_add,Qui hgg htk i hi];simp [byts,List.getD,hi]
theorem QaC {B:Nat} {w w1 w3:World} {v:Value} {T:TypeId} {n:Nat} {l:List Value} (hb:Below B w w1) (hB:B≤w.heap.size) (hO:w1.ownsRow B T 1 v n l) (hg:w1.grownBy w3 v.ownBlock):Below B w w3 :=
 hb.trans ⟨hg.os,hg.tape,hg.output,hg.size,fun k hk=>hg.block k (Nat.lt_of_lt_of_le (Nat.lt_of_lt_of_le hk hB) hb.size) (fun e=>by
  rcases hO.2 with ⟨rfl,_⟩ | ⟨g,cap,cur,rfl,h1,_⟩
  ·simp [Value.ownBlock] at e
  ·simp [Value.ownBlock] at e;omega)⟩
theorem Qhj:(Tryz.prog.info? 3).map (fun i=>(i.zero,i.size,i.bytes))=some (some (.int .i64 0),1,8):=by kernel_rfl
theorem QpT (neg:Bool) (p:Option Addr) (cap:Nat) (w:World) :
  Calls Tryz.prog 174 #[.bool neg,.slice p 0 cap] w fun e w'=>e = .returned (.tuple #[Z ⟨#[48]⟩,.bool true])∧w'=w:=by
 go_enter Tryz.func174, Tryz.ntmps174;go_wp2
 go_ret2
 exact ⟨rfl,rfl⟩
theorem txt_0:txt 0=⟨#[48]⟩:=by decide +kernel
end
section
open Go.RowKit
def j64s (l:List Nat):Array Value:=(l.map fun n:Nat=>Value.int .i64 (n:Int)).toArray
theorem QiO (l:List Nat):(j64s l).size=l.length:=by simp [j64s]
theorem QpU (l:List Nat) (i:Nat) (h:i<l.length):(j64s l)[i]? = some (.int .i64 ((l.getD i 0:Nat):Int)):=by simp [j64s,List.getD,h]
theorem QpV (l:List Nat) (i x:Nat):(j64s l).setIfInBounds i (.int .i64 (x:Int))=j64s (l.set i x):=by simp [j64s,List.map_set]
def IA (W:World) (g o:Nat) (l:List Nat):Prop:=∀ i,i<l.length→W.cell? ⟨g,o+i,none⟩=some (.int .i64 ((l.getD i 0:Nat):Int))
theorem IA.below {W W':World} {g o:Nat} {l:List Nat} (h:IA W g o l) {B:Nat} (hB:Below B W W') (hg:g<B):IA W' g o l:=fun i hi=>(hB.cell (p:=⟨g,o+i,none⟩) hg).trans (h i hi)
theorem IA.take {W:World} {g o:Nat} {l:List Nat} (h:IA W g o l) (k:Nat):IA W g o (l.take k):=fun i hi=>by
 rw [List.length_take] at hi;have e:(l.take k).getD i 0=l.getD i 0:=by rw [List.getD_eq_getElem?_getD,List.getD_eq_getElem?_getD,List.getElem?_take,if_pos (by omega)]
 rw [e];exact h i (by omega)
def NI (W:World) (v:Value) (l:List Nat):Prop:=∃ (p:Option Addr) (cap:Nat),v = .slice p l.length cap∧l.length≤cap∧cap≤maxLen∧((p=none∧l = []∧cap=0)∨∃ g o,p=some ⟨g,o,none⟩∧g<W.heap.size∧IA W g o l)
theorem NI.below {W W':World} {v:Value} {l:List Nat} (h:NI W v l) {B:Nat} (hB:Below B W W') (hw:W.heap.size≤B):NI W' v l:=by
 obtain ⟨p,cap,rfl,h1,h2,h3 | ⟨g,o,rfl,hg,hu⟩⟩:=h
 ·exact ⟨p,cap,rfl,h1,h2,.inl h3⟩
 ·exact ⟨_,cap,rfl,h1,h2,.inr ⟨g,o,rfl,by have:=hB.size;omega,hu.below hB (by omega)⟩⟩
theorem NI.open {W:World} {v:Value} {l:List Nat} (h:NI W v l):∃ (p:Option Addr) (cap g o:Nat),v = .slice p l.length cap∧l.length≤cap∧cap≤maxLen∧(1≤l.length→p=some ⟨g,o,none⟩∧g<W.heap.size)∧IA W g o l:=by
 obtain ⟨p,cap,rfl,h1,h2,⟨rfl,rfl,rfl⟩ | ⟨g,o,rfl,hg,hu⟩⟩:=h
 ·exact ⟨none,0,0,0,rfl,Nat.le_refl _,by omega,fun h=>by simp at h,fun i hi=>by simp at hi⟩
 ·exact ⟨_,cap,g,o,rfl,h1,h2,fun _=>⟨rfl,hg⟩,hu⟩
def IR (W:World) (g:Nat) (L:List Nat):Prop:=∃ X,RowAt W g (j64s L++X) 3
theorem IR.j64 {w:World} {b:Nat} {l:List Nat} (h:IR w b l) (i:Nat) (hi:i<l.length):w.cell? ⟨b,i,none⟩=some (.int .i64 ((l.getD i 0:Nat):Int)):=by
 obtain ⟨X,h⟩:=h;refine (h.cell i).trans ?_;rw [Array.getElem?_append_left (by rw [QiO];exact hi)];exact QpU l i hi
theorem IR.frozen {w:World} {b:Nat} {l:List Nat} (h:IR w b l) (i:Nat):w.frozen? ⟨b,i,none⟩=false:=by
 obtain ⟨X,h⟩:=h;exact RowAt.frozen h i
theorem IR.set64 {w:World} {b:Nat} {l:List Nat} (h:IR w b l) (i x:Nat) (hi:i<l.length):IR (w.setCell ⟨b,i,none⟩ (.int .i64 (x:Int))) b (l.set i x):=by
 obtain ⟨X,h⟩:=h;refine ⟨X, ?_⟩;have:=h.set_same i (.int .i64 (x:Int))
 rwa [Array.setIfInBounds_append_left (by rw [QiO];exact hi),QpV] at this
theorem IR.below {w w':World} {b B:Nat} {l:List Nat} (h:IR w b l) (hB:Below B w w') (hb:b<B):IR w' b l:=by
 obtain ⟨X,h⟩:=h;exact ⟨X,RowAt.below h hB hb⟩
theorem IR.drewN {w:World} {b:Nat} {l:List Nat} (h:IR w b l) (n:Nat):IR (w.drewN n) b l:=h
theorem IR.lt {w:World} {b:Nat} {l:List Nat} (h:IR w b l):b<w.heap.size:=by
 obtain ⟨X,h⟩:=h;exact RowAt.lt h
theorem IR.ia {w:World} {b:Nat} {l:List Nat} (h:IR w b l):IA w b 0 l:=fun i hi=>by rw [Nat.zero_add];exact h.j64 i hi
def OwnJ (W:World) (B:Nat) (v:Value) (xs:List Nat):Prop:=W.ownsRow B 3 1 v xs.length (xs.map fun n:Nat=>Value.int .i64 (n:Int))
theorem OwnJ.nil (W:World) (B:Nat):OwnJ W B (.slice none 0 0) []:=World.ownsRow_nil _ _ _ _
theorem OwnJ.snoc {W:World} {B:Nat} {v:Value} {xs:List Nat} {x:Nat} (h:W.ownsRow B 3 1 v (xs.length+1) (xs.map (fun n:Nat=>Value.int .i64 (n:Int)) ++ [.int .i64 (x:Int)])):OwnJ W B v (xs ++ [x]):=by
 unfold OwnJ;rw [List.length_append,List.map_append];exact h
theorem OwnJ.open {W:World} {B:Nat} {v:Value} {xs:List Nat} (h:OwnJ W B v xs) :
  (v = .slice none 0 0∧xs = [])∨∃ (cap g:Nat),v = .slice (some ⟨g,0,none⟩) xs.length cap∧B≤g∧IR W g xs∧xs.length≤cap∧cap≤maxLen:=by
 rcases h.2 with ⟨hv,hn⟩ | ⟨g,cap,cur,hv,hg,hgg,hle,hm,hsz,htk⟩
 ·exact .inl ⟨hv,List.eq_nil_of_length_eq_zero hn⟩
 ·refine .inr ⟨cap,g,hv,hg,⟨(cur.toList.drop xs.length).toArray, ?_⟩,hle,hm⟩
  have e:j64s xs++(cur.toList.drop xs.length).toArray=cur:=by
   rw [Nat.mul_one] at htk;apply Array.ext';rw [Array.toList_append];show (xs.map _)++_=_;rw [←htk,List.take_append_drop]
  rw [e];exact hgg
theorem OwnJ.openS {W:World} {B g n cap:Nat} {xs:List Nat} (h:OwnJ W B (.slice (some ⟨g,0,none⟩) n cap) xs):B≤g∧IR W g xs∧n=xs.length∧xs.length≤cap∧cap≤maxLen:=by
 rcases h.open with ⟨h1,_⟩ | ⟨c,g',h1,h2,h3,h4,h5⟩
 ·cases h1
 ·injection h1 with e1 e2 e3;injection e1 with e1;injection e1 with e1;subst e1;subst e3;exact ⟨h2,h3,e2,h4,h5⟩
theorem OwnJ.ni {W:World} {B:Nat} {v:Value} {xs:List Nat} (h:OwnJ W B v xs):NI W v xs:=by
 rcases h.open with ⟨rfl,rfl⟩ | ⟨cap,g,rfl,hg,hu,h1,h2⟩
 ·exact ⟨none,0,rfl,Nat.le_refl _,by omega,.inl ⟨rfl,rfl,rfl⟩⟩
 ·exact ⟨_,cap,rfl,h1,h2,.inr ⟨g,0,rfl,hu.lt,hu.ia⟩⟩
theorem QiP {B:Nat} {w w1 w3:World} {v:Value} {xs:List Nat} (hb:Below B w w1) (hB:B≤w.heap.size) (hO:OwnJ w1 B v xs) (hg:w1.grownBy w3 v.ownBlock):Below B w w3 :=
 hb.trans ⟨hg.os,hg.tape,hg.output,hg.size,fun k hk=>hg.block k (Nat.lt_of_lt_of_le (Nat.lt_of_lt_of_le hk hB) hb.size) (fun e=>by
  rcases hO.2 with ⟨rfl,_⟩ | ⟨g,cap,cur,rfl,h1,_⟩
  ·simp [Value.ownBlock] at e
  ·simp [Value.ownBlock] at e;omega)⟩
theorem Quj:(Tryz.prog.info? 3).map (fun i=>(i.zero,i.size,i.bytes))=some (some (.int .i64 0),1,8):=by kernel_rfl
theorem Qmd (n:Nat):(madeCells (Value.int .i64 0).cells (n*1)).toList=(List.replicate n 0).map fun n:Nat=>Value.int .i64 (n:Int):=by
 rw [Nat.mul_one,List.map_replicate];simp [madeCells,Value.cells];rw [List.eq_replicate_iff];refine ⟨by simp,fun b hb => ?_⟩;simp only [List.mem_map,Nat.mod_one] at hb;obtain ⟨_,_,rfl⟩:=hb;rfl
theorem QkI {w:World} {ops:Array Oper} {rest:List Oper} {o:Oper} {a:Act} {Q:Exit→Act→World→Prop} (hg:o.guard=none) (l c:Operand) (hop:o.op=Op.makeSlice 106 l c)
  (base n:Nat) (hl:a.eval l = .int .i64 (n:Int)) (hc:a.eval c = .int .i64 (n:Int)) (hn:n≤1000000) (hb:base≤w.heap.size)
  (h:∀ w',OwnJ w' base (.slice (some ⟨w.heap.size,0,none⟩) n n) (List.replicate n 0)→Below base w w'→wpList Tryz.prog ops Q rest (a.put o.dst (.slice (some ⟨w.heap.size,0,none⟩) n n)) w'):wpList Tryz.prog ops Q (o :: rest) a w:=by
 obtain ⟨i0,hinf,hz0,hz1,hz2⟩:=info_parts Quj;refine wpList_make_full w hg l c 106 hop base 3 i0 (.int .i64 0) 1 Tryz.underlying106 hinf hz0 hz1 .i64 .i64 (n:Int) (n:Int) n hl hc rfl rfl (by rw [hz2];omega) (by unfold maxLen;omega) hb ?_;intro w' ho hgr;refine h w' ?_ ⟨hgr.os,hgr.tape,hgr.output,hgr.size,fun k hk=>hgr.block k (by omega) (by simp)⟩;unfold OwnJ;rw [List.length_replicate,←Qmd];exact ho
theorem IA.cells {W:World} {b o:Nat} {ls:List Nat} (h:IA W b o ls):∀ j u,(ls.map fun n:Nat=>Value.int .i64 (n:Int))[j]? = some u→W.cell? ((⟨b,o,none⟩:Addr).add j)=some u:=by
 intro j u hj;rw [List.getElem?_map] at hj
 have hlt:j<ls.length:=by
  rcases Nat.lt_or_ge j ls.length with h1 | h1
  ·exact h1
  ·rw [List.getElem?_eq_none h1] at hj;cases hj
 rw [List.getElem?_eq_getElem hlt] at hj;cases hj;rw [Addr.add_lit];have:=h j hlt
 rwa [List.getD_eq_getElem?_getD,List.getElem?_eq_getElem hlt] at this
theorem Qst (ls:List Nat):∀ u∈ls.map (fun n:Nat=>Value.int .i64 (n:Int)),u.oneCell'=true:=by
 intro u hu;simp only [List.mem_map] at hu;obtain ⟨x,_,rfl⟩:=hu;rfl
theorem Qme {w:World} {ops:Array Oper} {rest:List Oper} {o:Oper} {a:Act} {Q:Exit→Act→World→Prop} (hgd:o.guard=none) (s x:Operand)
  (ho:o.op = .call {callee:=.builtin .append,args:=#[s,x],argTypes:=#[106, 106]}) (base:Nat) (v:Value) (xs:List Nat) (hs:a.eval s=v) (hown:OwnJ w base v xs)
  (vx:Value) (ys:List Nat) (hx:a.eval x=vx) (hys:NI w vx ys) (hl:xs.length+ys.length≤1000000) (hb:base≤w.heap.size)
  (h:∀ v' w',OwnJ w' base v' (xs++ys)→(v ≠ .slice none 0 0→v' ≠ .slice none 0 0)→Below base w w'→wpList Tryz.prog ops Q rest (a.put o.dst v') w'):wpList Tryz.prog ops Q (o :: rest) a w:=by
 obtain ⟨i0,hinf,hz0,hz1,hz2⟩:=info_parts Quj;obtain ⟨p,cap,rfl,h1,h2,⟨rfl,rfl,rfl⟩ | ⟨g,o,rfl,hg,hu⟩⟩:=hys
 ·exact wpList_append_own_none hgd s x 106 ho base 3 i0 1 Tryz.underlying106 hinf v xs.length _ hs hown hx (h v w (by rw [List.append_nil];exact hown) id (Below.refl _ _))
 ·refine wpList_append_own w hgd s x 106 ho base 3 i0 (.int .i64 0) 1 8 Tryz.underlying106 hinf hz0 hz1 hz2 rfl (by decide) v xs.length _ hs hown ⟨g,o,none⟩ ys.length cap (ys.map fun n:Nat=>Value.int .i64 (n:Int)) hx (by rw [List.length_map,Nat.mul_one]) (IA.cells hu) (Qst ys) (by unfold maxLen;omega) (by omega) hb ?_;intro v' w' hown' hgrow hnil;refine h v' w' ?_ (fun hv e=>hv (hnil.1 e).1) (QiP (Below.refl _ _) hb hown hgrow);unfold OwnJ;rw [List.length_append,List.map_append];exact hown'
end
section
namespace N10
open Go.RowKit
theorem QfZ {l:List Nat} (hd:Dig l) (k:Nat) (hk:k≤l.length) (hz:∀ j,k≤j→l.getD j 0=0) (hl:k=0∨l.getD (k-1) 0≠0):l.take k=natL (nv l):=by
 have h1:=Qdp l k hk hz;rw [←h1];refine Qen _ (hd.take k) ?_;have hlen:(l.take k).length=k:=by rw [List.length_take];omega
 rcases hl with rfl | hl
 ·exact .inl rfl
 ·rcases Nat.eq_zero_or_pos k with rfl | hp
  ·exact .inl rfl
  ·right;rw [hlen];rw [List.getD_eq_getElem?_getD] at hl ⊢
   rwa [List.getElem?_take,if_pos (by omega)]
theorem QdT {l:List Nat} (hd:Dig l):(natL (nv l)).length≤l.length:=Qat (QdC hd)
theorem Qga {l:List Nat} (hd:Dig l):l.take (natL (nv l)).length=natL (nv l):=by
 have h1:=Qdb hd;have h2:=Qdb (Qao (nv l));rw [Qan] at h2;obtain ⟨m,hm⟩:∃ m,l.length=(natL (nv l)).length+m:=⟨l.length-(natL (nv l)).length,by have:=QdT hd;omega⟩;have h3:=QbR (natL (nv l)).length m (nv l) 0 (QaI _);rw [Nat.mul_zero,Nat.add_zero,←hm,h1,h2] at h3;have h4:=congrArg (List.take (natL (nv l)).length) h3;rw [h4,List.take_left' rfl]
theorem QkJ (l:List Nat) (p:Option Addr) (cap g o:Nat) (w:World) (hp:1≤l.length→p=some ⟨g,o,none⟩) (hu:IA w g o l) (hd:Dig l) (hl:l.length≤1000000) (hc:l.length≤cap) (hcm:cap≤maxLen) :
  Calls Tryz.prog 231 #[.slice p l.length cap] w fun e w'=>e = .returned (.slice p (natL (nv l)).length cap)∧w'=w:=by
 go_enter Tryz.func231, Tryz.ntmps231;have HU:Shut _:=⟨hu⟩;have HP:Shut _:=⟨hp⟩;have HD:Shut _:=⟨hd⟩;unfold maxLen at hcm;clear hu hp hd;go_wp2
 go_loopw [0] (fun a wr=>∃ k:Nat,k≤l.length∧a = .slice p k cap∧wr=w∧Shut (∀ j,k≤j→l.getD j 0=0)) (fun a _=>match a with | .slice _ k _=>k | _=>0)
 case atStart=>exact ⟨l.length,Nat.le_refl _,rfl,rfl,⟨fun j hj=>by rw [List.getD_eq_getElem?_getD,List.getElem?_eq_none hj];rfl⟩⟩
 case round =>
  obtain ⟨k,hk,rfl,rfl,hz⟩:=hrel;by_cases hk0:k=0
  ·subst hk0;have HF:Shut (l.take 0=natL (nv l)):=⟨QfZ HD.o 0 hk hz.o (.inl rfl)⟩;have HF2:Shut (0=(natL (nv l)).length):=⟨by rw [←HF.o];rfl⟩;go_wp2;go_ret;exact ⟨by rw [←HF2.o];rfl,rfl⟩
  ·obtain rfl:=HP.o (by omega);have hcl:=HU.o (k-1) (by omega);obtain ⟨k,rfl⟩:∃ k',k=k'+1:=⟨k-1,by omega⟩;rw [Nat.add_sub_cancel] at hcl;by_cases hx:l.getD k 0=0
   ·have hz2:Shut (∀ j,k≤j→l.getD j 0=0):=⟨fun j hj=>by
     by_cases e:j=k
     ·rw [e];exact hx
     ·exact hz.o j (by omega)⟩
    rw [hx] at hcl;clear hx hz;go_wp2;exact ⟨⟨k,by omega,rfl,trivial,hz2⟩,Nat.lt_succ_self k⟩
   ·have HF:Shut (k+1=(natL (nv l)).length):=⟨by
     have:=QfZ HD.o (k+1) hk hz.o (.inr (by simpa using hx));rw [←this,List.length_take];omega⟩
    have hxi:((l.getD k 0:Nat):Int)≠0:=by omega
    clear hz;generalize l.getD k 0=x at *
    go_wp2;go_ret;exact ⟨by rw [←HF.o];rfl,rfl⟩
theorem QnX (x y:Nat) (pa:Option Addr) (ca ga oa:Nat) (pb:Option Addr) (cb gb ob:Nat) (w:World) (hpa:1≤(natL x).length→pa=some ⟨ga,oa,none⟩) (hua:IA w ga oa (natL x)) (hpb:1≤(natL y).length→pb=some ⟨gb,ob,none⟩) (hub:IA w gb ob (natL y))
  (hla:(natL x).length≤1000000) (hlb:(natL y).length≤1000000) :
  Calls Tryz.prog 208 #[.slice pa (natL x).length ca,.slice pb (natL y).length cb] w fun e w'=>e = .returned (.int .i64 (cmpN x y))∧∃ m,w'=w.drewN m:=by
 go_enter Tryz.func208, Tryz.ntmps208;have HA:Shut _:=⟨hua⟩;have HB:Shut _:=⟨hub⟩;have HPa:Shut _:=⟨hpa⟩;have HPb:Shut _:=⟨hpb⟩;clear hua hub hpa hpb;obtain ⟨na,hna⟩:∃ na,na=(natL x).length:=⟨_,rfl⟩;obtain ⟨nb,hnb⟩:∃ nb,nb=(natL y).length:=⟨_,rfl⟩;have HNa:Shut _:=⟨hna⟩;have HNb:Shut _:=⟨hnb⟩;rw [←hna,←hnb];rw [←hna] at hla;rw [←hnb] at hlb;clear hna hnb;by_cases hl:na=nb
 ·subst hl;go_wp2
  go_loopw [5] (fun i5 wr=>∃ k:Nat,k≤na∧i5 = .int .i64 ((k:Int)-1)∧(∃ m,wr=w.drewN m)∧Shut ((natL x).drop k=(natL y).drop k)) (fun i5 _=>(intOf i5+1).toNat)
  case atStart=>exact ⟨na,Nat.le_refl _,rfl,⟨0,rfl⟩,⟨by rw [List.drop_eq_nil_iff.2 (by have:=HNa.o;omega),List.drop_eq_nil_iff.2 (by have:=HNb.o;omega)]⟩⟩
  case round =>
   obtain ⟨k,hk,rfl,⟨m,hw⟩,hd⟩:=hrel;have HW:Shut _:=⟨hw⟩;clear hw;by_cases hk0:k=0
   ·subst hk0
    have hxy:x=y:=by
     have:=hd.o;rw [List.drop_zero,List.drop_zero] at this;rw [←Qan x,this,Qan]
    have HC:Shut (cmpN x y=0):=⟨by rw [cmpN,if_neg (by omega),if_pos hxy]⟩;clear hxy hd;go_wp2;go_ret;exact ⟨by rw [HC.o];rfl,_,HW.o⟩
   ·obtain ⟨k,rfl⟩:∃ k',k=k'+1:=⟨k-1,by omega⟩;have h1:k<(natL x).length:=by rw [←HNa.o];omega
    have h2:k<(natL y).length:=by rw [←HNb.o];omega
    obtain rfl:=HPa.o (by omega);obtain rfl:=HPb.o (by omega);have c1:wr.cell? ⟨ga,oa+k,none⟩=some (.int .i64 (((natL x).getD k 0:Nat):Int)):=by rw [HW.o];exact HA.o k h1
    have c2:wr.cell? ⟨gb,ob+k,none⟩=some (.int .i64 (((natL y).getD k 0:Nat):Int)):=by rw [HW.o];exact HB.o k h2
    have hi:(((k+1:Nat):Int)-1)=(k:Int):=by omega
    rw [hi];have hdx:=(Qao x).getD k;have hdy:=(Qao y).getD k;by_cases he:(natL x).getD k 0=(natL y).getD k 0
    ·have hd2:Shut ((natL x).drop k=(natL y).drop k):=⟨by
      rw [List.drop_eq_getElem_cons h1,List.drop_eq_getElem_cons h2,hd.o];rw [List.getD_eq_getElem?_getD,List.getD_eq_getElem?_getD,List.getElem?_eq_getElem h1,List.getElem?_eq_getElem h2] at he;simp only [Option.getD_some] at he;rw [he]⟩
     rw [←he] at c2;clear he hd h1 h2 hdy;generalize (natL x).getD k 0=d at *
     go_wp2
     go_quiet (fail)
     go_wp2;exact ⟨⟨k,by omega,rfl,⟨_,by rw [HW.o,World.drewN_drewN]⟩,hd2⟩,by simp [intOf]⟩
    ·have hlt:(natL x).getD k 0<(natL y).getD k 0→x<y:=fun h=>by
      have:=QfX (Qao x) (by rw [←HNa.o,←HNb.o]) k h1 h hd.o
      rwa [Qan,Qan] at this
     have hgt:(natL y).getD k 0<(natL x).getD k 0→y<x:=fun h=>by
      have:=QfX (Qao y) (by rw [←HNa.o,←HNb.o]) k h2 h hd.o.symm
      rwa [Qan,Qan] at this
     have HC:Shut (cmpN x y=if (natL x).getD k 0<(natL y).getD k 0 then -1 else 1):=⟨by
      by_cases h:(natL x).getD k 0<(natL y).getD k 0
      ·rw [if_pos h,cmpN,if_pos (hlt h)]
      ·have:=hgt (by omega);rw [if_neg h,cmpN,if_neg (by omega),if_neg (by omega)]⟩
     clear hlt hgt hd h1 h2;generalize (natL x).getD k 0=d at *
     generalize (natL y).getD k 0=e at *
     have hne:((d:Int)≠(e:Int)):=by omega
     go_wp2
     go_quiet (fail)
     generalize hw2:wr.drewN nq=w2;have HW2:Shut _:=⟨hw2⟩;have c3:w2.cell? ⟨ga,oa+k,none⟩=some (.int .i64 (d:Int)):=by rw [←hw2];exact c1
     have c4:w2.cell? ⟨gb,ob+k,none⟩=some (.int .i64 (e:Int)):=by rw [←hw2];exact c2
     clear c1 c2 hw2;have i1:(0:Int)≤(k:Int):=by omega
     have i2:(k:Int)<(na:Int):=by omega
     by_cases hde:d<e
     ·rw [if_pos hde] at HC;go_wp2
      go_quiet (fail)
      go_wp2;go_ret;exact ⟨by rw [HC.o];rfl,_,by rw [←HW2.o,HW.o,World.drewN_drewN,World.drewN_drewN]⟩
     ·rw [if_neg hde] at HC;go_wp2
      go_quiet (fail)
      go_wp2;go_ret;exact ⟨by rw [HC.o];rfl,_,by rw [←HW2.o,HW.o,World.drewN_drewN,World.drewN_drewN]⟩
 ·have hne:((na:Int)≠(nb:Int)):=by omega
  have HC:Shut (cmpN x y=if na<nb then -1 else 1):=⟨by
   have e1:=HNa.o;have e2:=HNb.o;by_cases h:na<nb
   ·rw [if_pos h,cmpN,if_pos (QcJ (by omega))]
   ·have:=QcJ (n:=y) (m:=x) (by omega);rw [if_neg h,cmpN,if_neg (by omega),if_neg (by omega)]⟩
  by_cases h:na<nb
  ·rw [if_pos h] at HC;go_wp2;go_ret;exact ⟨by rw [HC.o];rfl,0,rfl⟩
  ·rw [if_neg h] at HC;go_wp2;go_ret;exact ⟨by rw [HC.o];rfl,0,rfl⟩
theorem QdK (x y:Nat) (va vb:Value) (w:World) (ha:NI w va (natL x)) (hb:NI w vb (natL y)) (hla:(natL x).length≤1000) (hlb:(natL y).length≤1000) :
  Calls Tryz.prog 208 #[va,vb] w fun e w'=>e = .returned (.int .i64 (cmpN x y))∧∃ m,w'=w.drewN m:=by
 obtain ⟨p1,c1,g1,o1,rfl,_,_,hp1,hu1⟩:=ha.open;obtain ⟨p2,c2,g2,o2,rfl,_,_,hp2,hu2⟩:=hb.open;exact QnX x y p1 c1 g1 o1 p2 c2 g2 o2 w (fun h=>(hp1 h).1) hu1 (fun h=>(hp2 h).1) hu2 (by omega) (by omega)
theorem NI.trimmed {W:World} {g o cap:Nat} {l:List Nat} (hd:Dig l) (hu:IA W g o l) (hg:g<W.heap.size) (hc:l.length≤cap) (hm:cap≤maxLen):NI W (.slice (some ⟨g,o,none⟩) (natL (nv l)).length cap) (natL (nv l)):=by
 refine ⟨_,cap,rfl,Nat.le_trans (QdT hd) hc,hm,.inr ⟨g,o,rfl,hg, ?_⟩⟩;have:=hu.take (natL (nv l)).length
 rwa [Qga hd] at this
theorem OwnJ.fresh {W:World} {B:Nat} {v:Value} {xs:List Nat} (h:OwnJ W B v xs):∀ g,v.ownBlock=some g→B≤g:=by
 intro g hg;rcases h.open with ⟨rfl,_⟩ | ⟨c,g',rfl,hB,_⟩
 ·cases hg
 ·injection hg with hg;subst hg;exact hB
theorem NI.setOther {W:World} {v:Value} {l:List Nat} {g i:Nat} {x:Value} (h:NI W v l) (hne:∀ k,v.ownBlock=some k→k≠g):NI (W.setCell ⟨g,i,none⟩ x) v l:=by
 obtain ⟨p,cap,rfl,h1,h2,h3 | ⟨b,o,rfl,hb,hu⟩⟩:=h
 ·exact ⟨p,cap,rfl,h1,h2,.inl h3⟩
 ·have hbg:b≠g:=hne b rfl;refine ⟨_,cap,rfl,h1,h2,.inr ⟨b,o,rfl,by simp only [World.setCell,Array.size_modify];exact hb,fun j hj => ?_⟩⟩;rw [World.cell?_setCell_far W ⟨g,i,none⟩ ⟨b,o+j,none⟩ x (Ne.symm hbg)];exact hu j hj
theorem QfK (l:List Nat) (v:Value) (w:World) (h:NI w v l) (hd:Dig l) (hl:l.length≤1000000) :
  Calls Tryz.prog 231 #[v] w fun e w'=>∃ u,e = .returned u∧NI w u (natL (nv l))∧u.ownBlock=v.ownBlock∧w'=w:=by
 obtain ⟨p,cap,rfl,h1,h2,⟨rfl,rfl,rfl⟩ | ⟨g,o,rfl,hg,hu⟩⟩:=h
 ·refine (QkJ [] none 0 0 0 w (by simp) (fun i hi=>by simp at hi) hd (by simp) (by simp) (by unfold maxLen;omega)).mono ?_;rintro e w' ⟨rfl,rfl⟩;rw [nv,Qau];exact ⟨_,rfl,⟨none,0,rfl,Nat.le_refl _,by omega,.inl ⟨rfl,rfl,rfl⟩⟩,rfl,rfl⟩
 ·refine (QkJ l _ cap g o w (fun _=>rfl) hu hd hl h1 h2).mono ?_;rintro e w' ⟨rfl,rfl⟩;exact ⟨_,rfl,NI.trimmed hd hu hg h1 h2,rfl,rfl⟩
end N10
end
section
namespace N10
open Go.RowKit
open Go.Proofs.YtadcmepaniiciaaGreatDoor.Nm (decN Qbe Qcl QaQ QcN)
theorem QeN (n:Nat):decN n=(natL n).reverse.map (48 + ·):=by
 induction n using Nat.strongRecOn with
 | ind n ih =>
  by_cases h:n=0
  ·subst h;rw [Qbe,Qau];rfl
  ·rw [Qcl h,Qbi h,ih (n / 10) (by omega),List.reverse_cons,List.map_append];rfl
def sg (neg:Bool) (n:Nat):Int:=if neg=true then -(n:Int) else (n:Int)
theorem Qsu (n:Nat) (hn:n≠0) (neg:Bool):ba ((if neg=true then [45] else [])++(natL n).reverse.map (48 + ·))=txt (sg neg n):=by
 rw [←QeN];cases neg with
 | false=>rw [sg,if_neg (by simp),if_neg (by simp),txt,if_neg (by omega),if_neg (by omega),Int.natAbs_natCast];rfl
 | true=>rw [sg,if_pos rfl,if_pos rfl,txt,if_neg (by omega),if_pos (by omega),Int.natAbs_neg,Int.natAbs_natCast];rfl
theorem Quk (n:Nat) (hn:n≠0):(∀ y∈(natL n).reverse.map (48 + ·),48≤y∧y<58)∧((natL n).reverse.map (48 + ·)).getD 0 0≠48:=by
 rw [←QeN];exact ⟨QaQ n,QcN n hn⟩
theorem QpW (n:Nat) (hn:n≠0) (neg:Bool) (p:Option Addr) (cap g o:Nat) (w:World) (hp:p=some ⟨g,o,none⟩) (hu:IA w g o (natL n)) (hg:g<w.heap.size) (hl:(natL n).length≤1000) :
  Calls Tryz.prog 174 #[.bool neg,.slice p (natL n).length cap] w fun e w'=>e = .returned (.tuple #[Z (txt (sg neg n)),.bool (decide ((natL n).length≤200))])∧Below w.heap.size w w':=by
 have hd:∀ x∈natL n,x<10:=Qao n;have h0:¬(natL n).length=0:=fun h=>hn (QaF.1 h);have tx:=Qsu n hn;have hds:=Quk n hn;have hne:natL n ≠ []:=fun h=>hn (QfC.1 h);generalize hxs:natL n=xs at *
 subst hp;have HTX:Shut _:=⟨tx⟩;clear tx hxs;go_enter Tryz.func174, Tryz.ntmps174;obtain ⟨i0,hinf,hz0,hz1,hz2⟩:=info_parts Qrd;have HU:Shut _:=⟨hu⟩;have HD:Shut _:=⟨hd⟩;have HDS:Shut _:=⟨hds⟩;have HDEC:Shut (decide (((xs.length:Nat):Int)≤200)=decide (xs.length≤200)):=⟨by rw [decide_eq_decide];omega⟩;clear hu hd hds;cases neg with
 | true =>
  go_wp2_with (at_builtin;go_must (refine wpList_append_own _ rfl _ _ 202 rfl w.heap.size 5 i0 (.int .u8 0) 1 1 Tryz.underlying202 hinf hz0 hz1 hz2 rfl (by decide) _ _ _ rfl (World.ownsRow.alloc (OwnB.nil w w.heap.size) _) ⟨_,0,none⟩ 1 1 [(.int .u8 45)] rfl rfl (cell_one_new _ _ _) (by simp [Value.oneCell']) (by simp [maxLen]) (by simp) (by rw [World.size_alloc];omega) ?_);intro v' w' hown' hgrow _;have hB':=QaC ((Below.refl _ w).alloc Lr _) Lr (World.ownsRow.alloc (OwnB.nil w w.heap.size) _) hgrow);have hO1:OwnB w' w.heap.size v' [45]:=OwnB.snoc hown';have hB1:Below w.heap.size w w':=hB';clear hown' hgrow hB'
  go_loopw [6,7] (fun v i wr=>∃ k:Nat,k≤xs.length∧i = .int .i64 ((k:Int)-1)∧Shut (OwnB wr w.heap.size v ([45]++((xs.drop k).reverse.map (48 + ·))))∧Shut (Below w.heap.size w wr)) (fun _ i _=>(intOf i+1).toNat)
  case atStart=>exact ⟨xs.length,Nat.le_refl _,rfl,⟨by rw [List.drop_eq_nil_iff.2 Lr];exact hO1⟩,⟨hB1⟩⟩
  case round =>
   obtain ⟨k,hk,rfl,hO,hB⟩:=hrel;by_cases hk0:k=0
   ·subst hk0;have hz1:=HTX.o true;have hO2:=hO.o;rw [List.drop_zero] at hO2;obtain ⟨cp,g2,rfl,hb⟩:=OwnB.open hO2 (by simp)
    have hcv:=Qep wr g2 0 cp _ (fun y hy=>by
     have:y=45∨y<58:=by
      rcases List.mem_append.1 hy with h | h
      ·simp at h;try exact .inl h
      ·exact .inr (HDS.o.1 y h).2
     omega) hb
    rw [show ba ([45]++xs.reverse.map (48 + ·))=txt (sg true n) from hz1] at hcv;obtain ⟨str,hstr⟩:∃ str,str=txt (sg true n):=⟨_,rfl⟩;rw [←hstr] at hcv;have HSTR:Shut _:=⟨hstr⟩;clear hstr hz1 hO2 hb hO;generalize ([45]++xs.reverse.map (48 + ·)).length=nn at *
    go_wp2
    go_ret2
    exact ⟨by rw [←HSTR.o,←HDEC.o];rfl,hB.o⟩
   ·obtain ⟨k,rfl⟩:∃ k',k=k'+1:=⟨k-1,by omega⟩;have hi:(((k+1:Nat):Int)-1)=(k:Int):=by omega
    rw [hi];have hcl:=(hB.o.cell (p:=⟨g,o+k,none⟩) hg).trans (HU.o k (by omega))
    have hx:xs.getD k 0<10:=by
     rw [List.getD_eq_getElem?_getD,List.getElem?_eq_getElem (show k<xs.length by omega)];exact HD.o _ (List.getElem_mem _)
    have HE:Shut ([45]++((xs.drop k).reverse.map (48 + ·))=([45]++((xs.drop (k+1)).reverse.map (48 + ·))) ++ [48+xs.getD k 0]):=⟨by
     rw [List.drop_eq_getElem_cons (show k<xs.length by omega),List.reverse_cons,List.map_append,←List.append_assoc,List.map_cons,List.map_nil,List.getD_eq_getElem?_getD,List.getElem?_eq_getElem (show k<xs.length by omega)];rfl⟩
    have hln:([45]++((xs.drop (k+1)).reverse.map (48 + ·))).length≤1001:=by simp;omega
    have hO2:=hO.o;clear hO;generalize [45]++((xs.drop (k+1)).reverse.map (48 + ·))=L at *
    generalize xs.getD k 0=d at *
    have hbs:=hB.o.size;go_wp2_with (at_builtin;go_must (refine wpList_append_own _ rfl _ _ 202 rfl w.heap.size 5 i0 (.int .u8 0) 1 1 Tryz.underlying202 hinf hz0 hz1 hz2 rfl (by decide) _ _ _ rfl (World.ownsRow.alloc hO2 _) ⟨_,0,none⟩ 1 1 [(.int .u8 (48+(d:Int)))] rfl rfl (cell_one_new _ _ _) (by simp [Value.oneCell']) (by unfold maxLen;omega) (by omega) (by rw [World.size_alloc];omega) ?_);intro v' w' hown' hgrow _;have hB':=QaC (hB.o.alloc hbs _) Lr (World.ownsRow.alloc hO2 _) hgrow);rw [show (48+(d:Int))=((48+d:Nat):Int) by omega] at hown';exact ⟨⟨k,by omega,by go_num,⟨by rw [HE.o];exact OwnB.snoc hown'⟩,⟨hB'⟩⟩,by simp [intOf]⟩
 | false =>
  go_wp2;have hO1:OwnB w w.heap.size (.slice none 0 0) []:=OwnB.nil _ _;have hB1:Below w.heap.size w w:=Below.refl _ _
  go_loopw [6,7] (fun v i wr=>∃ k:Nat,k≤xs.length∧i = .int .i64 ((k:Int)-1)∧Shut (OwnB wr w.heap.size v ([]++((xs.drop k).reverse.map (48 + ·))))∧Shut (Below w.heap.size w wr)) (fun _ i _=>(intOf i+1).toNat)
  case atStart=>exact ⟨xs.length,Nat.le_refl _,rfl,⟨by rw [List.drop_eq_nil_iff.2 Lr];exact hO1⟩,⟨hB1⟩⟩
  case round =>
   obtain ⟨k,hk,rfl,hO,hB⟩:=hrel;by_cases hk0:k=0
   ·subst hk0;have hz1:=HTX.o false;have hO2:=hO.o;rw [List.drop_zero] at hO2;obtain ⟨cp,g2,rfl,hb⟩:=OwnB.open hO2 (by simp;omega)
    have hcv:=Qep wr g2 0 cp _ (fun y hy=>by
     have:y=45∨y<58:=by
      rcases List.mem_append.1 hy with h | h
      ·simp at h;try exact .inl h
      ·exact .inr (HDS.o.1 y h).2
     omega) hb
    rw [show ba ([]++xs.reverse.map (48 + ·))=txt (sg false n) from hz1] at hcv;obtain ⟨str,hstr⟩:∃ str,str=txt (sg false n):=⟨_,rfl⟩;rw [←hstr] at hcv;have HSTR:Shut _:=⟨hstr⟩;clear hstr hz1 hO2 hb hO;generalize ([]++xs.reverse.map (48 + ·)).length=nn at *
    go_wp2
    go_ret2
    exact ⟨by rw [←HSTR.o,←HDEC.o];rfl,hB.o⟩
   ·obtain ⟨k,rfl⟩:∃ k',k=k'+1:=⟨k-1,by omega⟩;have hi:(((k+1:Nat):Int)-1)=(k:Int):=by omega
    rw [hi];have hcl:=(hB.o.cell (p:=⟨g,o+k,none⟩) hg).trans (HU.o k (by omega))
    have hx:xs.getD k 0<10:=by
     rw [List.getD_eq_getElem?_getD,List.getElem?_eq_getElem (show k<xs.length by omega)];exact HD.o _ (List.getElem_mem _)
    have HE:Shut ([]++((xs.drop k).reverse.map (48 + ·))=([]++((xs.drop (k+1)).reverse.map (48 + ·))) ++ [48+xs.getD k 0]):=⟨by
     rw [List.drop_eq_getElem_cons (show k<xs.length by omega),List.reverse_cons,List.map_append,←List.append_assoc,List.map_cons,List.map_nil,List.getD_eq_getElem?_getD,List.getElem?_eq_getElem (show k<xs.length by omega)];rfl⟩
    have hln:([]++((xs.drop (k+1)).reverse.map (48 + ·))).length≤1001:=by simp;omega
    have hO2:=hO.o;clear hO;generalize []++((xs.drop (k+1)).reverse.map (48 + ·))=L at *
    generalize xs.getD k 0=d at *
    have hbs:=hB.o.size;go_wp2_with (at_builtin;go_must (refine wpList_append_own _ rfl _ _ 202 rfl w.heap.size 5 i0 (.int .u8 0) 1 1 Tryz.underlying202 hinf hz0 hz1 hz2 rfl (by decide) _ _ _ rfl (World.ownsRow.alloc hO2 _) ⟨_,0,none⟩ 1 1 [(.int .u8 (48+(d:Int)))] rfl rfl (cell_one_new _ _ _) (by simp [Value.oneCell']) (by unfold maxLen;omega) (by omega) (by rw [World.size_alloc];omega) ?_);intro v' w' hown' hgrow _;have hB':=QaC (hB.o.alloc hbs _) Lr (World.ownsRow.alloc hO2 _) hgrow);rw [show (48+(d:Int))=((48+d:Nat):Int) by omega] at hown';exact ⟨⟨k,by omega,by go_num,⟨by rw [HE.o];exact OwnB.snoc hown'⟩,⟨hB'⟩⟩,by simp [intOf]⟩
theorem QdL (n:Nat) (neg:Bool) (v:Value) (w:World) (h:NI w v (natL n)) (hl:(natL n).length≤1000) :
  Calls Tryz.prog 174 #[.bool neg,v] w fun e w'=>e = .returned (.tuple #[Z (txt (sg neg n)),.bool (decide ((natL n).length≤200))])∧Below w.heap.size w w':=by
 by_cases hn:n=0
 ·subst hn;obtain ⟨p,cap,rfl, -, -, -⟩:=h;rw [Qau];refine (QpT neg p cap w).mono ?_;rintro e w' ⟨rfl,rfl⟩;refine ⟨?_,Below.refl _ _⟩;have:sg neg 0=0:=by cases neg <;> rfl
  rw [this,txt_0];rfl
 ·obtain ⟨p,cap,g,o,rfl,h1,h2,hp,hu⟩:=h.open
  have hlen:1≤(natL n).length:=by
   rcases Nat.eq_zero_or_pos (natL n).length with h0 | h0
   ·exact absurd (QaF.1 h0) hn
   ·exact h0
  exact QpW n hn neg p cap g o w (hp hlen).1 hu (hp hlen).2 hl
end N10
end
section
namespace N10
open Go.RowKit
open Go.Proofs.YtadcmepaniiciaaGreatDoor.Nm (decN Qbe Qcl QaQ QcN Qce QjF)
theorem QcD (n:Nat):(decN n).length=(natL n).length:=by rw [QeN];simp
theorem QnY (n k:Nat) (hk:k<(natL n).length) (h:(natL n).length-1-k<(ba (decN n)).size):(ba (decN n))[(natL n).length-1-k].toNat=48+(natL n).getD k 0:=by
 have h1:=QeC (ba (decN n)) ((natL n).length-1-k) h;rw [←h1,QeB _ (fun y hy=>by have:=QaQ n y hy;omega),QeN];have hlen:((natL n).reverse.map (48 + ·)).length=(natL n).length:=by simp
 rw [List.getD_eq_getElem?_getD,List.getElem?_eq_getElem (by omega),List.getD_eq_getElem?_getD,List.getElem?_eq_getElem hk];simp only [List.getElem_map,List.getElem_reverse,Option.getD_some];congr 2;omega
theorem Qrl (n:Nat):((ba (decN n)).toList == [48])=false∨n=0:=by
 by_cases h:n=0
 ·exact .inr h
 ·left;have h2:=QcN n h;rw [show ([48]:List UInt8)=(⟨#[48]⟩:ByteArray).toList by decide +kernel,QcU];refine decide_eq_false fun e => ?_;have h3:bl (ba (decN n))=bl ⟨#[48]⟩:=by rw [e]
  rw [QeB _ (fun y hy=>by have:=QaQ n y hy;omega)] at h3;rw [h3] at h2;exact h2 rfl
theorem Qmf (n:Nat) (hn:n≠0) (hl:(natL n).length≤1000) (w:World) :
  Calls Tryz.prog 207 #[Z (txt (n:Int))] w fun e w'=>∃ v,e = .returned (.tuple #[.bool false,v])∧NI w' v (natL n)∧Below w.heap.size w w':=by
 obtain ⟨L,hL⟩:∃ L,L=(natL n).length:=⟨_,rfl⟩;have hLs:(ba (decN n)).size=L:=by rw [Qeo,QcD,hL]
 have hbys:=QnY n;rw [←hL] at hbys;have hne:=(Qrl n).resolve_right hn;have htx:txt (n:Int)=ba (decN n):=by rw [txt,if_neg (by omega),if_neg (by omega),Int.natAbs_natCast]
 rw [htx];have hL0:0<L:=by rw [hL];rcases Nat.eq_zero_or_pos (natL n).length with h | h;exact absurd (QaF.1 h) hn;exact h
 obtain ⟨i0,hinf,hz0,hz1,hz2⟩:=info_parts Qhj;generalize hds:ba (decN n)=ds at *
 have hp:0<ds.size:=by omega
 have hb0:ds[0].toNat≠45:=by
  have h1:=hbys (L-1) (by omega) (by omega);simp only [show L-1-(L-1)=0 by omega] at h1;omega
 have hb0i:((ds[0].toNat:Nat):Int)≠45:=by omega
 have hbe:(((ds[0].toNat:Nat):Int) == 45)=false:=by rw [beq_eq_false_iff_ne];exact hb0i
 have HBY:Shut _:=⟨hbys⟩;have HL:Shut _:=⟨hL⟩;have hLL:L≤1000:=by omega
 clear hbys hL htx hds hl hn;go_enter Tryz.func207, Tryz.ntmps207;go_upto_region 6 with fail
 go_loopw [5,6] (fun v i wr=>∃ k:Nat,k≤L∧i = .int .i64 ((L:Int)-1-(k:Int))∧Shut (OwnJ wr w.heap.size v ((natL n).take k))∧Shut (Below w.heap.size w wr)) (fun _ i _=>(intOf i+1).toNat)
 case atStart=>exact ⟨0,Nat.zero_le _,by congr 1;omega,⟨OwnJ.nil _ _⟩,⟨Below.refl _ _⟩⟩
 case round =>
  obtain ⟨k,hk,rfl,hO,hB⟩:=hrel;by_cases hkl:k=L
  ·have HF:Shut ((natL n).take k=natL n):=⟨List.take_of_length_le (by rw [←HL.o];omega)⟩;have hlt:¬(0:Int)≤(L:Int)-1-(k:Int):=by omega
   have hO2:=hO.o;rw [HF.o] at hO2;have HO:Shut _:=⟨hO2⟩;clear hO hO2;go_wp2
   go_ret2
   exact ⟨_,rfl,HO.o.ni,hB.o⟩
  ·have hkL:k<L:=by omega
   obtain ⟨j,hj⟩:∃ j:Nat,j=L-1-k:=⟨_,rfl⟩;have hji:(L:Int)-1-(k:Int)=(j:Int):=by omega
   rw [hji];have hjL:j<ds.size:=by omega
   have hby:ds[j].toNat=48+(natL n).getD k 0:=by
    subst hj;exact HBY.o k hkL (by omega)
   have hdg:=(Qao n).getD k
   have HT:Shut ((natL n).take (k+1)=(natL n).take k ++ [(natL n).getD k 0]):=⟨by
    have hk2:k<(natL n).length:=by rw [←HL.o];exact hkL
    rw [List.take_succ_eq_append_getElem hk2,List.getD_eq_getElem?_getD,List.getElem?_eq_getElem hk2];rfl⟩
   have htl:((natL n).take k).length≤1000:=by rw [List.length_take];omega
   have hO2:=hO.o;have hbs:=hB.o.size;obtain ⟨b,hb⟩:∃ b:Nat,ds[j].toNat=b:=⟨_,rfl⟩;have hb48:b=48+(natL n).getD k 0:=by rw [←hb];exact hby
   have hb1:48≤b:=by omega
   have hb2:b<58:=by omega
   have HBD:Shut (b-48=(natL n).getD k 0):=⟨by omega⟩;have HJ:Shut _:=⟨hj⟩;clear hO hby hdg hb48 hji hj;generalize (natL n).take k=xs at *
   generalize (natL n).getD k 0=d at *
   go_wp2_with (at_builtin;go_must (refine wpList_append_own _ rfl _ _ 106 rfl w.heap.size 3 i0 (.int .i64 0) 1 8 Tryz.underlying106 hinf hz0 hz1 hz2 rfl (by decide) _ _ _ rfl (World.ownsRow.alloc hO2 _) ⟨_,0,none⟩ 1 1 [.int .i64 ((b:Int)-48)] rfl rfl (cell_one_new _ _ _) (by simp [Value.oneCell']) (by unfold maxLen;omega) (by omega) (by rw [World.size_alloc];omega) ?_);intro v' w' hown' hgrow _;have hB':=QaC (hB.o.alloc hbs _) Lr (World.ownsRow.alloc hO2 _) hgrow);rw [show ((b:Int)-48)=((d:Nat):Int) by have:=HBD.o;omega] at hown';exact ⟨⟨k+1,by omega,by rw [HJ.o];congr 1;omega,⟨by rw [HT.o];exact OwnJ.snoc hown'⟩,⟨hB'⟩⟩,by simp [intOf]⟩
theorem Qmg (n:Nat) (hn:n≠0) (hl:(natL n).length≤1000) (w:World) :
  Calls Tryz.prog 207 #[Z (txt (-(n:Int)))] w fun e w'=>∃ v,e = .returned (.tuple #[.bool true,v])∧NI w' v (natL n)∧Below w.heap.size w w':=by
 obtain ⟨L,hL⟩:∃ L,L=(natL n).length:=⟨_,rfl⟩;have hLs:(ba (decN n)).size=L:=by rw [Qeo,QcD,hL]
 have hbys:=QnY n;rw [←hL] at hbys;have hne:=(Qrl n).resolve_right hn;have htx:txt (-(n:Int))=ba (45 :: decN n):=by rw [txt,if_neg (by omega),if_pos (by omega),Int.natAbs_neg,Int.natAbs_natCast]
 have hfull:(ba (45 :: decN n)).size=L+1:=by rw [Qeo,List.length_cons,QcD,hL]
 have hext:(ba (45 :: decN n)).extract 1 (L+1)=ba (decN n):=by
  apply Qkx
  rw [Qde,QeB (45 :: decN n) (fun y hy=>by
   rcases List.mem_cons.1 hy with rfl | h
   ·decide
   ·have:=QaQ n y h;omega),QeB (decN n) (fun y hy=>by have:=QaQ n y hy;omega)]
  rw [List.take_of_length_le (by rw [List.length_cons,QcD,←hL];omega)];rfl
 have hfirst:∀ h:0<(ba (45 :: decN n)).size,(ba (45 :: decN n))[0].toNat=45:=fun h=>by
  rw [←QeC _ 0 h,QeB _ (fun y hy=>by
   rcases List.mem_cons.1 hy with rfl | h
   ·decide
   ·have:=QaQ n y h;omega)];rfl
 rw [htx];have hL0:0<L:=by rw [hL];rcases Nat.eq_zero_or_pos (natL n).length with h | h;exact absurd (QaF.1 h) hn;exact h
 obtain ⟨i0,hinf,hz0,hz1,hz2⟩:=info_parts Qhj;generalize hds:ba (decN n)=ds at *
 generalize hfs:ba (45 :: decN n)=fs at *
 have hp:0<fs.size:=by omega
 have hb0:=hfirst hp;have hI:(1:Int)≤(L:Int)+1:=by omega
 have HBY:Shut _:=⟨hbys⟩;have HL:Shut _:=⟨hL⟩;have hLL:L≤1000:=by omega
 clear hbys hL htx hds hl hn hfs hfirst;go_enter Tryz.func207, Tryz.ntmps207;go_upto_region 6 with fail
 go_loopw [5,6] (fun v i wr=>∃ k:Nat,k≤L∧i = .int .i64 ((L:Int)-1-(k:Int))∧Shut (OwnJ wr w.heap.size v ((natL n).take k))∧Shut (Below w.heap.size w wr)) (fun _ i _=>(intOf i+1).toNat)
 case atStart=>exact ⟨0,Nat.zero_le _,by congr 1;omega,⟨OwnJ.nil _ _⟩,⟨Below.refl _ _⟩⟩
 case round =>
  obtain ⟨k,hk,rfl,hO,hB⟩:=hrel;by_cases hkl:k=L
  ·have HF:Shut ((natL n).take k=natL n):=⟨List.take_of_length_le (by rw [←HL.o];omega)⟩;have hlt:¬(0:Int)≤(L:Int)-1-(k:Int):=by omega
   have hO2:=hO.o;rw [HF.o] at hO2;have HO:Shut _:=⟨hO2⟩;clear hO hO2;go_wp2
   go_ret2
   exact ⟨_,rfl,HO.o.ni,hB.o⟩
  ·have hkL:k<L:=by omega
   obtain ⟨j,hj⟩:∃ j:Nat,j=L-1-k:=⟨_,rfl⟩;have hji:(L:Int)-1-(k:Int)=(j:Int):=by omega
   rw [hji];have hjL:j<ds.size:=by omega
   have hby:ds[j].toNat=48+(natL n).getD k 0:=by
    subst hj;exact HBY.o k hkL (by omega)
   have hdg:=(Qao n).getD k
   have HT:Shut ((natL n).take (k+1)=(natL n).take k ++ [(natL n).getD k 0]):=⟨by
    have hk2:k<(natL n).length:=by rw [←HL.o];exact hkL
    rw [List.take_succ_eq_append_getElem hk2,List.getD_eq_getElem?_getD,List.getElem?_eq_getElem hk2];rfl⟩
   have htl:((natL n).take k).length≤1000:=by rw [List.length_take];omega
   have hO2:=hO.o;have hbs:=hB.o.size;obtain ⟨b,hb⟩:∃ b:Nat,ds[j].toNat=b:=⟨_,rfl⟩;have hb48:b=48+(natL n).getD k 0:=by rw [←hb];exact hby
   have hb1:48≤b:=by omega
   have hb2:b<58:=by omega
   have HBD:Shut (b-48=(natL n).getD k 0):=⟨by omega⟩;have HJ:Shut _:=⟨hj⟩;clear hO hby hdg hb48 hji hj;generalize (natL n).take k=xs at *
   generalize (natL n).getD k 0=d at *
   go_wp2_with (at_builtin;go_must (refine wpList_append_own _ rfl _ _ 106 rfl w.heap.size 3 i0 (.int .i64 0) 1 8 Tryz.underlying106 hinf hz0 hz1 hz2 rfl (by decide) _ _ _ rfl (World.ownsRow.alloc hO2 _) ⟨_,0,none⟩ 1 1 [.int .i64 ((b:Int)-48)] rfl rfl (cell_one_new _ _ _) (by simp [Value.oneCell']) (by unfold maxLen;omega) (by omega) (by rw [World.size_alloc];omega) ?_);intro v' w' hown' hgrow _;have hB':=QaC (hB.o.alloc hbs _) Lr (World.ownsRow.alloc hO2 _) hgrow);rw [show ((b:Int)-48)=((d:Nat):Int) by have:=HBD.o;omega] at hown';exact ⟨⟨k+1,by omega,by rw [HJ.o];congr 1;omega,⟨by rw [HT.o];exact OwnJ.snoc hown'⟩,⟨hB'⟩⟩,by simp [intOf]⟩
theorem QjQ (w:World) :
  Calls Tryz.prog 207 #[Z ⟨#[48]⟩] w fun e w'=>∃ v,e = .returned (.tuple #[.bool (decide ((0:Int)<0)),v])∧NI w' v []∧Below w.heap.size w w':=by
 have hd:decide ((0:Int)<0)=false:=by decide
 rw [hd];go_enter Tryz.func207, Tryz.ntmps207;go_upto_region 6 with fail
 go_loopw [5,6] (fun v i wr=>v = .slice none 0 0∧i = .int .i64 0∧wr=w) (fun _ _ _=>0)
 case atStart=>exact ⟨rfl,rfl,rfl⟩
 case round =>
  obtain ⟨rfl,rfl,rfl⟩:=hrel;go_wp2
  go_ret2
  exact ⟨_,rfl,⟨none,0,rfl,Nat.le_refl _,by unfold maxLen;omega,.inl ⟨rfl,rfl,rfl⟩⟩,Below.refl _ _⟩
theorem QaD (z:Int) (hl:(natL z.natAbs).length≤1000) (w:World) :
  Calls Tryz.prog 207 #[Z (txt z)] w fun e w'=>∃ v,e = .returned (.tuple #[.bool (decide (z<0)),v])∧NI w' v (natL z.natAbs)∧Below w.heap.size w w':=by
 rcases Int.lt_trichotomy z 0 with h | h | h
 ·have:=Qmg z.natAbs (by omega) hl w;rw [show -((z.natAbs:Nat):Int)=z by omega] at this;rw [decide_eq_true h];exact this
 ·subst h;rw [show (0:Int).natAbs=0 from rfl,Qau,txt_0];exact QjQ w
 ·have:=Qmf z.natAbs (by omega) hl w;rw [show ((z.natAbs:Nat):Int)=z by omega] at this;rw [decide_eq_false (by omega)];exact this
end N10
end
section
namespace N10
open Go.RowKit
theorem Qch (l:List Nat) (i:Nat):nv (l.take (i+1))=nv (l.take i)+10^i*l.getD i 0:=by
 rcases Nat.lt_or_ge i l.length with h | h
 ·exact QaO l i h
 ·rw [List.take_of_length_le (by omega),List.take_of_length_le h,List.getD_eq_getElem?_getD,List.getElem?_eq_none h];simp
theorem QpX (n v:Nat) (h1:v<10^n) (h2:n=0∨10^(n-1)≤v):padL n v=natL v:=by
 have hle:=Qat h1
 have hlen:(natL v).length=n:=by
  rcases Nat.lt_or_ge (natL v).length n with h | h
  ·exfalso;have h3:=QaI v;have h4:10^(natL v).length≤10^(n-1):=Nat.pow_le_pow_right (by decide) (by omega);rcases h2 with h2 | h2
   ·omega
   ·omega
  ·omega
 have:=Qdb (Qao v)
 rwa [hlen,Qan] at this
theorem Qmh {A B:List Nat} (i r c n:Nat) (he:nv (A.take i)+nv (B.take i)=r+10^i*c) (hn:n=c+A.getD i 0+B.getD i 0) :
  nv (A.take (i+1))+nv (B.take (i+1))=(r+10^i*(n % 10))+10^(i+1)*(n / 10):=by
 rw [Qch,Qch,Nat.pow_succ];have hm:n=n % 10+10*(n / 10):=by omega
 generalize n % 10=d at *
 generalize n / 10=c' at *
 generalize 10^i=P at *
 grind
theorem QnZ (i r d:Nat) (hr:r<10^i) (hd:d<10):r+10^i*d<10^(i+1):=by
 rw [Nat.pow_succ];have:10^i*d≤10^i*9:=Nat.mul_le_mul_left _ (by omega);omega
theorem QcW {l:List Nat} {i:Nat} (h:l.length≤i):l.getD i 0=0:=by rw [List.getD_eq_getElem?_getD,List.getElem?_eq_none h];rfl
theorem QhW (x y:Nat) (va vb:Value) (w:World) (ha:NI w va (natL x)) (hb:NI w vb (natL y)) (hla:(natL x).length≤2000) (hlb:(natL y).length≤2000) :
  Calls Tryz.prog 212 #[va,vb] w fun e w'=>∃ v,e = .returned v∧NI w' v (natL (x+y))∧Below w.heap.size w w':=by
 obtain ⟨pa,ca,ga,oa,rfl,_,_,hpa,hua⟩:=ha.open;obtain ⟨pb,cb,gb,ob,rfl,_,_,hpb,hub⟩:=hb.open;obtain ⟨i0,hinf,hz0,hz1,hz2⟩:=info_parts Qhj;obtain ⟨la,hla2⟩:∃ la,la=(natL x).length:=⟨_,rfl⟩;obtain ⟨lb,hlb2⟩:∃ lb,lb=(natL y).length:=⟨_,rfl⟩;have HLA:Shut _:=⟨hla2⟩;have HLB:Shut _:=⟨hlb2⟩;have HUA:Shut _:=⟨hua⟩;have HUB:Shut _:=⟨hub⟩;have HPA:Shut _:=⟨hpa⟩;have HPB:Shut _:=⟨hpb⟩;rw [←hla2,←hlb2];rw [←hla2] at hla;rw [←hlb2] at hlb;clear hla2 hlb2 hua hub hpa hpb ha hb;go_enter Tryz.func212, Tryz.ntmps212;go_wp2
 go_loopw [5,6,7] (fun v cv iv wr=>∃ i c r:Nat,i≤max la lb+1∧c≤1∧cv = .int .i64 (c:Int)∧iv = .int .i64 (i:Int)∧Shut (OwnJ wr w.heap.size v (padL i r))∧Shut (Below w.heap.size w wr)∧Shut (r<10^i∧nv ((natL x).take i)+nv ((natL y).take i)=r+10^i*c∧(i≤max la lb∨10^(i-1)≤x+y)∧(i≤max la lb∨c=0))) (fun _ _ iv _=>max la lb+1-(intOf iv).toNat)
 case atStart=>exact ⟨0,0,0,by omega,by omega,rfl,rfl,⟨OwnJ.nil _ _⟩,⟨Below.refl _ _⟩,⟨by decide,by simp [nv],.inl (by omega),.inl (by omega)⟩⟩
 case round =>
  obtain ⟨i,c,r,hi,hc,rfl,rfl,hO,hB,hE⟩:=hrel;have hdx:=(Qao x).getD i;have hdy:=(Qao y).getD i;have hO2:=hO.o;have hbs:=hB.o.size;have hpl:(padL i r).length≤3000:=by rw [Qaq];omega
  have HST:Shut (∀ n:Nat,n=c+(natL x).getD i 0+(natL y).getD i 0→i≤max la lb→(i<max la lb∨0<c)→padL (i+1) (r+10^i*(n % 10))=padL i r ++ [n % 10]∧n / 10≤1∧r+10^i*(n % 10)<10^(i+1)∧nv ((natL x).take (i+1))+nv ((natL y).take (i+1))=(r+10^i*(n % 10))+10^(i+1)*(n / 10)∧(i+1≤max la lb∨10^(i+1-1)≤x+y)∧(i+1≤max la lb∨n / 10=0)):=⟨fun n hn him hgo=>by
   have h1:=Qmh i r c n hE.o.2.1 hn;refine ⟨Qew i r _ hE.o.1 (by omega),by omega,QnZ i r _ hE.o.1 (by omega),h1, ?_, ?_⟩
   rotate_left
   ·by_cases h2:i<max la lb
    ·exact .inl (by omega)
    ·right;have e1:(natL x).getD i 0=0:=QcW (by have:=HLA.o;omega);have e2:(natL y).getD i 0=0:=QcW (by have:=HLB.o;omega);omega
   rcases hgo with h | h
   ·exact .inl (by omega)
   ·by_cases h2:i<max la lb
    ·exact .inl (by omega)
    ·right;have h3:=hE.o.2.1;rw [List.take_of_length_le (show (natL x).length≤i by have:=HLA.o;omega),List.take_of_length_le (show (natL y).length≤i by have:=HLB.o;omega),Qan,Qan] at h3;rw [Nat.add_sub_cancel,h3];have:10^i*1≤10^i*c:=Nat.mul_le_mul_left _ h;omega⟩
  by_cases h1:i<la
  ·by_cases h2:i<lb
   ·have hia:(i:Int)<(la:Int):=by omega
    have hib:(i:Int)<(lb:Int):=by omega
    obtain ⟨hpa1,hga⟩:=HPA.o (by rw [←HLA.o];omega);subst hpa1;have hca:=(hB.o.cell (p:=⟨ga,oa+i,none⟩) hga).trans (HUA.o i (by rw [←HLA.o];omega));obtain ⟨hpb1,hgb⟩:=HPB.o (by rw [←HLB.o];omega);subst hpb1;have hcb:=(hB.o.cell (p:=⟨gb,ob+i,none⟩) hgb).trans (HUB.o i (by rw [←HLB.o];omega));have hS:=HST.o (c+(natL x).getD i 0+(natL y).getD i 0) (by omega) (by omega) (by omega);have HS:Shut _:=⟨hS⟩;have HB9:Shut _:=⟨hB.o⟩;clear HST hS hE hO;generalize (natL x).getD i 0=a at *
    generalize (natL y).getD i 0=b at *
    generalize padL i r=xs at *
    go_wp2_with (at_builtin;go_must (refine wpList_append_own _ rfl _ _ 106 rfl w.heap.size 3 i0 (.int .i64 0) 1 8 Tryz.underlying106 hinf hz0 hz1 hz2 rfl (by decide) _ _ _ rfl (World.ownsRow.alloc hO2 _) ⟨_,0,none⟩ 1 1 [.int .i64 (((c:Int)+(a:Int)+(b:Int)) % 10)] rfl rfl (cell_one_new _ _ _) (by simp [Value.oneCell']) (by unfold maxLen;omega) (by omega) (by rw [World.size_alloc];omega) ?_);intro v' w' hown' hgrow _;have hB':=QaC (HB9.o.alloc hbs _) Lr (World.ownsRow.alloc hO2 _) hgrow);rw [show (((c:Int)+(a:Int)+(b:Int)) % 10)=(((c+a+b) % 10:Nat):Int) by omega] at hown';exact ⟨⟨i+1,(c+a+b) / 10,_,by omega,HS.o.2.1,by congr 1;try omega,by go_num,⟨by rw [HS.o.1];exact OwnJ.snoc hown'⟩,⟨hB'⟩,⟨HS.o.2.2⟩⟩,by simp [intOf];omega⟩
   ·have hia:(i:Int)<(la:Int):=by omega
    have hib:¬(i:Int)<(lb:Int):=by omega
    obtain ⟨hpa1,hga⟩:=HPA.o (by rw [←HLA.o];omega);subst hpa1;have hca:=(hB.o.cell (p:=⟨ga,oa+i,none⟩) hga).trans (HUA.o i (by rw [←HLA.o];omega));have hxb:(natL y).getD i 0=0:=QcW (by rw [←HLB.o];omega);have hS:=HST.o (c+(natL x).getD i 0) (by omega) (by omega) (by omega);have HS:Shut _:=⟨hS⟩;have HB9:Shut _:=⟨hB.o⟩;clear HST hS hE hO;generalize (natL x).getD i 0=a at *
    generalize padL i r=xs at *
    go_wp2_with (at_builtin;go_must (refine wpList_append_own _ rfl _ _ 106 rfl w.heap.size 3 i0 (.int .i64 0) 1 8 Tryz.underlying106 hinf hz0 hz1 hz2 rfl (by decide) _ _ _ rfl (World.ownsRow.alloc hO2 _) ⟨_,0,none⟩ 1 1 [.int .i64 (((c:Int)+(a:Int)) % 10)] rfl rfl (cell_one_new _ _ _) (by simp [Value.oneCell']) (by unfold maxLen;omega) (by omega) (by rw [World.size_alloc];omega) ?_);intro v' w' hown' hgrow _;have hB':=QaC (HB9.o.alloc hbs _) Lr (World.ownsRow.alloc hO2 _) hgrow);rw [show (((c:Int)+(a:Int)) % 10)=(((c+a) % 10:Nat):Int) by omega] at hown';exact ⟨⟨i+1,(c+a) / 10,_,by omega,HS.o.2.1,by congr 1;try omega,by go_num,⟨by rw [HS.o.1];exact OwnJ.snoc hown'⟩,⟨hB'⟩,⟨HS.o.2.2⟩⟩,by simp [intOf];omega⟩
  ·by_cases h2:i<lb
   ·have hia:¬(i:Int)<(la:Int):=by omega
    have hib:(i:Int)<(lb:Int):=by omega
    have hxa:(natL x).getD i 0=0:=QcW (by rw [←HLA.o];omega);obtain ⟨hpb1,hgb⟩:=HPB.o (by rw [←HLB.o];omega);subst hpb1;have hcb:=(hB.o.cell (p:=⟨gb,ob+i,none⟩) hgb).trans (HUB.o i (by rw [←HLB.o];omega));have hS:=HST.o (c+(natL y).getD i 0) (by omega) (by omega) (by omega);have HS:Shut _:=⟨hS⟩;have HB9:Shut _:=⟨hB.o⟩;clear HST hS hE hO;generalize (natL y).getD i 0=b at *
    generalize padL i r=xs at *
    go_wp2_with (at_builtin;go_must (refine wpList_append_own _ rfl _ _ 106 rfl w.heap.size 3 i0 (.int .i64 0) 1 8 Tryz.underlying106 hinf hz0 hz1 hz2 rfl (by decide) _ _ _ rfl (World.ownsRow.alloc hO2 _) ⟨_,0,none⟩ 1 1 [.int .i64 (((c:Int)+(b:Int)) % 10)] rfl rfl (cell_one_new _ _ _) (by simp [Value.oneCell']) (by unfold maxLen;omega) (by omega) (by rw [World.size_alloc];omega) ?_);intro v' w' hown' hgrow _;have hB':=QaC (HB9.o.alloc hbs _) Lr (World.ownsRow.alloc hO2 _) hgrow);rw [show (((c:Int)+(b:Int)) % 10)=(((c+b) % 10:Nat):Int) by omega] at hown';exact ⟨⟨i+1,(c+b) / 10,_,by omega,HS.o.2.1,by congr 1;try omega,by go_num,⟨by rw [HS.o.1];exact OwnJ.snoc hown'⟩,⟨hB'⟩,⟨HS.o.2.2⟩⟩,by simp [intOf];omega⟩
   ·by_cases hc0:0<c
    ·have hia:¬(i:Int)<(la:Int):=by omega
     have hib:¬(i:Int)<(lb:Int):=by omega
     have hxa:(natL x).getD i 0=0:=QcW (by rw [←HLA.o];omega);have hxb:(natL y).getD i 0=0:=QcW (by rw [←HLB.o];omega);have hcc:(0:Int)<(c:Int):=by omega
     have him:i≤max la lb:=by rcases hE.o.2.2.2 with h | h <;> omega
     have hS:=HST.o (c) (by omega) (by omega) (by omega);have HS:Shut _:=⟨hS⟩;have HB9:Shut _:=⟨hB.o⟩;clear HST hS hE hO;generalize padL i r=xs at *
     go_wp2_with (at_builtin;go_must (refine wpList_append_own _ rfl _ _ 106 rfl w.heap.size 3 i0 (.int .i64 0) 1 8 Tryz.underlying106 hinf hz0 hz1 hz2 rfl (by decide) _ _ _ rfl (World.ownsRow.alloc hO2 _) ⟨_,0,none⟩ 1 1 [.int .i64 (((c:Int)) % 10)] rfl rfl (cell_one_new _ _ _) (by simp [Value.oneCell']) (by unfold maxLen;omega) (by omega) (by rw [World.size_alloc];omega) ?_);intro v' w' hown' hgrow _;have hB':=QaC (HB9.o.alloc hbs _) Lr (World.ownsRow.alloc hO2 _) hgrow);rw [show (((c:Int)) % 10)=(((c) % 10:Nat):Int) by omega] at hown';exact ⟨⟨i+1,(c) / 10,_,by omega,HS.o.2.1,by congr 1;try omega,by go_num,⟨by rw [HS.o.1];exact OwnJ.snoc hown'⟩,⟨hB'⟩,⟨HS.o.2.2⟩⟩,by simp [intOf];omega⟩
    ·obtain rfl:c=0:=by omega
     have hF:padL i r=natL (x+y):=by
      have h3:=hE.o.2.1;rw [List.take_of_length_le (show (natL x).length≤i by have:=HLA.o;omega),List.take_of_length_le (show (natL y).length≤i by have:=HLB.o;omega),Qan,Qan,Nat.mul_zero,Nat.add_zero] at h3;rw [←h3];refine QpX i _ (by rw [h3];exact hE.o.1) ?_;rcases hE.o.2.2.1 with h4 | h4
      ·rcases Nat.eq_zero_or_pos i with h5 | h5
       ·exact .inl h5
       ·right;have e1:=HLA.o;have e2:=HLB.o;rcases Nat.le_total lb la with h6 | h6
        ·have:=QdD x (fun e=>by rw [e,Qau] at e1;simp at e1;omega);rw [←e1,show la=i by omega] at this;omega
        ·have:=QdD y (fun e=>by rw [e,Qau] at e2;simp at e2;omega);rw [←e2,show lb=i by omega] at this;omega
      ·exact .inr h4
     have hia:¬(i:Int)<(la:Int):=by omega
     have hib:¬(i:Int)<(lb:Int):=by omega
     rw [hF] at hO2;have HO:Shut _:=⟨hO2⟩;clear hO2 hO hE HST hF;go_wp2;go_ret;exact ⟨_,rfl,HO.o.ni,hB.o⟩
theorem QjR {A B:List Nat} (i r c c' d:Nat) (he:nv (A.take i)+10^i*c=r+nv (B.take i)) (hd:A.getD i 0+10*c'=c+B.getD i 0+d) :
  nv (A.take (i+1))+10^(i+1)*c'=(r+10^i*d)+nv (B.take (i+1)):=by
 rw [Qch,Qch,Nat.pow_succ];generalize 10^i=P at *
 grind
theorem Qdi (x y:Nat) (hyx:y≤x) (va vb:Value) (w:World) (ha:NI w va (natL x)) (hb:NI w vb (natL y)) (hla:(natL x).length≤2000) :
  Calls Tryz.prog 213 #[va,vb] w fun e w'=>∃ v,e = .returned v∧NI w' v (natL (x-y))∧(∀ g,v.ownBlock=some g→w.heap.size≤g)∧Below w.heap.size w w':=by
 have hlb:=Qal hyx;obtain ⟨pa,ca,ga,oa,rfl,_,_,hpa,hua⟩:=ha.open;obtain ⟨pb,cb,gb,ob,rfl,_,_,hpb,hub⟩:=hb.open;obtain ⟨i0,hinf,hz0,hz1,hz2⟩:=info_parts Qhj;obtain ⟨la,hla2⟩:∃ la,la=(natL x).length:=⟨_,rfl⟩;obtain ⟨lb,hlb2⟩:∃ lb,lb=(natL y).length:=⟨_,rfl⟩;have HLA:Shut _:=⟨hla2⟩;have HLB:Shut _:=⟨hlb2⟩;have HUA:Shut _:=⟨hua⟩;have HUB:Shut _:=⟨hub⟩;have HPA:Shut _:=⟨hpa⟩;have HPB:Shut _:=⟨hpb⟩;rw [←hla2,←hlb2];rw [←hla2] at hla hlb;rw [←hlb2] at hlb;clear hla2 hlb2 hua hub hpa hpb ha hb;go_enter Tryz.func213, Tryz.ntmps213;go_wp2
 go_loopw [5,6,7] (fun v cv iv wr=>∃ i c r:Nat,i≤la∧c≤1∧cv = .int .i64 (c:Int)∧iv = .int .i64 (i:Int)∧Shut (OwnJ wr w.heap.size v (padL i r))∧Shut (Below w.heap.size w wr)∧Shut (r<10^i∧nv ((natL x).take i)+10^i*c=r+nv ((natL y).take i))) (fun _ _ iv _=>la-(intOf iv).toNat)
 case atStart=>exact ⟨0,0,0,by omega,by omega,rfl,rfl,⟨OwnJ.nil _ _⟩,⟨Below.refl _ _⟩,⟨by decide,by simp [nv]⟩⟩
 case round =>
  obtain ⟨i,c,r,hi,hc,rfl,rfl,hO,hB,hE⟩:=hrel;have hdx:=(Qao x).getD i;have hdy:=(Qao y).getD i;have hO2:=hO.o;have hbs:=hB.o.size;have hpl:(padL i r).length≤3000:=by rw [Qaq];omega
  have HST:Shut (∀ c' d:Nat,(natL x).getD i 0+10*c'=c+(natL y).getD i 0+d→d<10→padL (i+1) (r+10^i*d)=padL i r ++ [d]∧r+10^i*d<10^(i+1)∧nv ((natL x).take (i+1))+10^(i+1)*c'=(r+10^i*d)+nv ((natL y).take (i+1))):=⟨fun c' d hd hd10 =>
   ⟨Qew i r _ hE.o.1 hd10,QnZ i r _ hE.o.1 hd10,QjR i r c c' d hE.o.2 hd⟩⟩
  by_cases h1:i<la
  ·obtain ⟨hpa1,hga⟩:=HPA.o (by rw [←HLA.o];omega);subst hpa1;have hca:=(hB.o.cell (p:=⟨ga,oa+i,none⟩) hga).trans (HUA.o i (by rw [←HLA.o];omega));have hia:(i:Int)<(la:Int):=by omega
   by_cases h2:i<lb
   ·obtain ⟨hpb1,hgb⟩:=HPB.o (by rw [←HLB.o];omega);subst hpb1;have hcb:=(hB.o.cell (p:=⟨gb,ob+i,none⟩) hgb).trans (HUB.o i (by rw [←HLB.o];omega));have hib:(i:Int)<(lb:Int):=by omega
    have HB9:Shut _:=⟨hB.o⟩;generalize (natL x).getD i 0=a at *
    generalize (natL y).getD i 0=b at *
    by_cases hneg:a<c+b
    ·have hn:(a:Int)-(c:Int)-(b:Int)<0:=by omega
     have HS:Shut _:=⟨HST.o 1 (a+10-c-b) (by omega) (by omega)⟩;clear HST hE hO;generalize padL i r=xs at *
     go_wp2_with (at_builtin;go_must (refine wpList_append_own _ rfl _ _ 106 rfl w.heap.size 3 i0 (.int .i64 0) 1 8 Tryz.underlying106 hinf hz0 hz1 hz2 rfl (by decide) _ _ _ rfl (World.ownsRow.alloc hO2 _) ⟨_,0,none⟩ 1 1 [.int .i64 ((a:Int)-(c:Int)-(b:Int)+10)] rfl rfl (cell_one_new _ _ _) (by simp [Value.oneCell']) (by unfold maxLen;omega) (by omega) (by rw [World.size_alloc];omega) ?_);intro v' w' hown' hgrow _;have hB':=QaC (HB9.o.alloc hbs _) Lr (World.ownsRow.alloc hO2 _) hgrow);rw [show ((a:Int)-(c:Int)-(b:Int)+10)=((a+10-c-b:Nat):Int) by omega] at hown';exact ⟨⟨i+1,1,_,by omega,by omega,rfl,by go_num,⟨by rw [HS.o.1];exact OwnJ.snoc hown'⟩,⟨hB'⟩,⟨HS.o.2⟩⟩,by simp [intOf];omega⟩
    ·have hn:¬(a:Int)-(c:Int)-(b:Int)<0:=by omega
     have HS:Shut _:=⟨HST.o 0 (a-c-b) (by omega) (by omega)⟩;clear HST hE hO;generalize padL i r=xs at *
     go_wp2_with (at_builtin;go_must (refine wpList_append_own _ rfl _ _ 106 rfl w.heap.size 3 i0 (.int .i64 0) 1 8 Tryz.underlying106 hinf hz0 hz1 hz2 rfl (by decide) _ _ _ rfl (World.ownsRow.alloc hO2 _) ⟨_,0,none⟩ 1 1 [.int .i64 ((a:Int)-(c:Int)-(b:Int))] rfl rfl (cell_one_new _ _ _) (by simp [Value.oneCell']) (by unfold maxLen;omega) (by omega) (by rw [World.size_alloc];omega) ?_);intro v' w' hown' hgrow _;have hB':=QaC (HB9.o.alloc hbs _) Lr (World.ownsRow.alloc hO2 _) hgrow);rw [show ((a:Int)-(c:Int)-(b:Int))=((a-c-b:Nat):Int) by omega] at hown';exact ⟨⟨i+1,0,_,by omega,by omega,rfl,by go_num,⟨by rw [HS.o.1];exact OwnJ.snoc hown'⟩,⟨hB'⟩,⟨HS.o.2⟩⟩,by simp [intOf];omega⟩
   ·have hib:¬(i:Int)<(lb:Int):=by omega
    have hxb:(natL y).getD i 0=0:=QcW (by rw [←HLB.o];omega);rw [hxb,Nat.add_zero] at HST;have HB9:Shut _:=⟨hB.o⟩;clear hxb hdy;generalize (natL x).getD i 0=a at *
    by_cases hneg:a<c
    ·have hn:(a:Int)-(c:Int)<0:=by omega
     have HS:Shut _:=⟨HST.o 1 (a+10-c) (by omega) (by omega)⟩;clear HST hE hO;generalize padL i r=xs at *
     go_wp2_with (at_builtin;go_must (refine wpList_append_own _ rfl _ _ 106 rfl w.heap.size 3 i0 (.int .i64 0) 1 8 Tryz.underlying106 hinf hz0 hz1 hz2 rfl (by decide) _ _ _ rfl (World.ownsRow.alloc hO2 _) ⟨_,0,none⟩ 1 1 [.int .i64 ((a:Int)-(c:Int)+10)] rfl rfl (cell_one_new _ _ _) (by simp [Value.oneCell']) (by unfold maxLen;omega) (by omega) (by rw [World.size_alloc];omega) ?_);intro v' w' hown' hgrow _;have hB':=QaC (HB9.o.alloc hbs _) Lr (World.ownsRow.alloc hO2 _) hgrow);rw [show ((a:Int)-(c:Int)+10)=((a+10-c:Nat):Int) by omega] at hown';exact ⟨⟨i+1,1,_,by omega,by omega,rfl,by go_num,⟨by rw [HS.o.1];exact OwnJ.snoc hown'⟩,⟨hB'⟩,⟨HS.o.2⟩⟩,by simp [intOf];omega⟩
    ·have hn:¬(a:Int)-(c:Int)<0:=by omega
     have HS:Shut _:=⟨HST.o 0 (a-c) (by omega) (by omega)⟩;clear HST hE hO;generalize padL i r=xs at *
     go_wp2_with (at_builtin;go_must (refine wpList_append_own _ rfl _ _ 106 rfl w.heap.size 3 i0 (.int .i64 0) 1 8 Tryz.underlying106 hinf hz0 hz1 hz2 rfl (by decide) _ _ _ rfl (World.ownsRow.alloc hO2 _) ⟨_,0,none⟩ 1 1 [.int .i64 ((a:Int)-(c:Int))] rfl rfl (cell_one_new _ _ _) (by simp [Value.oneCell']) (by unfold maxLen;omega) (by omega) (by rw [World.size_alloc];omega) ?_);intro v' w' hown' hgrow _;have hB':=QaC (HB9.o.alloc hbs _) Lr (World.ownsRow.alloc hO2 _) hgrow);rw [show ((a:Int)-(c:Int))=((a-c:Nat):Int) by omega] at hown';exact ⟨⟨i+1,0,_,by omega,by omega,rfl,by go_num,⟨by rw [HS.o.1];exact OwnJ.snoc hown'⟩,⟨hB'⟩,⟨HS.o.2⟩⟩,by simp [intOf];omega⟩
  ·obtain rfl:i=la:=by omega
   have hF:r=x-y:=by
    have h3:=hE.o.2;have h5:=hE.o.1;rw [List.take_of_length_le (show (natL x).length≤i by have:=HLA.o;omega),List.take_of_length_le (show (natL y).length≤i by have:=HLB.o;omega),Qan,Qan] at h3;rcases Nat.eq_zero_or_pos c with h6 | h6
    ·rw [h6,Nat.mul_zero,Nat.add_zero] at h3;omega
    ·have:10^i*1≤10^i*c:=Nat.mul_le_mul_left _ h6;omega
   have hia:¬(i:Int)<(i:Int):=by omega
   have ct:=QfK (padL i r) _ wr hO2.ni (Qbl _ _) (by omega);rw [QbZ i r hE.o.1,hF] at ct;have HFR:Shut _:=⟨OwnJ.fresh hO2⟩;clear hO2 hO hE HST hF;go_wp2_with (go_at_call 231; refine ct.mono ?_;rintro e w1 ⟨u,rfl,hu,hob,rfl⟩);go_ret;exact ⟨u,rfl,hu,by rw [hob];exact HFR.o,hB.o⟩
theorem QcM:∀ n,padL n 0=List.replicate n 0
 | 0=>rfl
 | n+1=>by rw [padL,List.replicate_succ,show 0 / 10=0 from rfl,QcM n]
theorem QeO:∀ (n R j:Nat),j<n→(padL n R).getD j 0=R / 10^j % 10
 | 0,_,_,h=>by omega
 | n+1,R,0,_=>by rw [padL,List.getD_cons_zero,Nat.pow_zero,Nat.div_one]
 | n+1,R,j+1,h=>by
  rw [padL,List.getD_cons_succ,QeO n (R / 10) j (by omega),Nat.pow_succ,Nat.mul_comm,Nat.div_div_eq_div_mul]
theorem QfL:∀ (n R j d:Nat),j<n→d<10→(padL n R).set j d=padL n (R+10^j*d-10^j*(R / 10^j % 10))
 | 0,_,_,_,h,_=>by omega
 | n+1,R,0,d,_,hd=>by
  rw [padL,List.set_cons_zero,Nat.pow_zero,Nat.one_mul,Nat.one_mul,Nat.div_one,padL];rw [show (R+d-R % 10) % 10=d by omega,show (R+d-R % 10) / 10=R / 10 by omega]
 | n+1,R,j+1,d,h,hd=>by
  have ih:=QfL n (R / 10) j d (by omega) hd;have e1:R / 10^(j+1) % 10=R / 10 / 10^j % 10:=by rw [Nat.pow_succ,Nat.mul_comm,Nat.div_div_eq_div_mul]
  have e2:10^(j+1)=10*10^j:=by rw [Nat.pow_succ,Nat.mul_comm]
  have hle:10^j*(R / 10 / 10^j % 10)≤R / 10:=Nat.le_trans (Nat.mul_le_mul_left _ (Nat.mod_le _ _)) (Nat.mul_div_le _ _);rw [padL,List.set_cons_succ,ih,padL,e1,e2,Nat.mul_assoc,Nat.mul_assoc];generalize 10^j*d=D at *
  generalize 10^j*(R / 10 / 10^j % 10)=E at *
  rw [show (R+10*D-10*E) % 10=R % 10 by omega,show (R+10*D-10*E) / 10=R / 10+D-E by omega]
theorem Qmi (n R j c a b V d c' k:Nat) (hj:j<n) (hR:R<10^n) (hd:d=R / 10^j % 10+c+a*b) (hc:c'=d / 10) (hk:k=d % 10) (hE:R+10^j*c=V) :
  R+10^j*k-10^j*(R / 10^j % 10)<10^n∧(R+10^j*k-10^j*(R / 10^j % 10))+10^(j+1)*c'=V+10^j*(a*b):=by
 have hle:10^j*(R / 10^j % 10)≤R:=Nat.le_trans (Nat.mul_le_mul_left _ (Nat.mod_le _ _)) (Nat.mul_div_le _ _);have hk9:k<10:=by omega
 refine ⟨?_, ?_⟩
 ·have h1:=QfL n R j k hj hk9
  have h2:=QdC (show Dig ((padL n R).set j k) from fun z hz=>by
   rcases List.mem_or_eq_of_mem_set hz with h | h
   ·exact Qbl n R z h
   ·omega)
  rw [List.length_set,Qaq] at h2
  have h3:nv ((padL n R).set j k)+10^j*(R / 10^j % 10)=R+10^j*k:=by
   have hlen:j<(padL n R).length:=by rw [Qaq];exact hj
   have e1:(padL n R).set j k=(padL n R).take j++k :: (padL n R).drop (j+1):=by rw [List.set_eq_take_append_cons_drop,if_pos hlen]
   have e2:=QaH (padL n R) j (by omega);rw [QbZ n R hR,List.drop_eq_getElem_cons hlen,nv] at e2
   have hg:(padL n R)[j]=R / 10^j % 10:=by
    have:=QeO n R j hj
    rwa [List.getD_eq_getElem?_getD,List.getElem?_eq_getElem hlen,Option.getD_some] at this
   rw [hg] at e2;rw [e1,QcI,nv,List.length_take,Nat.min_eq_left (by omega)];rw [Nat.mul_add] at e2 ⊢;omega
  omega
 ·have h4:d=k+10*c':=by omega
  rw [Nat.pow_succ]
  have e:10^j*k+10^j*10*c'=10^j*(R / 10^j % 10)+10^j*c+10^j*(a*b):=by
   have:10^j*d=10^j*(k+10*c'):=by rw [h4]
   rw [hd] at this
   grind
  omega
theorem Qul (A i k a Y b:Nat):A+10^i*(a*Y)+10^(i+k)*(a*b)=A+10^i*(a*(Y+10^k*b)):=by
 rw [Nat.pow_add];grind
def TI (w wr:World) (n i k c R x y:Nat):Prop :=
 IR wr w.heap.size (padL n R)∧Below w.heap.size w wr∧R<10^n∧R+10^(i+k)*c=nv ((natL x).take i)*y+10^i*((natL x).getD i 0*nv ((natL y).take k))
theorem Qmj (x y i:Nat) (hi:i<(natL x).length):nv ((natL x).take i)*y+10^i*((natL x).getD i 0*y)=nv ((natL x).take (i+1))*y∧nv ((natL x).take (i+1))*y<10^((natL x).length+(natL y).length):=by
 refine ⟨by rw [Qch];grind, ?_⟩;have h1:=QdC ((Qao x).take (i+1));rw [List.length_take,Nat.min_eq_left (by omega)] at h1;have h2:=QaI y;have h3:10^(i+1)≤10^(natL x).length:=Nat.pow_le_pow_right (by decide) hi;rw [Nat.pow_add];generalize nv ((natL x).take (i+1))=A at *
 have hp:0<10^(natL y).length:=Nat.pow_pos (by decide)
 calc A*y≤A*10^(natL y).length:=Nat.mul_le_mul_left _ (by omega)
  _<10^(natL x).length*10^(natL y).length:=Nat.mul_lt_mul_of_pos_right (by omega) hp
set_option maxRecDepth 100000 in
theorem Qoa (x y:Nat) (va vb:Value) (w:World) (ha:NI w va (natL x)) (hb:NI w vb (natL y)) (hla:(natL x).length≤1000) (hlb:(natL y).length≤1000) :
  Calls Tryz.prog 246 #[va,vb] w fun e w'=>∃ v,e = .returned v∧NI w' v (natL (x*y))∧Below w.heap.size w w':=by
 obtain ⟨pa,ca,ga,oa,rfl,_,_,hpa,hua⟩:=ha.open;obtain ⟨pb,cb,gb,ob,rfl,_,_,hpb,hub⟩:=hb.open;obtain ⟨la,hla2⟩:∃ la,la=(natL x).length:=⟨_,rfl⟩;obtain ⟨lb,hlb2⟩:∃ lb,lb=(natL y).length:=⟨_,rfl⟩;obtain ⟨n,hn⟩:∃ n,n=la+lb:=⟨_,rfl⟩;have HLA:Shut _:=⟨hla2⟩;have HLB:Shut _:=⟨hlb2⟩;have HUA:Shut _:=⟨hua⟩;have HUB:Shut _:=⟨hub⟩;have HPA:Shut _:=⟨hpa⟩;have HPB:Shut _:=⟨hpb⟩;have HN:Shut _:=⟨hn⟩;rw [←hla2,←hlb2];rw [←hla2] at hla;rw [←hlb2] at hlb;have HNI:Shut (((la:Int)+(lb:Int))=(n:Int)):=⟨by omega⟩;have hn2:n≤2000:=by omega
 clear hla2 hlb2 hua hub hpa hpb ha hb hn;go_enter Tryz.func246, Tryz.ntmps246;go_upto_region 3 with (at_make;refine QkI rfl _ _ rfl w.heap.size n (congrArg (Value.int .i64) HNI.o) (congrArg (Value.int .i64) HNI.o) (by omega) Lr ?_;intro w1 hO1 hB1)
 obtain ⟨_,hu1, -,_,hm1⟩:=hO1.openS
 have HS:Shut (IR w1 w.heap.size (padL n 0)∧Below w.heap.size w w1):=⟨by
  refine ⟨?_,hB1⟩
  have e:padL n 0=List.replicate n 0:=by
   exact QcM n
  rw [e];exact hu1⟩
 clear hO1 hB1 hu1
 go_loopw [6] (fun iv wr=>∃ i:Nat,i≤la∧iv = .int .i64 (i:Int)∧Shut (IR wr w.heap.size (padL n (nv ((natL x).take i)*y))∧Below w.heap.size w wr)) (fun iv _=>la-(intOf iv).toNat)
 case atStart=>exact ⟨0,Nat.zero_le _,rfl,⟨by rw [List.take_zero,nv,Nat.zero_mul];exact HS.o⟩⟩
 case round =>
  clear HS;obtain ⟨i,hi,rfl,hS⟩:=hrel;by_cases hil:i<la
  ·have d1:decide ((i:Int)<(la:Int))=true:=decide_eq_true (by omega);have d1':decide (i<la)=true:=decide_eq_true hil;have hroom:=Qmj x y i (by rw [←HLA.o];exact hil);rw [←HLA.o,←HLB.o,←HN.o] at hroom;have hV:nv ((natL x).take i)*y<10^n:=by omega
   have HI0:Shut (TI w wr n i 0 0 (nv ((natL x).take i)*y) x y):=⟨⟨hS.o.1,hS.o.2,hV,by simp [nv]⟩⟩;have HRM:Shut _:=⟨hroom⟩;have hda:=(Qao x).getD i;obtain ⟨hpa1,hga⟩:=HPA.o (by rw [←HLA.o];omega);have HGA:Shut (ga<w.heap.size):=⟨hga⟩;subst hpa1;have HCA:Shut (∀ W,Below w.heap.size w W→W.cell? ⟨ga,oa+i,none⟩=some (.int .i64 (((natL x).getD i 0:Nat):Int))):=⟨fun W hW=>(hW.cell (p:=⟨ga,oa+i,none⟩) hga).trans (HUA.o i (by rw [←HLA.o];omega))⟩;clear hV hroom hS hga;go_upto_region 7 with fail
   rename World=>wo
   go_loopw [7,8] (fun cv kv wr=>∃ k c R:Nat,i+k≤n∧c≤9∧cv = .int .i64 (c:Int)∧kv = .int .i64 (k:Int)∧Shut (TI w wr n i k c R x y)) (fun _ kv _=>n-(intOf kv).toNat)
   case atStart=>exact ⟨0,0,_,by have:=HN.o;omega,by omega,rfl,rfl,HI0⟩
   case round =>
    clear HI0;obtain ⟨k,c,R,hik,hc,rfl,rfl,hT⟩:=hrel
    have hpos:∀ h:(k<lb∨0<c),i+k<n:=fun h=>by
     rcases Nat.lt_or_ge (i+k) n with h1 | h1
     ·exact h1
     ·exfalso;have hkl:¬ k<lb:=by have:=HN.o;omega
      have hc0:=h.resolve_left hkl;have h2:=hT.o.2.2.2;rw [List.take_of_length_le (show (natL y).length≤k by have:=HLB.o;omega),Qan,HRM.o.1] at h2;have h3:10^n*1≤10^(i+k)*c:=Nat.mul_le_mul (Nat.pow_le_pow_right (by decide) h1) hc0;have h4:=HRM.o.2;omega
    by_cases hgo:k<lb∨0<c
    ·have hj:=hpos hgo;obtain ⟨j,hje⟩:∃ j,j=i+k:=⟨_,rfl⟩;have hji:((i:Int)+(k:Int))=(j:Int):=by omega
     have hjn:(j:Int)<(n:Int):=by omega
     have hj0:(0:Int)≤(j:Int):=by omega
     have hcj:=hT.o.1.j64 j (by rw [Qaq];omega);rw [QeO n R j (by omega)] at hcj;have hfj:=hT.o.1.frozen j;have hed:R / 10^j % 10<10:=Nat.mod_lt _ (by decide)
     have HST:Shut (∀ b d m:Nat,b=(natL y).getD k 0→d=R / 10^j % 10+c+(natL x).getD i 0*b→TI w ((wr.drewN m).setCell ⟨w.heap.size,j,none⟩ (.int .i64 ((d % 10:Nat):Int))) n i (k+1) (d / 10) (R+10^j*(d % 10)-10^j*(R / 10^j % 10)) x y):=⟨fun b d m hb hd=>by
      have h1:=Qmi n R j c ((natL x).getD i 0) b (nv ((natL x).take i)*y+10^i*((natL x).getD i 0*nv ((natL y).take k))) d (d / 10) (d % 10) (by omega) hT.o.2.2.1 hd rfl rfl (by rw [hje];exact hT.o.2.2.2);refine ⟨?_,(Qag hT.o.2.1 m).setCell (p:=⟨w.heap.size,j,none⟩) Lr _,h1.1, ?_⟩
      ·have h2:=(hT.o.1.drewN m).set64 j (d % 10) (by rw [Qaq];omega)
       rwa [QfL n R j (d % 10) (by omega) (by omega)] at h2
      ·rw [show i+(k+1)=j+1 by omega,h1.2,Qch,hb,hje];exact Qul _ _ _ _ _ _⟩
     have hca:=HCA.o wr hT.o.2.1;have HT:Shut _:=⟨hT.o.2.1⟩;have hjn2:j<n:=by omega
     have hik2:i+(k+1)≤n:=by omega
     clear hT hpos hje;generalize R / 10^j % 10=ed at *
     by_cases hkl:k<lb
     ·obtain ⟨hpb1,hgb⟩:=HPB.o (by rw [←HLB.o];omega);subst hpb1;have hcb:=(HT.o.cell (p:=⟨gb,ob+k,none⟩) hgb).trans (HUB.o k (by rw [←HLB.o];omega));have hdb:=(Qao y).getD k;have hkb:(k:Int)<(lb:Int):=by omega
      have hS:=fun m=>HST.o _ _ m rfl rfl;have hm:(natL x).getD i 0*(natL y).getD k 0≤9*9:=Nat.mul_le_mul (by omega) (by omega);obtain ⟨mm,hmm⟩:∃ mm,mm=(natL x).getD i 0*(natL y).getD k 0:=⟨_,rfl⟩;rw [←hmm] at hm;simp only [←hmm] at hS;have hmi:((((natL x).getD i 0:Nat):Int)*(((natL y).getD k 0:Nat):Int))=(mm:Int):=by rw [hmm,Int.natCast_mul]
      have HS9:Shut _:=⟨hS⟩;clear HST hS hmm;generalize (natL x).getD i 0=a at *
      generalize (natL y).getD k 0=b at *
      go_wp2
      go_quiet (fail)
      have hcj2:(wr.drewN nq).cell? ⟨w.heap.size,j,none⟩=some (.int .i64 (ed:Int)):=hcj;go_wp2;have e1:(((ed:Int)+(c:Int)+(mm:Int)) % 10)=(((ed+c+mm) % 10:Nat):Int):=by omega
      have e2:(((ed:Int)+(c:Int)+(mm:Int)) / 10)=(((ed+c+mm) / 10:Nat):Int):=by omega
      rw [e1,e2];exact ⟨⟨k+1,(ed+c+mm) / 10,_,hik2,by omega,rfl,by go_num,⟨HS9.o nq⟩⟩,by simp [intOf];omega⟩
     ·have hkb:¬(k:Int)<(lb:Int):=by omega
      have hcc:0<c:=hgo.resolve_left hkl;have hcci:(0:Int)<(c:Int):=by omega
      have hxb:(natL y).getD k 0=0:=QcW (by rw [←HLB.o];omega);have hS:=HST.o _ _ 0 rfl rfl;rw [hxb,Nat.mul_zero,Nat.add_zero] at hS;have HS9:Shut _:=⟨hS⟩;clear HST hS hxb;go_wp2;have e1:(((ed:Int)+(c:Int)) % 10)=(((ed+c) % 10:Nat):Int):=by omega
      have e2:(((ed:Int)+(c:Int)) / 10)=(((ed+c) / 10:Nat):Int):=by omega
      rw [e1,e2];exact ⟨⟨k+1,(ed+c) / 10,_,hik2,by omega,rfl,by go_num,⟨HS9.o⟩⟩,by simp [intOf];omega⟩
    ·have hkb:¬(k:Int)<(lb:Int):=by omega
     obtain rfl:c=0:=by omega
     have hE:=hT.o.2.2.2;rw [List.take_of_length_le (show (natL y).length≤k by have:=HLB.o;omega),Qan,HRM.o.1,Nat.mul_zero,Nat.add_zero] at hE;have HF:Shut (IR wr w.heap.size (padL n (nv ((natL x).take (i+1))*y))∧Below w.heap.size w wr):=⟨by rw [←hE];exact hT.o.1,hT.o.2.1⟩;clear hT hE hpos;go_wp2;exact ⟨⟨i+1,by omega,by go_num,HF⟩,by simp [intOf];omega⟩
  ·obtain rfl:i=la:=by omega
   have hu:=hS.o.1;rw [List.take_of_length_le (show (natL x).length≤i by have:=HLA.o;omega),Qan] at hu
   have hlt:x*y<10^n:=by
    have h1:=QaI x;have h2:=QaI y;rw [HN.o,Nat.pow_add,HLA.o,HLB.o];have hp:0<10^(natL y).length:=Nat.pow_pos (by decide)
    calc x*y≤x*10^(natL y).length:=Nat.mul_le_mul_left _ (by omega)
     _<_:=Nat.mul_lt_mul_of_pos_right h1 hp
   have hl:=Qaq n (x*y);have hni2:NI wr (.slice (some ⟨w.heap.size,0,none⟩) n n) (padL n (x*y)):=⟨_,n,by rw [hl],by rw [hl];exact Nat.le_refl _,hm1,.inr ⟨_,0,rfl,hu.lt,hu.ia⟩⟩;have ct:=QfK (padL n (x*y)) _ wr hni2 (Qbl _ _) (by omega);rw [QbZ n (x*y) hlt] at ct;have d1:¬(i:Int)<(i:Int):=by omega
   clear hu hlt hni2;go_wp2_with (go_at_call 231; refine ct.mono ?_;rintro e w2 ⟨u,rfl,hu2,_,rfl⟩);go_ret;exact ⟨_,rfl,hu2,hS.o.2⟩
theorem NI.one_num {W:World} {v:Value} {a b:Nat} (h1:NI W v (natL a)) (h2:NI W v (natL b)):a=b:=by
 obtain ⟨p,c,g,o,e,_,_,hp,hu⟩:=h1.open;obtain ⟨p',c',g',o',e',_,_,hp',hu'⟩:=h2.open;rw [e] at e';injection e' with e1 e2 e3;subst e1
 have hl:natL a=natL b:=by
  apply List.ext_getElem e2;intro i hi hi';have k1:=hu i hi;have k2:=hu' i hi';have q:=(hp (by omega)).1;have q':=(hp' (by omega)).1;rw [q] at q';injection q' with q';injection q' with g1 g2 _;subst g1;subst g2;rw [k1] at k2;injection k2 with k2;injection k2 with _ k3;have k4:(natL a).getD i 0=(natL b).getD i 0:=by omega
  simpa [List.getD,hi,hi'] using k4
 have:=congrArg nv hl
 rwa [Qan,Qan] at this
open Classical in
noncomputable def numI (W:World) (v:Value):Nat:=if h:∃ n,NI W v (natL n) then Classical.choose h else 0
theorem QhX {W:World} {v:Value} {n:Nat} (h:NI W v (natL n)):numI W v=n:=by
 have hex:∃ n,NI W v (natL n):=⟨n,h⟩;rw [numI,dif_pos hex];exact NI.one_num (Classical.choose_spec hex) h
theorem OwnJ.one (W:World) (B:Nat) (d:Nat) (h:B≤W.heap.size):OwnJ (W.alloc (O #[.int .i64 (d:Int)] 3)) B (.slice (some ⟨W.heap.size,0,none⟩) 1 1) [d] :=
 ⟨by simp,.inr ⟨W.heap.size,1,#[.int .i64 (d:Int)],rfl,h,RowAt.new W _ _,by simp,by unfold maxLen;omega,by simp,by simp⟩⟩
theorem Qob (x j:Nat) (hj:j<(natL x).length):x / 10^j=(natL x).getD j 0+10*(x / 10^(j+1)):=by
 have h1:∀ k,k≤(natL x).length→nv ((natL x).drop k)=x / 10^k:=fun k hk=>by
  have h2:=QaH (natL x) k hk;have h3:=QdC ((Qao x).take k);rw [List.length_take,Nat.min_eq_left hk] at h3;rw [Qan] at h2;have h4:x / 10^k=(nv ((natL x).take k)+10^k*nv ((natL x).drop k)) / 10^k:=by rw [←h2]
  rw [h4,Nat.add_mul_div_left _ _ (Nat.pow_pos (by decide)),Nat.div_eq_of_lt h3,Nat.zero_add]
 rw [←h1 j (by omega),←h1 (j+1) (by omega),List.drop_eq_getElem_cons hj,nv];simp [List.getD,hj]
def DO (w wr:World) (rv:Value) (n x y j:Nat):Prop :=
 IR wr w.heap.size (padL n (10^j*(x / 10^j / y)))∧NI wr rv (natL (x / 10^j % y))∧(∀ k,rv.ownBlock=some k→w.heap.size<k)∧Below w.heap.size w wr
def DI (w wr:World) (rv:Value) (n x y j t ρ:Nat):Prop :=
 IR wr w.heap.size (padL n (10^(j+1)*(x / 10^(j+1) / y)+10^j*t))∧NI wr rv (natL ρ)∧(∀ k,rv.ownBlock=some k→w.heap.size<k)∧Below w.heap.size w wr∧ρ+t*y=(natL x).getD j 0+10*(x / 10^(j+1) % y)
theorem Qsv (x y j t ρ:Nat) (hj:j<(natL x).length) (hy:0<y) (hρ:ρ<y) (h:ρ+t*y=(natL x).getD j 0+10*(x / 10^(j+1) % y)) :
  10^(j+1)*(x / 10^(j+1) / y)+10^j*t=10^j*(x / 10^j / y)∧ρ=x / 10^j % y:=by
 have h1:=Qob x j hj;have h2:=Nat.div_add_mod (x / 10^(j+1)) y
 have h3:x / 10^j=y*(10*(x / 10^(j+1) / y)+t) + ρ:=by
  rw [h1];generalize x / 10^(j+1) % y=a at *
  generalize x / 10^(j+1) / y=b at *
  have:y*(10*b+t)=10*(y*b)+t*y:=by rw [Nat.mul_add];grind
  omega
 refine ⟨?_, ?_⟩
 ·rw [h3,Nat.mul_add_div hy,Nat.div_eq_of_lt hρ,Nat.add_zero,Nat.mul_add,Nat.pow_succ];grind
 ·rw [h3,Nat.mul_add_mod,Nat.mod_eq_of_lt hρ]
theorem QkK (Q j t:Nat) (ht:t<10):(10^(j+1)*Q+10^j*t) / 10^j % 10=t:=by
 have hp:0<10^j:=Nat.pow_pos (by decide);rw [Nat.pow_succ,Nat.mul_assoc,←Nat.mul_add,Nat.mul_div_cancel_left _ hp,Nat.mul_add_mod,Nat.mod_eq_of_lt ht]
set_option maxRecDepth 100000 in
theorem Qds (x y:Nat) (hy:y≠0) (va vb:Value) (w:World) (ha:NI w va (natL x)) (hb:NI w vb (natL y)) (hla:(natL x).length≤1000) (hlb:(natL y).length≤900) :
  Calls Tryz.prog 210 #[va,vb] w fun e w'=>∃ v u,e = .returned (.tuple #[v,u])∧NI w' v (natL (x / y))∧NI w' u (natL (x % y))∧Below w.heap.size w w':=by
 have hb0:=hb;obtain ⟨pa,ca,ga,oa,rfl,_,_,hpa,hua⟩:=ha.open;obtain ⟨la,hla2⟩:∃ la,la=(natL x).length:=⟨_,rfl⟩;have HLA:Shut _:=⟨hla2⟩;have HUA:Shut _:=⟨hua⟩;have HPA:Shut _:=⟨hpa⟩;have HB:Shut _:=⟨And.intro hb0 (And.intro hlb hy)⟩;rw [←hla2];rw [←hla2] at hla;obtain ⟨i0,hinf,hz0,hz1,hz2⟩:=info_parts Qhj;clear hla2 hua hpa ha hb hb0 hlb hy;go_enter Tryz.func210, Tryz.ntmps210;go_upto_region 4 with (at_make;refine QkI rfl _ _ rfl w.heap.size la rfl rfl (by omega) Lr ?_;intro w1 hO1 hB1)
 obtain ⟨_,hu1, -,_,hm1⟩:=hO1.openS;have hs1:=hB1.size
 have HS:Shut (DO w w1 (.slice none 0 0) la x y la):=⟨by
  have hx0:x / 10^la=0:=Nat.div_eq_of_lt (by rw [HLA.o];exact QaI x);refine ⟨?_, ?_,fun k hk=>(by cases hk),hB1⟩
  ·rw [hx0,Nat.zero_div,Nat.mul_zero,QcM];exact hu1
  ·rw [hx0,Nat.zero_mod,Qau];exact ⟨none,0,rfl,Nat.le_refl _,by unfold maxLen;omega,.inl ⟨rfl,rfl,rfl⟩⟩⟩
 clear hO1 hB1 hu1 hs1
 go_loopw [7,8] (fun rv iv wr=>∃ j:Nat,j≤la∧iv = .int .i64 ((j:Int)-1)∧Shut (DO w wr rv la x y j)) (fun _ iv _=>(intOf iv+1).toNat)
 case atStart=>exact ⟨la,Nat.le_refl _,rfl,HS⟩
 case round =>
  clear HS;obtain ⟨j,hj,rfl,hS⟩:=hrel;by_cases hj0:j=0
  ·subst hj0;have hu:=hS.o.1;rw [Nat.pow_zero,Nat.div_one,Nat.one_mul] at hu;have hlt:x / y<10^la:=by rw [HLA.o];exact Nat.lt_of_le_of_lt (Nat.div_le_self _ _) (QaI x)
   have hl:=Qaq la (x / y);have hni2:NI wr (.slice (some ⟨w.heap.size,0,none⟩) la la) (padL la (x / y)):=⟨_,la,by rw [hl],by rw [hl];exact Nat.le_refl _,hm1,.inr ⟨_,0,rfl,hu.lt,hu.ia⟩⟩;have ct:=QfK (padL la (x / y)) _ wr hni2 (Qbl _ _) (by omega);rw [QbZ la (x / y) hlt] at ct;have hr:=hS.o.2.1;rw [Nat.pow_zero,Nat.div_one] at hr;have HR:Shut _:=⟨hr⟩;have HBB:Shut _:=⟨hS.o.2.2.2⟩;clear hu hlt hni2 hl hr hS;go_wp2_with (go_at_call 231; refine ct.mono ?_;rintro e w2 ⟨u,rfl,hu2,_,rfl⟩)
   go_ret2
   exact ⟨_,_,rfl,hu2,HR.o,HBB.o⟩
  ·obtain ⟨j,rfl⟩:∃ j',j=j'+1:=⟨j-1,by omega⟩;have hji:(((j+1:Nat):Int)-1)=(j:Int):=by omega
   rw [hji];obtain ⟨hpa1,hga⟩:=HPA.o (by rw [←HLA.o];omega);have HGA:Shut (ga<w.heap.size):=⟨hga⟩;subst hpa1;have hca:=(hS.o.2.2.2.cell (p:=⟨ga,oa+j,none⟩) hga).trans (HUA.o j (by rw [←HLA.o];omega));have hdx:=(Qao x).getD j;have hjl:(j:Int)<(la:Int):=by omega
   have hr0:(natL x).getD j 0+10*(x / 10^(j+1) % y)<10*y:=by
    have:=Nat.mod_lt (x / 10^(j+1)) (Nat.pos_of_ne_zero HB.o.2.2);omega
   have hyl:∀ ρ,ρ<10*y→(natL ρ).length≤901:=fun ρ hρ=>by
    have h9:(natL ρ).length≤(natL y).length+1:=Qat (by have:=QaI y;rw [Nat.pow_succ];omega);have:=HB.o.2.1;omega
   have hrl:(natL (x / 10^(j+1) % y)).length≤900:=Nat.le_trans (Qal (Nat.le_of_lt (Nat.mod_lt _ (Nat.pos_of_ne_zero HB.o.2.2)))) HB.o.2.1;have hgs:w.heap.size+1≤wr.heap.size:=hS.o.1.lt;have hal:Below wr.heap.size wr (wr.alloc (O #[.int .i64 (((natL x).getD j 0:Nat):Int)] 3)):=(Below.refl _ _).alloc Lr _;have hni:=hS.o.2.1.below hal Lr;have hone:=OwnJ.one wr (w.heap.size+1) ((natL x).getD j 0) hgs;have hnv:nv ((natL x).getD j 0 :: natL (x / 10^(j+1) % y))=(natL x).getD j 0+10*(x / 10^(j+1) % y):=by rw [nv,Qan]
   have hdg:Dig ((natL x).getD j 0 :: natL (x / 10^(j+1) % y)):=fun z hz=>by
    rcases List.mem_cons.1 hz with rfl | hz
    ·exact hdx
    ·exact Qao _ z hz
   have ct:=fun (v:Value) (W:World) (h:NI W v ((natL x).getD j 0 :: natL (x / 10^(j+1) % y)))=>QfK _ v W h hdg (by rw [List.length_cons];omega);rw [hnv] at ct;have HDO:Shut _:=⟨And.intro hS.o.1 (And.intro hS.o.2.2.2 hgs)⟩;have HR0:Shut _:=⟨And.intro hr0 hyl⟩;have HNI:Shut _:=⟨hni⟩;have HONE:Shut _:=⟨hone⟩;have HAL:Shut _:=⟨hal⟩;clear hS hr0 hyl hnv hdg hdx hni hone hal;obtain ⟨r0,hr0e⟩:∃ r0,r0=(natL x).getD j 0+10*(x / 10^(j+1) % y):=⟨_,rfl⟩;have HRE:Shut _:=⟨hr0e⟩;rw [←hr0e] at ct;generalize hd:(natL x).getD j 0=d at *
   have HD:Shut _:=⟨hd⟩;clear hd hr0e;go_upto_region 7 with (first | (at_builtin;refine Qme rfl _ _ rfl (w.heap.size+1) _ [d] rfl HONE.o _ (natL (x / 10^(j+1) % y)) rfl HNI.o (by simp;omega) (by rw [World.size_alloc];omega) ?_;intro v5 w5 hO5 _ hB5) | (go_at_call 231; refine (ct v5 w5 hO5.ni).mono ?_;rintro e w6 ⟨u6,rfl,hu6,hob6,rfl⟩))
   have hwr5:Below wr.heap.size wr (wr.alloc (O #[.int .i64 (d:Int)] 3)):=HAL.o;have hB6:Below (w.heap.size+1) wr w6:=⟨(hB5.os).trans hwr5.os,(hB5.tape).trans hwr5.tape,(hB5.output).trans hwr5.output,Nat.le_trans hwr5.size hB5.size,fun k hk=>(hB5.block k hk).trans (hwr5.block k (Nat.lt_of_lt_of_le hk HDO.o.2.2))⟩;have hir6:=HDO.o.1.below hB6 (Nat.lt_succ_self _);have hB6':Below w.heap.size w w6:=HDO.o.2.1.trans ⟨hB6.os,hB6.tape,hB6.output,hB6.size,fun k hk=>hB6.block k (Nat.lt_of_lt_of_le hk (Nat.le_succ _))⟩
   have hfr6:∀ k,u6.ownBlock=some k→w.heap.size<k:=fun k hk=>by
    rw [hob6] at hk;exact OwnJ.fresh hO5 k hk
   have HI0:Shut (DI w w6 u6 la x y j 0 r0):=⟨⟨by rw [Nat.mul_zero,Nat.add_zero];exact hir6,hu6,hfr6,hB6',by rw [Nat.zero_mul,Nat.add_zero,HD.o];exact HRE.o⟩⟩;clear ct hO5 hob6 hu6 hB5 hwr5 hB6 hir6 hB6' hfr6 HONE HNI HAL HDO
   rename World=>wo2
   go_loopw [7] (fun rv wr=>∃ t ρ:Nat,t≤9∧Shut (DI w wr rv la x y j t ρ)) (fun rv wr=>numI wr rv)
   case atStart=>exact ⟨0,r0,by omega,HI0⟩
   case round =>
    clear HI0;obtain ⟨t,ρ,ht,hT⟩:=hrel;have hE:=hT.o.2.2.2.2;rw [HD.o] at hE;have hE9:ρ<10*y:=by have:=HR0.o.1;omega
    have hρl:=HR0.o.2 ρ hE9;have hyl:(natL y).length≤900:=HB.o.2.1;have hy0:0<y:=Nat.pos_of_ne_zero HB.o.2.2;have co:=QdK ρ y _ vb wr hT.o.2.1 (HB.o.1.below hT.o.2.2.2.1 Lr) (by omega) (by omega);by_cases hle:y≤ρ
    ·have hcm:0≤cmpN ρ y:=by unfold cmpN;(repeat' split) <;> omega
     have ht9:t+1≤9:=by
      have h1:(t+1)*y<10*y:=by rw [Nat.add_mul,Nat.one_mul];have:=HR0.o.1;omega
      have:=Nat.lt_of_mul_lt_mul_right h1;omega
     have cm:=fun (m:Nat)=>Qdi ρ y hle _ vb (wr.drewN m) (hT.o.2.1.below (Qag (Below.refl _ wr) m) Lr) (HB.o.1.below (Qag hT.o.2.2.2.1 m) Lr) (by omega);have hnum:=QhX hT.o.2.1;have hgw:w.heap.size<wr.heap.size:=hT.o.1.lt
     have HFIN:Shut (∀ (m:Nat) (W:World) (v:Value),Below (wr.drewN m).heap.size (wr.drewN m) W→NI W v (natL (ρ-y))→(∀ g,v.ownBlock=some g→(wr.drewN m).heap.size≤g)→W.cell? ⟨w.heap.size,j,none⟩=some (.int .i64 (t:Int))∧W.frozen? ⟨w.heap.size,j,none⟩=false∧DI w (W.setCell ⟨w.heap.size,j,none⟩ (.int .i64 ((t+1:Nat):Int))) v la x y j (t+1) (ρ-y)):=⟨fun m W v hB hN hF=>by
      have hir:=(hT.o.1.drewN m).below hB hgw;have hc:=hir.j64 j (by rw [Qaq];omega);rw [QeO la _ j (by omega),QkK _ j t (by omega)] at hc;refine ⟨hc,hir.frozen j, ?_, ?_, ?_, ?_, ?_⟩
      ·have h2:=hir.set64 j (t+1) (by rw [Qaq];omega);rw [QfL la _ j (t+1) (by omega) (by omega),QkK _ j t (by omega)] at h2
       rwa [show 10^(j+1)*(x / 10^(j+1) / y)+10^j*t+10^j*(t+1)-10^j*t=10^(j+1)*(x / 10^(j+1) / y)+10^j*(t+1) by omega] at h2
      ·exact NI.setOther hN (fun k hk=>by have:wr.heap.size≤k:=hF k hk;omega)
      ·exact fun k hk=>by have:wr.heap.size≤k:=hF k hk;omega
      ·exact ((Qag hT.o.2.2.2.1 m).trans (hB.mono (Qag hT.o.2.2.2.1 m).size)).setCell (p:=⟨w.heap.size,j,none⟩) Lr _
      ·rw [HD.o,Nat.add_mul,Nat.one_mul];omega⟩
     have HNUM:Shut _:=⟨hnum⟩;have hlt:ρ-y < ρ:=by omega
     clear hE hE9 hρl hT hnum;generalize cmpN ρ y=cv at *
     go_upto_region 8 with (go_at_call 208; refine co.mono ?_;rintro e w7 ⟨rfl,m,rfl⟩)
     go_upto_region 9 with (go_at_call 213; refine (cm m).mono ?_;rintro e w8 ⟨v8,rfl,hN8,hF8,hB8⟩)
     obtain ⟨c8,f8,hDI⟩:=HFIN.o m w8 v8 hB8 hN8 hF8;have HDI:Shut _:=⟨hDI⟩;have HM:Shut (numI (w8.setCell ⟨w.heap.size,j,none⟩ (.int .i64 ((t+1:Nat):Int))) v8=ρ-y):=⟨QhX hDI.2.1⟩;clear hDI hN8 hF8 hB8 HFIN cm co;go_wp2;rw [show ((t:Int)+1)=((t+1:Nat):Int) by omega];exact ⟨⟨t+1,ρ-y,ht9,HDI⟩,by rw [HM.o,HNUM.o];exact hlt⟩
    ·have hcm:cmpN ρ y<0:=by unfold cmpN;(repeat' split) <;> omega
     have hend:=Qsv x y j t ρ (by rw [←HLA.o];omega) hy0 (by omega) hT.o.2.2.2.2;have HF:Shut (∀ m,DO w (wr.drewN m) _ la x y j):=⟨fun m=>⟨by rw [←hend.1];exact hT.o.1.drewN m,by rw [←hend.2];exact hT.o.2.1.below (Qag (Below.refl _ wr) m) Lr,hT.o.2.2.1,Qag hT.o.2.2.2.1 m⟩⟩;have hcm2:¬ 0≤cmpN ρ y:=by omega
     clear hE hE9 hρl hT hend;generalize cmpN ρ y=cv at *
     go_wp2_with (go_at_call 208; refine co.mono ?_;rintro e w7 ⟨rfl,m,rfl⟩);exact ⟨⟨j,by omega,rfl,⟨HF.o m⟩⟩,by simp [intOf]⟩
theorem Qum (neg:Bool) (n:Nat):(sg neg n).natAbs=n:=by unfold sg;split <;> omega
theorem QjS (z:Int):sg (decide (z<0)) z.natAbs=z:=by
 unfold sg;by_cases h:z<0
 ·rw [decide_eq_true h,if_pos rfl];omega
 ·rw [decide_eq_false h,if_neg (by simp)];omega
theorem Qsw (neg:Bool) (n:Nat):Fits (sg neg n)↔(natL n).length≤200:=by unfold Fits;rw [Qum,QcD]
theorem Qbg (neg:Bool) (n:Nat) (v:Value) (w:World) (h:NI w v (natL n)) (hl:(natL n).length≤1000) :
  Calls Tryz.prog 211 #[.bool neg,v] w fun e w'=>e = .returned (QcC (sg neg n))∧Below w.heap.size w w':=by
 have ct:=QdL n neg v w h hl;have hf:=Qsw neg n;generalize sg neg n=z at *
 clear h;by_cases hz:(natL n).length≤200
 ·have HC:Shut _:=⟨Qav (hf.2 hz)⟩;rw [decide_eq_true hz] at ct;clear hf hz hl;generalize hs:txt z=s at *
  go_enter Tryz.func211, Tryz.ntmps211;go_wp2_with (go_at_call 174; refine ct.mono ?_;rintro e w1 ⟨rfl,hB1⟩)
  go_ret2
  exact ⟨by rw [HC.o];rfl,hB1⟩
 ·have HC:Shut _:=⟨QaJ (fun h=>hz (hf.1 h))⟩;rw [decide_eq_false hz] at ct;clear hf hz hl;generalize hs:txt z=s at *
  go_enter Tryz.func211, Tryz.ntmps211;go_wp2_with (go_at_call 174; refine ct.mono ?_;rintro e w1 ⟨rfl,hB1⟩)
  go_ret2
  exact ⟨by rw [HC.o];rfl,hB1⟩
theorem Qgw {nx ny k:Nat} (ha:(natL nx).length≤k) (hb:(natL ny).length≤k):(natL (nx+ny)).length≤k+1:=by
 have h1:=QaI nx;have h2:=QaI ny;have h3:10^(natL nx).length≤10^k:=Nat.pow_le_pow_right (by decide) ha;have h4:10^(natL ny).length≤10^k:=Nat.pow_le_pow_right (by decide) hb;exact Qat (k:=k+1) (by rw [Nat.pow_succ];generalize 10^k=P at *;omega)
theorem Qca (z:Int):∃ (s:ByteArray) (k:Int),QcC z = .tuple #[Z s,.int .i64 k]:=by
 by_cases h:Fits z
 ·exact ⟨_,_,Qav h⟩
 ·exact ⟨_,_,QaJ h⟩
theorem Qun (nx ny:Nat) (va vb:Value) (w:World) (ha:NI w va (natL nx)) (hb:NI w vb (natL ny)) (hla:(natL nx).length≤300) (hlb:(natL ny).length≤300) :
  Calls Tryz.prog 209 #[.bool true,va,.bool true,vb] w fun e w'=>e = .returned (QcC (sg true nx+sg true ny))∧Below w.heap.size w w':=by
 have hs:sg true nx+sg true ny=sg true (nx+ny):=by unfold sg;simp;try omega
 rw [hs];have hlen:(natL (nx+ny)).length≤1000:=Nat.le_trans (Qgw hla hlb) (by decide);have cp:=QhW nx ny va vb w ha hb (by omega) (by omega);have cc:=fun (v:Value) (W:World) (h:NI W v (natL (nx+ny)))=>Qbg true (nx+ny) v W h hlen;obtain ⟨s,k,hk⟩:=Qca (sg true (nx+ny));rw [hk] at cc ⊢;clear hs hk ha hb hla hlb hlen;go_enter Tryz.func209, Tryz.ntmps209;go_wp2_with (first | (go_at_call 212; refine cp.mono ?_;rintro e w1 ⟨v1,rfl,hv1,hB1⟩) | (go_at_call 211; refine (cc v1 w1 hv1).mono ?_;rintro e w2 ⟨rfl,hB2⟩))
 go_ret2
 exact ⟨rfl,hB1.trans (hB2.mono hB1.size)⟩
theorem Quo (nx ny:Nat) (va vb:Value) (w:World) (ha:NI w va (natL nx)) (hb:NI w vb (natL ny)) (hla:(natL nx).length≤300) (hlb:(natL ny).length≤300) :
  Calls Tryz.prog 209 #[.bool true,va,.bool false,vb] w fun e w'=>e = .returned (QcC (sg true nx+sg false ny))∧Below w.heap.size w w':=by
 have co:=QdK nx ny va vb w ha hb (by omega) (by omega);by_cases hle:ny≤nx
 ·have hs:sg true nx+sg false ny=sg true (nx-ny):=by unfold sg;simp;try omega
  rw [hs];have hcm:0≤cmpN nx ny:=by unfold cmpN;(repeat' split) <;> omega
  have hlen:(natL (nx-ny)).length≤1000:=by have:=Qal (Nat.sub_le nx ny);omega
  have cm:=fun m=>Qdi nx ny hle va vb (w.drewN m) (ha.below (Qag (Below.refl _ w) m) Lr) (hb.below (Qag (Below.refl _ w) m) Lr) (by omega);have cc:=fun (v:Value) (W:World) (h:NI W v (natL (nx-ny)))=>Qbg true (nx-ny) v W h hlen;obtain ⟨s,k,hk⟩:=Qca (sg true (nx-ny));rw [hk] at cc ⊢;clear hs hk ha hb hla hlb hlen hle;generalize cmpN nx ny=cv at *
  go_enter Tryz.func209, Tryz.ntmps209;go_wp2_with (first | (go_at_call 208; refine co.mono ?_;rintro e w0 ⟨rfl,m,rfl⟩) | (go_at_call 213; refine (cm m).mono ?_;rintro e w1 ⟨v1,rfl,hv1,_,hB1⟩) | (go_at_call 211; refine (cc v1 w1 hv1).mono ?_;rintro e w2 ⟨rfl,hB2⟩))
  go_ret2
  exact ⟨rfl,(Qag (Below.refl _ w) m).trans (hB1.trans (hB2.mono hB1.size))⟩
 ·have hs:sg true nx+sg false ny=sg false (ny-nx):=by unfold sg;simp;try omega
  rw [hs];have hcm:cmpN nx ny<0:=by unfold cmpN;(repeat' split) <;> omega
  have hcm2:¬ 0≤cmpN nx ny:=by omega
  have hlen:(natL (ny-nx)).length≤1000:=by have:=Qal (Nat.sub_le ny nx);omega
  have cm:=fun m=>Qdi ny nx (by omega) vb va (w.drewN m) (hb.below (Qag (Below.refl _ w) m) Lr) (ha.below (Qag (Below.refl _ w) m) Lr) (by omega);have cc:=fun (v:Value) (W:World) (h:NI W v (natL (ny-nx)))=>Qbg false (ny-nx) v W h hlen;obtain ⟨s,k,hk⟩:=Qca (sg false (ny-nx));rw [hk] at cc ⊢;clear hs hk ha hb hla hlb hlen hle;generalize cmpN nx ny=cv at *
  go_enter Tryz.func209, Tryz.ntmps209;go_wp2_with (first | (go_at_call 208; refine co.mono ?_;rintro e w0 ⟨rfl,m,rfl⟩) | (go_at_call 213; refine (cm m).mono ?_;rintro e w1 ⟨v1,rfl,hv1,_,hB1⟩) | (go_at_call 211; refine (cc v1 w1 hv1).mono ?_;rintro e w2 ⟨rfl,hB2⟩))
  go_ret2
  exact ⟨rfl,(Qag (Below.refl _ w) m).trans (hB1.trans (hB2.mono hB1.size))⟩
theorem Qup (nx ny:Nat) (va vb:Value) (w:World) (ha:NI w va (natL nx)) (hb:NI w vb (natL ny)) (hla:(natL nx).length≤300) (hlb:(natL ny).length≤300) :
  Calls Tryz.prog 209 #[.bool false,va,.bool true,vb] w fun e w'=>e = .returned (QcC (sg false nx+sg true ny))∧Below w.heap.size w w':=by
 have co:=QdK nx ny va vb w ha hb (by omega) (by omega);by_cases hle:ny≤nx
 ·have hs:sg false nx+sg true ny=sg false (nx-ny):=by unfold sg;simp;try omega
  rw [hs];have hcm:0≤cmpN nx ny:=by unfold cmpN;(repeat' split) <;> omega
  have hlen:(natL (nx-ny)).length≤1000:=by have:=Qal (Nat.sub_le nx ny);omega
  have cm:=fun m=>Qdi nx ny hle va vb (w.drewN m) (ha.below (Qag (Below.refl _ w) m) Lr) (hb.below (Qag (Below.refl _ w) m) Lr) (by omega);have cc:=fun (v:Value) (W:World) (h:NI W v (natL (nx-ny)))=>Qbg false (nx-ny) v W h hlen;obtain ⟨s,k,hk⟩:=Qca (sg false (nx-ny));rw [hk] at cc ⊢;clear hs hk ha hb hla hlb hlen hle;generalize cmpN nx ny=cv at *
  go_enter Tryz.func209, Tryz.ntmps209;go_wp2_with (first | (go_at_call 208; refine co.mono ?_;rintro e w0 ⟨rfl,m,rfl⟩) | (go_at_call 213; refine (cm m).mono ?_;rintro e w1 ⟨v1,rfl,hv1,_,hB1⟩) | (go_at_call 211; refine (cc v1 w1 hv1).mono ?_;rintro e w2 ⟨rfl,hB2⟩))
  go_ret2
  exact ⟨rfl,(Qag (Below.refl _ w) m).trans (hB1.trans (hB2.mono hB1.size))⟩
 ·have hs:sg false nx+sg true ny=sg true (ny-nx):=by unfold sg;simp;try omega
  rw [hs];have hcm:cmpN nx ny<0:=by unfold cmpN;(repeat' split) <;> omega
  have hcm2:¬ 0≤cmpN nx ny:=by omega
  have hlen:(natL (ny-nx)).length≤1000:=by have:=Qal (Nat.sub_le ny nx);omega
  have cm:=fun m=>Qdi ny nx (by omega) vb va (w.drewN m) (hb.below (Qag (Below.refl _ w) m) Lr) (ha.below (Qag (Below.refl _ w) m) Lr) (by omega);have cc:=fun (v:Value) (W:World) (h:NI W v (natL (ny-nx)))=>Qbg true (ny-nx) v W h hlen;obtain ⟨s,k,hk⟩:=Qca (sg true (ny-nx));rw [hk] at cc ⊢;clear hs hk ha hb hla hlb hlen hle;generalize cmpN nx ny=cv at *
  go_enter Tryz.func209, Tryz.ntmps209;go_wp2_with (first | (go_at_call 208; refine co.mono ?_;rintro e w0 ⟨rfl,m,rfl⟩) | (go_at_call 213; refine (cm m).mono ?_;rintro e w1 ⟨v1,rfl,hv1,_,hB1⟩) | (go_at_call 211; refine (cc v1 w1 hv1).mono ?_;rintro e w2 ⟨rfl,hB2⟩))
  go_ret2
  exact ⟨rfl,(Qag (Below.refl _ w) m).trans (hB1.trans (hB2.mono hB1.size))⟩
theorem Quq (nx ny:Nat) (va vb:Value) (w:World) (ha:NI w va (natL nx)) (hb:NI w vb (natL ny)) (hla:(natL nx).length≤300) (hlb:(natL ny).length≤300) :
  Calls Tryz.prog 209 #[.bool false,va,.bool false,vb] w fun e w'=>e = .returned (QcC (sg false nx+sg false ny))∧Below w.heap.size w w':=by
 have hs:sg false nx+sg false ny=sg false (nx+ny):=by unfold sg;simp;try omega
 rw [hs];have hlen:(natL (nx+ny)).length≤1000:=Nat.le_trans (Qgw hla hlb) (by decide);have cp:=QhW nx ny va vb w ha hb (by omega) (by omega);have cc:=fun (v:Value) (W:World) (h:NI W v (natL (nx+ny)))=>Qbg false (nx+ny) v W h hlen;obtain ⟨s,k,hk⟩:=Qca (sg false (nx+ny));rw [hk] at cc ⊢;clear hs hk ha hb hla hlb hlen;go_enter Tryz.func209, Tryz.ntmps209;go_wp2_with (first | (go_at_call 212; refine cp.mono ?_;rintro e w1 ⟨v1,rfl,hv1,hB1⟩) | (go_at_call 211; refine (cc v1 w1 hv1).mono ?_;rintro e w2 ⟨rfl,hB2⟩))
 go_ret2
 exact ⟨rfl,hB1.trans (hB2.mono hB1.size)⟩
theorem Qoc (sx sy:Bool) (nx ny:Nat) (va vb:Value) (w:World) (ha:NI w va (natL nx)) (hb:NI w vb (natL ny)) (hla:(natL nx).length≤300) (hlb:(natL ny).length≤300) :
  Calls Tryz.prog 209 #[.bool sx,va,.bool sy,vb] w fun e w'=>e = .returned (QcC (sg sx nx+sg sy ny))∧Below w.heap.size w w':=by
 cases sx <;> cases sy
 ·exact Quq nx ny va vb w ha hb hla hlb
 ·exact Qup nx ny va vb w ha hb hla hlb
 ·exact Quo nx ny va vb w ha hb hla hlb
 ·exact Qun nx ny va vb w ha hb hla hlb
theorem Qgx:bl (ba [48]) = [48]:=QeB _ (by decide)
theorem QkL:cutB (ba [48])=(false,ba [48]):=by rw [cutB,hd0,Qgx];rfl
theorem QiQ (s:ByteArray) (k:Nat) (hk:k<(cutB s).2.size) (hb:okC ((bl (cutB s).2).getD k 0)=false):Qap s=false:=by
 rw [Qap];split
 ·rfl
 ·split
  ·rw [decide_eq_false_iff_not];rintro rfl;rw [QkL,Qgx] at hb;rw [QkL] at hk;have hk2:k<1:=hk;obtain rfl:k=0:=by omega
   revert hb;decide
  ·rw [List.all_eq_false];have hkl:k<(bl (cutB s).2).length:=by rw [QcA];exact hk
   refine ⟨(bl (cutB s).2).getD k 0, ?_,by rw [hb];decide⟩;rw [List.getD_eq_getElem?_getD,List.getElem?_eq_getElem hkl];exact List.getElem_mem hkl
theorem QiR (s:ByteArray) (h:∀ j,j<(cutB s).2.size→okC ((bl (cutB s).2).getD j 0)=true):Qap s=decide (0<(cutB s).2.size∧(cutB s).2.size≤200∧(hd0 (cutB s).2=48→s=ba [48])):=by
 have hall:(bl (cutB s).2).all okC=true:=by
  rw [List.all_eq_true];intro y hy;obtain ⟨j,hj,rfl⟩:=List.getElem_of_mem hy;have:=h j (by rw [←QcA];exact hj)
  rwa [List.getD_eq_getElem?_getD,List.getElem?_eq_getElem hj] at this
 rw [Qap,hall];split
 ·next c=>exact (decide_eq_false (by omega)).symm
 ·next c =>
  split
  ·next c2=>exact decide_eq_decide.2 ⟨fun e=>⟨by omega,by omega,fun _=>e⟩,fun e=>e.2.2 c2⟩
  ·next c2=>exact (decide_eq_true ⟨by omega,by omega,fun e=>absurd e c2⟩).symm
theorem Qer (d:ByteArray):(d.toList == [48])=decide (d=ba [48]):=by
 rw [←QcU,show (ba [48]).toList = [48] by rw [ByteArray.toList_eq];rfl]
theorem QhY (d:ByteArray) (h:0<d.size):d[0].toNat=hd0 d:=(QeC d 0 h).symm
theorem Qsx {s:ByteArray} (h:hd0 s=45):(cutB s).2=s.extract 1 s.size:=by rw [cutB,if_pos h]
theorem Qsy {s:ByteArray} (h:hd0 s≠45):(cutB s).2=s:=by rw [cutB,if_neg h]
theorem Qod (s:ByteArray) (hs:s.size≤1000000) (h45:hd0 s≠45) (w:World) :
  Calls Tryz.prog 169 #[Z s] w fun e w'=>e = .returned (.bool (Qap s))∧∃ m,w'=w.drewN m:=by
 have hbad:=QiQ s;have hend:=QiR s;obtain ⟨vr,hvr⟩:∃ vr,vr=Qap s:=⟨_,rfl⟩;rw [←hvr] at hbad hend ⊢;clear hvr;have hc:=Qsy h45;rw [hc] at hbad hend;obtain ⟨d,hd⟩:∃ d,d=s:=⟨_,rfl⟩;subst hd;have HDZ:Shut (d=ba [48]→d=ba [48]):=⟨fun h=>h⟩;have HNZ:Shut (d≠ba [48]→d≠ba [48]):=⟨fun h=>h⟩;have HBAD:Shut (∀ k,k<d.size→okC ((bl d).getD k 0)=false→vr=false):=⟨hbad⟩;have HEND:Shut ((∀ j,j<d.size→okC ((bl d).getD j 0)=true)→vr=decide (0<d.size∧d.size≤200∧(hd0 d=48→d=ba [48]))):=⟨hend⟩;clear hbad hend hc;have H45:Shut (∀ h:0<d.size,d[0].toNat≠45):=⟨fun h=>by rw [QhY d h];exact h45⟩;go_enter Tryz.func169, Tryz.ntmps169;by_cases hs0:d.size=0
 ·have HE:Shut (vr=false):=⟨by rw [HEND.o (fun j hj=>by omega)];exact decide_eq_false (by omega)⟩;clear HEND HBAD HDZ HNZ H45;go_upto_region 2 with fail
  go_loopw [2,3] (fun rv iv wr=>rv = .bool false∧iv = .int .i64 0∧wr=w) (fun _ _ _=>0)
  case atStart=>exact ⟨rfl,rfl,rfl⟩
  case round =>
   obtain ⟨rfl,rfl,rfl⟩:=hrel;go_wp2;go_ret;exact ⟨by rw [HE.o];rfl,0,rfl⟩
 ·have hs1:0<d.size:=by omega
  obtain ⟨b0,hbe⟩:∃ b0,d[0].toNat=b0:=⟨_,rfl⟩;have hb0:b0≠45:=by rw [←hbe];exact H45.o hs1
  have hbq:(((b0:Nat):Int) == 45)=false:=by rw [beq_eq_false_iff_ne];omega
  go_upto_region 2 with fail
  clear hb0 hbe
  go_loopw [2,3] (fun rv iv wr=>rv = .bool false∧∃ k:Nat,k≤d.size∧iv = .int .i64 k∧(∃ m,wr=w.drewN m)∧Shut (∀ j,j<k→okC ((bl d).getD j 0)=true)) (fun _ iv _=>d.size-(intOf iv).toNat)
  case atStart=>exact ⟨rfl,0,by omega,rfl,⟨0,rfl⟩,⟨fun j hj=>by omega⟩⟩
  case round =>
   obtain ⟨rfl,k,hk,rfl,⟨m,hw⟩,hall⟩:=hrel;have HW:Shut _:=⟨hw⟩;clear hw;by_cases hlt:k<d.size
   ·have hgk:=QeC d k hlt;by_cases hok:okC ((bl d).getD k 0)=true
    ·have hall2:Shut (∀ j,j<k+1→okC ((bl d).getD j 0)=true):=⟨fun j hj=>by
      by_cases e:j=k
      ·rw [e];exact hok
      ·exact hall.o j (by omega)⟩
     rw [hgk,okC,Bool.and_eq_true,decide_eq_true_eq,decide_eq_true_eq] at hok;obtain ⟨h1,h2⟩:=hok;clear hgk hall;go_wp2;exact ⟨⟨rfl,k+1,by omega,by go_num,⟨m,HW.o⟩,hall2⟩,by simp [intOf];omega⟩
    ·have HF:Shut (vr=false):=⟨HBAD.o k hlt (by simpa using hok)⟩;rw [hgk,okC,Bool.and_eq_true,decide_eq_true_eq,decide_eq_true_eq] at hok;clear hgk hall;by_cases h1:d[k].toNat<48
     ·go_wp2;go_ret;exact ⟨by rw [HF.o];rfl,m,HW.o⟩
     ·have h2:57<d[k].toNat:=by omega
      go_wp2;go_ret;exact ⟨by rw [HF.o];rfl,m,HW.o⟩
   ·obtain rfl:k=d.size:=by omega
    have HE:Shut _:=⟨HEND.o hall.o⟩;have HZ:Shut _:=⟨Qer d⟩;clear hall;by_cases h0:d.size=0
    ·have HF:Shut (vr=false):=⟨by rw [HE.o];exact decide_eq_false (by omega)⟩;go_wp2;go_ret;exact ⟨by rw [HF.o];rfl,m,HW.o⟩
    ·by_cases h200:200<d.size
     ·have HF:Shut (vr=false):=⟨by rw [HE.o];exact decide_eq_false (by omega)⟩;go_wp2;go_ret;exact ⟨by rw [HF.o];rfl,m,HW.o⟩
     ·have hp:0<d.size:=by omega
      have hg:=QhY d hp;by_cases hd:d=ba [48]
      ·have hzz:(d.toList == [48])=true:=by rw [HZ.o];exact decide_eq_true hd
       have HF:Shut (vr=true):=⟨by rw [HE.o];exact decide_eq_true ⟨hp,by omega,fun _=>HDZ.o hd⟩⟩;clear hd;go_wp2;go_ret;exact ⟨by rw [HF.o];rfl,m,HW.o⟩
      ·have hzz:(d.toList == [48])=false:=by rw [HZ.o];exact decide_eq_false hd
       by_cases h48:hd0 d=48
       ·have HF:Shut (vr=false):=⟨by rw [HE.o];exact decide_eq_false (fun h=>HNZ.o hd (h.2.2 h48))⟩;have hb:d[0].toNat=48:=by rw [hg];exact h48
        clear hd hg h48;go_wp2;go_ret;exact ⟨by rw [HF.o];rfl,m,HW.o⟩
       ·have HF:Shut (vr=true):=⟨by rw [HE.o];exact decide_eq_true ⟨hp,by omega,fun h=>absurd h h48⟩⟩;have hb:d[0].toNat≠48:=by rw [hg];exact h48
        have hb2:(((d[0].toNat:Nat):Int) == 48)=false:=by rw [beq_eq_false_iff_ne];omega
        have hb3:(((d[0].toNat:Nat):Int) != 48)=true:=by rw [bne,hb2];rfl
        clear hd hg h48;go_wp2;go_ret;exact ⟨by rw [HF.o];rfl,m,HW.o⟩
theorem Qoe (s : ByteArray) (hs : s.size ≤ 1000000) (h45 : hd0 s = 45) (w : World) :
    Calls Tryz.prog 169 #[Z s] w fun e w' => e = .returned (.bool (Qap s)) ∧ ∃ m, w' = w.drewN m := by
  have hbad := QiQ s;have hend := QiR s;obtain ⟨vr, hvr⟩ : ∃ vr, vr = Qap s := ⟨_, rfl⟩;rw [← hvr] at hbad hend ⊢;clear hvr
  have hp0 : 0 < s.size := by
    rcases Nat.eq_zero_or_pos s.size with h | h
    · rw [Qnq h] at h45; exact absurd h45 (by decide)
    · exact h
  have hb0 : s[0].toNat = 45 := by rw [QhY s hp0]; exact h45
  have hc := Qsx h45;rw [hc] at hbad hend;have hsz : s ≠ ba [48] := by rintro rfl; rw [hd0, Qgx] at h45; revert h45; decide
  obtain ⟨d, hd⟩ : ∃ d, s.extract 1 s.size = d := ⟨_, rfl⟩;have hds : d.size = s.size - 1 := by rw [← hd, ByteArray.size_extract]; omega
  rw [hd] at hbad hend;have HNZ : Shut (d ≠ ba [48] → s ≠ ba [48]) := ⟨fun _ => hsz⟩;have HBAD : Shut (∀ k, k < d.size → okC ((bl d).getD k 0) = false → vr = false) := ⟨hbad⟩;have HEND : Shut ((∀ j, j < d.size → okC ((bl d).getD j 0) = true) → vr = decide (0 < d.size ∧ d.size ≤ 200 ∧ (hd0 d = 48 → s = ba [48]))) := ⟨hend⟩
  have HZ0 : Shut (d = ba [48] → vr = false) := ⟨fun h => by
    rw [hend (by subst h; rw [Qgx]; intro j hj; have hz : (ba [48]).size = 1 := rfl; obtain rfl : j = 0 := by omega
                 decide)]
    exact decide_eq_false (fun c => hsz (c.2.2 (by rw [h, hd0, Qgx]; rfl)))⟩
  clear hbad hend hc h45 hsz;have hi1 : (1 : Int) ≤ (s.size : Int) := by omega
  by_cases hdz : d = ba [48]
  · have HF : Shut (vr = false) := ⟨HZ0.o hdz⟩
    have hzz : (d.toList == [48]) = true := by rw [Qer]; exact decide_eq_true hdz
    clear hdz;go_enter Tryz.func169, Tryz.ntmps169;go_wp2;go_ret;exact ⟨by rw [HF.o]; rfl, 0, rfl⟩
  · have hzz : (d.toList == [48]) = false := by rw [Qer]; exact decide_eq_false hdz
    have HND : Shut (d ≠ ba [48]) := ⟨hdz⟩;clear hdz;go_enter Tryz.func169, Tryz.ntmps169;go_upto_region 2 with fail
    go_upto_region 99 with fail
    go_loopw [2, 3] (fun rv iv wr => rv = .bool false ∧ ∃ k : Nat, k ≤ d.size ∧ iv = .int .i64 k ∧ (∃ m, wr = w.drewN m) ∧ Shut (∀ j, j < k → okC ((bl d).getD j 0) = true)) (fun _ iv _ => d.size - (intOf iv).toNat)
    case atStart => exact ⟨rfl, 0, by omega, rfl, ⟨0, rfl⟩, ⟨fun j hj => by omega⟩⟩
    case round =>
      obtain ⟨rfl, k, hk, rfl, ⟨m, hw⟩, hall⟩ := hrel;have HW : Shut _ := ⟨hw⟩;clear hw;by_cases hlt : k < d.size
      · have hgk := QeC d k hlt
        by_cases hok : okC ((bl d).getD k 0) = true
        · have hall2 : Shut (∀ j, j < k + 1 → okC ((bl d).getD j 0) = true) := ⟨fun j hj => by
            by_cases e : j = k
            · rw [e]; exact hok
            · exact hall.o j (by omega)⟩
          rw [hgk, okC, Bool.and_eq_true, decide_eq_true_eq, decide_eq_true_eq] at hok;obtain ⟨h1, h2⟩ := hok;clear hgk hall;go_wp2;exact ⟨⟨rfl, k + 1, by omega, by go_num, ⟨m, HW.o⟩, hall2⟩, by simp [intOf]; omega⟩
        · have HF : Shut (vr = false) := ⟨HBAD.o k hlt (by simpa using hok)⟩
          rw [hgk, okC, Bool.and_eq_true, decide_eq_true_eq, decide_eq_true_eq] at hok;clear hgk hall;by_cases h1 : d[k].toNat < 48
          · go_wp2
            go_ret;exact ⟨by rw [HF.o]; rfl, m, HW.o⟩
          · have h2 : 57 < d[k].toNat := by omega
            go_wp2;go_ret;exact ⟨by rw [HF.o]; rfl, m, HW.o⟩
      · obtain rfl : k = d.size := by omega
        have HE : Shut _ := ⟨HEND.o hall.o⟩;have HZ : Shut _ := ⟨Qer d⟩;clear hall;by_cases h0 : d.size = 0
        · have HF : Shut (vr = false) := ⟨by rw [HE.o]; exact decide_eq_false (by omega)⟩
          go_wp2;go_ret;exact ⟨by rw [HF.o]; rfl, m, HW.o⟩
        · by_cases h200 : 200 < d.size
          · have HF : Shut (vr = false) := ⟨by rw [HE.o]; exact decide_eq_false (by omega)⟩
            go_wp2;go_ret;exact ⟨by rw [HF.o]; rfl, m, HW.o⟩
          · have hp : 0 < d.size := by omega
            have hg := QhY d hp;by_cases hd : d = ba [48]
            · exact absurd hd HND.o
            · have hzz : (d.toList == [48]) = false := by rw [HZ.o]; exact decide_eq_false hd
              by_cases h48 : hd0 d = 48
              · have HF : Shut (vr = false) := ⟨by rw [HE.o]; exact decide_eq_false (fun h => HNZ.o hd (h.2.2 h48))⟩
                have hb : d[0].toNat = 48 := by rw [hg]; exact h48
                clear hd hg h48;go_wp2;go_ret;exact ⟨by rw [HF.o]; rfl, m, HW.o⟩
              · have HF : Shut (vr = true) := ⟨by rw [HE.o]; exact decide_eq_true ⟨hp, by omega, fun h => absurd h h48⟩⟩
                have hb : d[0].toNat ≠ 48 := by rw [hg]; exact h48
                have hb2 : (((d[0].toNat : Nat) : Int) == 48) = false := by rw [beq_eq_false_iff_ne]; omega
                have hb3 : (((d[0].toNat : Nat) : Int) != 48) = true := by rw [bne, hb2]; rfl
                clear hd hg h48;go_wp2;go_ret;exact ⟨by rw [HF.o]; rfl, m, HW.o⟩
theorem QbO (s:ByteArray) (hs:s.size≤1000000) (w:World) :
  Calls Tryz.prog 169 #[Z s] w fun e w'=>e = .returned (.bool (Qap s))∧∃ m,w'=w.drewN m:=by
 by_cases h:hd0 s=45
 ·exact Qoe s hs h w
 ·exact Qod s hs h w
theorem Qcx {z:Int} (h:Fits z):(natL z.natAbs).length≤200:=by rw [←QcD];exact h
theorem Qur (s:Bool) (n:Nat):sg (!s) n = - sg s n:=by cases s <;> simp [sg]
theorem Qus (a b:Bool) (m n:Nat):sg (a != b) (m*n)=sg a m*sg b n:=by cases a <;> cases b <;> simp [sg,Int.natCast_mul,Int.neg_mul,Int.mul_neg]
theorem Qsz {m n:Nat} (hm:(natL m).length≤200) (hn:(natL n).length≤200):(natL (m*n)).length≤1000:=by
 have h1:=QaI m;have h2:=QaI n;have h3:(natL (m*n)).length≤(natL m).length+(natL n).length:=Qat (by rw [Nat.pow_add];exact Nat.mul_lt_mul_of_lt_of_le h1 (Nat.le_of_lt h2) (Nat.pow_pos (by decide)));omega
theorem QaK (x:Int) (hx:Fits x) (w:World) :
  Calls Tryz.prog 169 #[Z (txt x)] w fun e w'=>e = .returned (.bool true)∧∃ m,w'=w.drewN m:=by
 have h:=QbO (txt x) (by have:=Qbm hx;omega) w;rw [Qax x hx] at h;exact h
theorem Qai {w w':World} (h:∃ m,w'=w.drewN m):Below w.heap.size w w':=by
 obtain ⟨m,rfl⟩:=h;exact Qag (Below.refl _ w) m
theorem Qmk (x y:Int) (hx:Fits x) (hy:Fits y) (h1:x<0) (h2:y<0) (w:World) :
  Calls Tryz.prog 170 #[Z (txt x),Z (txt y)] w fun e w'=>e = .returned (.int .i64 (cmpZ x y))∧Below w.heap.size w w':=by
 have lx:=Qcx hx;have ly:=Qcx hy;have ca:=fun W=>QaK x hx W;have cb:=fun W=>QaK y hy W;have dx:=fun W=>QaD x (by omega) W;have dy:=fun W=>QaD y (by omega) W;rw [decide_eq_true (by omega)] at dx;rw [decide_eq_true (by omega)] at dy;have hz:cmpZ x y=cmpN y.natAbs x.natAbs:=by unfold cmpZ cmpN;(repeat' split) <;> omega
 rw [hz];have co:=fun (va vb:Value) (W:World) (ha:NI W va (natL y.natAbs)) (hb:NI W vb (natL x.natAbs))=>QdK y.natAbs x.natAbs va vb W ha hb (by omega) (by omega);generalize cmpN y.natAbs x.natAbs=cv at *
 clear hz h1 h2 hx hy lx ly;generalize txt x=s at *
 generalize txt y=t at *
 generalize natL x.natAbs=kx at *
 generalize natL y.natAbs=ky at *
 go_enter Tryz.func170, Tryz.ntmps170;go_wp2_with (first | (go_at_call 169; with_reducible refine (ca _).mono ?_;rintro e w1 ⟨rfl,hm⟩;have hb1:=Qai hm;clear hm) | (go_at_call 169; with_reducible refine (cb _).mono ?_;rintro e w2 ⟨rfl,hm⟩;have hb2:=Qai hm;clear hm) | (go_at_call 207; with_reducible refine (dx _).mono ?_;rintro e w3 ⟨v3,rfl,hv3,hb3⟩) | (go_at_call 207; with_reducible refine (dy _).mono ?_;rintro e w4 ⟨v4,rfl,hv4,hb4⟩;have hv5:=hv3.below hb4 Lr) | (go_at_call 208; refine (co v4 v3 w4 hv4 hv5).mono ?_;rintro e w5 ⟨rfl,hm⟩;have hb5:=Qai hm;clear hm));go_ret;have q1:=hb1;have q2:=q1.trans (hb2.mono q1.size);have q3:=q2.trans (hb3.mono q2.size);have q4:=q3.trans (hb4.mono q3.size);exact ⟨rfl,q4.trans (hb5.mono q4.size)⟩
theorem Qml (x y:Int) (hx:Fits x) (hy:Fits y) (h1:x<0) (h2:0≤y) (w:World) :
  Calls Tryz.prog 170 #[Z (txt x),Z (txt y)] w fun e w'=>e = .returned (.int .i64 (cmpZ x y))∧Below w.heap.size w w':=by
 have lx:=Qcx hx;have ly:=Qcx hy;have ca:=fun W=>QaK x hx W;have cb:=fun W=>QaK y hy W;have dx:=fun W=>QaD x (by omega) W;have dy:=fun W=>QaD y (by omega) W;rw [decide_eq_true (by omega)] at dx;rw [decide_eq_false (by omega)] at dy;have hz:cmpZ x y = -1:=by unfold cmpZ;(repeat' split) <;> omega
 rw [hz];clear hz h1 h2 hx hy lx ly;generalize txt x=s at *
 generalize txt y=t at *
 generalize natL x.natAbs=kx at *
 generalize natL y.natAbs=ky at *
 go_enter Tryz.func170, Tryz.ntmps170;go_wp2_with (first | (go_at_call 169; with_reducible refine (ca _).mono ?_;rintro e w1 ⟨rfl,hm⟩;have hb1:=Qai hm;clear hm) | (go_at_call 169; with_reducible refine (cb _).mono ?_;rintro e w2 ⟨rfl,hm⟩;have hb2:=Qai hm;clear hm) | (go_at_call 207; with_reducible refine (dx _).mono ?_;rintro e w3 ⟨v3,rfl,hv3,hb3⟩) | (go_at_call 207; with_reducible refine (dy _).mono ?_;rintro e w4 ⟨v4,rfl,hv4,hb4⟩;have hv5:=hv3.below hb4 Lr) | fail);go_ret;have q1:=hb1;have q2:=q1.trans (hb2.mono q1.size);have q3:=q2.trans (hb3.mono q2.size);have q4:=q3.trans (hb4.mono q3.size);exact ⟨rfl,q4⟩
theorem Qmm (x y:Int) (hx:Fits x) (hy:Fits y) (h1:0≤x) (h2:y<0) (w:World) :
  Calls Tryz.prog 170 #[Z (txt x),Z (txt y)] w fun e w'=>e = .returned (.int .i64 (cmpZ x y))∧Below w.heap.size w w':=by
 have lx:=Qcx hx;have ly:=Qcx hy;have ca:=fun W=>QaK x hx W;have cb:=fun W=>QaK y hy W;have dx:=fun W=>QaD x (by omega) W;have dy:=fun W=>QaD y (by omega) W;rw [decide_eq_false (by omega)] at dx;rw [decide_eq_true (by omega)] at dy;have hz:cmpZ x y=1:=by unfold cmpZ;(repeat' split) <;> omega
 rw [hz];clear hz h1 h2 hx hy lx ly;generalize txt x=s at *
 generalize txt y=t at *
 generalize natL x.natAbs=kx at *
 generalize natL y.natAbs=ky at *
 go_enter Tryz.func170, Tryz.ntmps170;go_wp2_with (first | (go_at_call 169; with_reducible refine (ca _).mono ?_;rintro e w1 ⟨rfl,hm⟩;have hb1:=Qai hm;clear hm) | (go_at_call 169; with_reducible refine (cb _).mono ?_;rintro e w2 ⟨rfl,hm⟩;have hb2:=Qai hm;clear hm) | (go_at_call 207; with_reducible refine (dx _).mono ?_;rintro e w3 ⟨v3,rfl,hv3,hb3⟩) | (go_at_call 207; with_reducible refine (dy _).mono ?_;rintro e w4 ⟨v4,rfl,hv4,hb4⟩;have hv5:=hv3.below hb4 Lr) | fail);go_ret;have q1:=hb1;have q2:=q1.trans (hb2.mono q1.size);have q3:=q2.trans (hb3.mono q2.size);have q4:=q3.trans (hb4.mono q3.size);exact ⟨rfl,q4⟩
theorem Qmn (x y:Int) (hx:Fits x) (hy:Fits y) (h1:0≤x) (h2:0≤y) (w:World) :
  Calls Tryz.prog 170 #[Z (txt x),Z (txt y)] w fun e w'=>e = .returned (.int .i64 (cmpZ x y))∧Below w.heap.size w w':=by
 have lx:=Qcx hx;have ly:=Qcx hy;have ca:=fun W=>QaK x hx W;have cb:=fun W=>QaK y hy W;have dx:=fun W=>QaD x (by omega) W;have dy:=fun W=>QaD y (by omega) W;rw [decide_eq_false (by omega)] at dx;rw [decide_eq_false (by omega)] at dy;have hz:cmpZ x y=cmpN x.natAbs y.natAbs:=by unfold cmpZ cmpN;(repeat' split) <;> omega
 rw [hz];have co:=fun (va vb:Value) (W:World) (ha:NI W va (natL x.natAbs)) (hb:NI W vb (natL y.natAbs))=>QdK x.natAbs y.natAbs va vb W ha hb (by omega) (by omega);generalize cmpN x.natAbs y.natAbs=cv at *
 clear hz h1 h2 hx hy lx ly;generalize txt x=s at *
 generalize txt y=t at *
 generalize natL x.natAbs=kx at *
 generalize natL y.natAbs=ky at *
 go_enter Tryz.func170, Tryz.ntmps170;go_wp2_with (first | (go_at_call 169; with_reducible refine (ca _).mono ?_;rintro e w1 ⟨rfl,hm⟩;have hb1:=Qai hm;clear hm) | (go_at_call 169; with_reducible refine (cb _).mono ?_;rintro e w2 ⟨rfl,hm⟩;have hb2:=Qai hm;clear hm) | (go_at_call 207; with_reducible refine (dx _).mono ?_;rintro e w3 ⟨v3,rfl,hv3,hb3⟩) | (go_at_call 207; with_reducible refine (dy _).mono ?_;rintro e w4 ⟨v4,rfl,hv4,hb4⟩;have hv5:=hv3.below hb4 Lr) | (go_at_call 208; refine (co v3 v4 w4 hv5 hv4).mono ?_;rintro e w5 ⟨rfl,hm⟩;have hb5:=Qai hm;clear hm));go_ret;have q1:=hb1;have q2:=q1.trans (hb2.mono q1.size);have q3:=q2.trans (hb3.mono q2.size);have q4:=q3.trans (hb4.mono q3.size);exact ⟨rfl,q4.trans (hb5.mono q4.size)⟩
theorem QjT (x y:Int) (hx:Fits x) (hy:Fits y) (w:World) :
  Calls Tryz.prog 170 #[Z (txt x),Z (txt y)] w fun e w'=>e = .returned (.int .i64 (cmpZ x y))∧Below w.heap.size w w':=by
 by_cases h1:x<0 <;> by_cases h2:y<0
 ·exact Qmk x y hx hy h1 h2 w
 ·exact Qml x y hx hy h1 (by omega) w
 ·exact Qmm x y hx hy (by omega) h2 w
 ·exact Qmn x y hx hy (by omega) (by omega) w
theorem Qof (x y:Int) (hx:Fits x) (hy:Fits y) (w:World) :
  Calls Tryz.prog 245 #[Z (txt x),Z (txt y)] w fun e w'=>e = .returned (QcC (x+y))∧Below w.heap.size w w':=by
 have lx:=Qcx hx;have ly:=Qcx hy;have ca:=fun W=>QaK x hx W;have cb:=fun W=>QaK y hy W;have dx:=fun W=>QaD x (by omega) W;have dy:=fun W=>QaD y (by omega) W
 have cs:∀ (va vb:Value) (W:World),NI W va (natL x.natAbs)→NI W vb (natL y.natAbs)→Calls Tryz.prog 209 #[.bool (decide (x<0)),va,.bool (decide (y<0)),vb] W fun e w'=>e = .returned (QcC (x+y))∧Below W.heap.size W w':=fun va vb W ha hb=>by
  have h:=Qoc (decide (x<0)) (decide (y<0)) x.natAbs y.natAbs va vb W ha hb (by omega) (by omega);rw [QjS,QjS] at h;exact h
 generalize x+y=z at *
 obtain ⟨r,c,hr⟩:=Qca z;rw [hr] at cs ⊢;clear hr hx hy lx ly;generalize txt x=s at *
 generalize txt y=t at *
 generalize decide (x<0)=sx at *
 generalize decide (y<0)=sy at *
 generalize natL x.natAbs=kx at *
 generalize natL y.natAbs=ky at *
 go_enter Tryz.func245, Tryz.ntmps245;go_wp2_with (first | (go_at_call 169; with_reducible refine (ca _).mono ?_;rintro e w1 ⟨rfl,hm⟩;have hb1:=Qai hm;clear hm) | (go_at_call 169; with_reducible refine (cb _).mono ?_;rintro e w2 ⟨rfl,hm⟩;have hb2:=Qai hm;clear hm) | (go_at_call 207; with_reducible refine (dx _).mono ?_;rintro e w3 ⟨v3,rfl,hv3,hb3⟩) | (go_at_call 207; with_reducible refine (dy _).mono ?_;rintro e w4 ⟨v4,rfl,hv4,hb4⟩;have hv5:=hv3.below hb4 Lr) | (go_at_call 209; refine (cs v3 v4 w4 hv5 hv4).mono ?_;rintro e w5 ⟨rfl,hb5⟩))
 go_ret2
 have q1:=hb1;have q2:=q1.trans (hb2.mono q1.size);have q3:=q2.trans (hb3.mono q2.size);have q4:=q3.trans (hb4.mono q3.size);exact ⟨rfl,q4.trans (hb5.mono q4.size)⟩
theorem QjU (x y:Int) (hx:Fits x) (hy:Fits y) (w:World) :
  Calls Tryz.prog 171 #[Z (txt x),Z (txt y)] w fun e w'=>e = .returned (QcC (x-y))∧Below w.heap.size w w':=by
 have lx:=Qcx hx;have ly:=Qcx hy;have ca:=fun W=>QaK x hx W;have cb:=fun W=>QaK y hy W;have dx:=fun W=>QaD x (by omega) W;have dy:=fun W=>QaD y (by omega) W
 have cs:∀ (va vb:Value) (W:World),NI W va (natL x.natAbs)→NI W vb (natL y.natAbs)→Calls Tryz.prog 209 #[.bool (decide (x<0)),va,.bool (!decide (y<0)),vb] W fun e w'=>e = .returned (QcC (x-y))∧Below W.heap.size W w':=fun va vb W ha hb=>by
  have h:=Qoc (decide (x<0)) (!decide (y<0)) x.natAbs y.natAbs va vb W ha hb (by omega) (by omega);rw [Qur,QjS,QjS,←Int.sub_eq_add_neg] at h;exact h
 generalize x-y=z at *
 obtain ⟨r,c,hr⟩:=Qca z;rw [hr] at cs ⊢;clear hr hx hy lx ly;generalize txt x=s at *
 generalize txt y=t at *
 generalize decide (x<0)=sx at *
 generalize decide (y<0)=sy at *
 generalize natL x.natAbs=kx at *
 generalize natL y.natAbs=ky at *
 go_enter Tryz.func171, Tryz.ntmps171;go_wp2_with (first | (go_at_call 169; with_reducible refine (ca _).mono ?_;rintro e w1 ⟨rfl,hm⟩;have hb1:=Qai hm;clear hm) | (go_at_call 169; with_reducible refine (cb _).mono ?_;rintro e w2 ⟨rfl,hm⟩;have hb2:=Qai hm;clear hm) | (go_at_call 207; with_reducible refine (dx _).mono ?_;rintro e w3 ⟨v3,rfl,hv3,hb3⟩) | (go_at_call 207; with_reducible refine (dy _).mono ?_;rintro e w4 ⟨v4,rfl,hv4,hb4⟩;have hv5:=hv3.below hb4 Lr) | (go_at_call 209; refine (cs v3 v4 w4 hv5 hv4).mono ?_;rintro e w5 ⟨rfl,hb5⟩))
 go_ret2
 have q1:=hb1;have q2:=q1.trans (hb2.mono q1.size);have q3:=q2.trans (hb3.mono q2.size);have q4:=q3.trans (hb4.mono q3.size);exact ⟨rfl,q4.trans (hb5.mono q4.size)⟩
theorem Qog (x y:Int) (hx:Fits x) (hy:Fits y) (w:World) :
  Calls Tryz.prog 243 #[Z (txt x),Z (txt y)] w fun e w'=>e = .returned (QcC (x*y))∧Below w.heap.size w w':=by
 have lx:=Qcx hx;have ly:=Qcx hy;have ca:=fun W=>QaK x hx W;have cb:=fun W=>QaK y hy W;have dx:=fun W=>QaD x (by omega) W;have dy:=fun W=>QaD y (by omega) W;have ct:=fun (va vb:Value) (W:World) (ha:NI W va (natL x.natAbs)) (hb:NI W vb (natL y.natAbs))=>Qoa x.natAbs y.natAbs va vb W ha hb (by omega) (by omega);have hlen:=Qsz lx ly
 have cs:∀ (v:Value) (W:World),NI W v (natL (x.natAbs*y.natAbs))→Calls Tryz.prog 211 #[.bool (decide (x<0) != decide (y<0)),v] W fun e w'=>e = .returned (QcC (x*y))∧Below W.heap.size W w':=fun v W h=>by
  have hc:=Qbg (decide (x<0) != decide (y<0)) (x.natAbs*y.natAbs) v W h hlen;rw [Qus,QjS,QjS] at hc;exact hc
 clear hlen;generalize natL (x.natAbs*y.natAbs)=kz at *
 generalize x*y=z at *
 obtain ⟨r,c,hr⟩:=Qca z;rw [hr] at cs ⊢;clear hr hx hy lx ly;generalize txt x=s at *
 generalize txt y=t at *
 generalize decide (x<0)=sx at *
 generalize decide (y<0)=sy at *
 generalize natL x.natAbs=kx at *
 generalize natL y.natAbs=ky at *
 go_enter Tryz.func243, Tryz.ntmps243;go_wp2_with (first | (go_at_call 169; with_reducible refine (ca _).mono ?_;rintro e w1 ⟨rfl,hm⟩;have hb1:=Qai hm;clear hm) | (go_at_call 169; with_reducible refine (cb _).mono ?_;rintro e w2 ⟨rfl,hm⟩;have hb2:=Qai hm;clear hm) | (go_at_call 207; with_reducible refine (dx _).mono ?_;rintro e w3 ⟨v3,rfl,hv3,hb3⟩) | (go_at_call 207; with_reducible refine (dy _).mono ?_;rintro e w4 ⟨v4,rfl,hv4,hb4⟩;have hv5:=hv3.below hb4 Lr) | (go_at_call 246; refine (ct v3 v4 w4 hv5 hv4).mono ?_;rintro e w5 ⟨v5,rfl,hw5,hb5⟩) | (go_at_call 211; refine (cs v5 w5 hw5).mono ?_;rintro e w6 ⟨rfl,hb6⟩))
 go_ret2
 have q1:=hb1;have q2:=q1.trans (hb2.mono q1.size);have q3:=q2.trans (hb3.mono q2.size);have q4:=q3.trans (hb4.mono q3.size);have q5:=q4.trans (hb5.mono q4.size);exact ⟨rfl,q5.trans (hb6.mono q5.size)⟩
/-! ### what is not valid -/
theorem Qgi (s t:ByteArray) (hs:s.size≤1000000) (ht:t.size≤1000000) (h:Qap s=false∨Qap t=false) (w:World) :
  Calls Tryz.prog 170 #[Z s,Z t] w fun e w'=>e = .returned (.int .i64 0)∧Below w.heap.size w w':=by
 have ca:=fun W=>QbO s hs W;have cb:=fun W=>QbO t ht W;clear hs ht;generalize Qap s=bs at *
 generalize Qap t=bt at *
 go_enter Tryz.func170, Tryz.ntmps170;cases bs
 ·clear h;go_wp2_with (go_at_call 169; with_reducible refine (ca _).mono ?_;rintro e w1 ⟨rfl,hm⟩;have hb1:=Qai hm;clear hm);go_ret;exact ⟨rfl,hb1⟩
 ·obtain rfl:bt=false:=by simpa using h
  clear h;go_wp2_with (first | (go_at_call 169; with_reducible refine (ca _).mono ?_;rintro e w1 ⟨rfl,hm⟩;have hb1:=Qai hm;clear hm) | (go_at_call 169; with_reducible refine (cb _).mono ?_;rintro e w2 ⟨rfl,hm⟩;have hb2:=Qai hm;clear hm));go_ret;exact ⟨rfl,hb1.trans (hb2.mono hb1.size)⟩
theorem Qny (s t:ByteArray) (hs:s.size≤1000000) (ht:t.size≤1000000) (h:Qap s=false∨Qap t=false) (w:World) :
  Calls Tryz.prog 245 #[Z s,Z t] w fun e w'=>e = .returned (.tuple #[Z ⟨#[]⟩,.int .i64 30])∧Below w.heap.size w w':=by
 have ca:=fun W=>QbO s hs W;have cb:=fun W=>QbO t ht W;clear hs ht;generalize Qap s=bs at *
 generalize Qap t=bt at *
 go_enter Tryz.func245, Tryz.ntmps245;cases bs
 ·clear h;go_wp2_with (go_at_call 169; with_reducible refine (ca _).mono ?_;rintro e w1 ⟨rfl,hm⟩;have hb1:=Qai hm;clear hm)
  go_ret2
  exact ⟨rfl,hb1⟩
 ·obtain rfl:bt=false:=by simpa using h
  clear h;go_wp2_with (first | (go_at_call 169; with_reducible refine (ca _).mono ?_;rintro e w1 ⟨rfl,hm⟩;have hb1:=Qai hm;clear hm) | (go_at_call 169; with_reducible refine (cb _).mono ?_;rintro e w2 ⟨rfl,hm⟩;have hb2:=Qai hm;clear hm))
  go_ret2
  exact ⟨rfl,hb1.trans (hb2.mono hb1.size)⟩
theorem Qnz (s t:ByteArray) (hs:s.size≤1000000) (ht:t.size≤1000000) (h:Qap s=false∨Qap t=false) (w:World) :
  Calls Tryz.prog 171 #[Z s,Z t] w fun e w'=>e = .returned (.tuple #[Z ⟨#[]⟩,.int .i64 30])∧Below w.heap.size w w':=by
 have ca:=fun W=>QbO s hs W;have cb:=fun W=>QbO t ht W;clear hs ht;generalize Qap s=bs at *
 generalize Qap t=bt at *
 go_enter Tryz.func171, Tryz.ntmps171;cases bs
 ·clear h;go_wp2_with (go_at_call 169; with_reducible refine (ca _).mono ?_;rintro e w1 ⟨rfl,hm⟩;have hb1:=Qai hm;clear hm)
  go_ret2
  exact ⟨rfl,hb1⟩
 ·obtain rfl:bt=false:=by simpa using h
  clear h;go_wp2_with (first | (go_at_call 169; with_reducible refine (ca _).mono ?_;rintro e w1 ⟨rfl,hm⟩;have hb1:=Qai hm;clear hm) | (go_at_call 169; with_reducible refine (cb _).mono ?_;rintro e w2 ⟨rfl,hm⟩;have hb2:=Qai hm;clear hm))
  go_ret2
  exact ⟨rfl,hb1.trans (hb2.mono hb1.size)⟩
theorem QnA (s t:ByteArray) (hs:s.size≤1000000) (ht:t.size≤1000000) (h:Qap s=false∨Qap t=false) (w:World) :
  Calls Tryz.prog 243 #[Z s,Z t] w fun e w'=>e = .returned (.tuple #[Z ⟨#[]⟩,.int .i64 30])∧Below w.heap.size w w':=by
 have ca:=fun W=>QbO s hs W;have cb:=fun W=>QbO t ht W;clear hs ht;generalize Qap s=bs at *
 generalize Qap t=bt at *
 go_enter Tryz.func243, Tryz.ntmps243;cases bs
 ·clear h;go_wp2_with (go_at_call 169; with_reducible refine (ca _).mono ?_;rintro e w1 ⟨rfl,hm⟩;have hb1:=Qai hm;clear hm)
  go_ret2
  exact ⟨rfl,hb1⟩
 ·obtain rfl:bt=false:=by simpa using h
  clear h;go_wp2_with (first | (go_at_call 169; with_reducible refine (ca _).mono ?_;rintro e w1 ⟨rfl,hm⟩;have hb1:=Qai hm;clear hm) | (go_at_call 169; with_reducible refine (cb _).mono ?_;rintro e w2 ⟨rfl,hm⟩;have hb2:=Qai hm;clear hm))
  go_ret2
  exact ⟨rfl,hb1.trans (hb2.mono hb1.size)⟩
theorem Qgy {x y:Int} (hx:Fits x) (hy:y≠0):Fits (x / y):=by
 have h0:(x / y).natAbs≤x.natAbs:=by
  by_cases hc:x<0∧0<x.natAbs % y.natAbs
  ·obtain ⟨_,h2,_,_⟩:=Qdg x y hy _ _ (.inr ⟨hc.1,hc.2,rfl,rfl⟩)
   have hy2:2≤y.natAbs:=by
    rcases Nat.lt_or_ge y.natAbs 2 with h | h
    ·have h1:y.natAbs=1:=by omega
     rw [h1,Nat.mod_one] at hc;omega
    ·exact h
   have h3:x.natAbs / y.natAbs≤x.natAbs / 2:=Nat.div_le_div_left hy2 (by decide);omega
  ·obtain ⟨_,h2,_,_⟩:=Qdg x y hy _ _ (.inl ⟨hc,rfl,rfl⟩);have:=Nat.div_le_self x.natAbs y.natAbs;omega
 unfold Fits;rw [QcD];exact Nat.le_trans (Qal h0) (Qcx hx)
theorem Qut (W:World):NI (W.alloc (O #[.int .i64 1] 3)) (.slice (some ⟨W.heap.size,0,none⟩) 1 1) (natL 1):=by
 have h:natL 1 = [1]:=by decide +kernel
 rw [h];exact (OwnJ.one W 0 1 (Nat.zero_le _)).ni
theorem QjV (x y:Int) (hy:y≠0) (Q R:Nat) (h:(¬(x<0∧0<x.natAbs % y.natAbs)∧Q=x.natAbs / y.natAbs∧R=x.natAbs % y.natAbs)∨(x<0∧0<x.natAbs % y.natAbs∧Q=x.natAbs / y.natAbs+1∧R=y.natAbs-x.natAbs % y.natAbs)) :
  sg (decide (x<0) != decide (y<0)) Q=x / y∧sg false R=x % y:=by
 obtain ⟨h1,h2⟩:=QkB x y hy Q R h;rw [h1,h2];cases decide (x<0) <;> cases decide (y<0) <;> exact ⟨rfl,rfl⟩
theorem QsA (x y:Int) (hx:Fits x) (hy:Fits y) (h0:y≠0) (hs:0≤x) (w:World) :
  Calls Tryz.prog 173 #[Z (txt x),Z (txt y)] w fun e w'=>e = .returned (.tuple #[Z (txt (x / y)),Z (txt (x % y)),.int .i64 0])∧Below w.heap.size w w':=by
 have lx:=Qcx hx;have ly:=Qcx hy;have ca:=fun W=>QaK x hx W;have cb:=fun W=>QaK y hy W;have dx:=fun W=>QaD x (by omega) W;have dy:=fun W=>QaD y (by omega) W;have hf:=Qgy hx h0
 have hz:((txt y).toList == [48])=false:=by
  rw [Qer,decide_eq_false_iff_not];intro e;exact h0 (Qcv (e.trans txt_0.symm))
 have hn0:y.natAbs≠0:=by omega
 have hmod:=Nat.mod_lt x.natAbs (show 0<y.natAbs by omega);have cd:=fun (va vb:Value) (W:World) (ha:NI W va (natL x.natAbs)) (hb:NI W vb (natL y.natAbs))=>Qds x.natAbs y.natAbs hn0 va vb W ha hb (by omega) (by omega);have hQR:=QjV x y h0 (x.natAbs / y.natAbs) (x.natAbs % y.natAbs) (.inl ⟨by omega,rfl,rfl⟩);have hlQ:(natL (x.natAbs / y.natAbs)).length≤1000:=by have:=Qgw (nx:=x.natAbs / y.natAbs) (ny:=1) (k:=200) (Nat.le_trans (Qal (Nat.div_le_self _ _)) lx) (by decide +kernel);have h2:=Qal (show x.natAbs / y.natAbs≤x.natAbs / y.natAbs+1 by omega);omega
 have hlR:(natL (x.natAbs % y.natAbs)).length≤1000:=by have h2:=Qal (show x.natAbs % y.natAbs≤y.natAbs by omega);omega
 have cs:∀ (v:Value) (W:World),NI W v (natL (x.natAbs / y.natAbs))→Calls Tryz.prog 211 #[.bool (decide (x<0) != decide (y<0)),v] W fun e w'=>e = .returned (.tuple #[Z (txt (x / y)),.int .i64 0])∧Below W.heap.size W w':=fun v W h=>by
  have hc:=Qbg (decide (x<0) != decide (y<0)) (x.natAbs / y.natAbs) v W h hlQ;rw [hQR.1,Qav hf] at hc;exact hc
 have cx:∀ (v:Value) (W:World),NI W v (natL (x.natAbs % y.natAbs))→Calls Tryz.prog 174 #[.bool false,v] W fun e w'=>e = .returned (.tuple #[Z (txt (x % y)),.bool (decide ((natL (x.natAbs % y.natAbs)).length≤200))])∧Below W.heap.size W w':=fun v W h=>by
  have hc:=QdL (x.natAbs % y.natAbs) false v W h hlR;rw [hQR.2] at hc;exact hc
 rw [decide_eq_false (show ¬ x<0 by omega)] at dx cs;clear hQR hf hx hy;clear hn0 hmod hlQ hlR lx ly h0 hs;generalize txt x=s at *
 generalize txt y=t at *
 generalize decide (y<0)=sy at *
 simp only [Bool.false_bne] at cs;generalize txt (x / y)=tq at *
 generalize txt (x % y)=tr at *
 generalize decide ((natL (x.natAbs % y.natAbs)).length≤200)=fb at *
 generalize natL x.natAbs=kx at *
 generalize natL y.natAbs=ky at *
 generalize natL (x.natAbs / y.natAbs)=kq at *
 generalize natL (x.natAbs % y.natAbs)=kr at *
 go_enter Tryz.func173, Tryz.ntmps173;go_wp2_with (first | (go_at_call 169; with_reducible refine (ca _).mono ?_;rintro e w1 ⟨rfl,hm⟩;have hb1:=Qai hm;clear hm) | (go_at_call 169; with_reducible refine (cb _).mono ?_;rintro e w2 ⟨rfl,hm⟩;have hb2:=Qai hm;clear hm) | (go_at_call 207; with_reducible refine (dx _).mono ?_;rintro e w3 ⟨v3,rfl,hv3,hb3⟩) | (go_at_call 207; with_reducible refine (dy _).mono ?_;rintro e w4 ⟨v4,rfl,hv4,hb4⟩;have hv5:=hv3.below hb4 Lr) | (go_at_call 210; with_reducible refine (cd v3 v4 w4 hv5 hv4).mono ?_;rintro e w5 ⟨vq,vr,rfl,hq,hr,hb5⟩;have hr0:=hr;obtain ⟨pr,cr,gr,og,rfl,_,_,_,_⟩:=hr.open;(try rw [hkr] at hr0)) | fail | (go_at_call 211; with_reducible refine (cs vq w5 hq).mono ?_;rintro e w7 ⟨rfl,hb7⟩) | (go_at_call 174; with_reducible refine (cx _ _ (hr0.below hb7 Lr)).mono ?_;rintro e w8 ⟨rfl,hb8⟩))
 go_ret3
 have q1:=hb1;have q2:=q1.trans (hb2.mono q1.size);have q3:=q2.trans (hb3.mono q2.size);have q4:=q3.trans (hb4.mono q3.size);have q5:=q4.trans (hb5.mono q4.size);have q7:=q5.trans (hb7.mono q5.size);exact ⟨rfl,q7.trans (hb8.mono q7.size)⟩
theorem QpY (x y:Int) (hx:Fits x) (hy:Fits y) (h0:y≠0) (hs:x<0) (hr1:x.natAbs % y.natAbs=0) (w:World) :
  Calls Tryz.prog 173 #[Z (txt x),Z (txt y)] w fun e w'=>e = .returned (.tuple #[Z (txt (x / y)),Z (txt (x % y)),.int .i64 0])∧Below w.heap.size w w':=by
 have lx:=Qcx hx;have ly:=Qcx hy;have ca:=fun W=>QaK x hx W;have cb:=fun W=>QaK y hy W;have dx:=fun W=>QaD x (by omega) W;have dy:=fun W=>QaD y (by omega) W;have hf:=Qgy hx h0
 have hz:((txt y).toList == [48])=false:=by
  rw [Qer,decide_eq_false_iff_not];intro e;exact h0 (Qcv (e.trans txt_0.symm))
 have hn0:y.natAbs≠0:=by omega
 have hmod:=Nat.mod_lt x.natAbs (show 0<y.natAbs by omega);have cd:=fun (va vb:Value) (W:World) (ha:NI W va (natL x.natAbs)) (hb:NI W vb (natL y.natAbs))=>Qds x.natAbs y.natAbs hn0 va vb W ha hb (by omega) (by omega);have hQR:=QjV x y h0 (x.natAbs / y.natAbs) (x.natAbs % y.natAbs) (.inl ⟨by omega,rfl,rfl⟩);have hlQ:(natL (x.natAbs / y.natAbs)).length≤1000:=by have:=Qgw (nx:=x.natAbs / y.natAbs) (ny:=1) (k:=200) (Nat.le_trans (Qal (Nat.div_le_self _ _)) lx) (by decide +kernel);have h2:=Qal (show x.natAbs / y.natAbs≤x.natAbs / y.natAbs+1 by omega);omega
 have hlR:(natL (x.natAbs % y.natAbs)).length≤1000:=by have h2:=Qal (show x.natAbs % y.natAbs≤y.natAbs by omega);omega
 have cs:∀ (v:Value) (W:World),NI W v (natL (x.natAbs / y.natAbs))→Calls Tryz.prog 211 #[.bool (decide (x<0) != decide (y<0)),v] W fun e w'=>e = .returned (.tuple #[Z (txt (x / y)),.int .i64 0])∧Below W.heap.size W w':=fun v W h=>by
  have hc:=Qbg (decide (x<0) != decide (y<0)) (x.natAbs / y.natAbs) v W h hlQ;rw [hQR.1,Qav hf] at hc;exact hc
 have cx:∀ (v:Value) (W:World),NI W v (natL (x.natAbs % y.natAbs))→Calls Tryz.prog 174 #[.bool false,v] W fun e w'=>e = .returned (.tuple #[Z (txt (x % y)),.bool (decide ((natL (x.natAbs % y.natAbs)).length≤200))])∧Below W.heap.size W w':=fun v W h=>by
  have hc:=QdL (x.natAbs % y.natAbs) false v W h hlR;rw [hQR.2] at hc;exact hc
 have hkr:(natL (x.natAbs % y.natAbs)).length=0:=QaF.2 hr1;rw [decide_eq_true hs] at dx cs;clear hQR hf hx hy;clear hn0 hmod hlQ hlR lx ly h0 hs hr1;generalize txt x=s at *
 generalize txt y=t at *
 generalize decide (y<0)=sy at *
 simp only [Bool.true_bne] at cs;generalize txt (x / y)=tq at *
 generalize txt (x % y)=tr at *
 generalize decide ((natL (x.natAbs % y.natAbs)).length≤200)=fb at *
 generalize natL x.natAbs=kx at *
 generalize natL y.natAbs=ky at *
 generalize natL (x.natAbs / y.natAbs)=kq at *
 generalize natL (x.natAbs % y.natAbs)=kr at *
 go_enter Tryz.func173, Tryz.ntmps173;go_wp2_with (first | (go_at_call 169; with_reducible refine (ca _).mono ?_;rintro e w1 ⟨rfl,hm⟩;have hb1:=Qai hm;clear hm) | (go_at_call 169; with_reducible refine (cb _).mono ?_;rintro e w2 ⟨rfl,hm⟩;have hb2:=Qai hm;clear hm) | (go_at_call 207; with_reducible refine (dx _).mono ?_;rintro e w3 ⟨v3,rfl,hv3,hb3⟩) | (go_at_call 207; with_reducible refine (dy _).mono ?_;rintro e w4 ⟨v4,rfl,hv4,hb4⟩;have hv5:=hv3.below hb4 Lr) | (go_at_call 210; with_reducible refine (cd v3 v4 w4 hv5 hv4).mono ?_;rintro e w5 ⟨vq,vr,rfl,hq,hr,hb5⟩;have hr0:=hr;obtain ⟨pr,cr,gr,og,rfl,_,_,_,_⟩:=hr.open;(try rw [hkr] at hr0)) | fail | (go_at_call 211; with_reducible refine (cs vq w5 hq).mono ?_;rintro e w7 ⟨rfl,hb7⟩) | (go_at_call 174; with_reducible refine (cx _ _ (hr0.below hb7 Lr)).mono ?_;rintro e w8 ⟨rfl,hb8⟩))
 go_ret3
 have q1:=hb1;have q2:=q1.trans (hb2.mono q1.size);have q3:=q2.trans (hb3.mono q2.size);have q4:=q3.trans (hb4.mono q3.size);have q5:=q4.trans (hb5.mono q4.size);have q7:=q5.trans (hb7.mono q5.size);exact ⟨rfl,q7.trans (hb8.mono q7.size)⟩
theorem QsB (x y:Int) (hx:Fits x) (hy:Fits y) (h0:y≠0) (hs:x<0) (hr1:0<x.natAbs % y.natAbs) (w:World) :
  Calls Tryz.prog 173 #[Z (txt x),Z (txt y)] w fun e w'=>e = .returned (.tuple #[Z (txt (x / y)),Z (txt (x % y)),.int .i64 0])∧Below w.heap.size w w':=by
 have lx:=Qcx hx;have ly:=Qcx hy;have ca:=fun W=>QaK x hx W;have cb:=fun W=>QaK y hy W;have dx:=fun W=>QaD x (by omega) W;have dy:=fun W=>QaD y (by omega) W;have hf:=Qgy hx h0
 have hz:((txt y).toList == [48])=false:=by
  rw [Qer,decide_eq_false_iff_not];intro e;exact h0 (Qcv (e.trans txt_0.symm))
 have hn0:y.natAbs≠0:=by omega
 have hmod:=Nat.mod_lt x.natAbs (show 0<y.natAbs by omega);have cd:=fun (va vb:Value) (W:World) (ha:NI W va (natL x.natAbs)) (hb:NI W vb (natL y.natAbs))=>Qds x.natAbs y.natAbs hn0 va vb W ha hb (by omega) (by omega);have hQR:=QjV x y h0 (x.natAbs / y.natAbs+1) (y.natAbs-x.natAbs % y.natAbs) (.inr ⟨hs,hr1,rfl,rfl⟩);have hlQ:(natL (x.natAbs / y.natAbs+1)).length≤1000:=by have:=Qgw (nx:=x.natAbs / y.natAbs) (ny:=1) (k:=200) (Nat.le_trans (Qal (Nat.div_le_self _ _)) lx) (by decide +kernel);have h2:=Qal (show x.natAbs / y.natAbs+1≤x.natAbs / y.natAbs+1 by omega);omega
 have hlR:(natL (y.natAbs-x.natAbs % y.natAbs)).length≤1000:=by have h2:=Qal (show y.natAbs-x.natAbs % y.natAbs≤y.natAbs by omega);omega
 have cs:∀ (v:Value) (W:World),NI W v (natL (x.natAbs / y.natAbs+1))→Calls Tryz.prog 211 #[.bool (decide (x<0) != decide (y<0)),v] W fun e w'=>e = .returned (.tuple #[Z (txt (x / y)),.int .i64 0])∧Below W.heap.size W w':=fun v W h=>by
  have hc:=Qbg (decide (x<0) != decide (y<0)) (x.natAbs / y.natAbs+1) v W h hlQ;rw [hQR.1,Qav hf] at hc;exact hc
 have cx:∀ (v:Value) (W:World),NI W v (natL (y.natAbs-x.natAbs % y.natAbs))→Calls Tryz.prog 174 #[.bool false,v] W fun e w'=>e = .returned (.tuple #[Z (txt (x % y)),.bool (decide ((natL (y.natAbs-x.natAbs % y.natAbs)).length≤200))])∧Below W.heap.size W w':=fun v W h=>by
  have hc:=QdL (y.natAbs-x.natAbs % y.natAbs) false v W h hlR;rw [hQR.2] at hc;exact hc
 have hkr:0<(natL (x.natAbs % y.natAbs)).length:=by
  rcases Nat.eq_zero_or_pos (natL (x.natAbs % y.natAbs)).length with h | h
  ·have:=QaF.1 h;omega
  ·exact h
 have hlq:(natL (x.natAbs / y.natAbs)).length≤1000:=by have:=Qal (Nat.div_le_self x.natAbs y.natAbs);omega
 have cp:=fun (va vb:Value) (W:World) (ha:NI W va (natL (x.natAbs / y.natAbs))) (hb:NI W vb (natL 1))=>QhW (x.natAbs / y.natAbs) 1 va vb W ha hb (by omega) (Nat.le_trans (show (natL 1).length≤1 by decide +kernel) (by decide));have cm:=fun (va vb:Value) (W:World) (ha:NI W va (natL y.natAbs)) (hb:NI W vb (natL (x.natAbs % y.natAbs)))=>Qdi y.natAbs (x.natAbs % y.natAbs) (by omega) va vb W ha hb (by omega);clear hlq;rw [decide_eq_true hs] at dx cs;clear hQR hf hx hy;clear hn0 hmod hlQ hlR lx ly h0 hs hr1;generalize txt x=s at *
 generalize txt y=t at *
 generalize decide (y<0)=sy at *
 simp only [Bool.true_bne] at cs;generalize txt (x / y)=tq at *
 generalize txt (x % y)=tr at *
 generalize decide ((natL (y.natAbs-x.natAbs % y.natAbs)).length≤200)=fb at *
 generalize natL (x.natAbs / y.natAbs+1)=kq1 at *
 generalize natL (y.natAbs-x.natAbs % y.natAbs)=kr1 at *
 generalize natL x.natAbs=kx at *
 generalize natL y.natAbs=ky at *
 generalize natL (x.natAbs / y.natAbs)=kq at *
 generalize natL (x.natAbs % y.natAbs)=kr at *
 have hki:(0:Int)<(kr.length:Int):=by omega
 go_enter Tryz.func173, Tryz.ntmps173;go_wp2_with (first | (go_at_call 169; with_reducible refine (ca _).mono ?_;rintro e w1 ⟨rfl,hm⟩;have hb1:=Qai hm;clear hm) | (go_at_call 169; with_reducible refine (cb _).mono ?_;rintro e w2 ⟨rfl,hm⟩;have hb2:=Qai hm;clear hm) | (go_at_call 207; with_reducible refine (dx _).mono ?_;rintro e w3 ⟨v3,rfl,hv3,hb3⟩) | (go_at_call 207; with_reducible refine (dy _).mono ?_;rintro e w4 ⟨v4,rfl,hv4,hb4⟩;have hv5:=hv3.below hb4 Lr) | (go_at_call 210; with_reducible refine (cd v3 v4 w4 hv5 hv4).mono ?_;rintro e w5 ⟨vq,vr,rfl,hq,hr,hb5⟩;have hr0:=hr;obtain ⟨pr,cr,gr,og,rfl,_,_,_,_⟩:=hr.open;(try rw [hkr] at hr0)) | (go_at_call 212; with_reducible refine (cp vq _ _ (hq.below ((Below.refl _ w5).alloc Lr _) Lr) (Qut w5)).mono ?_;rintro e w6 ⟨v6,rfl,hq6,hb6a⟩;have hA:=(Below.refl w5.heap.size w5).alloc Lr (O #[.int .i64 1] 3);have hb6:=hA.trans (hb6a.mono hA.size);clear hA hb6a;have hv6:=(hv4.below hb5 Lr).below hb6 Lr;have hr6:=hr0.below hb6 Lr) | (go_at_call 213; with_reducible refine (cm v4 _ w6 hv6 hr6).mono ?_;rintro e w9 ⟨v9,rfl,hv9,_,hb9⟩;have hq9:=hq6.below hb9 Lr) | (go_at_call 211; with_reducible refine (cs v6 w9 hq9).mono ?_;rintro e w7 ⟨rfl,hb7⟩) | (go_at_call 174; with_reducible refine (cx v9 _ (hv9.below hb7 Lr)).mono ?_;rintro e w8 ⟨rfl,hb8⟩))
 go_ret3
 have q1:=hb1;have q2:=q1.trans (hb2.mono q1.size);have q3:=q2.trans (hb3.mono q2.size);have q4:=q3.trans (hb4.mono q3.size);have q5:=q4.trans (hb5.mono q4.size);have q6:=q5.trans (hb6.mono q5.size);have q9:=q6.trans (hb9.mono q6.size);have q7:=q9.trans (hb7.mono q9.size);exact ⟨rfl,q7.trans (hb8.mono q7.size)⟩
theorem QsC (x y:Int) (hx:Fits x) (hy:Fits y) (h0:y≠0) (w:World) :
  Calls Tryz.prog 173 #[Z (txt x),Z (txt y)] w fun e w'=>e = .returned (.tuple #[Z (txt (x / y)),Z (txt (x % y)),.int .i64 0])∧Below w.heap.size w w':=by
 by_cases hs:x<0
 ·rcases Nat.eq_zero_or_pos (x.natAbs % y.natAbs) with h | h
  ·exact QpY x y hx hy h0 hs h w
  ·exact QsB x y hx hy h0 hs h w
 ·exact QsA x y hx hy h0 (by omega) w
def GR (w wr:World) (kv lv:Value) (a b G:Nat):Prop :=
 NI wr kv (natL a)∧NI wr lv (natL b)∧(natL a).length≤200∧(natL b).length≤200∧Nat.gcd a b=G∧Below w.heap.size w wr
theorem QsD (x y:Int) (hx:Fits x) (hy:Fits y) (w:World) :
  Calls Tryz.prog 172 #[Z (txt x),Z (txt y)] w fun e w'=>e = .returned (.tuple #[Z (txt (Nat.gcd x.natAbs y.natAbs:Nat)),.int .i64 0])∧Below w.heap.size w w':=by
 have lx:=Qcx hx;have ly:=Qcx hy;have ca:=fun W=>QaK x hx W;have cb:=fun W=>QaK y hy W;have dx:=fun W=>QaD x (by omega) W;have dy:=fun W=>QaD y (by omega) W;generalize txt x=s at *
 generalize txt y=t at *
 clear hx hy;obtain ⟨G,hG⟩:∃ G,G=Nat.gcd x.natAbs y.natAbs:=⟨_,rfl⟩;rw [←hG];obtain ⟨r,hr⟩:∃ r,r=txt (G:Int):=⟨_,rfl⟩;rw [←hr];have HR:Shut _:=⟨hr⟩;clear hr;generalize decide (x<0)=sx at *
 generalize decide (y<0)=sy at *
 generalize x.natAbs=a0 at *
 generalize y.natAbs=b0 at *
 clear x y;have HL:Shut _:=⟨And.intro lx (And.intro ly hG)⟩;clear lx ly hG;go_enter Tryz.func172, Tryz.ntmps172;go_wp2_with (first | (go_at_call 169; with_reducible refine (ca _).mono ?_;rintro e w1 ⟨rfl,hm⟩;have hb1:=Qai hm;clear hm) | (go_at_call 169; with_reducible refine (cb _).mono ?_;rintro e w2 ⟨rfl,hm⟩;have hb2:=Qai hm;clear hm) | (go_at_call 207; with_reducible refine (dx _).mono ?_;rintro e w3 ⟨v3,rfl,hv3,hb3⟩) | (go_at_call 207; with_reducible refine (dy _).mono ?_;rintro e w4 ⟨v4,rfl,hv4,hb4⟩;have hv5:=hv3.below hb4 Lr));have q1:=hb1;have q2:=q1.trans (hb2.mono q1.size);have q3:=q2.trans (hb3.mono q2.size);have q4:=q3.trans (hb4.mono q3.size);have HS:Shut (GR w w4 v3 v4 a0 b0 G):=⟨⟨hv5,hv4,HL.o.1,HL.o.2.1,HL.o.2.2.symm,q4⟩⟩;clear hv3 hv4 hv5 hb1 hb2 hb3 hb4 q1 q2 q3 q4 HL ca cb dx dy
 go_loopw [7,9] (fun kv lv wr=>∃ a b:Nat,Shut (GR w wr kv lv a b G)) (fun _ lv wr=>numI wr lv)
 case atStart=>exact ⟨a0,b0,HS⟩
 case round =>
  rename World=>wo
  clear HS;obtain ⟨a,b,hS⟩:=hrel;obtain ⟨pl,cl,gl,ol,rfl,_,_,_,_⟩:=hS.o.2.1.open;obtain ⟨nl,hnl⟩:∃ nl,nl=(natL b).length:=⟨_,rfl⟩;have HNL:Shut _:=⟨hnl⟩;rw [←hnl] at hS ⊢;clear hnl;by_cases hb0:b=0
  ·have hn0:nl=0:=by rw [HNL.o,hb0,Qau];rfl
   have hc:=Qbg false G u7 wo (by have:=hS.o.1;have h2:=hS.o.2.2.2.2.1;rw [hb0,Nat.gcd_zero_right] at h2;rw [←h2];exact this) (by have h2:=hS.o.2.2.2.2.1;rw [hb0,Nat.gcd_zero_right] at h2;have:=hS.o.2.2.1;rw [←h2];omega);rw [show sg false G=(G:Int) from rfl,Qav (by have h2:=hS.o.2.2.2.2.1;rw [hb0,Nat.gcd_zero_right] at h2;have h3:=hS.o.2.2.1;unfold Fits;rw [QcD,Int.natAbs_natCast,←h2];exact h3)] at hc;have HB:Shut _:=⟨hS.o.2.2.2.2.2⟩;have hli:¬(0:Int)<(nl:Int):=by omega
   clear hS HNL hb0 hn0;rw [←HR.o] at hc;go_wp2_with (go_at_call 211; with_reducible refine hc.mono ?_;rintro e w5 ⟨rfl,hb5⟩)
   go_ret2
   exact ⟨rfl,HB.o.trans (hb5.mono HB.o.size)⟩
  ·have hli:(0:Int)<(nl:Int):=by have:=mt QaF.1 hb0;have:=HNL.o;omega
   have cd:=Qds a b hb0 u7 (.slice pl nl cl) wo hS.o.1 hS.o.2.1 (by have:=hS.o.2.2.1;omega) (by have:=hS.o.2.2.2.1;omega);have hnum:=QhX hS.o.2.1;have hmod:=Nat.mod_lt a (Nat.pos_of_ne_zero hb0);have HFIN:Shut (∀ (W:World) (u:Value),NI W u (natL (a % b))→Below wo.heap.size wo W→GR w W (.slice pl nl cl) u b (a % b) G∧numI W u<numI wo (.slice pl nl cl)):=⟨fun W u hu hB=>⟨⟨hS.o.2.1.below hB Lr,hu,hS.o.2.2.2.1,Nat.le_trans (Qal (Nat.le_of_lt hmod)) hS.o.2.2.2.1,by rw [←hS.o.2.2.2.2.1,Nat.gcd_comm b,←Nat.gcd_rec,Nat.gcd_comm],hS.o.2.2.2.2.2.trans (hB.mono hS.o.2.2.2.2.2.size)⟩,by rw [QhX hu,hnum];exact hmod⟩⟩;clear hS HNL hnum hmod;go_wp2_with (go_at_call 210; with_reducible refine cd.mono ?_;rintro e w5 ⟨vq,vr,rfl,hq,hr,hb5⟩);exact ⟨⟨b,a % b,⟨(HFIN.o w5 vr hr hb5).1⟩⟩,(HFIN.o w5 vr hr hb5).2⟩
end N10
end
section
namespace N10
open Go.RowKit
open Go.Proofs.YtadcmepaniiciaaGreatDoor.Nm (decN Qbe Qcl QaQ QcN QeA dvl Qez QdW QdX)
theorem Qmo (z:Int) (h:0≤z):(∀ y∈bl (txt z),48≤y∧y<58)∧dvl (bl (txt z))=z.natAbs∧bl (txt z) ≠ []:=by
 rw [Qhh];by_cases h0:z=0
 ·rw [if_pos h0,h0];exact ⟨by simp,rfl,by simp⟩
 ·rw [if_neg h0,if_neg (by omega)];exact ⟨QaQ _,QdX _,fun e=>by have:=QeA.1 e;omega⟩
end N10
end
section
namespace N10
open Go.RowKit
theorem QpZ (m:Nat):Int.tmod (-(m:Int)) 10 = -((m % 10:Nat):Int):=by
 rw [Int.neg_tmod,Int.tmod_eq_emod_of_nonneg (by omega)];omega
theorem Qqa (m:Nat):Int.tdiv (-(m:Int)) 10 = -((m / 10:Nat):Int):=by
 rw [Int.neg_tdiv,Int.tdiv_eq_ediv_of_nonneg (by omega)];omega
theorem Qqb (m:Nat):Int.tmod (m:Int) 10=((m % 10:Nat):Int):=by
 rw [Int.tmod_eq_emod_of_nonneg (by omega)];omega
theorem Qqc (m:Nat):Int.tdiv (m:Int) 10=((m / 10:Nat):Int):=by
 rw [Int.tdiv_eq_ediv_of_nonneg (by omega)];omega
theorem QiS {n:Nat} (h:n<18446744073709551616):(natL n).length≤20:=Qat (Nat.lt_of_lt_of_le h (by decide +kernel))
def FI (w wr:World) (lv:Value) (ds:List Nat) (m n:Nat):Prop :=
 OwnJ wr w.heap.size lv ds∧natL n=ds++natL m∧Below w.heap.size w wr∧ds.length≤20
set_option maxRecDepth 100000 in
theorem Qgz (n:Int) (h1 : -9223372036854775808≤n) (h2:n≤9223372036854775807) (w:World) :
  Calls Tryz.prog 136 #[.int .i64 n] w fun e w'=>e = .returned (Z (txt n))∧Below w.heap.size w w':=by
 obtain ⟨i0,hinf,hz0,hz1,hz2⟩:=info_parts Qhj;obtain ⟨neg,hneg⟩:∃ neg,neg=decide (n<0):=⟨_,rfl⟩;obtain ⟨N,hN⟩:∃ N,N=n.natAbs:=⟨_,rfl⟩;have hsg:=QjS n;rw [←hneg,←hN] at hsg;have hNb:N≤9223372036854775808:=by omega
 have ct:=fun v W h=>QdL N neg v W h (by have:=QiS (n:=N) (by omega);omega);rw [hsg] at ct;have hNp:neg=false→N≤9223372036854775807:=fun h=>by rw [hneg,decide_eq_false_iff_not] at h;omega
 have hnl:=QiS (n:=N) (by omega);have HD:Shut (decide (n<0)=neg):=⟨hneg.symm⟩;have HSG:Shut (sg neg N=n):=⟨hsg⟩;have HNL:Shut _:=⟨hnl⟩;clear hneg hN hsg hnl;generalize hs:txt n=s at *
 clear hs;go_enter Tryz.func136, Tryz.ntmps136;go_wp2
 go_loopw [3,4] (fun lv mv wr=>∃ (ds:List Nat) (m:Nat),mv = .int .i64 (sg neg m)∧m≤N∧Shut (FI w wr lv ds m N)) (fun _ mv _=>(intOf mv).natAbs)
 case atStart=>exact ⟨[],N,by rw [HSG.o],Nat.le_refl _,⟨⟨OwnJ.nil _ _,rfl,Below.refl _ _,by simp⟩⟩⟩
 case round =>
  rename World=>wo
  obtain ⟨ds,m,rfl,hm,hS⟩:=hrel;cases neg
  ·have hM:sg false m=(m:Int):=rfl;rw [hM];by_cases hm0:m=0
   ·subst hm0;have hr:=hS.o.1.ni;have hE:=hS.o.2.1;rw [Qau,List.append_nil] at hE;rw [←hE] at hr;have c9:=ct u3 wo hr;have HB9:Shut _:=⟨hS.o.2.2.1⟩;have hd9:=HD.o;clear hS hr hE ct HSG HNL;go_wp2_with (go_at_call 174; refine (c9).mono ?_;rintro e w5 ⟨rfl,hb5⟩);go_ret;exact ⟨rfl,HB9.o.trans (hb5.mono HB9.o.size)⟩
   ·have hO2:=hS.o.1;have hE:=hS.o.2.1;rw [Qbi hm0] at hE;obtain ⟨d,hd⟩:∃ d,d=m % 10:=⟨_,rfl⟩;obtain ⟨q,hq⟩:∃ q,q=m / 10:=⟨_,rfl⟩;rw [←hd,←hq] at hE;have t1:=Qqb m;have t2:=Qqc m;rw [←hd] at t1;rw [←hq] at t2;have hql:q<m:=by omega
    have hd10:d<10:=by omega
    have hq2:q≤N:=by omega
    have hdl:ds.length≤19:=by
     have:=congrArg List.length hE;have:=HNL.o;rw [List.length_append,List.length_cons] at *
     omega
    have HQL:Shut (q<m):=⟨hql⟩;have HE9:Shut (natL N=(ds ++ [d])++natL q):=⟨by rw [hE,List.append_assoc];rfl⟩;have HB9:Shut _:=⟨hS.o.2.2.1⟩;have hbs:=HB9.o.size;have hM0:¬(m:Int)=0:=by omega
    have hMa:(intOf (Value.int .i64 (m:Int))).natAbs=m:=by simp [intOf]
    have HMA:Shut _:=⟨hMa⟩;clear hS hE hd hq hql hM ct hm0 hMa;have hb1 : -9223372036854775808≤(m:Int):=by omega
    have hb2:(m:Int)≤9223372036854775807:=by have:=hNp rfl;omega
    have hq3:(q:Int)≤9223372036854775807:=by have:=HQL.o;omega
    clear hNp;generalize hZZ:(m:Int)=M at *
    clear hZZ;by_cases hd0:d=0
    ·subst hd0;go_wp2_with (at_builtin;go_must (refine wpList_append_own _ rfl _ _ 106 rfl w.heap.size 3 i0 (.int .i64 0) 1 8 Tryz.underlying106 hinf hz0 hz1 hz2 rfl (by decide) _ _ _ rfl (World.ownsRow.alloc hO2 _) ⟨_,0,none⟩ 1 1 [.int .i64 0] rfl rfl (cell_one_new _ _ _) (by simp [Value.oneCell']) (by unfold maxLen;omega) (by omega) (by rw [World.size_alloc];omega) ?_);intro v' w' hown' hgrow _;have hB':=QaC (HB9.o.alloc hbs _) Lr (World.ownsRow.alloc hO2 _) hgrow);exact ⟨⟨ds ++ [0],q,rfl,hq2,⟨⟨OwnJ.snoc hown',HE9.o,hB',by simp;omega⟩⟩⟩,by rw [HMA.o];simp [intOf];exact HQL.o⟩
    ·have hdn:¬((d:Nat):Int)<0:=by omega
     go_wp2_with (at_builtin;go_must (refine wpList_append_own _ rfl _ _ 106 rfl w.heap.size 3 i0 (.int .i64 0) 1 8 Tryz.underlying106 hinf hz0 hz1 hz2 rfl (by decide) _ _ _ rfl (World.ownsRow.alloc hO2 _) ⟨_,0,none⟩ 1 1 [.int .i64 ((d:Nat):Int)] rfl rfl (cell_one_new _ _ _) (by simp [Value.oneCell']) (by unfold maxLen;omega) (by omega) (by rw [World.size_alloc];omega) ?_);intro v' w' hown' hgrow _;have hB':=QaC (HB9.o.alloc hbs _) Lr (World.ownsRow.alloc hO2 _) hgrow);exact ⟨⟨ds ++ [d],q,rfl,hq2,⟨⟨OwnJ.snoc hown',HE9.o,hB',by simp;omega⟩⟩⟩,by rw [HMA.o];simp [intOf];exact HQL.o⟩
  ·have hM:sg true m=(-(m:Int)):=rfl;rw [hM];by_cases hm0:m=0
   ·subst hm0;have hr:=hS.o.1.ni;have hE:=hS.o.2.1;rw [Qau,List.append_nil] at hE;rw [←hE] at hr;have c9:=ct u3 wo hr;have HB9:Shut _:=⟨hS.o.2.2.1⟩;have hd9:=HD.o;clear hS hr hE ct HSG HNL;go_wp2_with (go_at_call 174; refine (c9).mono ?_;rintro e w5 ⟨rfl,hb5⟩);go_ret;exact ⟨rfl,HB9.o.trans (hb5.mono HB9.o.size)⟩
   ·have hO2:=hS.o.1;have hE:=hS.o.2.1;rw [Qbi hm0] at hE;obtain ⟨d,hd⟩:∃ d,d=m % 10:=⟨_,rfl⟩;obtain ⟨q,hq⟩:∃ q,q=m / 10:=⟨_,rfl⟩;rw [←hd,←hq] at hE;have t1:=QpZ m;have t2:=Qqa m;rw [←hd] at t1;rw [←hq] at t2;have hql:q<m:=by omega
    have hd10:d<10:=by omega
    have hq2:q≤N:=by omega
    have hdl:ds.length≤19:=by
     have:=congrArg List.length hE;have:=HNL.o;rw [List.length_append,List.length_cons] at *
     omega
    have HQL:Shut (q<m):=⟨hql⟩;have HE9:Shut (natL N=(ds ++ [d])++natL q):=⟨by rw [hE,List.append_assoc];rfl⟩;have HB9:Shut _:=⟨hS.o.2.2.1⟩;have hbs:=HB9.o.size;have hM0:¬(-(m:Int))=0:=by omega
    have hMa:(intOf (Value.int .i64 (-(m:Int)))).natAbs=m:=by simp [intOf]
    have HMA:Shut _:=⟨hMa⟩;clear hS hE hd hq hql hM ct hm0 hMa;have hb1 : -9223372036854775808≤(-(m:Int)):=by omega
    have hb2:(-(m:Int))≤9223372036854775807:=by omega
    clear hNp;generalize hZZ:(-(m:Int))=M at *
    clear hZZ;by_cases hd0:d=0
    ·subst hd0;go_wp2_with (at_builtin;go_must (refine wpList_append_own _ rfl _ _ 106 rfl w.heap.size 3 i0 (.int .i64 0) 1 8 Tryz.underlying106 hinf hz0 hz1 hz2 rfl (by decide) _ _ _ rfl (World.ownsRow.alloc hO2 _) ⟨_,0,none⟩ 1 1 [.int .i64 0] rfl rfl (cell_one_new _ _ _) (by simp [Value.oneCell']) (by unfold maxLen;omega) (by omega) (by rw [World.size_alloc];omega) ?_);intro v' w' hown' hgrow _;have hB':=QaC (HB9.o.alloc hbs _) Lr (World.ownsRow.alloc hO2 _) hgrow);exact ⟨⟨ds ++ [0],q,rfl,hq2,⟨⟨OwnJ.snoc hown',HE9.o,hB',by simp;omega⟩⟩⟩,by rw [HMA.o];simp [intOf];exact HQL.o⟩
    ·have hdn : -((d:Nat):Int)<0:=by omega
     go_wp2_with (at_builtin;go_must (refine wpList_append_own _ rfl _ _ 106 rfl w.heap.size 3 i0 (.int .i64 0) 1 8 Tryz.underlying106 hinf hz0 hz1 hz2 rfl (by decide) _ _ _ rfl (World.ownsRow.alloc hO2 _) ⟨_,0,none⟩ 1 1 [.int .i64 ((d:Nat):Int)] rfl rfl (cell_one_new _ _ _) (by simp [Value.oneCell']) (by unfold maxLen;omega) (by omega) (by rw [World.size_alloc];omega) ?_);intro v' w' hown' hgrow _;have hB':=QaC (HB9.o.alloc hbs _) Lr (World.ownsRow.alloc hO2 _) hgrow);exact ⟨⟨ds ++ [d],q,rfl,hq2,⟨⟨OwnJ.snoc hown',HE9.o,hB',by simp;omega⟩⟩⟩,by rw [HMA.o];simp [intOf];exact HQL.o⟩
theorem OwnJ.zero (W:World) (B:Nat) (h:B≤W.heap.size):OwnJ (W.alloc (O #[] 3)) B (.slice (some ⟨W.heap.size,0,none⟩) 0 0) [] :=
 ⟨by simp,.inr ⟨W.heap.size,0,#[],rfl,h,RowAt.new W _ _,by simp,by unfold maxLen;omega,by simp,by simp⟩⟩
def Two (f:Nat) (args:Array Value) (v:Value):Prop:=∀ W:World,Calls Tryz.prog f args W fun e W'=>e = .returned v∧Below W.heap.size W W'
theorem Two.run {f:Nat} {args:Array Value} {v:Value} (h:Two f args v) (W:World):Calls Tryz.prog f args W fun e W'=>e = .returned v∧Below W.heap.size W W':=h W
theorem both (s t:ByteArray):(∃ x y:Int,s=txt x∧t=txt y∧Fits x∧Fits y)∨(Qap s=false∨Qap t=false):=by
 cases h1:Qap s with
 | false=>exact .inr (.inl rfl)
 | true =>
  cases h2:Qap t with
  | false=>exact .inr (.inr rfl)
  | true =>
   obtain ⟨x,e1,f1⟩:=QdY h1;obtain ⟨y,e2,f2⟩:=QdY h2;exact .inl ⟨x,y,e1,e2,f1,f2⟩
theorem one (s:ByteArray):(∃ x:Int,s=txt x∧Fits x)∨Qap s=false:=by
 cases h1:Qap s with
 | false=>exact .inr rfl
 | true =>
  obtain ⟨x,e1,f1⟩:=QdY h1;exact .inl ⟨x,e1,f1⟩
theorem nb {s t:ByteArray} (h:Qap s=false∨Qap t=false):(Qap s && Qap t)=false:=by
 rcases h with h | h <;> rw [h] <;> simp
theorem QkC (x y:Int) (hx:Fits x) (hy:Fits y):Fits ((Nat.gcd x.natAbs y.natAbs:Nat):Int):=by
 unfold Fits;rw [Int.natAbs_natCast,QcD];rcases Nat.eq_zero_or_pos x.natAbs with h | h
 ·rw [h,Nat.gcd_zero_left];exact Qcx hy
 ·exact Nat.le_trans (Qal (Nat.gcd_le_left _ h)) (Qcx hx)
end N10
end
section
namespace Rt
open Go.RowKit Go.Proofs.YtadcmepaniiciaaGreatDoor.Nm
structure Cs (k n:Nat) (W:World) (x:Nat→Value):Prop where
 cell:∀ i,i<n→W.cell? ⟨k,i,none⟩=some (x i)
 free:∀ i,i<n→W.frozen? ⟨k,i,none⟩=false
structure Fr (b:Nat) (W:World) (s t u v:ByteArray) (x y:Nat→Value):Prop where
 fa:Cs b 2 W (fun i=>if i=0 then Z s else Z t)
 fb:Cs (b+1) 2 W (fun i=>if i=0 then Z u else Z v)
 fp:Cs (b+1+1) 8 W (fun _=>Z ⟨#[]⟩)
 fq:Cs (b+1+1+1) 4 W (fun _ => .int .i64 0)
 fr:Cs (b+1+1+1+1) 8 W x
 fe:Cs (b+1+1+1+1+1) 4 W y
end Rt
end
section
namespace Rt
open Go.RowKit Go.Proofs.YtadcmepaniiciaaGreatDoor.Nm
open N10 (Two)
theorem QgZ {w w':World} {o:Obj} (h:Below (w.alloc o).heap.size (w.alloc o) w'):Below w.heap.size w w'∧w'.heap[w.heap.size]? = some o :=
 ⟨((Below.refl w.heap.size w).alloc Lr o).trans (h.mono (by simp)),(h.block w.heap.size (by simp)).trans (World.alloc_heap_new w o)⟩
theorem QmW {B:Nat} {w w':World} (h:Below B w.drew w'):Below B w w':=⟨h.os,h.tape,h.output,h.size,h.block⟩
theorem Qac {w w':World} {b:Nat} {o:Obj} (h:w.heap[b]? = some o) (hB:Below w.heap.size w w'):w'.heap[b]? = some o:=(hB.block b (lt_of_block h)).trans h
theorem Qqd (s t n d g r1 r2:ByteArray) (w:World) (h0:(t.toList == [48])=false)
  (cV1:Two 169 #[Z s] (.bool true)) (cV2:Two 169 #[Z t] (.bool true))
  (cC:Two 170 #[Z t,Z ⟨#[48]⟩] (.int .i64 1))
  (cG:Two 172 #[Z s,Z t] (.tuple #[Z g,.int .i64 0]))
  (cD1:Two 173 #[Z s,Z g] (.tuple #[Z n,Z r1,.int .i64 0]))
  (cD2:Two 173 #[Z t,Z g] (.tuple #[Z d,Z r2,.int .i64 0])) :
  Calls Tryz.prog 135 #[Z s,Z t] w fun e w'=>e = .returned (.tuple #[.agg #[Z n,Z d],.int .i64 0])∧Below w.heap.size w w':=by
 go_enter Tryz.func135, Tryz.ntmps135;go_wp2_with (first | (go_at_call 169; with_reducible refine (cV1.run _).mono ?_;rintro e w1 ⟨rfl,hB1⟩;have b1:=(QgZ hB1).1;have n1:=(QgZ hB1).2;clear hB1) | (go_at_call 169; with_reducible refine (cV2.run _).mono ?_;rintro e w2 ⟨rfl,hB2⟩;have b2:=b1.trans (hB2.mono b1.size);have n2:=Qac n1 hB2;clear hB2) | (go_at_call 170; with_reducible refine (cC.run _).mono ?_;rintro e w3 ⟨rfl,hB3⟩;have b3:=b2.trans (hB3.mono b2.size);have n3:=Qac n2 hB3;clear hB3) | (go_at_call 172; with_reducible refine (cG.run _).mono ?_;rintro e w4 ⟨rfl,hB4⟩;have b4:=b3.trans (hB4.mono b3.size);have n4:=Qac n3 hB4;clear hB4) | (go_at_call 173; with_reducible refine (cD1.run _).mono ?_;rintro e w5 ⟨rfl,hB5⟩;have b5:=b4.trans (hB5.mono b4.size);have n5:=Qac n4 hB5;clear hB5) | (go_at_call 173; with_reducible refine (cD2.run _).mono ?_;rintro e w6 ⟨rfl,hB6⟩;have b6:=b5.trans (hB6.mono b5.size);have n6:=Qac n5 hB6;clear hB6;obtain ⟨c0,c1,z0,z1⟩:=Qab n6));have k0:=QaM w6 w.heap.size (Z n) (Z d) _ _ c0 c1;refine bodyPost_ret (v:=.tuple #[.agg #[Z n,Z d],.int .i64 0]) (by simp [results,Tryz.results135, go_sem,k0.1,k0.2]) rfl ⟨rfl,(b6.setCell (by simp) _).setCell (by simp) _⟩
theorem Qqe (s t s' t' n d g r1 r2:ByteArray) (w:World) (h0:(t.toList == [48])=false)
  (cV1:Two 169 #[Z s] (.bool true)) (cV2:Two 169 #[Z t] (.bool true))
  (cC:Two 170 #[Z t,Z ⟨#[48]⟩] (.int .i64 (-1)))
  (cS1:Two 171 #[Z ⟨#[48]⟩,Z s] (.tuple #[Z s',.int .i64 0]))
  (cS2:Two 171 #[Z ⟨#[48]⟩,Z t] (.tuple #[Z t',.int .i64 0]))
  (cG:Two 172 #[Z s',Z t'] (.tuple #[Z g,.int .i64 0]))
  (cD1:Two 173 #[Z s',Z g] (.tuple #[Z n,Z r1,.int .i64 0]))
  (cD2:Two 173 #[Z t',Z g] (.tuple #[Z d,Z r2,.int .i64 0])) :
  Calls Tryz.prog 135 #[Z s,Z t] w fun e w'=>e = .returned (.tuple #[.agg #[Z n,Z d],.int .i64 0])∧Below w.heap.size w w':=by
 go_enter Tryz.func135, Tryz.ntmps135;go_wp2_with (first | (go_at_call 169; with_reducible refine (cV1.run _).mono ?_;rintro e w1 ⟨rfl,hB1⟩;have b1:=(QgZ hB1).1;have n1:=(QgZ hB1).2;clear hB1) | (go_at_call 169; with_reducible refine (cV2.run _).mono ?_;rintro e w2 ⟨rfl,hB2⟩;have b2:=b1.trans (hB2.mono b1.size);have n2:=Qac n1 hB2;clear hB2) | (go_at_call 170; with_reducible refine (cC.run _).mono ?_;rintro e w3 ⟨rfl,hB3⟩;have b3:=b2.trans (hB3.mono b2.size);have n3:=Qac n2 hB3;clear hB3) | (go_at_call 171; with_reducible refine (cS1.run _).mono ?_;rintro e x1 ⟨rfl,hB1⟩;have y1:=b3.trans (hB1.mono b3.size);have v1:=Qac n3 hB1;clear hB1) | (go_at_call 171; with_reducible refine (cS2.run _).mono ?_;rintro e x2 ⟨rfl,hB2⟩;have y2:=y1.trans (hB2.mono y1.size);have v2:=Qac v1 hB2;clear hB2) | (go_at_call 172; with_reducible refine (cG.run _).mono ?_;rintro e w4 ⟨rfl,hB4⟩;have b4:=y2.trans (hB4.mono y2.size);have n4:=Qac v2 hB4;clear hB4) | (go_at_call 173; with_reducible refine (cD1.run _).mono ?_;rintro e w5 ⟨rfl,hB5⟩;have b5:=b4.trans (hB5.mono b4.size);have n5:=Qac n4 hB5;clear hB5) | (go_at_call 173; with_reducible refine (cD2.run _).mono ?_;rintro e w6 ⟨rfl,hB6⟩;have b6:=b5.trans (hB6.mono b5.size);have n6:=Qac n5 hB6;clear hB6;obtain ⟨c0,c1,z0,z1⟩:=Qab n6));have k0:=QaM w6 w.heap.size (Z n) (Z d) _ _ c0 c1;refine bodyPost_ret (v:=.tuple #[.agg #[Z n,Z d],.int .i64 0]) (by simp [results,Tryz.results135, go_sem,k0.1,k0.2]) rfl ⟨rfl,(b6.setCell (by simp) _).setCell (by simp) _⟩
theorem QkM (s t:ByteArray) (x y:Bool) (w:World) (h:(x && y && !(t.toList == [48]))=false)
  (cV1:Two 169 #[Z s] (.bool x)) (cV2:Two 169 #[Z t] (.bool y)) :
  Calls Tryz.prog 135 #[Z s,Z t] w fun e w'=>e = .returned (.tuple #[.agg #[Z ⟨#[]⟩,Z ⟨#[]⟩],.int .i64 40])∧Below w.heap.size w w':=by
 rcases (show x=false∨(x=true∧y=false)∨(x=true∧y=true∧(t.toList == [48])=true) by revert h;cases x <;> cases y <;> cases (t.toList == [48]) <;> simp) with rfl | ⟨rfl,rfl⟩ | ⟨rfl,rfl,h0⟩
 all_goals
  clear h;go_enter Tryz.func135, Tryz.ntmps135;go_wp2_with (first | (go_at_call 169; with_reducible refine (cV1.run _).mono ?_;rintro e w1 ⟨rfl,hB1⟩;have b1:=(QgZ hB1).1;have n1:=(QgZ hB1).2;clear hB1) | (go_at_call 169; with_reducible refine (cV2.run _).mono ?_;rintro e w2 ⟨rfl,hB2⟩;have b2:=b1.trans (hB2.mono b1.size);have n2:=Qac n1 hB2;clear hB2;obtain ⟨c0,c1,z0,z1⟩:=Qab n2));have k0:=QaM w2 w.heap.size (Z ⟨#[]⟩) (Z ⟨#[]⟩) _ _ c0 c1;refine bodyPost_ret (v:=.tuple #[.agg #[Z ⟨#[]⟩,Z ⟨#[]⟩],.int .i64 40]) (by simp [results,Tryz.results135, go_sem,k0.1,k0.2]) rfl ⟨rfl,(b2.setCell (by simp) _).setCell (by simp) _⟩
theorem Qoh (s:ByteArray) (hs:s.size≤1000000):Two 169 #[Z s] (.bool (Qap s)):=fun W=>(N10.QbO s hs W).mono fun _ _ h=>⟨h.1,N10.Qai h.2⟩
theorem Qek {x:Int} (hx:Fits x):Two 169 #[Z (txt x)] (.bool true):=by
 have:=Qoh (txt x) (QaT hx)
 rwa [Qax x hx] at this
theorem Qqf {x y:Int} (hx:Fits x) (hy:Fits y):Two 170 #[Z (txt x),Z (txt y)] (.int .i64 (cmpZ x y)):=fun W=>N10.QjT x y hx hy W
theorem Quu {x y:Int} (hx:Fits x) (hy:Fits y) (h:Fits (x-y)):Two 171 #[Z (txt x),Z (txt y)] (.tuple #[Z (txt (x-y)),.int .i64 0]):=fun W=>by
 have:=N10.QjU x y hx hy W
 rwa [Qav h] at this
theorem QsE {x y:Int} (hx:Fits x) (hy:Fits y):Two 172 #[Z (txt x),Z (txt y)] (.tuple #[Z (txt (Nat.gcd x.natAbs y.natAbs:Nat)),.int .i64 0]):=fun W=>N10.QsD x y hx hy W
theorem Qmp {x y:Int} (hx:Fits x) (hy:Fits y) (h0:y≠0):Two 173 #[Z (txt x),Z (txt y)] (.tuple #[Z (txt (x / y)),Z (txt (x % y)),.int .i64 0]):=fun W=>N10.QsC x y hx hy h0 W
theorem QiT (s t:ByteArray) (hs:s.size≤1000000) (ht:t.size≤1000000) (w:World) :
  Calls Tryz.prog 135 #[Z s,Z t] w fun e w'=>e = .returned (bR (redR s t))∧Below w.heap.size w w':=by
 rcases N10.both s t with ⟨x,y,rfl,rfl,hx,hy⟩ | h
 ·by_cases h0:y=0
  ·rw [Qrh hy h0];exact QkM _ _ true true w (by rw [QbN,h0];rfl) (Qek hx) (Qek hy)
  ·rw [Qfz hx hy h0];have hne:((txt y).toList == [48])=false:=by rw [QbN];simpa using h0
   have hg0:Nat.gcd x.natAbs y.natAbs≠0:=Nat.pos_iff_ne_zero.1 (Nat.gcd_pos_of_pos_right _ (by omega));have e0:y.gcd x=Nat.gcd x.natAbs y.natAbs:=by rw [Int.gcd,Nat.gcd_comm]
   have hgf:=QiJ (x:=x) hy h0;have cC:=Qqf hy Qfy;rw [txt_0] at cC;show Calls _ _ _ _ fun e w'=>e = .returned (.tuple #[.agg #[Z (txt (Rat.divInt x y).num),Z (txt ((Rat.divInt x y).den:Int))],.int .i64 0])∧_;obtain ⟨d1,d2⟩:=QkE x y;rw [Rat.num_divInt,Rat.den_divInt,if_neg h0,e0];rcases Int.lt_trichotomy y 0 with hy0 | hy0 | hy0
   ·have cC':Two 170 #[Z (txt y),Z ⟨#[48]⟩] (.int .i64 (-1)):=by rwa [cmpZ,if_pos hy0] at cC
    have fx:=QeK hx;have fy:=QeK hy;have s1:=Quu Qfy hx (by rw [Int.zero_sub];exact fx);have s2:=Quu Qfy hy (by rw [Int.zero_sub];exact fy);rw [Int.zero_sub,txt_0] at s1 s2;have hG:=QsE fx fy;rw [Int.natAbs_neg,Int.natAbs_neg] at hG;generalize Nat.gcd x.natAbs y.natAbs=g at *
    have hgi:(g:Int)≠0:=by omega
    have r:=Qqe _ _ _ _ _ _ _ _ _ w hne (Qek hx) (Qek hy) cC' s1 s2 hG (Qmp fx hgf hgi) (Qmp fy hgf hgi);rw [Int.sign_eq_neg_one_of_neg hy0];have e1:(-1:Int)*x / (g:Int) = -x / (g:Int):=by rw [Int.neg_one_mul]
    have e2:((y.natAbs / g:Nat):Int) = -y / (g:Int):=by rw [Int.natCast_ediv,show ((y.natAbs:Nat):Int) = -y by omega]
    rw [e1,e2];exact r
   ·exact absurd hy0 h0
   ·have cC':Two 170 #[Z (txt y),Z ⟨#[48]⟩] (.int .i64 1):=by rwa [cmpZ,if_neg (by omega),if_neg (by omega)] at cC
    have hG:=QsE hx hy;generalize Nat.gcd x.natAbs y.natAbs=g at *
    have hgi:(g:Int)≠0:=by omega
    have r:=Qqd _ _ _ _ _ _ _ w hne (Qek hx) (Qek hy) cC' hG (Qmp hx hgf hgi) (Qmp hy hgf hgi);rw [Int.sign_eq_one_of_pos hy0,Int.one_mul];have e2:((y.natAbs / g:Nat):Int)=y / (g:Int):=by rw [Int.natCast_ediv,show ((y.natAbs:Nat):Int)=y by omega]
    rw [e2];exact r
 ·have hn:redR s t=none:=by
   rw [redR,QjJ,QnD (N10.nb h)];rfl
  rw [hn];exact QkM _ _ _ _ w (by rcases h with h | h <;> rw [h] <;> simp) (Qoh s hs) (Qoh t ht)
end Rt
end
section
namespace Rt
open Go.RowKit Go.Proofs.YtadcmepaniiciaaGreatDoor.Nm
theorem Qde (s:ByteArray) (i:Nat):bl (s.extract i s.size)=(bl s).drop i:=by
 simp [bl];exact List.take_of_length_le (l:=(bl s).drop i) (by rw [List.length_drop,QcA];exact Nat.le_refl _)
theorem Qaa {W:World} {b:Nat} {cs:Array Value} {T:TypeId} (h:W.heap[b]? = some (.cells cs T (0,0))) (i:Nat) {v:Value} (hv:cs[i]? = some v):W.cell? ⟨b,i,none⟩=some v:=by simp [World.cell?,h,hv]
theorem Qad {W:World} {b:Nat} {cs:Array Value} {T:TypeId} (h:W.heap[b]? = some (.cells cs T (0,0))) (i:Nat):W.frozen? ⟨b,i,none⟩=false:=by simp [World.frozen?,h]
end Rt
end
section
namespace Rt
open Go.RowKit Go.Proofs.YtadcmepaniiciaaGreatDoor.Nm
open N10 (Two)
theorem Qoi {x y:Int} {q:Rat} (hx:Fits x) (hy:Fits y) (h0:y≠0) (hq:Rat.divInt x y=q):Two 105 #[Z (txt x),Z (txt y)] (.tuple #[.agg #[Z (txt q.num),Z (txt (q.den:Int))],.int .i64 0]):=fun W=>by
 have:=QkF (txt x) (txt y) (QaT hx) (QaT hy) W;rw [Qfz hx hy h0,hq] at this;exact this
def sn:Option Rat→ByteArray
 | some q=>txt q.num
 | none=>⟨#[]⟩
def sd:Option Rat→ByteArray
 | some q=>txt (q.den:Int)
 | none=>⟨#[]⟩
def cd:Option Rat→Int
 | some _=>0
 | none=>40
def vO (o:Option Rat):Value:=.agg #[Z (sn o),Z (sd o)]
def resO (o:Option Rat):Value:=.tuple #[.agg #[Z (sn o),Z (sd o)],.int .i64 (cd o)]
def Qbk (f:Rat→Rat→Option Rat) (o1 o2:Option Rat):Option Rat:=o1.bind fun p=>o2.bind fun q=>f p q
structure FitO (o:Option Rat):Prop where
 fit:∀ q,o=some q→FitQ q
theorem bR_O (o:Option Rat):bR (o.map txtQ)=resO o:=by cases o <;> rfl
theorem FitO.some {q:Rat} (h:FitQ q):FitO (some q):=⟨fun p hp=>by injection hp with hp;exact hp▸h⟩
theorem FitO.sizes {o:Option Rat} (h:FitO o):(sn o).size≤1000000∧(sd o).size≤1000000:=by
 cases o with
 | none=>exact ⟨Nat.zero_le _,Nat.zero_le _⟩
 | some q=>exact (h.fit q rfl).size
theorem Qmq:Qap ⟨#[]⟩=false:=by decide +kernel
theorem QsF:qOf ⟨#[]⟩ ⟨#[]⟩=none:=by rw [qOf,QjI Qmq];rfl
theorem Quv {o:Option Rat} (h:FitO o):qOf (sn o) (sd o)=o:=by
 cases o with
 | none=>exact QsF
 | some q=>exact QdG (h.fit q rfl)
theorem FitO.lift {f:Rat→Rat→Option Rat} (hf:∀ p q r,f p q=Option.some r→FitQ r) (o1 o2:Option Rat):FitO (Qbk f o1 o2):=by
 refine ⟨fun r hr => ?_⟩;rw [Qbk] at hr;cases o1 with
 | none=>cases hr
 | some p =>
  cases o2 with
  | none=>cases hr
  | some q=>exact hf p q r hr
theorem QkN {o1 o2:Option Rat} (h1:FitO o1) (h2:FitO o2) (h:o1=none∨o2=none):qsOk [(sn o1,sd o1),(sn o2,sd o2)]=false:=by
 refine QnV ?_;rw [Quv h1,Quv h2];exact h
theorem QeP (f:Rat→Rat→Option Rat) {o1 o2:Option Rat} (h:o1=none∨o2=none):Qbk f o1 o2=none:=by
 rcases h with rfl | rfl
 ·rfl
 ·cases o1 <;> rfl
theorem QkO (o1 o2:Option Rat):(∃ p q,o1=some p∧o2=some q)∨(o1=none∨o2=none):=by
 cases o1 with
 | none=>exact .inr (.inl rfl)
 | some p =>
  cases o2 with
  | none=>exact .inr (.inr rfl)
  | some q=>exact .inl ⟨p,q,rfl,rfl⟩
theorem addB {o1 o2:Option Rat} (h1:FitO o1) (h2:FitO o2):bR (sumR Qfd (sn o1) (sd o1) (sn o2) (sd o2))=resO (Qbk addQ o1 o2):=by
 rcases QkO o1 o2 with ⟨p,q,rfl,rfl⟩ | h
 ·rw [←bR_O,show Qbk addQ (some p) (some q)=addQ p q from rfl,←Qri (h1.fit p rfl) (h2.fit q rfl)];rfl
 ·rw [sumR,QkN h1 h2 h,QeP _ h];rfl
theorem subB {o1 o2:Option Rat} (h1:FitO o1) (h2:FitO o2):bR (sumR QeI (sn o1) (sd o1) (sn o2) (sd o2))=resO (Qbk subQ o1 o2):=by
 rcases QkO o1 o2 with ⟨p,q,rfl,rfl⟩ | h
 ·rw [←bR_O,show Qbk subQ (some p) (some q)=subQ p q from rfl,←Qrj (h1.fit p rfl) (h2.fit q rfl)];rfl
 ·rw [sumR,QkN h1 h2 h,QeP _ h];rfl
theorem mulB {o1 o2:Option Rat} (h1:FitO o1) (h2:FitO o2):bR (mulR (sn o1) (sd o1) (sn o2) (sd o2))=resO (Qbk mulQ o1 o2):=by
 rcases QkO o1 o2 with ⟨p,q,rfl,rfl⟩ | h
 ·rw [←bR_O,show Qbk mulQ (some p) (some q)=mulQ p q from rfl,←Qug (h1.fit p rfl) (h2.fit q rfl)];rfl
 ·rw [mulR,QkN h1 h2 h,QeP _ h];rfl
theorem divB {o1 o2:Option Rat} (h1:FitO o1) (h2:FitO o2):bR (divR (sn o1) (sd o1) (sn o2) (sd o2))=resO (Qbk divQ o1 o2):=by
 rcases QkO o1 o2 with ⟨p,q,rfl,rfl⟩ | h
 ·rw [←bR_O,show Qbk divQ (some p) (some q)=divQ p q from rfl,←Quh (h1.fit p rfl) (h2.fit q rfl)];rfl
 ·rw [divR,QkN h1 h2 h,QeP _ h];rfl
theorem addO {o1 o2:Option Rat} (h1:FitO o1) (h2:FitO o2):Two 77 #[vO o1,vO o2] (resO (Qbk addQ o1 o2)):=fun W=>by
 have:=Qsq (sn o1) (sd o1) (sn o2) (sd o2) h1.sizes.1 h1.sizes.2 h2.sizes.1 h2.sizes.2 W;rw [addB h1 h2] at this;exact this
theorem subO {o1 o2:Option Rat} (h1:FitO o1) (h2:FitO o2):Two 100 #[vO o1,vO o2] (resO (Qbk subQ o1 o2)):=fun W=>by
 have:=Qsr (sn o1) (sd o1) (sn o2) (sd o2) h1.sizes.1 h1.sizes.2 h2.sizes.1 h2.sizes.2 W;rw [subB h1 h2] at this;exact this
theorem mulO {o1 o2:Option Rat} (h1:FitO o1) (h2:FitO o2):Two 95 #[vO o1,vO o2] (resO (Qbk mulQ o1 o2)):=fun W=>by
 have:=Qsm (sn o1) (sd o1) (sn o2) (sd o2) h1.sizes.1 h1.sizes.2 h2.sizes.1 h2.sizes.2 W;rw [mulB h1 h2] at this;exact this
theorem divO {o1 o2:Option Rat} (h1:FitO o1) (h2:FitO o2):Two 103 #[vO o1,vO o2] (resO (Qbk divQ o1 o2)):=fun W=>by
 have:=Qsn (sn o1) (sd o1) (sn o2) (sd o2) h1.sizes.1 h1.sizes.2 h2.sizes.1 h2.sizes.2 W;rw [divB h1 h2] at this;exact this
theorem QjW {p q r:Rat} (h:addQ p q=some r):r=p+q:=by
 rw [addQ] at h;split at h
 ·injection h with h;exact h.symm
 ·cases h
theorem QsG {p q r:Rat} (h:subQ p q=some r):r=p-q:=by
 rw [subQ] at h;split at h
 ·injection h with h;exact h.symm
 ·cases h
theorem QjX {p q r:Rat} (h:mulQ p q=some r):r=p*q:=by
 rw [mulQ] at h;split at h
 ·injection h with h;exact h.symm
 ·cases h
theorem QsI (n d:Int) (n1 : -9223372036854775808≤n) (n2:n≤9223372036854775807) (d1 : -9223372036854775808≤d) (d2:d≤9223372036854775807) (w:World) :
  Calls Tryz.prog 88 #[.int .i64 n,.int .i64 d] w fun e w'=>e = .returned (bR (redR (txt n) (txt d)))∧Below w.heap.size w w':=by
 have f1:Fits n:=Qas (Nat.lt_trans (show n.natAbs<10^20 by omega) (by decide));have f2:Fits d:=Qas (Nat.lt_trans (show d.natAbs<10^20 by omega) (by decide));have cn:=fun W=>N10.Qgz n n1 n2 W;have cd:=fun W=>N10.Qgz d d1 d2 W;have hC:=fun W=>QiT (txt n) (txt d) (QaT f1) (QaT f2) W;obtain ⟨n',d',e0,ho⟩:=Qcw (redR (txt n) (txt d));rw [ho] at hC ⊢;clear ho;generalize txt n=a at *
 generalize txt d=b at *
 go_enter Tryz.func88, Tryz.ntmps88;go_wp2_with (first | (go_at_call 136; with_reducible refine (cn _).mono ?_;rintro e w1 ⟨rfl,hB1⟩) | (go_at_call 136; with_reducible refine (cd _).mono ?_;rintro e w2 ⟨rfl,hB2⟩) | (go_at_call 135; refine (hC _).mono ?_;rintro e w3 ⟨rfl,hB3⟩;obtain ⟨c0,c1,z0,z1⟩:=Qab ((hB3.block w.heap.size (by have h1:=hB1.size;rw [World.size_alloc] at h1;have h2:=hB2.size;omega)).trans ((hB2.block w.heap.size (by have h1:=hB1.size;rw [World.size_alloc] at h1;omega)).trans ((hB1.block w.heap.size (by simp)).trans (World.alloc_heap_new w _))))));have k0:=QaM w3 w.heap.size (Z n') (Z d') _ _ c0 c1;have h1:=hB1.size;rw [World.size_alloc] at h1;have h2:=hB2.size;have hB5:Below w.heap.size w w3:=((((Below.refl w.heap.size w).alloc Lr _).trans (hB1.mono (by simp))).trans (hB2.mono (by omega))).trans (hB3.mono (by omega));refine bodyPost_ret (v:=.tuple #[.agg #[Z n',Z d'],.int .i64 e0]) (by simp [results,Tryz.results88, go_sem,k0.1,k0.2]) rfl ⟨rfl,(hB5.setCell (by simp) _).setCell (by simp) _⟩
theorem QgA {w w':World} {o p:Obj} (h:Below ((w.alloc o).alloc p).heap.size ((w.alloc o).alloc p) w'):Below w.heap.size w w'∧w'.heap[w.heap.size]? = some o∧w'.heap[w.heap.size+1]? = some p :=
 ⟨(((Below.refl w.heap.size w).alloc Lr o).alloc (by simp) p).trans (h.mono (by simp;omega)),(h.block w.heap.size (by simp;omega)).trans (Qgn w o p),(h.block (w.heap.size+1) (by simp)).trans (QaP w o p)⟩
theorem QeQ {w w':World} {o p q:Obj} (h:Below (((w.alloc o).alloc p).alloc q).heap.size (((w.alloc o).alloc p).alloc q) w'):Below w.heap.size w w'∧w'.heap[w.heap.size]? = some o∧w'.heap[w.heap.size+1]? = some p∧w'.heap[w.heap.size+1+1]? = some q:=by
 have h2:=QgZ h;have h1:=QgA h2.1;rw [World.size_alloc,World.size_alloc] at h2;exact ⟨h1.1,h1.2.1,h1.2.2,h2.2⟩
theorem Qfh {W:World} {b:Nat} {x y u v:Value} {T:TypeId} (h:W.heap[b]? = some (O #[x,y] T (0,0))):((W.setCell ⟨b,0,none⟩ u).setCell ⟨b,1,none⟩ v).heap[b]? = some (O #[u,v] T (0,0)):=by
 obtain ⟨hl,hg⟩:=Array.getElem?_eq_some_iff.1 h;simp [World.setCell,hl,Array.getElem_modify,hg]
theorem Qdj {W:World} {b k:Nat} {u v:Value} {o:Obj} (h:W.heap[k]? = some o) (hne:k≠b):((W.setCell ⟨b,0,none⟩ u).setCell ⟨b,1,none⟩ v).heap[k]? = some o :=
 (Below.heap_setCell _ _ _ _ (by exact hne)).trans ((Below.heap_setCell _ _ _ _ (by exact hne)).trans h)
end Rt
end
end Go.Proofs.YtadcmepaniiciaaGreatDoor
