import Derived.Test.YtadcmepaniiciaaGreatDoorZc
import Derived.Shelf.Abstract
import Derived.Shelf.Strings.Repeat
import Derived.ScopeJumps
import Derived.WalkMore
set_option maxRecDepth 1000000
set_option maxHeartbeats 40000000
open Go.Value renaming string→Z
open Go.Obj renaming cells→O
namespace Go.Proofs.YtadcmepaniiciaaGreatDoor
section
namespace Rt
open Go.RowKit Go.Proofs.YtadcmepaniiciaaGreatDoor.Nm
open Classical in
noncomputable def zOf (s:ByteArray):Option Int:=if h:∃ z,Fits z∧s=txt z then some (Classical.choose h) else none
theorem QbC {z:Int} (h:Fits z):zOf (txt z)=some z:=by
 have hx:∃ y,Fits y∧txt z=txt y:=⟨z,h,rfl⟩;rw [zOf,dif_pos hx];exact congrArg some (Qcv (Classical.choose_spec hx).2).symm
theorem Qbr {s:ByteArray} {z:Int} (h:zOf s=some z):s=txt z∧Fits z:=by
 rw [zOf] at h;split at h
 ·rename_i hx;injection h with h;subst h;exact ⟨(Classical.choose_spec hx).2,(Classical.choose_spec hx).1⟩
 ·cases h
theorem QjI {s:ByteArray} (h:Qap s=false):zOf s=none:=by
 cases hz:zOf s with
 | none=>rfl
 | some z =>
  obtain ⟨rfl,hf⟩:=Qbr hz;rw [Qax z hf] at h;cases h
open Classical in
noncomputable def fitO (z:Int):Option ByteArray:=if Fits z then some (txt z) else none
theorem Qay {z:Int} (h:Fits z):fitO z=some (txt z):=if_pos h
theorem Qbj {z:Int} (h:¬ Fits z):fitO z=none:=if_neg h
noncomputable def op2 (f:Int→Int→Option Int) (s t:ByteArray):Option ByteArray:=(zOf s).bind fun x=>(zOf t).bind fun y=>(f x y).bind fitO
theorem QbD {f:Int→Int→Option Int} {x y:Int} (hx:Fits x) (hy:Fits y):op2 f (txt x) (txt y)=(f x y).bind fitO:=by
 rw [op2,QbC hx,QbC hy];rfl
theorem QnD {f:Int→Int→Option Int} {s t:ByteArray} (h:(Qap s && Qap t)=false):op2 f s t=none:=by
 rw [op2];cases hs:zOf s with
 | none=>rfl
 | some x =>
  cases ht:zOf t with
  | none=>rfl
  | some y =>
   obtain ⟨rfl,hx⟩:=Qbr hs;obtain ⟨rfl,hy⟩:=Qbr ht;rw [Qax x hx,Qax y hy] at h;cases h
theorem Qas {z:Int} (h:z.natAbs<10^200):Fits z:=by
 rw [Fits];exact Qce h
theorem QbI {x y:Int} (hx:Fits x) (h:y.natAbs≤x.natAbs):Fits y:=Qas (Nat.lt_of_le_of_lt h (QbU hx))
theorem Qfy:Fits 0:=Qas (by decide)
theorem QnE:Fits 1:=Qas (by decide)
theorem QaT {z:Int} (h:Fits z):(txt z).size≤1000000:=Nat.le_trans (Qbm h) (by decide)
theorem QkD {f:Int→Int→Option Int} {s t v:ByteArray} (h:op2 f s t=some v):v.size≤1000000:=by
 rw [op2] at h;cases hs:zOf s with
 | none=>rw [hs] at h;cases h
 | some x =>
  cases ht:zOf t with
  | none=>rw [hs,ht] at h;cases h
  | some y =>
   rw [hs,ht] at h;cases hf:f x y with
   | none=>simp [hf] at h
   | some z =>
    simp only [Option.bind_some,hf,fitO] at h;split at h
    ·rename_i hz;injection h with h;subst h;exact QaT hz
    ·cases h
noncomputable def Qfd:=op2 fun x y=>some (x+y)
noncomputable def QeI:=op2 fun x y=>some (x-y)
noncomputable def QaZ:=op2 fun x y=>some (x*y)
noncomputable def QjJ:=op2 fun x y=>some ((Nat.gcd x.natAbs y.natAbs:Nat):Int)
noncomputable def QbV:=op2 fun x y=>if y=0 then none else some (x / y)
noncomputable def QeJ:=op2 fun x y=>if y=0 then none else some (if x % y=0 then x / y else x / y+1)
noncomputable def QcO (s t:ByteArray):Option ByteArray:=(zOf t).bind fun y=>if y=0 then none else if 0<y then some s else QeI (txt 0) s
noncomputable def redR (s t:ByteArray):Option (ByteArray×ByteArray) :=
 (QjJ s t).bind fun d=>(QcO d t).bind fun e=>(QbV s e).bind fun n=>(QbV t e).map fun m=>(n,m)
theorem QkE (x y:Int):((Nat.gcd x.natAbs y.natAbs:Nat):Int) ∣ x∧((Nat.gcd x.natAbs y.natAbs:Nat):Int) ∣ y :=
 ⟨Int.ofNat_dvd_left.2 (Nat.gcd_dvd_left _ _),Int.ofNat_dvd_left.2 (Nat.gcd_dvd_right _ _)⟩
theorem QiJ {x y:Int} (hy:Fits y) (h0:y≠0):Fits ((Nat.gcd x.natAbs y.natAbs:Nat):Int) :=
 QbI hy (by rw [Int.natAbs_natCast];exact Nat.gcd_le_right _ (by omega))
theorem QeK {x:Int} (h:Fits x):Fits (-x):=QbI h (by rw [Int.natAbs_neg];exact Nat.le_refl _)
theorem QaX {x y:Int} (hx:Fits x):Fits (x / y):=QbI hx (Int.natAbs_ediv_le_natAbs x y)
theorem Qua {x y:Int} (hx:Fits x) (hy:Fits y) (h0:y≠0):redR (txt x) (txt y)=some (txt (Rat.divInt x y).num,txt ((Rat.divInt x y).den:Int)):=by
 have hg:=QiJ (x:=x) hy h0;have hp:0<Nat.gcd x.natAbs y.natAbs:=Nat.gcd_pos_of_pos_right _ (by omega);obtain ⟨d1,d2⟩:=QkE x y;have e0:y.gcd x=Nat.gcd x.natAbs y.natAbs:=by rw [Int.gcd,Nat.gcd_comm]
 rw [redR,QjJ,QbD hx hy,Option.bind_some,Qay hg,Option.bind_some,QcO,QbC hy,Option.bind_some,if_neg h0,Rat.num_divInt,Rat.den_divInt,if_neg h0,e0];generalize Nat.gcd x.natAbs y.natAbs=g at *
 by_cases hy0:0<y
 ·rw [if_pos hy0,Option.bind_some,QbV,QbD hx hg,if_neg (by omega),Option.bind_some,Qay (QaX hx),Option.bind_some,QbD hy hg,if_neg (by omega),Option.bind_some,Qay (QaX hy),Option.map_some];rw [Int.sign_eq_one_of_pos hy0,Int.one_mul]
  have e1:((y.natAbs / g:Nat):Int)=y / g:=by
   rw [Int.natCast_ediv,Int.natAbs_of_nonneg (by omega)]
  rw [e1]
 ·rw [if_neg hy0,QeI,QbD Qfy hg,Option.bind_some,Int.zero_sub,Qay (QeK hg),Option.bind_some,QbV,QbD hx (QeK hg),if_neg (by omega),Option.bind_some,Qay (QaX hx),Option.bind_some,QbD hy (QeK hg),if_neg (by omega),Option.bind_some,Qay (QaX hy),Option.map_some];rw [Int.sign_eq_neg_one_of_neg (by omega),Int.ediv_neg,Int.ediv_neg,Int.neg_mul,Int.one_mul,Int.neg_ediv_of_dvd d1]
  have e1:((y.natAbs / g:Nat):Int) = -(y / g):=by
   rw [Int.natCast_ediv,←Int.neg_ediv_of_dvd d2];congr 1;omega
  rw [e1]
theorem QpM {s t:ByteArray} (h:zOf t=some 0):redR s t=none:=by
 have:∀ d,QcO d t=none:=fun d=>by rw [QcO,h];rfl
 rw [redR];cases QjJ s t with
 | none=>rfl
 | some d=>rw [Option.bind_some,this];rfl
noncomputable def qOf (s t:ByteArray):Option Rat:=(zOf s).bind fun x=>(zOf t).bind fun y=>if 0<y∧Nat.gcd x.natAbs y.natAbs=1 then some (Rat.divInt x y) else none
def FitQ (q:Rat):Prop:=Fits q.num∧Fits (q.den:Int)
theorem Qsg (q:Rat):Nat.gcd q.num.natAbs q.den=1:=q.reduced
theorem QdG {q:Rat} (h:FitQ q):qOf (txt q.num) (txt (q.den:Int))=some q:=by
 rw [qOf,QbC h.1,QbC h.2,Option.bind_some,Option.bind_some,if_pos,Rat.num_divInt_den];refine ⟨?_, ?_⟩
 ·have:=q.den_pos;omega
 ·rw [Int.natAbs_natCast];exact Qsg q
theorem QiK {x y:Int} (h:0<y) (hg:Nat.gcd x.natAbs y.natAbs=1):(Rat.divInt x y).num=x∧((Rat.divInt x y).den:Int)=y:=by
 have e0:y.gcd x=1:=by rw [Int.gcd,Nat.gcd_comm];exact hg
 rw [Rat.num_divInt,Rat.den_divInt,if_neg (by omega),e0,Int.sign_eq_one_of_pos h];refine ⟨by simp, ?_⟩;rw [Nat.div_one,Int.natAbs_of_nonneg (by omega)]
theorem QhQ {s t:ByteArray} {q:Rat} (h:qOf s t=some q):s=txt q.num∧t=txt (q.den:Int)∧FitQ q:=by
 rw [qOf] at h;cases hs:zOf s with
 | none=>rw [hs] at h;cases h
 | some x =>
  cases ht:zOf t with
  | none=>rw [hs,ht] at h;cases h
  | some y =>
   rw [hs,ht,Option.bind_some,Option.bind_some] at h;split at h
   ·rename_i hc;injection h with h;obtain ⟨e1,e2⟩:=QiK hc.1 hc.2;obtain ⟨rfl,hx⟩:=Qbr hs;obtain ⟨rfl,hy⟩:=Qbr ht;subst h;rw [FitQ,e1,e2];exact ⟨rfl,rfl,hx,hy⟩
   ·cases h
theorem FitQ.div {x y:Int} (hx:Fits x) (hy:Fits y) (h0:y≠0):FitQ (Rat.divInt x y):=by
 rw [FitQ,Rat.num_divInt,Rat.den_divInt,if_neg h0];refine ⟨QbI hx (Nat.le_trans (Int.natAbs_ediv_le_natAbs _ _) ?_),QbI hy ?_⟩
 ·rw [Int.natAbs_mul];rcases Int.lt_trichotomy y 0 with h | h | h
  ·rw [Int.sign_eq_neg_one_of_neg h];simp
  ·omega
  ·rw [Int.sign_eq_one_of_pos h];simp
 ·rw [Int.natAbs_natCast];exact Nat.div_le_self _ _
structure Rim (bs:Nat→Prop) (w w':World):Prop where
 os:w'.os=w.os
 tape:w'.tape=w.tape
 output:w'.output=w.output
 size:w.heap.size≤w'.heap.size
 block:∀ k,k<w.heap.size→¬ bs k→w'.heap[k]? = w.heap[k]?
theorem Rim.refl (bs:Nat→Prop) (w:World):Rim bs w w:=⟨rfl,rfl,rfl,Nat.le_refl _,fun _ _ _=>rfl⟩
theorem Rim.trans {bs:Nat→Prop} {a b c:World} (h:Rim bs a b) (k:Rim bs b c):Rim bs a c :=
 ⟨k.os.trans h.os,k.tape.trans h.tape,k.output.trans h.output,Nat.le_trans h.size k.size,fun i hi hn=>(k.block i (Nat.lt_of_lt_of_le hi h.size) hn).trans (h.block i hi hn)⟩
theorem Rim.mono {bs cs:Nat→Prop} {a b:World} (h:Rim bs a b) (hm:∀ k,bs k→cs k):Rim cs a b :=
 ⟨h.os,h.tape,h.output,h.size,fun k hk hn=>h.block k hk fun hb=>hn (hm k hb)⟩
theorem Rim.of_below {bs:Nat→Prop} {a b:World} (h:Below a.heap.size a b):Rim bs a b:=⟨h.os,h.tape,h.output,h.size,fun k hk _=>h.block k hk⟩
theorem Rim.below {bs:Nat→Prop} {a b:World} {B:Nat} (h:Rim bs a b) (hB:B≤a.heap.size) (hb:∀ k,bs k→B≤k):Below B a b :=
 ⟨h.os,h.tape,h.output,h.size,fun k hk=>h.block k (by omega) fun hc=>by have:=hb k hc;omega⟩
theorem Rim.set {bs:Nat→Prop} (w:World) (a:Addr) (v:Value) (h:bs a.block):Rim bs w (w.setCell a v) :=
 ⟨rfl,rfl,rfl,by simp [World.setCell],fun k _ hn=>Below.heap_setCell _ _ _ _ (fun e=>hn (e▸h))⟩
theorem Rim.heap {bs:Nat→Prop} {a b:World} (h:Rim bs a b) {k:Nat} {o:Obj} (ho:a.heap[k]? = some o) (hn:¬ bs k):b.heap[k]? = some o:=(h.block k (lt_of_block ho) hn).trans ho
theorem Rim.row {bs:Nat→Prop} {a b:World} (h:Rim bs a b) {base:Nat} {e:TypeId} {size:Nat} {v:Value} {n:Nat} {xs:List Value} (hr:a.ownsRow base e size v n xs) (hn:∀ k,v.ownBlock=some k→¬ bs k):b.ownsRow base e size v n xs:=by
 obtain ⟨h1,h2⟩:=hr;refine ⟨h1, ?_⟩;rcases h2 with h2 | ⟨g,cap,cur,hv,hg,hh,r⟩
 ·exact .inl h2
 ·exact .inr ⟨g,cap,cur,hv,hg,h.heap hh (hn g (by rw [hv];rfl)),r⟩
structure Box (w:World) (a:Addr) (s:ByteArray):Prop where
 cell:w.cell? a=some (Z s)
 free:w.frozen? a=false
theorem Box.lt {w:World} {a:Addr} {s:ByteArray} (h:Box w a s):a.block<w.heap.size:=World.block_lt_of_cell? w a h.cell
theorem Box.keep {bs:Nat→Prop} {w w':World} {a:Addr} {s:ByteArray} (h:Box w a s) (ho:Rim bs w w') (hn:¬ bs a.block):Box w' a s :=
 have hb:=ho.block a.block h.lt hn
 ⟨(World.cell?_of_block hb).trans h.cell,(World.frozen?_of_block hb).trans h.free⟩
theorem Box.set {w:World} {a:Addr} {s:ByteArray} (h:Box w a s) (t:ByteArray):Box (w.setCell a (Z t)) a t :=
 ⟨World.cell?_setCell_same w a _ h.cell,by rw [World.frozen?_setCell];exact h.free⟩
theorem Box.other {w:World} {a b:Addr} {s:ByteArray} (h:Box w b s) (hne:a≠b) (v:Value):Box (w.setCell a v) b s :=
 ⟨by rw [World.cell?_setCell_other w a b _ hne];exact h.cell,by rw [World.frozen?_setCell];exact h.free⟩
def upd (st:Nat→ByteArray) (i:Nat) (v:ByteArray):Nat→ByteArray:=fun j=>if j=i then v else st j
structure Holds (ad:List Addr) (st:Nat→ByteArray) (w:World):Prop where
 box:∀ i (h:i<ad.length),Box w ad[i] (st i)
 small:∀ i,i<ad.length→(st i).size≤1000000
def blk (ad:List Addr) (k:Nat):Prop:=∃ a∈ad,a.block=k
theorem Holds.keep {ad:List Addr} {bs:Nat→Prop} {st:Nat→ByteArray} {w w':World} (h:Holds ad st w) (ho:Rim bs w w') (hn:∀ a∈ad,¬ bs a.block):Holds ad st w' :=
 ⟨fun i hi=>(h.box i hi).keep ho (hn _ (List.getElem_mem hi)),h.small⟩
theorem Holds.set {ad:List Addr} {st:Nat→ByteArray} {w:World} (h:Holds ad st w) (hd:ad.Nodup) {i:Nat} (hi:i<ad.length) {v:ByteArray} (hv:v.size≤1000000):Holds ad (upd st i v) (w.setCell ad[i] (Z v)):=by
 refine ⟨fun j hj => ?_,fun j hj => ?_⟩
 ·by_cases e:j=i
  ·subst e;rw [show upd st j v j=v from if_pos rfl];exact (h.box j hj).set v
  ·rw [show upd st i v j=st j from if_neg e];exact (h.box j hj).other (fun hc=>e ((List.getElem_inj hd).1 hc).symm) _
 ·by_cases e:j=i
  ·rw [show upd st i v j=v from if_pos e];exact hv
  ·rw [show upd st i v j=st j from if_neg e];exact h.small j hj
def clo (B:Nat):Value:=.func (.func 184) #[] #[.pointer (some ⟨B+1,0,none⟩),.pointer (some ⟨B+1+1,0,none⟩),.pointer (some ⟨B+1+1+1,0,none⟩),.pointer (some ⟨B,0,none⟩)]
structure IntoAt (W:World) (B:Nat) (res:Addr) (f:Value) (x y:Addr):Prop where
 r:Boxed W B 158 (.pointer (some res))
 f:Boxed W (B+1) 180 f
 x:Boxed W (B+1+1) 158 (.pointer (some x))
 y:Boxed W (B+1+1+1) 158 (.pointer (some y))
theorem IntoAt.keep {W W':World} {B:Nat} {res:Addr} {f:Value} {x y:Addr} {bs:Nat→Prop} (h:IntoAt W B res f x y) (ho:Rim bs W W') (hn:∀ k,B≤k→k≤B+3→¬ bs k):IntoAt W' B res f x y :=
 ⟨ho.heap h.r (hn _ (by omega) (by omega)),ho.heap h.f (hn _ (by omega) (by omega)),ho.heap h.x (hn _ (by omega) (by omega)),ho.heap h.y (hn _ (by omega) (by omega))⟩
theorem QbE (res x y:Addr) (k:Nat) (W:World):Calls Tryz.prog 143 #[.pointer (some res),.func (.func k) #[] #[],.pointer (some x),.pointer (some y)] W fun e W'=>e = .returned (.func (.func 184) #[] #[.pointer (some ⟨W.heap.size+1,0,none⟩),.pointer (some ⟨W.heap.size+1+1,0,none⟩),.pointer (some ⟨W.heap.size+1+1+1,0,none⟩),.pointer (some ⟨W.heap.size,0,none⟩)])∧IntoAt W' W.heap.size res (.func (.func k) #[] #[]) x y∧Below W.heap.size W W'∧W.heap.size+4≤W'.heap.size:=by
 have hmf:∀ (fn:Fn) (first cap:Array Value) (w:World),(Instr.makeFunc fn first cap).run Tryz.prog w = .ok (.func fn first cap) w:=fun _ _ _ _=>rfl;go_enter Tryz.func143, Tryz.ntmps143;go_wp2;go_ret;refine ⟨rfl,⟨?_, ?_, ?_, ?_⟩, ?_, ?_⟩
 ·exact (((Boxed.new _ _ _).alloc _).alloc _).alloc _
 ·have:=(((Boxed.new (W.alloc (O #[.pointer (some res)] 158)) 180 (.func (.func k) #[] #[])).alloc (O #[.pointer (some x)] 158)).alloc (O #[.pointer (some y)] 158))
  rwa [World.size_alloc] at this
 ·have:=((Boxed.new ((W.alloc (O #[.pointer (some res)] 158)).alloc (O #[.func (.func k) #[] #[]] 180)) 158 (.pointer (some x))).alloc (O #[.pointer (some y)] 158))
  rwa [World.size_alloc,World.size_alloc] at this
 ·have:=Boxed.new (((W.alloc (O #[.pointer (some res)] 158)).alloc (O #[.func (.func k) #[] #[]] 180)).alloc (O #[.pointer (some x)] 158)) 158 (.pointer (some y))
  rwa [World.size_alloc,World.size_alloc,World.size_alloc] at this
 ·exact ((((Below.refl _ W).alloc Lr _).alloc (by simp) _).alloc (by simp;omega) _).alloc (by simp;omega) _
 ·simp
def OpC (k:Nat) (op:ByteArray→ByteArray→Option ByteArray):Prop:=∀ (s t:ByteArray) (W:World),s.size≤1000000→t.size≤1000000 →
 Calls Tryz.prog k #[Z s,Z t] W fun e W'=>∃ (v:ByteArray) (n:Int),e = .returned (.tuple #[Z v,.int .i64 n])∧(∀ u,op s t=some u→v=u∧n=0)∧(op s t=none→n≠0)∧Below W.heap.size W W'
theorem Qsh (op:ByteArray→ByteArray→Option ByteArray) (k B:Nat) (res x y:Addr) (s t r:ByteArray) (W:World) (hk:Enters Tryz.prog k) (hop:OpC k op) (hI:IntoAt W B res (.func (.func k) #[] #[]) x y) (hx:Box W x s) (hy:Box W y t) (hr:Box W res r) (hs:s.size≤1000000) (ht:t.size≤1000000) (nx:x≠res) (ny:y≠res) (n0:res.block≠B) (n1:res.block≠B+1) (n2:res.block≠B+1+1) (n3:res.block≠B+1+1+1) :
  Calls Tryz.prog 184 #[.pointer (some ⟨B+1,0,none⟩),.pointer (some ⟨B+1+1,0,none⟩),.pointer (some ⟨B+1+1+1,0,none⟩),.pointer (some ⟨B,0,none⟩)] W fun e W'=>∃ (v:ByteArray) (n:Int) (w1:World),e = .returned (.int .i64 n)∧(∀ u,op s t=some u→v=u∧n=0)∧(op s t=none→n≠0)∧Below W.heap.size W w1∧W'=w1.setCell res (Z v):=by
 have ho:=hop s t;have hen:=fun a w=>hk a w;have cx:=hx.cell;have cy:=hy.cell;have cr:=hr.cell;have fr:=hr.free;have b0:=hI.r.cell;have b1:=hI.f.cell;have b2:=hI.x.cell;have b3:=hI.y.cell;have q0:∀ (w':World) (v:Value),(w'.setCell res v).cell? ⟨B,0,none⟩=w'.cell? ⟨B,0,none⟩:=fun w' v=>World.cell?_setCell_other w' res ⟨B,0,none⟩ v (fun e=>n0 (by rw [e]));have q1:∀ (w':World) (v:Value),(w'.setCell res v).cell? ⟨B+1,0,none⟩=w'.cell? ⟨B+1,0,none⟩:=fun w' v=>World.cell?_setCell_other w' res ⟨B+1,0,none⟩ v (fun e=>n1 (by rw [e]));have q2:∀ (w':World) (v:Value),(w'.setCell res v).cell? ⟨B+1+1,0,none⟩=w'.cell? ⟨B+1+1,0,none⟩:=fun w' v=>World.cell?_setCell_other w' res ⟨B+1+1,0,none⟩ v (fun e=>n2 (by rw [e]));have q3:∀ (w':World) (v:Value),(w'.setCell res v).cell? ⟨B+1+1+1,0,none⟩=w'.cell? ⟨B+1+1+1,0,none⟩:=fun w' v=>World.cell?_setCell_other w' res ⟨B+1+1+1,0,none⟩ v (fun e=>n3 (by rw [e]));have q4:∀ (w':World) (v:Value),(w'.setCell res v).cell? x=w'.cell? x:=fun w' v=>World.cell?_setCell_other w' res x v (fun e=>nx e.symm);have q5:∀ (w':World) (v:Value),(w'.setCell res v).cell? y=w'.cell? y:=fun w' v=>World.cell?_setCell_other w' res y v (fun e=>ny e.symm);go_enter Tryz.func184, Tryz.ntmps184;go_wp2
 go_region_held3 (fun w'=>w'.cell? ⟨B,0,none⟩=some (.pointer (some res))∧w'.cell? ⟨B+1,0,none⟩=some (.func (.func k) #[] #[])∧w'.cell? ⟨B+1+1,0,none⟩=some (.pointer (some x))∧w'.cell? ⟨B+1+1+1,0,none⟩=some (.pointer (some y))∧w'.cell? x=some (Z s)∧w'.cell? y=some (Z t) ) (go_keep) (first | (refine (ho _ hs ht).mono ?_;rintro e w1 ⟨v,n,rfl,h1,h2,hB⟩;have k0:w1.cell? ⟨B,0,none⟩=some (.pointer (some res)):=(hB.cell (p:=⟨B,0,none⟩) hI.r.lt).trans b0;have k1:w1.cell? ⟨B+1,0,none⟩=some (.func (.func k) #[] #[]):=(hB.cell (p:=⟨B+1,0,none⟩) hI.f.lt).trans b1;have k2:w1.cell? ⟨B+1+1,0,none⟩=some (.pointer (some x)):=(hB.cell (p:=⟨B+1+1,0,none⟩) hI.x.lt).trans b2;have k3:w1.cell? ⟨B+1+1+1,0,none⟩=some (.pointer (some y)):=(hB.cell (p:=⟨B+1+1+1,0,none⟩) hI.y.lt).trans b3;have k4:w1.cell? x=some (Z s):=(hB.cell (p:=x) hx.lt).trans cx;have k5:w1.cell? y=some (Z t):=(hB.cell (p:=y) hy.lt).trans cy;have k6:w1.cell? res=some (Z r):=(hB.cell (p:=res) hr.lt).trans cr;have k8:w1.frozen? res=false:=(hB.frozen (p:=res) hr.lt).trans fr))
 go_wp2;go_ret;exact ⟨v,n,w1,rfl,h1,h2,((Below.refl W.heap.size W).drew).trans hB,rfl⟩
theorem QpN (op:ByteArray→ByteArray→Option ByteArray) (k B:Nat) (res y:Addr) (s t:ByteArray) (W:World) (hk:Enters Tryz.prog k) (hop:OpC k op) (hI:IntoAt W B res (.func (.func k) #[] #[]) res y) (hy:Box W y t) (hr:Box W res s) (hs:s.size≤1000000) (ht:t.size≤1000000) (ny:y≠res) (n0:res.block≠B) (n1:res.block≠B+1) (n2:res.block≠B+1+1) (n3:res.block≠B+1+1+1) :
  Calls Tryz.prog 184 #[.pointer (some ⟨B+1,0,none⟩),.pointer (some ⟨B+1+1,0,none⟩),.pointer (some ⟨B+1+1+1,0,none⟩),.pointer (some ⟨B,0,none⟩)] W fun e W'=>∃ (v:ByteArray) (n:Int) (w1:World),e = .returned (.int .i64 n)∧(∀ u,op s t=some u→v=u∧n=0)∧(op s t=none→n≠0)∧Below W.heap.size W w1∧W'=w1.setCell res (Z v):=by
 have ho:=hop s t;have hen:=fun a w=>hk a w;have cy:=hy.cell;have cr:=hr.cell;have fr:=hr.free;have b0:=hI.r.cell;have b1:=hI.f.cell;have b2:=hI.x.cell;have b3:=hI.y.cell;have q0:∀ (w':World) (v:Value),(w'.setCell res v).cell? ⟨B,0,none⟩=w'.cell? ⟨B,0,none⟩:=fun w' v=>World.cell?_setCell_other w' res ⟨B,0,none⟩ v (fun e=>n0 (by rw [e]));have q1:∀ (w':World) (v:Value),(w'.setCell res v).cell? ⟨B+1,0,none⟩=w'.cell? ⟨B+1,0,none⟩:=fun w' v=>World.cell?_setCell_other w' res ⟨B+1,0,none⟩ v (fun e=>n1 (by rw [e]));have q2:∀ (w':World) (v:Value),(w'.setCell res v).cell? ⟨B+1+1,0,none⟩=w'.cell? ⟨B+1+1,0,none⟩:=fun w' v=>World.cell?_setCell_other w' res ⟨B+1+1,0,none⟩ v (fun e=>n2 (by rw [e]));have q3:∀ (w':World) (v:Value),(w'.setCell res v).cell? ⟨B+1+1+1,0,none⟩=w'.cell? ⟨B+1+1+1,0,none⟩:=fun w' v=>World.cell?_setCell_other w' res ⟨B+1+1+1,0,none⟩ v (fun e=>n3 (by rw [e]));have q5:∀ (w':World) (v:Value),(w'.setCell res v).cell? y=w'.cell? y:=fun w' v=>World.cell?_setCell_other w' res y v (fun e=>ny e.symm);go_enter Tryz.func184, Tryz.ntmps184;go_wp2;refine wp_region_held_drew (S:=fun w'=>w'.cell? ⟨B,0,none⟩=some (.pointer (some res))∧w'.cell? ⟨B+1,0,none⟩=some (.func (.func k) #[] #[])∧w'.cell? ⟨B+1+1,0,none⟩=some (.pointer (some res))∧w'.cell? ⟨B+1+1+1,0,none⟩=some (.pointer (some y))∧w'.cell? y=some (Z t)) (by kernel_rfl) ?_ (fun hHeld => ?_)
 ·go_keep
 refine wpAnyH_take (i:=0) (v := ?_) rfl (by kernel_rfl) (by kernel_rfl) (by kernel_rfl) (fun _ _ _ h=>h) (Or.inl ⟨by rfl, ?_⟩) (by assumption) ?_
 rotate_left
 ·intro w hSw
  try dsimp only at hSw
  go_simp
  first | done | with_reducible rfl
 refine wpAnyH_take (i:=1) (v := ?_) rfl (by kernel_rfl) (by kernel_rfl) (by kernel_rfl) (fun _ _ _ h=>h) (Or.inl ⟨by rfl, ?_⟩) (by assumption) ?_
 rotate_left
 ·intro w hSw
  try dsimp only at hSw
  go_simp
  first | done | with_reducible rfl
 refine wpAnyH_take (i:=2) (v := ?_) rfl (by kernel_rfl) (by kernel_rfl) (by kernel_rfl) (fun _ _ _ h=>h) (Or.inl ⟨by rfl, ?_⟩) (by assumption) ?_
 rotate_left
 ·intro w hSw
  try dsimp only at hSw
  go_simp
  first | done | with_reducible rfl
 refine wpAnyH_take (i:=3) (v := ?_) rfl (by kernel_rfl) (by kernel_rfl) (by kernel_rfl) (fun _ _ _ h=>h) (Or.inl ⟨by rfl, ?_⟩) (by assumption) ?_
 rotate_left
 ·intro w hSw
  try dsimp only at hSw
  go_simp
  first | done | with_reducible rfl
 refine wpAnyH_take (i:=5) (v := ?_) rfl (by kernel_rfl) (by kernel_rfl) (by kernel_rfl) (fun _ _ _ h=>h) (Or.inl ⟨by rfl, ?_⟩) (by assumption) ?_
 rotate_left
 ·intro w hSw
  try dsimp only at hSw
  go_simp
  first | done | with_reducible rfl
 refine wpAnyH_take (i:=6) (v := ?_) rfl (by kernel_rfl) (by kernel_rfl) (by kernel_rfl) (fun _ _ _ h=>h) (Or.inl ⟨by rfl, ?_⟩) (by assumption) ?_
 rotate_left
 ·intro w hSw
  try dsimp only at hSw
  go_simp
  first | done | with_reducible rfl
 refine wpAnyH_take (i:=7) (v := ?_) rfl (by kernel_rfl) (by kernel_rfl) (by kernel_rfl) (fun _ _ _ h=>h) (Or.inl ⟨by rfl, ?_⟩) (by assumption) ?_
 rotate_left
 ·intro w hSw
  try dsimp only at hSw
  go_simp
  first | done | with_reducible rfl
 refine wpAnyH_ready (rs := [4]) (by kernel_rfl) (by simp) ?_;refine AllReadyH.cons rfl (fun K hK => ?_) AllReadyH.nil;go_simp;refine hK.out _ _ ?_ (fun hHeld => ?_)
 ·go_keep
 clear hK K;refine wpAnyH_ready (rs := [8]) (by kernel_rfl) (by simp) ?_;refine AllReadyH.cons rfl (fun K hK => ?_) AllReadyH.nil;go_simp;refine (ho _ hs ht).mono ?_;rintro e w1 ⟨v,n,rfl,h1,h2,hB⟩;have k0:w1.cell? ⟨B,0,none⟩=some (.pointer (some res)):=(hB.cell (p:=⟨B,0,none⟩) hI.r.lt).trans b0;have k1:w1.cell? ⟨B+1,0,none⟩=some (.func (.func k) #[] #[]):=(hB.cell (p:=⟨B+1,0,none⟩) hI.f.lt).trans b1;have k2:w1.cell? ⟨B+1+1,0,none⟩=some (.pointer (some res)):=(hB.cell (p:=⟨B+1+1,0,none⟩) hI.x.lt).trans b2;have k3:w1.cell? ⟨B+1+1+1,0,none⟩=some (.pointer (some y)):=(hB.cell (p:=⟨B+1+1+1,0,none⟩) hI.y.lt).trans b3;have k5:w1.cell? y=some (Z t):=(hB.cell (p:=y) hy.lt).trans cy;have k6:w1.cell? res=some (Z s):=(hB.cell (p:=res) hr.lt).trans cr;have k8:w1.frozen? res=false:=(hB.frozen (p:=res) hr.lt).trans fr;go_wp2_with fail;refine hK.out _ _ ?_ (fun hHeld => ?_)
 ·go_keep
 clear hK K;refine wpAnyH_take (i:=9) (v := ?_) rfl (by kernel_rfl) (by kernel_rfl) (by kernel_rfl) (fun _ _ _ h=>h) (Or.inl ⟨by rfl, ?_⟩) (by assumption) ?_
 rotate_left
 ·intro w hSw
  try dsimp only at hSw
  go_simp
  first | done | with_reducible rfl
 refine wpAnyH_take (i:=10) (v := ?_) rfl (by kernel_rfl) (by kernel_rfl) (by kernel_rfl) (fun _ _ _ h=>h) (Or.inl ⟨by rfl, ?_⟩) (by assumption) ?_
 rotate_left
 ·intro w hSw
  try dsimp only at hSw
  go_simp
  first | done | with_reducible rfl
 refine wpAnyH_take (i:=11) (v := ?_) rfl (by kernel_rfl) (by kernel_rfl) (by kernel_rfl) (fun _ _ _ h=>h) (Or.inl ⟨by rfl, ?_⟩) (by assumption) ?_
 rotate_left
 ·intro w hSw
  try dsimp only at hSw
  go_simp
  first | done | with_reducible rfl
 refine wpAnyH_take (i:=12) (v := ?_) rfl (by kernel_rfl) (by kernel_rfl) (by kernel_rfl) (fun _ _ _ h=>h) (Or.inl ⟨by rfl, ?_⟩) (by assumption) ?_
 rotate_left
 ·intro w hSw
  try dsimp only at hSw
  go_simp
  first | done | with_reducible rfl
 refine wpAnyH_ready (rs := [13]) (by kernel_rfl) (by simp) ?_;refine AllReadyH.cons rfl (fun K hK => ?_) AllReadyH.nil;go_simp;refine hK.out _ _ ?_ (fun hHeld => ?_)
 ·go_keep
 clear hK K;refine wpAnyH_take (i:=14) (v := ?_) rfl (by kernel_rfl) (by kernel_rfl) (by kernel_rfl) (fun _ _ _ h=>h) (Or.inl ⟨by rfl, ?_⟩) (by assumption) ?_
 rotate_left
 ·intro w hSw
  try dsimp only at hSw
  go_simp
  first | done | with_reducible rfl
 refine wpAnyH_done (by kernel_rfl) ?_ _;go_wp2;go_ret;exact ⟨v,n,w1,rfl,h1,h2,((Below.refl W.heap.size W).drew).trans hB,rfl⟩
theorem QfH (s t:ByteArray):(∃ x y:Int,s=txt x∧t=txt y∧Fits x∧Fits y)∨(Qap s && Qap t)=false:=by
 cases hs:Qap s with
 | false=>exact .inr rfl
 | true =>
  cases ht:Qap t with
  | false=>exact .inr rfl
  | true =>
   obtain ⟨x,rfl,hx⟩:=QdY hs;obtain ⟨y,rfl,hy⟩:=QdY ht;exact .inl ⟨x,y,rfl,rfl,hx,hy⟩
theorem QfI {k:Nat} {g:Int→Int→Int} (hok:∀ x y,Fits x→Fits y→∀ W:World,Calls Tryz.prog k #[Z (txt x),Z (txt y)] W fun e w'=>e = .returned (QcC (g x y))∧Below W.heap.size W w')
  (hbad:∀ s t:ByteArray,s.size≤1000000→t.size≤1000000→(Qap s && Qap t)=false→∀ W:World,Calls Tryz.prog k #[Z s,Z t] W fun e w'=>e = .returned (.tuple #[Z ⟨#[]⟩,.int .i64 30])∧Below W.heap.size W w'):OpC k (op2 fun x y=>some (g x y)):=by
 intro s t W hs ht;rcases QfH s t with ⟨x,y,rfl,rfl,hx,hy⟩ | hb
 ·rw [QbD hx hy,Option.bind_some];refine (hok x y hx hy W).mono ?_;rintro e w' ⟨rfl,hB⟩;by_cases hf:Fits (g x y)
  ·rw [Qay hf,Qav hf];exact ⟨_,_,rfl,(by rintro u ⟨⟩;exact ⟨rfl,rfl⟩),(by rintro ⟨⟩),hB⟩
  ·rw [Qbj hf,QaJ hf];exact ⟨_,_,rfl,(by rintro u ⟨⟩),(fun _=>by decide),hB⟩
 ·rw [QnD hb];refine (hbad s t hs ht hb W).mono ?_;rintro e w' ⟨rfl,hB⟩;exact ⟨_,_,rfl,(by rintro u ⟨⟩),(fun _=>by decide),hB⟩
theorem QnF:OpC 131 Qfd:=QfI (fun x y hx hy W=>Qre x y hx hy W) (fun s t hs ht h W=>Qny s t hs ht h W)
theorem QnG:OpC 145 QeI:=QfI (fun x y hx hy W=>QtY x y hx hy W) (fun s t hs ht h W=>Qnz s t hs ht h W)
theorem QdH:OpC 66 QaZ:=QfI (fun x y hx hy W=>QdF x y hx hy W) (fun s t hs ht h W=>QnA s t hs ht h W)
theorem gcdC {x y:Int} (hx:Fits x) (hy:Fits y):GcdC x.natAbs y.natAbs:=Qse _ _ (by have:=Qbx hx;omega) (by have:=Qbx hy;omega)
theorem Qsi:OpC 111 QjJ:=QfI (fun x y hx hy W=>Qrg x y hx hy (gcdC hx hy) W) (fun s t hs ht h W=>QnC s t hs ht h W)
theorem txt_0:txt 0=⟨#[48]⟩:=by decide +kernel
theorem txt_1:txt 1=⟨#[49]⟩:=by decide +kernel
theorem QnH (s t:ByteArray) (hs:s.size≤1000000) (ht:t.size≤1000000):∃ (q r:ByteArray) (n:Int),(∀ W:World,Calls Tryz.prog 68 #[Z s,Z t] W fun e w'=>e = .returned (.tuple #[Z q,Z r,.int .i64 n])∧Below W.heap.size W w') ∧
  (∀ x y,zOf s=some x→zOf t=some y→y≠0→q=txt (x / y)∧r=txt (x % y)∧n=0)∧((∃ x y,zOf s=some x∧zOf t=some y∧y≠0)∨(n=30∧∀ x y,zOf s=some x→zOf t=some y→y=0)):=by
 rcases QfH s t with ⟨x,y,rfl,rfl,hx,hy⟩ | hb
 ·by_cases h0:y=0
  ·subst h0;refine ⟨_,_,_,fun W=>QpL x hx W,fun x' y' _ h2 h3 => ?_,.inr ⟨rfl,fun x' y' _ h2 => ?_⟩⟩
   ·rw [QbC hy] at h2;injection h2 with h2;exact absurd h2.symm h3
   ·rw [QbC hy] at h2;injection h2 with h2;exact h2.symm
  ·refine ⟨_,_,_,fun W=>QiI x y hx hy h0 W,fun x' y' h1 h2 h3 => ?_,.inl ⟨x,y,QbC hx,QbC hy,h0⟩⟩;rw [QbC hx] at h1;rw [QbC hy] at h2;injection h1 with h1;injection h2 with h2;subst h1;subst h2
   exact ⟨rfl,rfl,rfl⟩
 ·have hz:∀ x y,zOf s=some x→zOf t=some y→False:=fun x y h1 h2=>by
   obtain ⟨rfl,hx⟩:=Qbr h1;obtain ⟨rfl,hy⟩:=Qbr h2;rw [Qax x hx,Qax y hy] at hb;cases hb
  exact ⟨_,_,_,fun W=>Qsf s t hs ht hb W,fun x y h1 h2 _=>(hz x y h1 h2).elim,.inr ⟨rfl,fun x y h1 h2=>(hz x y h1 h2).elim⟩⟩
theorem Qgl:OpC 165 QbV:=by
 intro s t W hs ht;obtain ⟨q,r,n,hC,h1,h2⟩:=QnH s t hs ht;have H1:Shut _:=⟨And.intro h1 h2⟩;clear h1 h2;go_enter Tryz.func165, Tryz.ntmps165;go_wp2_with (go_at_call 68; refine (hC _).mono ?_;rintro e w1 ⟨rfl,hB⟩)
 go_ret2
 obtain ⟨h1,h2⟩:=H1.o;refine ⟨q,n,rfl, ?_, ?_,hB⟩
 ·intro u hu;rcases h2 with ⟨x,y,hx,hy,h0⟩ | ⟨rfl,h0⟩
  ·obtain ⟨e1,e2,e3⟩:=h1 x y hx hy h0;obtain ⟨rfl,fx⟩:=Qbr hx;obtain ⟨rfl,fy⟩:=Qbr hy;rw [QbV,QbD fx fy,if_neg h0,Option.bind_some,Qay (QaX fx)] at hu;injection hu with hu;exact ⟨e1.trans hu,e3⟩
  ·rw [QbV,op2] at hu;cases hx:zOf s with
   | none=>rw [hx] at hu;cases hu
   | some x =>
    cases hy:zOf t with
    | none=>rw [hx,hy] at hu;cases hu
    | some y =>
     rw [hx,hy,Option.bind_some,Option.bind_some,if_pos (h0 x y hx hy)] at hu;cases hu
 ·intro hn;rcases h2 with ⟨x,y,hx,hy,h0⟩ | ⟨rfl,h0⟩
  ·obtain ⟨rfl,fx⟩:=Qbr hx;obtain ⟨rfl,fy⟩:=Qbr hy;rw [QbV,QbD fx fy,if_neg h0,Option.bind_some,Qay (QaX fx)] at hn;cases hn
  ·decide
theorem QbN (z:Int):((txt z).toList == [48])=decide (z=0):=by
 have:=QcU (txt z) (txt 0);rw [txt_0] at this;rw [show ([48]:List UInt8)=(⟨#[48]⟩:ByteArray).toList from by decide +kernel,this,←txt_0];by_cases h:z=0
 ·subst h;simp
 ·rw [decide_eq_false h,decide_eq_false fun e=>h (Qcv e)]
theorem Qsj (s t q r:ByteArray) (W:World) (hq:q.size≤1000000) (hC:∀ W:World,Calls Tryz.prog 68 #[Z s,Z t] W fun e w'=>e = .returned (.tuple #[Z q,Z r,.int .i64 0])∧Below W.heap.size W w') (hr:(r.toList == [48])=false) :
  Calls Tryz.prog 166 #[Z s,Z t] W fun e W'=>∃ (v:ByteArray) (n:Int),e = .returned (.tuple #[Z v,.int .i64 n])∧(∀ u,Qfd q (txt 1)=some u→v=u∧n=0)∧(Qfd q (txt 1)=none→n≠0)∧Below W.heap.size W W':=by
 have hA:=fun W=>QnF q (txt 1) W hq (QaT QnE);rw [txt_1] at hA;rw [txt_1];go_enter Tryz.func166, Tryz.ntmps166;go_wp2_with (first | (go_at_call 68; refine (hC _).mono ?_;rintro e w1 ⟨rfl,hB⟩) | (go_at_call 131; refine (hA _).mono ?_;rintro e w2 ⟨v,n,rfl,h1,h2,hB2⟩))
 go_ret2
 exact ⟨v,n,rfl,h1,h2,hB.trans (hB2.mono hB.size)⟩
theorem QnI (s t q r:ByteArray) (n:Int) (W:World) (hC:∀ W:World,Calls Tryz.prog 68 #[Z s,Z t] W fun e w'=>e = .returned (.tuple #[Z q,Z r,.int .i64 n])∧Below W.heap.size W w') (hr:(n=30)∨(n=0∧(r.toList == [48])=true)) :
  Calls Tryz.prog 166 #[Z s,Z t] W fun e W'=>e = .returned (.tuple #[Z q,.int .i64 n])∧Below W.heap.size W W':=by
 rcases hr with rfl | ⟨rfl,hr⟩
 ·go_enter Tryz.func166, Tryz.ntmps166;go_wp2_with (first | (go_at_call 68; refine (hC _).mono ?_;rintro e w1 ⟨rfl,hB⟩))
  go_ret2
  exact ⟨rfl,hB⟩
 ·go_enter Tryz.func166, Tryz.ntmps166;go_wp2_with (first | (go_at_call 68; refine (hC _).mono ?_;rintro e w1 ⟨rfl,hB⟩))
  go_ret2
  exact ⟨rfl,hB⟩
theorem QjK:OpC 166 QeJ:=by
 intro s t W hs ht;obtain ⟨q,r,n,hC,h1,h2⟩:=QnH s t hs ht;rcases h2 with ⟨x,y,hx,hy,h0⟩ | ⟨rfl,h0⟩
 ·obtain ⟨e1,e2,e3⟩:=h1 x y hx hy h0;obtain ⟨rfl,fx⟩:=Qbr hx;obtain ⟨rfl,fy⟩:=Qbr hy;subst e1;subst e2;subst e3;by_cases hm:x % y=0
  ·refine (QnI _ _ _ _ _ W hC (.inr ⟨rfl,by rw [QbN,hm];rfl⟩)).mono ?_;rintro e w' ⟨rfl,hB⟩;refine ⟨_,_,rfl, ?_, ?_,hB⟩
   ·intro u hu;rw [QeJ,QbD fx fy,if_neg h0,Option.bind_some,if_pos hm,Qay (QaX fx)] at hu;injection hu with hu;exact ⟨hu,rfl⟩
   ·intro hu;rw [QeJ,QbD fx fy,if_neg h0,Option.bind_some,if_pos hm,Qay (QaX fx)] at hu;cases hu
  ·refine (Qsj _ _ _ _ W (QaT (QaX fx)) hC (by rw [QbN];exact decide_eq_false hm)).mono ?_;rintro e w' ⟨v,n,rfl,ha,hb,hB⟩
   have he:QeJ (txt x) (txt y)=Qfd (txt (x / y)) (txt 1):=by
    rw [QeJ,QbD fx fy,if_neg h0,Option.bind_some,if_neg hm,Qfd,QbD (QaX fx) QnE,Option.bind_some]
   rw [he];exact ⟨v,n,rfl,ha,hb,hB⟩
 ·refine (QnI _ _ _ _ _ W hC (.inl rfl)).mono ?_;rintro e w' ⟨rfl,hB⟩;refine ⟨_,_,rfl, ?_,fun _=>by decide,hB⟩;intro u hu;rw [QeJ,op2] at hu;cases hx:zOf s with
  | none=>rw [hx] at hu;cases hu
  | some x =>
   cases hy:zOf t with
   | none=>rw [hx,hy] at hu;cases hu
   | some y =>
    rw [hx,hy,Option.bind_some,Option.bind_some,if_pos (h0 x y hx hy)] at hu;cases hu
noncomputable def cmpS (s t:ByteArray):Int:=match zOf s,zOf t with | some x,some y=>cmpZ x y | _,_=>0
theorem QhR {x y:Int} (hx:Fits x) (hy:Fits y):cmpS (txt x) (txt y)=cmpZ x y:=by rw [cmpS,QbC hx,QbC hy]
theorem QnJ (s t:ByteArray) (hs:s.size≤1000000) (ht:t.size≤1000000) (W:World):Calls Tryz.prog 67 #[Z s,Z t] W fun e w'=>e = .returned (.int .i64 (cmpS s t))∧Below W.heap.size W w':=by
 rcases QfH s t with ⟨x,y,rfl,rfl,hx,hy⟩ | hb
 ·rw [QhR hx hy];exact QdZ x y hx hy W
 ·have:cmpS s t=0:=by
   rw [cmpS];cases h1:zOf s with
   | none=>rfl
   | some x =>
    cases h2:zOf t with
    | none=>rfl
    | some y =>
     obtain ⟨rfl,hx⟩:=Qbr h1;obtain ⟨rfl,hy⟩:=Qbr h2;rw [Qax x hx,Qax y hy] at hb;cases hb
  rw [this];exact Qgi s t hs ht hb W
theorem Qsk (s t:ByteArray) (W:World) (hs:s.size≤1000000) (hC:∀ W:World,Calls Tryz.prog 67 #[Z t,Z ⟨#[48]⟩] W fun e w'=>e = .returned (.int .i64 (-1))∧Below W.heap.size W w') :
  Calls Tryz.prog 182 #[Z s,Z t] W fun e W'=>∃ (v:ByteArray) (n:Int),e = .returned (.tuple #[Z v,.int .i64 n])∧(∀ u,QeI (txt 0) s=some u→v=u∧n=0)∧(QeI (txt 0) s=none→n≠0)∧Below W.heap.size W W':=by
 have hA:=fun W=>QnG (txt 0) s W (QaT Qfy) hs;rw [txt_0] at hA;rw [txt_0];go_enter Tryz.func182, Tryz.ntmps182;go_wp2_with (first | (go_at_call 67; refine (hC _).mono ?_;rintro e w1 ⟨rfl,hB⟩) | (go_at_call 145; refine (hA _).mono ?_;rintro e w2 ⟨v,n,rfl,h1,h2,hB2⟩))
 go_ret2
 exact ⟨v,n,rfl,h1,h2,hB.trans (hB2.mono hB.size)⟩
theorem QjL (s t:ByteArray) (c:Int) (W:World) (hc:c=0∨c=1) (hC:∀ W:World,Calls Tryz.prog 67 #[Z t,Z ⟨#[48]⟩] W fun e w'=>e = .returned (.int .i64 c)∧Below W.heap.size W w') :
  Calls Tryz.prog 182 #[Z s,Z t] W fun e W'=>∃ (v:ByteArray) (n:Int),e = .returned (.tuple #[Z v,.int .i64 n])∧(c=1→v=s∧n=0)∧(c=0→n≠0)∧Below W.heap.size W W':=by
 rcases hc with rfl | rfl
 ·go_enter Tryz.func182, Tryz.ntmps182;go_wp2_with (first | (go_at_call 67; refine (hC _).mono ?_;rintro e w1 ⟨rfl,hB⟩))
  go_ret2
  exact ⟨_,_,rfl,fun h=>absurd h (by decide),fun _=>by decide,hB⟩
 ·go_enter Tryz.func182, Tryz.ntmps182;go_wp2_with (first | (go_at_call 67; refine (hC _).mono ?_;rintro e w1 ⟨rfl,hB⟩))
  go_ret2
  exact ⟨_,_,rfl,fun _=>⟨rfl,rfl⟩,by decide,hB⟩
theorem QpO:OpC 182 QcO:=by
 intro s t W hs ht;have hC:=fun W=>QnJ t (txt 0) ht (QaT Qfy) W;rw [txt_0] at hC;cases hz:zOf t with
 | none =>
  have e0:cmpS t ⟨#[48]⟩=0:=by rw [cmpS,hz]
  rw [e0] at hC;refine (QjL s t 0 W (.inl rfl) hC).mono ?_;rintro e w' ⟨v,n,rfl,h1,h2,hB⟩;refine ⟨v,n,rfl, ?_,fun _=>h2 rfl,hB⟩;intro u hu;rw [QcO,hz] at hu;cases hu
 | some y =>
  obtain ⟨rfl,hy⟩:=Qbr hz;have e0:cmpS (txt y) ⟨#[48]⟩=cmpZ y 0:=by rw [←txt_0,QhR hy Qfy]
  rw [e0] at hC;rcases Int.lt_trichotomy y 0 with h | h | h
  ·rw [show cmpZ y 0 = -1 from if_pos h] at hC;rw [show QcO s (txt y)=QeI (txt 0) s from by rw [QcO,hz,Option.bind_some,if_neg (by omega),if_neg (by omega)]];exact Qsk s _ W hs hC
  ·subst h;rw [show cmpZ 0 0=0 from rfl] at hC;refine (QjL s _ 0 W (.inl rfl) hC).mono ?_;rintro e w' ⟨v,n,rfl,h1,h2,hB⟩;refine ⟨v,n,rfl, ?_,fun _=>h2 rfl,hB⟩;intro u hu;rw [QcO,hz] at hu;cases hu
  ·rw [show cmpZ y 0=1 from by rw [cmpZ,if_neg (by omega),if_neg (by omega)]] at hC;refine (QjL s _ 1 W (.inr rfl) hC).mono ?_;rintro e w' ⟨v,n,rfl,h1,h2,hB⟩;have e1:QcO s (txt y)=some s:=by rw [QcO,hz,Option.bind_some,if_neg (by omega),if_pos h]
   rw [e1];exact ⟨v,n,rfl,(by rintro u ⟨⟩;exact h1 rfl),(by rintro ⟨⟩),hB⟩
theorem new2 (W:World) (a b:Value) (T:TypeId):(W.alloc (O #[a,b] T)).cell? ⟨W.heap.size,1,none⟩=some b:=by
 rw [cell_of_row _ W.heap.size 1 #[a,b] T (0,0) (World.alloc_heap_new W _)];rfl
def rv (s t:ByteArray):Value:=.agg #[Z s,Z t]
theorem Qfe (s t d:ByteArray) (n c:Int) (W:World) (hG:∀ W:World,Calls Tryz.prog 111 #[Z s,Z t] W fun e w'=>e = .returned (.tuple #[Z d,.int .i64 n])∧Below W.heap.size W w')
  (hC:∀ W:World,Calls Tryz.prog 67 #[Z t,Z ⟨#[48]⟩] W fun e w'=>e = .returned (.int .i64 c)∧Below W.heap.size W w') :
  Calls Tryz.prog 65 #[rv s t] W fun e W'=>e = .returned (.bool (decide (d=⟨#[49]⟩) && decide (0<c)))∧Below W.heap.size W W':=by
 have e1:=QcU d ⟨#[49]⟩;rw [show (⟨#[49]⟩:ByteArray).toList = [49] from by decide +kernel] at e1;rw [rv];by_cases hd:d=⟨#[49]⟩
 ·rw [decide_eq_true hd] at e1 ⊢;rw [Bool.true_and];clear hd;go_enter Tryz.func65, Tryz.ntmps65;go_wp2_with (first | (go_at_call 111; refine (hG _).mono ?_;rintro e w1 ⟨rfl,hB⟩;have k1:w1.cell? ⟨W.heap.size,1,none⟩=some (Z t):=(hB.cell (p:=⟨W.heap.size,1,none⟩) (by simp)).trans (new2 W _ _ _)) | (go_at_call 67; refine (hC _).mono ?_;rintro e w2 ⟨rfl,hB2⟩));go_ret;exact ⟨rfl,(((Below.refl W.heap.size W).alloc Lr _).trans (hB.mono (by simp))).trans (hB2.mono (by have:=hB.size;rw [World.size_alloc] at this;omega))⟩
 ·rw [decide_eq_false hd] at e1 ⊢;rw [Bool.false_and];clear hd;go_enter Tryz.func65, Tryz.ntmps65;go_wp2_with (first | (go_at_call 111; refine (hG _).mono ?_;rintro e w1 ⟨rfl,hB⟩;have k1:w1.cell? ⟨W.heap.size,1,none⟩=some (Z t):=(hB.cell (p:=⟨W.heap.size,1,none⟩) (by simp)).trans (new2 W _ _ _)) | (go_at_call 67; refine (hC _).mono ?_;rintro e w2 ⟨rfl,hB2⟩));go_ret;exact ⟨rfl,((Below.refl W.heap.size W).alloc Lr _).trans (hB.mono (by simp))⟩
theorem QpP (y:Int):(0<cmpZ y 0)↔0<y:=by
 rw [cmpZ];split
 ·omega
 ·split <;> omega
theorem Qgm (s t:ByteArray) (hs:s.size≤1000000) (ht:t.size≤1000000) (W:World):Calls Tryz.prog 65 #[rv s t] W fun e W'=>e = .returned (.bool (qOf s t).isSome)∧Below W.heap.size W W':=by
 have hC:=fun W=>QnJ t (txt 0) ht (QaT Qfy) W;rw [txt_0] at hC;rcases QfH s t with ⟨x,y,rfl,rfl,hx,hy⟩ | hb
 ·have e0:cmpS (txt y) ⟨#[48]⟩=cmpZ y 0:=by rw [←txt_0,QhR hy Qfy]
  rw [e0] at hC;have hG:=fun W=>Qrg x y hx hy (gcdC hx hy) W
  have e2:(qOf (txt x) (txt y)).isSome=(decide (Nat.gcd x.natAbs y.natAbs=1) && decide (0<y)):=by
   rw [qOf,QbC hx,QbC hy,Option.bind_some,Option.bind_some];by_cases h1:0<y <;> by_cases h2:Nat.gcd x.natAbs y.natAbs=1 <;> simp [h1,h2]
  rw [e2];by_cases hf:Fits ((Nat.gcd x.natAbs y.natAbs:Nat):Int)
  ·rw [Qav hf] at hG;refine (Qfe _ _ _ _ _ W hG hC).mono ?_;rintro e w' ⟨rfl,hB⟩;refine ⟨?_,hB⟩;congr 3
   ·rw [←txt_1];by_cases h:Nat.gcd x.natAbs y.natAbs=1
    ·rw [decide_eq_true h,decide_eq_true (by rw [h];rfl)]
    ·rw [decide_eq_false h,decide_eq_false fun e=>h (by have:=Qcv e;omega)]
   ·exact decide_eq_decide.2 (QpP y)
  ·rw [QaJ hf] at hG;refine (Qfe _ _ _ _ _ W hG hC).mono ?_;rintro e w' ⟨rfl,hB⟩;refine ⟨?_,hB⟩;have h1:Nat.gcd x.natAbs y.natAbs≠1:=fun e=>hf (by rw [e];exact QnE);rw [decide_eq_false h1,Bool.false_and,decide_eq_false (by decide),Bool.false_and]
 ·have e2:qOf s t=none:=by
   cases h:qOf s t with
   | none=>rfl
   | some q =>
    obtain ⟨rfl,rfl,hf⟩:=QhQ h;rw [Qax _ hf.1,Qax _ hf.2] at hb;cases hb
  rw [e2];refine (Qfe _ _ _ _ _ W (fun W=>QnC s t hs ht hb W) hC).mono ?_;rintro e w' ⟨rfl,hB⟩;refine ⟨?_,hB⟩;rw [decide_eq_false (by decide),Bool.false_and];rfl
theorem QeL (l:Value) (n:Nat) (p:Option Addr) (c:Nat) (W:World) (hl:l = .slice p n c):Calls Tryz.prog 142 #[l] W fun e W'=>e = .returned (.func (.func 183) #[] #[.pointer (some ⟨W.heap.size,0,none⟩)])∧W'=W.alloc (O #[l] 29):=by
 subst hl;have hmf:∀ (fn:Fn) (first cap:Array Value) (w:World),(Instr.makeFunc fn first cap).run Tryz.prog w = .ok (.func fn first cap) w:=fun _ _ _ _=>rfl;go_enter Tryz.func142, Tryz.ntmps142;go_wp2;go_ret;exact ⟨rfl,rfl⟩
noncomputable def qsOk (l:List (ByteArray×ByteArray)):Bool:=l.all fun x=>(qOf x.1 x.2).isSome
def vR (b:Bool):Int:=if b then 0 else 40
theorem QlZ (b g cap:Nat) (l:List (ByteArray×ByteArray)) (W:World) (hb:Boxed W b 29 (.slice (some ⟨g,0,none⟩) l.length cap)) (hl:l.length≤1000)
  (hg:∀ (i:Nat) (h:i<l.length),W.cell? ⟨g,i*2,none⟩=some (Z l[i].1)∧W.cell? ⟨g,i*2+1,none⟩=some (Z l[i].2)∧l[i].1.size≤1000000∧l[i].2.size≤1000000) :
  Calls Tryz.prog 183 #[.pointer (some ⟨b,0,none⟩)] W fun e W'=>e = .returned (.int .i64 (vR (qsOk l)))∧Below W.heap.size W W':=by
 have cb:=hb.cell;have hblt:=hb.lt;have HG:Shut _:=⟨hg⟩;clear hg hb;go_enter Tryz.func183, Tryz.ntmps183;go_wp2
 go_loopw [6] (fun iv wr=>∃ k:Nat,iv = .int .i64 k∧k≤l.length∧Shut (qsOk (l.take k)=true)∧Below W.heap.size W wr) (fun iv _=>l.length-(intOf iv).toNat)
 case atStart=>exact ⟨0,rfl,by omega,⟨rfl⟩,Below.refl _ _⟩
 case round =>
  obtain ⟨k,rfl,hk,hq,hB⟩:=hrel;by_cases hlt:k<l.length
  ·obtain ⟨c1,c2,hs,ht⟩:=HG.o k hlt;have k1:wr.cell? ⟨g,k*2,none⟩=some (Z l[k].1):=(hB.cell (p:=⟨g,k*2,none⟩) (World.block_lt_of_cell? W _ c1)).trans c1;have k2:wr.cell? ⟨g,k*2+1,none⟩=some (Z l[k].2):=(hB.cell (p:=⟨g,k*2+1,none⟩) (World.block_lt_of_cell? W _ c2)).trans c2;have hV:=fun W=>Qgm l[k].1 l[k].2 hs ht W;rw [rv] at hV
   have hX:Shut (qsOk (l.take (k+1))=(qOf l[k].1 l[k].2).isSome):=⟨by
    rw [List.take_succ_eq_append_getElem hlt,qsOk,List.all_append,show (l.take k).all _=true from hq.o];simp⟩
   have hN:Shut ((qOf l[k].1 l[k].2).isSome=false→qsOk l=false):=⟨fun h=>by
    rw [qsOk,List.all_eq_false];exact ⟨l[k],List.getElem_mem hlt,by rw [h];simp⟩⟩
   clear c1 c2 hs ht hq;generalize l[k]=x at *
   obtain ⟨s,t⟩:=x;cases hv:(qOf s t).isSome with
   | true =>
    simp only [hv] at hV;have hX':Shut _:=⟨hX.o.trans hv⟩;clear hX hN hv;go_wp2_with (go_at_call 65; refine (hV _).mono ?_;rintro e w1 ⟨rfl,hB1⟩)
    go_roundw
    case rel=>exact ⟨k+1,rfl,by omega,hX',(hB.alloc hB.size _).trans (hB1.mono (by rw [World.size_alloc];have:=hB.size;omega))⟩
    case measure=>simp [intOf];omega
   | false =>
    simp only [hv] at hV;have hN':Shut _:=⟨hN.o hv⟩;clear hX hN hv;go_wp2_with (go_at_call 65; refine (hV _).mono ?_;rintro e w1 ⟨rfl,hB1⟩);go_ret;exact ⟨by rw [hN'.o];rfl,(hB.alloc hB.size _).trans (hB1.mono (by rw [World.size_alloc];have:=hB.size;omega))⟩
  ·have hkl:k=l.length:=by omega
   have hq':Shut (qsOk l=true):=⟨by have:=hq.o;rwa [hkl,List.take_length] at this⟩;clear hq;go_wp2;go_ret;exact ⟨by rw [hq'.o];rfl,hB⟩
abbrev St:=Nat→ByteArray
def StepOf (bs:Nat→Prop) (ad:List Addr) (f:Nat×Array Value) (g:St→Option St) (w:World):Prop:=Enters Tryz.prog f.1∧∀ (W:World) (st:St),Rim bs w W→Holds ad st W →
 Calls Tryz.prog f.1 f.2 W fun e W'=>Rim (blk ad) W W'∧((∃ st',g st=some st'∧e = .returned (.int .i64 0)∧Holds ad st' W')∨(g st=none∧∃ n:Int,n≠0∧e = .returned (.int .i64 n)))
theorem StepOf.later {bs:Nat→Prop} {ad:List Addr} {f:Nat×Array Value} {g:St→Option St} {w w':World} (h:StepOf bs ad f g w) (hr:Rim bs w w'):StepOf bs ad f g w' :=
 ⟨h.1,fun W st hR hH=>h.2 W st (hr.trans hR) hH⟩
def cloF (B:Nat):Nat×Array Value:=(184, #[.pointer (some ⟨B+1,0,none⟩),.pointer (some ⟨B+1+1,0,none⟩),.pointer (some ⟨B+1+1+1,0,none⟩),.pointer (some ⟨B,0,none⟩)])
theorem QjM:Enters Tryz.prog 184 := enters_of Tryz.func184 (by kernel_rfl) rfl
theorem QhS:Enters Tryz.prog 183 := enters_of Tryz.func183 (by kernel_rfl) rfl
theorem Qdh {bs:Nat→Prop} {ad:List Addr} {i j l:Nat} {k B:Nat} {op:ByteArray→ByteArray→Option ByteArray} {w:World} (hk:Enters Tryz.prog k) (hop:OpC k op) (hsz:∀ s t u:ByteArray,s.size≤1000000→op s t=some u→u.size≤1000000)
  (hd:ad.Nodup) (hi:i<ad.length) (hj:j<ad.length) (hl:l<ad.length) (hli:l≠i) (hI:IntoAt w B ad[i] (.func (.func k) #[] #[]) ad[j] ad[l]) (hB:∀ k,B≤k→k≤B+3→¬ bs k) (hbs:∀ k,blk ad k→bs k) :
  StepOf bs ad (cloF B) (fun st=>(op (st j) (st l)).map (upd st i)) w:=by
 refine ⟨QjM,fun W st hR hH => ?_⟩;have hbk:∀ k,B≤k→k≤B+3→¬ blk ad k:=fun k h1 h2 h3=>hB k h1 h2 (hbs k h3);have hI':=hI.keep hR hB;have hnb:∀ k,B≤k→k≤B+3→ad[i].block≠k:=fun k h1 h2 e=>hbk k h1 h2 ⟨_,List.getElem_mem hi,e⟩;have hne:ad[l]≠ad[i]:=fun e=>hli ((List.getElem_inj hd).1 e)
 have hres:∀ (e:Ending) (W':World),(∃ (v:ByteArray) (n:Int) (w1:World),e = .returned (.int .i64 n)∧(∀ u,op (st j) (st l)=some u→v=u∧n=0)∧(op (st j) (st l)=none→n≠0)∧Below W.heap.size W w1∧W'=w1.setCell ad[i] (Z v)) →
   Rim (blk ad) W W'∧((∃ st',(op (st j) (st l)).map (upd st i)=some st'∧e = .returned (.int .i64 0)∧Holds ad st' W')∨((op (st j) (st l)).map (upd st i)=none∧∃ n:Int,n≠0∧e = .returned (.int .i64 n))):=by
  rintro e W' ⟨v,n,w1,rfl,h1,h2,hB1,rfl⟩;refine ⟨(Rim.of_below hB1).trans (Rim.set _ _ _ ⟨_,List.getElem_mem hi,rfl⟩), ?_⟩;cases ho:op (st j) (st l) with
  | none=>exact .inr ⟨rfl,n,h2 ho,rfl⟩
  | some u =>
   obtain ⟨rfl,rfl⟩:=h1 u ho;refine .inl ⟨_,rfl,rfl, ?_⟩;exact (hH.keep (Rim.of_below (bs:=fun _=>False) hB1) (fun _ _ h=>h)).set hd hi (hsz _ _ _ (hH.small j hj) ho)
 by_cases hji:j=i
 ·subst hji;refine (QpN op k B ad[j] ad[l] (st j) (st l) W hk hop hI' (hH.box l hl) (hH.box j hj) (hH.small j hj) (hH.small l hl) hne (hnb _ (by omega) (by omega)) (hnb _ (by omega) (by omega)) (hnb _ (by omega) (by omega)) (hnb _ (by omega) (by omega))).mono ?_;exact hres
 ·have hne2:ad[j]≠ad[i]:=fun e=>hji ((List.getElem_inj hd).1 e);refine (Qsh op k B ad[i] ad[j] ad[l] (st j) (st l) (st i) W hk hop hI' (hH.box j hj) (hH.box l hl) (hH.box i hi) (hH.small j hj) (hH.small l hl) hne2 hne (hnb _ (by omega) (by omega)) (hnb _ (by omega) (by omega)) (hnb _ (by omega) (by omega)) (hnb _ (by omega) (by omega))).mono ?_;exact hres
theorem Qhi {bs:Nat→Prop} {ad:List Addr} {b g cap:Nat} {l:List (ByteArray×ByteArray)} {w:World} (hb:Boxed w b 29 (.slice (some ⟨g,0,none⟩) l.length cap)) (hl:l.length≤1000)
  (hg:∀ (i:Nat) (h:i<l.length),w.cell? ⟨g,i*2,none⟩=some (Z l[i].1)∧w.cell? ⟨g,i*2+1,none⟩=some (Z l[i].2)∧l[i].1.size≤1000000∧l[i].2.size≤1000000)
  (hbn:¬ bs b) (hgn:¬ bs g):StepOf bs ad (183, #[.pointer (some ⟨b,0,none⟩)]) (fun st=>if qsOk l then some st else none) w:=by
 refine ⟨QhS,fun W st hR hH => ?_⟩;have hb':Boxed W b 29 (.slice (some ⟨g,0,none⟩) l.length cap):=hR.heap hb hbn;refine (QlZ b g cap l W hb' hl (fun i h => ?_)).mono ?_
 ·obtain ⟨h1,h2,h3,h4⟩:=hg i h;have hlt:=World.block_lt_of_cell? w _ h1;have hbk:=hR.block g hlt hgn;exact ⟨(World.cell?_of_block (a:=⟨g,i*2,none⟩) hbk).trans h1,(World.cell?_of_block (a:=⟨g,i*2+1,none⟩) hbk).trans h2,h3,h4⟩
 ·rintro e W' ⟨rfl,hB⟩;refine ⟨Rim.of_below hB, ?_⟩;cases hq:qsOk l with
  | true=>exact .inl ⟨st,by simp,rfl,hH.keep (Rim.of_below (bs:=fun _=>False) hB) (fun _ _ h=>h)⟩
  | false=>exact .inr ⟨by simp,40,by decide,rfl⟩
def run (gs:List (St→Option St)) (st:St):Option St:=gs.foldl (fun o g=>o.bind g) (some st)
theorem Qma (gs:List (St→Option St)):gs.foldl (fun o g=>o.bind g) none=none:=by
 induction gs with
 | nil=>rfl
 | cons g gs ih=>exact ih
theorem Qff (gs hs:List (St→Option St)) (st:St):run (gs++hs) st=(run gs st).bind (run hs):=by
 rw [run,List.foldl_append];show List.foldl _ (run gs st) hs=_;cases run gs st with
 | none=>exact Qma hs
 | some s=>rfl
theorem QpQ {gs:List (St→Option St)} {st:St} {k:Nat} (h:k<gs.length):run (gs.take (k+1)) st=(run (gs.take k) st).bind gs[k]:=by
 rw [List.take_succ_eq_append_getElem h,Qff];cases run (gs.take k) st with
 | none=>rfl
 | some s=>rfl
abbrev Ps:=List ((Nat×Array Value)×(St→Option St))
noncomputable def four (n B1 B2 B3 B4:Nat):Ps := [(cloF B1,fun st=>(QjJ (st 0) (st 1)).map (upd st n)),(cloF B2,fun st=>(QcO (st n) (st 1)).map (upd st n)),(cloF B3,fun st=>(QbV (st 0) (st n)).map (upd st 0)),(cloF B4,fun st=>(QbV (st 1) (st n)).map (upd st 1))]
theorem QpR (n B1 B2 B3 B4:Nat) (hn:2≤n) (st:St):(run ((four n B1 B2 B3 B4).map Prod.snd) st).map (fun s=>(s 0,s 1))=redR (st 0) (st 1):=by
 have h0:∀ (s:St) v,upd s n v 0=s 0:=fun s v=>if_neg (by omega);have h1:∀ (s:St) v,upd s n v 1=s 1:=fun s v=>if_neg (by omega);have hn':∀ (s:St) v,upd s n v n=v:=fun s v=>if_pos rfl;have h2:∀ (s:St) v,upd s 0 v n=s n:=fun s v=>if_neg (by omega);have h3:∀ (s:St) v,upd s 0 v 1=s 1:=fun s v=>if_neg (by omega);have h4:∀ (s:St) v,upd s 0 v 0=v:=fun s v=>if_pos rfl;have h5:∀ (s:St) v,upd s 1 v 0=s 0:=fun s v=>if_neg (by omega);have h6:∀ (s:St) v,upd s 1 v 1=v:=fun s v=>if_pos rfl;rw [redR];simp only [four,run,List.map_cons,List.map_nil,List.foldl_cons,List.foldl_nil,Option.bind_some];cases QjJ (st 0) (st 1) with
 | none=>rfl
 | some d =>
  simp only [Option.map_some,Option.bind_some,h1,hn'];cases QcO d (st 1) with
  | none=>rfl
  | some e =>
   simp only [Option.map_some,Option.bind_some,h0,hn'];cases QbV (st 0) e with
   | none=>rfl
   | some a =>
    simp only [Option.map_some,Option.bind_some,h1,hn',h2,h3];cases QbV (st 1) e with
    | none=>rfl
    | some b=>simp only [Option.map_some,h4,h5,h6]
theorem Qbf {f:Int→Int→Option Int}:∀ s t u:ByteArray,s.size≤1000000→op2 f s t=some u→u.size≤1000000:=fun _ _ _ _ h=>QkD h
theorem Qmb:∀ s t u:ByteArray,s.size≤1000000→QcO s t=some u→u.size≤1000000:=by
 intro s t u hs h;rw [QcO] at h;cases hz:zOf t with
 | none=>rw [hz] at h;cases h
 | some y =>
  rw [hz,Option.bind_some] at h;split at h
  ·cases h
  ·split at h
   ·injection h with h;subst h;exact hs
   ·exact QkD h
theorem QcP {P:Program} {ops:Array Oper} {o:Oper} {a:Act} {w:World} {K:Act→World→Prop} {Q:Exit→Act→World→Prop} {E:Prop}
  (hg:o.guard=none) (s x:Operand) (t:TypeId) (hop:o.op=Op.call {callee:=Callee.builtin Builtin.append,args:=#[s,x],argTypes:=#[t,t]})
  (base:Nat) (e:TypeId) (i:TypeInfo) (z:Value) (size bytes:Nat) (h1:P.underlying t=some (.slice e)) (h2:P.info? e=some i) (h3:i.zero=some z) (h4:i.size=size) (h5:i.bytes=bytes) (h6:z.cells.size=size) (h7:0<size)
  (v:Value) (k:Nat) (xs:List Value) (hs:a.eval s=v) (hown:w.ownsRow base e size v k xs) (ad:Addr) (m c:Nat) (news:List Value) (hx:a.eval x = .slice (some ad) m c) (hn:news.length=m*size)
  (hc:∀ j u,news[j]? = some u→w.cell? (ad.add j)=some u) (h1c:∀ u∈news,u.oneCell'=true) (b1:k+m≤maxLen) (b2:(k+m)*bytes≤140737488355328) (b3:base≤w.heap.size)
  (hK:∀ v' w',w'.ownsRow base e size v' (k+m) (xs++news)→w.grownBy w' v.ownBlock→K (a.put o.dst v') w') :
  if Region.wanted o (yielded ops a.tmps)=true then Oper.wp P o a w K Q else E:=by
 have hw:Region.wanted o (yielded ops a.tmps)=true:=by simp [Region.wanted,hg]
 rw [if_pos hw];obtain ⟨v',w',hrun,r1,r2,_⟩:=run_append_own (P:=P) w base t o.type e i z size bytes h1 h2 h3 h4 h5 h6 h7 v k xs hown ad m c news hn hc h1c b1 b2 b3;unfold Oper.wp;simp [execOp,hop,resolve,invoke,builtin,hs,hx,hrun,Result.andThen];exact hK v' w' r1 r2
theorem new4 (W:World) (a b c d:Value) (T:TypeId):∀ j u, [a,b,c,d][j]? = some u→(W.alloc (O #[a,b,c,d] T)).cell? ((⟨W.heap.size,0,none⟩:Addr).add j)=some u:=by
 intro j u hu;have hadd:(⟨W.heap.size,0,none⟩:Addr).add j=⟨W.heap.size,j,none⟩:=by unfold Addr.add;split <;> simp_all
 rw [hadd,cell_of_row _ W.heap.size j #[a,b,c,d] T (0,0) (World.alloc_heap_new W _)];simpa using hu
theorem Qub {w w1 w2 w3 w4:World} {o1 o2:Obj} (h1:Below ((w.alloc o1).alloc o2).drew.heap.size ((w.alloc o1).alloc o2).drew w1) (s1:((w.alloc o1).alloc o2).drew.heap.size+4≤w1.heap.size)
  (h2:Below w1.heap.size w1 w2) (s2:w1.heap.size+4≤w2.heap.size) (h3:Below w2.heap.size w2 w3) (s3:w2.heap.size+4≤w3.heap.size) (h4:Below w3.heap.size w3 w4) (_s4:w3.heap.size+4≤w4.heap.size):Below w.heap.size w w4:=by
 have hd:((w.alloc o1).alloc o2).drew.heap.size=w.heap.size+1+1:=by
  show ((w.alloc o1).alloc o2).heap.size=_;rw [World.size_alloc,World.size_alloc]
 have h0:Below w.heap.size w ((w.alloc o1).alloc o2).drew:=(((Below.refl w.heap.size w).alloc Lr o1).alloc (by rw [World.size_alloc];omega) o2).drew;exact (((h0.trans (h1.mono (by omega))).trans (h2.mono (by omega))).trans (h3.mono (by omega))).trans (h4.mono (by omega))
def fval (f:Nat×Array Value):Value:=.func (.func f.1) #[] f.2
theorem QvK:(Tryz.prog.info? 155).map (fun i=>(i.zero,i.size,i.bytes))=some (some .nilFunc,1,8):=by kernel_rfl
theorem Rim.of_grown {bs:Nat→Prop} {a b:World} {row:Option Nat} (h:a.grownBy b row) (hr:∀ k,row=some k→bs k):Rim bs a b :=
 ⟨h.os,h.tape,h.output,h.size,fun k hk hn=>h.block k hk (fun e=>hn (hr k e.symm))⟩
def adr (rb:Nat) (rest:List Addr) (d:Addr):List Addr:=⟨rb,0,none⟩ :: ⟨rb,1,none⟩ :: (rest ++ [d])
structure Ready (base rb:Nat) (ps:Ps) (v:Value) (rest:List Addr) (st:St) (w:World):Prop where
 len:ps.length≤10
 own:w.ownsRow base 155 1 v ps.length (ps.map fun p=>fval p.1)
 low:base≤w.heap.size
 holds:Holds (⟨rb,0,none⟩ :: ⟨rb,1,none⟩ :: rest) st w
 dup:(⟨rb,0,none⟩ :: ⟨rb,1,none⟩ :: rest:List Addr).Nodup
 div:st (rest.length+2)=⟨#[]⟩
 typ:∀ a∈(⟨rb,0,none⟩ :: ⟨rb,1,none⟩ :: rest:List Addr),base≤a.block∧∃ cs T,w.heap[a.block]? = some (.cells cs T (0,0))∧T ≠ 155
 apart:∀ k,v.ownBlock=some k→¬ blk (⟨rb,0,none⟩ :: ⟨rb,1,none⟩ :: rest) k
 steps:∀ d:Addr,w.heap.size≤d.block→∀ p∈ps,StepOf (fun k=>blk (adr rb rest d) k∨v.ownBlock=some k) (adr rb rest d) p.1 p.2 w
structure Set (base rb:Nat) (v:Value) (qs:Ps) (rest:List Addr) (st:St) (w w5:World) (d:Addr) (g:Nat):Prop where
 below:Below base w w5
 new:w.heap.size<w5.heap.size
 holds:Holds (adr rb rest d) st w5
 steps:∀ p∈qs,StepOf (blk (adr rb rest d)) (adr rb rest d) p.1 p.2 w5
 row:¬ blk (adr rb rest d) g
 cells:∀ i (h:i<qs.length),w5.cell? ⟨g,i,none⟩=some (fval qs[i].1)
 up:∀ a∈adr rb rest d,base≤a.block
 res:w5.heap[w.heap.size]? = some (O #[Z ⟨#[]⟩,Z ⟨#[]⟩] 42 (0,0))
 resn:¬ blk (adr rb rest d) w.heap.size
 rim:Rim (fun k=>blk (⟨rb,0,none⟩ :: ⟨rb,1,none⟩ :: rest) k∨v.ownBlock=some k) w w5
 sub:∀ k,k<w.heap.size→blk (adr rb rest d) k→blk (⟨rb,0,none⟩ :: ⟨rb,1,none⟩ :: rest) k∨v.ownBlock=some k
theorem StepOf.fewer {bs cs:Nat→Prop} {ad:List Addr} {f:Nat×Array Value} {g:St→Option St} {w:World} (h:StepOf bs ad f g w) (hm:∀ k,cs k→bs k):StepOf cs ad f g w :=
 ⟨h.1,fun W st hR hH=>h.2 W st (hR.mono hm) hH⟩
theorem QnK {base rb:Nat} {ps:Ps} {v:Value} {rest:List Addr} {st:St} {w w1 w2 w3 w4 w5 W0:World} {oR:Obj} {g cap:Nat} (hR:Ready base rb ps v rest st w)
  (hoR:oR=O #[Z ⟨#[]⟩,Z ⟨#[]⟩] 42) (hW0:W0=((w.alloc oR).alloc (O #[Z ⟨#[]⟩] 9)).drew)
  (hI1:IntoAt w1 W0.heap.size ⟨w.heap.size+1,0,none⟩ (.func (.func 111) #[] #[]) ⟨rb,0,none⟩ ⟨rb,1,none⟩)
  (hI2:IntoAt w2 w1.heap.size ⟨w.heap.size+1,0,none⟩ (.func (.func 182) #[] #[]) ⟨w.heap.size+1,0,none⟩ ⟨rb,1,none⟩)
  (hI3:IntoAt w3 w2.heap.size ⟨rb,0,none⟩ (.func (.func 165) #[] #[]) ⟨rb,0,none⟩ ⟨w.heap.size+1,0,none⟩)
  (hI4:IntoAt w4 w3.heap.size ⟨rb,1,none⟩ (.func (.func 165) #[] #[]) ⟨rb,1,none⟩ ⟨w.heap.size+1,0,none⟩)
  (h1:Below W0.heap.size W0 w1) (h2:Below w1.heap.size w1 w2) (h3:Below w2.heap.size w2 w3) (h4:Below w3.heap.size w3 w4)
  (s1:W0.heap.size+4≤w1.heap.size) (s2:w1.heap.size+4≤w2.heap.size) (s3:w2.heap.size+4≤w3.heap.size) (s4:w3.heap.size+4≤w4.heap.size)
  {o:Obj} (hg:(w4.alloc o).grownBy w5 v.ownBlock) (hown:w5.ownsRow base 155 1 (.slice (some ⟨g,0,none⟩) (ps.length+3+1) cap) (ps.length+4) ((ps++four (rest.length+2) (w.heap.size+1+1) w1.heap.size w2.heap.size w3.heap.size).map fun p=>fval p.1)) :
  Set base rb v (ps++four (rest.length+2) (w.heap.size+1+1) w1.heap.size w2.heap.size w3.heap.size) rest st w w5 ⟨w.heap.size+1,0,none⟩ g:=by
 have hd:W0.heap.size=w.heap.size+1+1:=by
  rw [hW0];show ((w.alloc _).alloc _).heap.size=_;rw [World.size_alloc,World.size_alloc]
 have b0:Below w.heap.size w W0:=by rw [hW0];exact (((Below.refl w.heap.size w).alloc Lr oR).alloc (by rw [World.size_alloc];omega) _).drew
 have b4:Below w.heap.size w (w4.alloc o):=((((b0.trans (h1.mono (by omega))).trans (h2.mono (by omega))).trans (h3.mono (by omega))).trans (h4.mono (by omega))).alloc (by omega) o;rw [hd] at hI1;obtain ⟨d,hdd⟩:∃ d:Addr,d=⟨w.heap.size+1,0,none⟩:=⟨_,rfl⟩;have hdb:d.block=w.heap.size+1:=by rw [hdd]
 have hvl:=hR.own.lt;let bs:Nat→Prop:=fun k=>blk (adr rb rest d) k∨v.ownBlock=some k;have r5:∀ {a:World},Rim bs a (w4.alloc o)→Rim bs a w5:=fun h=>h.trans (Rim.of_grown hg (fun k hk => .inr hk))
 have old:∀ k,blk (⟨rb,0,none⟩ :: ⟨rb,1,none⟩ :: rest) k→k<w.heap.size:=by
  rintro k ⟨a,ha,rfl⟩;obtain ⟨i,hi,rfl⟩:=List.getElem_of_mem ha;exact (hR.holds.box i hi).lt
 have hbk:∀ k,blk (adr rb rest d) k→blk (⟨rb,0,none⟩ :: ⟨rb,1,none⟩ :: rest) k∨k=w.heap.size+1:=by
  rintro k ⟨a,ha,rfl⟩;simp only [adr,List.mem_cons,List.mem_append,List.not_mem_nil,or_false] at ha;rcases ha with rfl | rfl | ha | rfl
  ·exact .inl ⟨_,by simp,rfl⟩
  ·exact .inl ⟨_,by simp,rfl⟩
  ·exact .inl ⟨a,by simp [ha],rfl⟩
  ·exact .inr hdb
 have nbs:∀ k,w.heap.size+1+1≤k→¬ bs k:=by
  rintro k hk (h | h)
  ·rcases hbk k h with h | h
   ·have:=old k h;omega
   ·omega
  ·have:=(hvl k h).2;omega
 have sub:∀ k,blk (adr rb rest d) k→bs k:=fun k h => .inl h;have q1:Rim bs w1 w5:=r5 (Rim.of_below (((h2.trans (h3.mono (by omega))).trans (h4.mono (by omega))).alloc (by omega) o));have q2:Rim bs w2 w5:=r5 (Rim.of_below ((h3.trans (h4.mono (by omega))).alloc (by omega) o));have q3:Rim bs w3 w5:=r5 (Rim.of_below (h4.alloc (by omega) o));have q4:Rim bs w4 w5:=r5 (Rim.of_below ((Below.refl w4.heap.size w4).alloc Lr o));have q0:Rim bs w w5:=r5 (Rim.of_below b4)
 have dupA:(adr rb rest d).Nodup:=by
  have hn:=hR.dup;have:adr rb rest d=(⟨rb,0,none⟩ :: ⟨rb,1,none⟩ :: rest) ++ [d]:=rfl;rw [this,List.nodup_append];refine ⟨hn,by simp, ?_⟩;intro a ha b hb e;rw [List.mem_singleton] at hb;subst hb;subst e;have:=old _ ⟨_,ha,rfl⟩;omega
 have eN:(adr rb rest d).length=rest.length+3:=by simp [adr]
 have e2:∀ h,(adr rb rest d)[rest.length+2]'h=d:=by
  intro h;simp [adr]
 have dk:d∈adr rb rest d:=by simp [adr]
 have hh:Holds (adr rb rest d) st w5:=by
  refine ⟨fun i hi => ?_,fun i hi => ?_⟩
  ·by_cases h:i<rest.length+2
   ·have hb:=hR.holds.box i (by simpa using h)
    have e:(adr rb rest d)[i]=(⟨rb,0,none⟩ :: ⟨rb,1,none⟩ :: rest:List Addr)[i]'(by simpa using h):=by
     have:adr rb rest d=(⟨rb,0,none⟩ :: ⟨rb,1,none⟩ :: rest) ++ [d]:=rfl;simp only [this];exact List.getElem_append_left (by simpa using h)
    rw [e];have hlt:=hb.lt;exact hb.keep (bs:=fun k=>v.ownBlock=some k) ((Rim.of_below b4).trans (Rim.of_grown hg (fun k hk=>hk))) (fun hc=>hR.apart _ hc ⟨_,List.getElem_mem _,rfl⟩)
   ·obtain rfl:i=rest.length+2:=by omega
    rw [e2,hR.div,hdd]
    have hb:Boxed W0 (w.heap.size+1) 9 (Z ⟨#[]⟩):=by
     have:=Boxed.new (w.alloc oR) 9 (Z ⟨#[]⟩);rw [World.size_alloc] at this;rw [hW0];exact this
    have hb':Box W0 ⟨w.heap.size+1,0,none⟩ ⟨#[]⟩:=⟨hb.cell,hb.frozen⟩;refine hb'.keep (bs:=fun k=>v.ownBlock=some k) ((Rim.of_below ((((h1.trans (h2.mono (by omega))).trans (h3.mono (by omega))).trans (h4.mono (by omega))).alloc (by omega) o)).trans (Rim.of_grown hg (fun k hk=>hk))) ?_;intro hc;have h9:w.heap.size+1<w.heap.size:=(hvl _ hc).2;omega
  ·by_cases h:i<rest.length+2
   ·exact hR.holds.small i (by simpa using h)
   ·obtain rfl:i=rest.length+2:=by omega
    rw [hR.div];decide
 have up:∀ a∈adr rb rest d,base≤a.block:=by
  intro a ha;simp only [adr,List.mem_cons,List.mem_append,List.not_mem_nil,or_false] at ha;rcases ha with rfl | rfl | ha | rfl
  ·exact (hR.typ _ (by simp)).1
  ·exact (hR.typ _ (by simp)).1
  ·exact (hR.typ a (by simp [ha])).1
  ·have:=hR.low;omega
 have hrow:¬ blk (adr rb rest d) g∧∀ i (h:i<(ps++four (rest.length+2) (w.heap.size+1+1) w1.heap.size w2.heap.size w3.heap.size).length),w5.cell? ⟨g,i,none⟩=some (fval (ps++four (rest.length+2) (w.heap.size+1+1) w1.heap.size w2.heap.size w3.heap.size)[i].1):=by
  refine ⟨?_,fun i h => ?_⟩
  ·intro hc;rcases hown.2 with ⟨h,_⟩ | ⟨g',c',cur,he,_,hgg,_⟩
   ·cases h
   ·injection he with he;injection he with he;injection he with he;subst he;rcases hbk g hc with h | h
    ·obtain ⟨a,ha,rfl⟩:=h;obtain ⟨_,cs,T,hT,hne⟩:=hR.typ a ha;have k5:w5.heap[a.block]? = some (.cells cs T (0,0)):=((Rim.of_below (bs:=fun k=>v.ownBlock=some k) b4).trans (Rim.of_grown hg (fun k hk=>hk))).heap hT (fun hc=>hR.apart _ hc ⟨a,ha,rfl⟩);rw [k5] at hgg;injection hgg with hgg;injection hgg with _ hgg;exact hne hgg
    ·have hb:W0.heap[w.heap.size+1]? = some (O #[Z ⟨#[]⟩] 9 (0,0)):=by
      have:=Boxed.new (w.alloc oR) 9 (Z ⟨#[]⟩);rw [World.size_alloc] at this;rw [hW0];exact this
     have k5:w5.heap[w.heap.size+1]? = some (O #[Z ⟨#[]⟩] 9 (0,0)):=((Rim.of_below (bs:=fun k=>v.ownBlock=some k) ((((h1.trans (h2.mono (by omega))).trans (h3.mono (by omega))).trans (h4.mono (by omega))).alloc (by omega) o)).trans (Rim.of_grown hg (fun k hk=>hk))).heap hb (fun hc=>by have h9:w.heap.size+1<w.heap.size:=(hvl _ hc).2;omega);rw [←h,hgg] at k5;injection k5 with k5;injection k5 with _ k5;exact absurd k5 (by decide)
  ·have:=hown.cells (g:=g) rfl i (fval (ps++four (rest.length+2) (w.heap.size+1+1) w1.heap.size w2.heap.size w3.heap.size)[i].1) (by rw [List.getElem?_map,List.getElem?_eq_getElem h];rfl);have hadd:(⟨g,0,none⟩:Addr).add i=⟨g,i,none⟩:=by unfold Addr.add;split <;> simp_all
   rwa [hadd] at this
 have i0:(0:Nat)<(adr rb rest d).length:=by omega
 have i1:(1:Nat)<(adr rb rest d).length:=by omega
 have i2:rest.length+2<(adr rb rest d).length:=by omega
 have z0:(adr rb rest d)[0]=⟨rb,0,none⟩:=rfl;have z1:(adr rb rest d)[1]=⟨rb,1,none⟩:=rfl;rw [←hdd] at hI1 hI2 hI3 hI4;refine hdd▸⟨?_, ?_,hh, ?_,hrow.1,hrow.2,up, ?_, ?_, ?_, ?_⟩
 ·exact (Rim.below (bs:=fun k=>v.ownBlock=some k) ((Rim.of_below b4).trans (Rim.of_grown hg (fun k hk=>hk))) hR.low (fun k hk=>(hvl k hk).1))
 ·have:=q4.size;omega
 ·intro p hp;refine StepOf.fewer (bs:=bs) ?_ sub;rcases List.mem_append.1 hp with hp | hp
  ·exact (hR.steps d (by omega) p hp).later q0
  ·have j1:IntoAt w5 (w.heap.size+1+1) _ _ _ _:=hI1.keep q1 (fun k h _=>nbs k h);have j2:IntoAt w5 w1.heap.size _ _ _ _:=hI2.keep q2 (fun k h _=>nbs k (by omega));have j3:IntoAt w5 w2.heap.size _ _ _ _:=hI3.keep q3 (fun k h _=>nbs k (by omega));have j4:IntoAt w5 w3.heap.size _ _ _ _:=hI4.keep q4 (fun k h _=>nbs k (by omega));simp only [four,List.mem_cons,List.not_mem_nil,or_false] at hp;rcases hp with rfl | rfl | rfl | rfl
   ·exact Qdh (i:=rest.length+2) (j:=0) (l:=1) (enters_of Tryz.func111 (by kernel_rfl) rfl) Qsi Qbf dupA i2 i0 i1 (by omega) (by rw [e2,z0,z1];exact j1) (fun k h _=>nbs k h) sub
   ·exact Qdh (i:=rest.length+2) (j:=rest.length+2) (l:=1) (enters_of Tryz.func182 (by kernel_rfl) rfl) QpO Qmb dupA i2 i2 i1 (by omega) (by rw [e2,z1];exact j2) (fun k h _=>nbs k (by omega)) sub
   ·exact Qdh (i:=0) (j:=0) (l:=rest.length+2) (enters_of Tryz.func165 (by kernel_rfl) rfl) Qgl Qbf dupA i0 i0 i2 (by omega) (by rw [e2,z0];exact j3) (fun k h _=>nbs k (by omega)) sub
   ·exact Qdh (i:=1) (j:=1) (l:=rest.length+2) (enters_of Tryz.func165 (by kernel_rfl) rfl) Qgl Qbf dupA i1 i1 i2 (by omega) (by rw [e2,z1];exact j4) (fun k h _=>nbs k (by omega)) sub
 ·have hb:W0.heap[w.heap.size]? = some (O #[Z ⟨#[]⟩,Z ⟨#[]⟩] 42 (0,0)):=by
   have h8:(w.alloc oR).heap[w.heap.size]? = some oR:=World.alloc_heap_new w oR;have h9:=Below.heap_alloc (w.alloc oR) (O #[Z ⟨#[]⟩] 9) w.heap.size (by rw [World.size_alloc];omega);rw [hW0];show ((w.alloc oR).alloc (O #[Z ⟨#[]⟩] 9)).heap[w.heap.size]? = _;rw [h9,h8,hoR]
  exact ((Rim.of_below (bs:=fun k=>v.ownBlock=some k) ((((h1.trans (h2.mono (by omega))).trans (h3.mono (by omega))).trans (h4.mono (by omega))).alloc (by omega) o)).trans (Rim.of_grown hg (fun k hk=>hk))).heap hb (fun hc=>by have h9:w.heap.size<w.heap.size:=(hvl _ hc).2;omega)
 ·intro hc;rcases hbk _ hc with h | h
  ·have:=old _ h;omega
  ·omega
 ·exact (Rim.of_below b4).trans (Rim.of_grown hg (fun k hk => .inr hk))
 ·intro k hk hc;rcases hbk _ hc with h | h
  ·exact .inl h
  ·omega
theorem QhT {bs cs:Nat→Prop} {w a b:World} (h:Rim bs w a) (k:Rim cs a b) (hs:∀ k,k<w.heap.size→cs k→bs k):Rim bs w b :=
 ⟨k.os.trans h.os,k.tape.trans h.tape,k.output.trans h.output,Nat.le_trans h.size k.size,fun i hi hn=>(k.block i (Nat.lt_of_lt_of_le hi h.size) (fun hc=>hn (hs i hi hc))).trans (h.block i hi hn)⟩
theorem QhU {bs:Nat→Prop} {w a:World} (h:Rim bs w a) (p:Addr) (u:Value) (hp:p.block=w.heap.size):Rim bs w (a.setCell p u) :=
 QhT h (Rim.set (bs:=fun k=>k=w.heap.size) a p u hp) (fun k hk hc=>by omega)
def bR (o:Option (ByteArray×ByteArray)):Value:=match o with | some (n,d) => .tuple #[rv n d,.int .i64 0] | none => .tuple #[rv ⟨#[]⟩ ⟨#[]⟩,.int .i64 40]
noncomputable def outR (ps:Ps) (st:St):Option (ByteArray×ByteArray):=(run (ps.map Prod.snd) st).bind fun s=>redR (s 0) (s 1)
theorem QaM (w:World) (b:Nat) (u v x y:Value) (h0:w.cell? ⟨b,0,none⟩=some x) (h1:w.cell? ⟨b,1,none⟩=some y) :
  ((w.setCell ⟨b,0,none⟩ u).setCell ⟨b,1,none⟩ v).cell? ⟨b,0,none⟩=some u∧((w.setCell ⟨b,0,none⟩ u).setCell ⟨b,1,none⟩ v).cell? ⟨b,1,none⟩=some v:=by
 have hne:(⟨b,1,none⟩:Addr)≠⟨b,0,none⟩:=fun e=>by injection e with _ e;cases e
 refine ⟨?_, ?_⟩
 ·rw [World.cell?_setCell_other _ ⟨b,1,none⟩ ⟨b,0,none⟩ _ hne,World.cell?_setCell_same w ⟨b,0,none⟩ _ h0]
 ·exact World.cell?_setCell_same _ ⟨b,1,none⟩ _ (by rw [World.cell?_setCell_other w ⟨b,0,none⟩ ⟨b,1,none⟩ _ hne.symm];exact h1)
theorem QdI (base rb:Nat) (ps:Ps) (v:Value) (rest:List Addr) (st:St) (w:World) (hR:Ready base rb ps v rest st w) :
  Calls Tryz.prog 141 #[.pointer (some ⟨rb,0,none⟩),v] w fun e w'=>e = .returned (bR (outR ps st))∧Below base w w'∧Rim (fun k=>blk (⟨rb,0,none⟩ :: ⟨rb,1,none⟩ :: rest) k∨v.ownBlock=some k) w w':=by
 have HR:Shut _:=⟨hR⟩;have hn:=hR.len;have hown:=hR.own;have hbase:=hR.low;clear hR;obtain ⟨i0,hinf,hz0,hz1,hz2⟩:=info_parts QvK;have hOw:∀ W,Below w.heap.size w W→W.ownsRow base 155 1 v ps.length (ps.map fun p=>fval p.1):=fun W hW=>(Rim.of_below (bs:=fun _=>False) hW).row hown (fun _ _ h=>h);clear hown;go_enter Tryz.func141, Tryz.ntmps141;go_wp2
 go_region_held3 (fun _=>True) (exact trivial) (first | (go_at_call 143; (have q:=hI3;clear q);refine (QbE _ _ _ _ _).mono ?_;rintro e w4 ⟨rfl,hI4,hB4,hs4⟩;have hW4:=Qub hB1 hs1 hB2 hs2 hB3 hs3 hB4 hs4) | (go_at_call 143; (have q:=hI2;clear q);refine (QbE _ _ _ _ _).mono ?_;rintro e w3 ⟨rfl,hI3,hB3,hs3⟩) | (go_at_call 143; (have q:=hI1;clear q);refine (QbE _ _ _ _ _).mono ?_;rintro e w2 ⟨rfl,hI2,hB2,hs2⟩) | (go_at_call 143; refine (QbE _ _ _ _ _).mono ?_;rintro e w1 ⟨rfl,hI1,hB1,hs1⟩) | (refine QcP rfl (.tmp 9) (.tmp 35) 191 rfl base 155 i0 .nilFunc 1 8 Tryz.underlying191 hinf hz0 hz1 hz2 rfl (by decide) _ ps.length (ps.map fun p=>fval p.1) rfl (hOw _ (hW4.alloc hW4.size _)) ⟨w4.heap.size,0,none⟩ 4 4 [_,_,_,_] rfl rfl (new4 _ _ _ _ _ _) ?_ (by unfold maxLen;omega) (by omega) (by rw [World.size_alloc];have:=hW4.size;omega) ?_;(intro u hu;simp at hu;rcases hu with rfl | rfl | rfl | rfl <;> rfl);intro v' w5 hown' hgrow) | fail)
 obtain ⟨g,cap,rfl⟩:=ownsRow_succ (k:=ps.length+3) hown';have hT:=QnK (g:=g) (cap:=cap) HR.o rfl rfl hI1 hI2 hI3 hI4 hB1 hB2 hB3 hB4 hs1 hs2 hs3 hs4 hgrow (by rw [List.map_append];exact hown');clear hI1 hI2 hI3 hI4 hB1 hB2 hB3 hB4 hs1 hs2 hs3 hs4 hown' hgrow hOw;have hlen:(ps++four (rest.length+2) (w.heap.size+1+1) w1.heap.size w2.heap.size w3.heap.size).length=ps.length+3+1:=by simp [four]
 have hout:Shut (outR ps st=(run ((ps++four (rest.length+2) (w.heap.size+1+1) w1.heap.size w2.heap.size w3.heap.size).map Prod.snd) st).map fun s=>(s 0,s 1)):=⟨by
  rw [outR,List.map_append,Qff];cases run (ps.map Prod.snd) st with
  | none=>rfl
  | some s=>rw [Option.bind_some,Option.bind_some,QpR _ _ _ _ _ (by omega)]⟩
 generalize ps++four (rest.length+2) (w.heap.size+1+1) w1.heap.size w2.heap.size w3.heap.size=qs at *
 obtain ⟨d,hd⟩:∃ d:Addr,d=⟨w.heap.size+1,0,none⟩:=⟨_,rfl⟩;rw [←hd] at hT;have HD:Shut _:=⟨hd⟩;have hsz5:=hT.new;have HT:Shut _:=⟨hT⟩;have HRN:Shut (¬ blk (adr rb rest d) w.heap.size):=⟨hT.resn⟩;have hTB:Shut _:=⟨hT.below⟩;have hRimW:Shut _:=⟨hT.rim⟩;have hSub:Shut _:=⟨hT.sub⟩;have hlow:Shut (base≤w5.heap.size):=⟨Nat.le_trans hbase (Nat.le_of_lt hT.new)⟩;have hup:Shut (∀ k,blk (adr rb rest d) k→base≤k):=⟨by rintro k ⟨a,ha,rfl⟩;exact hT.up a ha⟩;clear hd hT HR;generalize hal:adr rb rest d=al at *
 have HA:Shut _:=⟨hal⟩;clear hal;have HQ:Shut _:=⟨hlen⟩;have hN14:ps.length+3+1≤14:=by omega
 generalize hN:ps.length+3+1=N at *
 clear hN;go_wp2
 go_loopw [39] (fun iv wr=>∃ (k:Nat) (s:St),iv = .int .i64 k∧k≤N∧Shut (run ((qs.map Prod.snd).take k) st=some s)∧Shut (Holds al s wr)∧Shut (Rim (blk al) w5 wr)) (fun iv _=>N-(intOf iv).toNat)
 case atStart=>exact ⟨0,st,rfl,by omega,⟨rfl⟩,⟨HA.o▸HT.o.holds⟩,⟨Rim.refl _ _⟩⟩
 case round =>
  obtain ⟨k,s,rfl,hk,hrun,hH,hRm⟩:=hrel;have f1:w.heap.size<wr.heap.size:=by have:=hRm.o.size;omega
  have hres:=hRm.o.heap HT.o.res (by rw [←HA.o];exact HT.o.resn);by_cases hlt:k<N
  ·have hlt':k<qs.length:=by have:=HQ.o;omega
   have ck0:=HT.o.cells k hlt';have ck:wr.cell? ⟨g,k,none⟩=some (fval qs[k].1):=(World.cell?_of_block (a:=⟨g,k,none⟩) (hRm.o.block g (World.block_lt_of_cell? _ _ ck0) (by rw [←HA.o];exact HT.o.row))).trans ck0;have hst:=HT.o.steps qs[k] (List.getElem_mem hlt');rw [HA.o] at hst;have hstep:=hst.2 wr s hRm.o hH.o;have hen:=fun a w=>hst.1 a w
   have hnext:Shut (run ((qs.map Prod.snd).take (k+1)) st=qs[k].2 s):=⟨by
    rw [QpQ (by rw [List.length_map];exact hlt'),hrun.o,Option.bind_some,List.getElem_map]⟩
   have hfail:Shut (qs[k].2 s=none→run (qs.map Prod.snd) st=none):=⟨fun h=>by
    have:=Qff ((qs.map Prod.snd).take (k+1)) ((qs.map Prod.snd).drop (k+1)) st;rw [List.take_append_drop,hnext.o,h] at this;exact this⟩
   clear hst ck0;obtain ⟨x,hx⟩:∃ x,x=qs[k]:=⟨_,rfl⟩;rw [←hx] at ck hstep hen hnext hfail;clear hx hlt';obtain ⟨⟨fk,fc⟩,gk⟩:=x;simp only [fval] at ck hstep hen;simp only at hnext hfail;cases hgk:gk s with
   | some s' =>
    rw [hgk] at hnext hstep
    have hstep':Calls Tryz.prog fk fc wr fun e W'=>e = .returned (.int .i64 0)∧Rim (blk al) wr W'∧Holds al s' W':=hstep.mono (by
     rintro e W' ⟨h1,⟨s'',h2,h3,h4⟩ | ⟨h2,_⟩⟩
     ·injection h2 with h2;subst h2;exact ⟨h3,h1,h4⟩
     ·cases h2)
    clear hstep hfail hgk;go_wp2_with ((refine hstep'.mono ?_;rintro e w6 ⟨rfl,hr6,hh6⟩))
    go_roundw
    case rel=>exact ⟨k+1,s',by go_num,by omega,hnext,⟨hh6⟩,⟨hRm.o.trans hr6⟩⟩
    case measure=>simp [intOf];omega
   | none =>
    rw [hgk] at hstep;have hno:Shut (run (qs.map Prod.snd) st=none):=⟨hfail.o hgk⟩
    have hstep':Calls Tryz.prog fk fc wr fun e W'=>∃ n:Int,e = .returned (.int .i64 n)∧(n != 0)=true∧Rim (blk al) wr W'∧W'.cell? ⟨w.heap.size,0,none⟩=some (Z ⟨#[]⟩)∧W'.cell? ⟨w.heap.size,1,none⟩=some (Z ⟨#[]⟩)∧W'.frozen? ⟨w.heap.size,0,none⟩=false∧W'.frozen? ⟨w.heap.size,1,none⟩=false:=hstep.mono (by
     rintro e W' ⟨h1,⟨s'',h2,_⟩ | ⟨_,n,hn,rfl⟩⟩
     ·cases h2
     ·have hR6:=h1.heap hres HRN.o;exact ⟨n,rfl,by simp [hn],h1,cell_of_row W' w.heap.size 0 _ _ _ hR6,cell_of_row W' w.heap.size 1 _ _ _ hR6,by simp [World.frozen?,hR6],by simp [World.frozen?,hR6]⟩)
    clear hstep hfail hgk hnext hres;go_wp2_with ((refine hstep'.mono ?_;rintro e w6 ⟨n,rfl,hn1,hr6,c0,c1,z0,z1⟩));have k0:=QaM w6 w.heap.size (Z ⟨#[]⟩) (Z ⟨#[]⟩) _ _ c0 c1;have hB5:=hTB.o.trans (((hRm.o.trans hr6).below hlow.o hup.o));clear hen ck;refine bodyPost_ret (v:=.tuple #[.agg #[Z ⟨#[]⟩,Z ⟨#[]⟩],.int .i64 40]) (by simp [results,Tryz.results141, go_sem,k0.1,k0.2]) rfl ⟨?_,(hB5.setCell hbase _).setCell hbase _,QhU (QhU (QhT hRimW.o (hRm.o.trans hr6) hSub.o) _ _ rfl) _ _ rfl⟩;rw [hout.o,hno.o];rfl
  ·have hkN:k=N:=by omega
   have hb0:=hH.o.box 0 (by rw [←HA.o];simp [adr]);have hb1:=hH.o.box 1 (by rw [←HA.o];simp [adr]);have r0:wr.cell? ⟨rb,0,none⟩=some (Z (s 0)):=by have:=hb0.cell;simp only [←HA.o] at this;exact this
   have r1:wr.cell? ⟨rb,1,none⟩=some (Z (s 1)):=by have:=hb1.cell;simp only [←HA.o] at this;exact this
   have c0:wr.cell? ⟨w.heap.size,0,none⟩=some (Z ⟨#[]⟩):=cell_of_row wr w.heap.size 0 _ _ _ hres;have c1:wr.cell? ⟨w.heap.size,1,none⟩=some (Z ⟨#[]⟩):=cell_of_row wr w.heap.size 1 _ _ _ hres;have z0:wr.frozen? ⟨w.heap.size,0,none⟩=false:=by simp [World.frozen?,hres]
   have z1:wr.frozen? ⟨w.heap.size,1,none⟩=false:=by simp [World.frozen?,hres]
   have hyes:Shut (run (qs.map Prod.snd) st=some s):=⟨by have:=hrun.o;rwa [hkN,←HQ.o,←List.length_map (f:=Prod.snd),List.take_length] at this⟩;subst hkN;clear hres hb0 hb1 hrun hH;go_wp2;have k0:=QaM wr w.heap.size (Z (s 0)) (Z (s 1)) _ _ c0 c1;have hB5:=hTB.o.trans ((hRm.o.below hlow.o hup.o));refine bodyPost_ret (v:=.tuple #[.agg #[Z (s 0),Z (s 1)],.int .i64 0]) (by simp [results,Tryz.results141, go_sem,k0.1,k0.2]) rfl ⟨?_,(hB5.setCell hbase _).setCell hbase _,QhU (QhU (QhT hRimW.o hRm.o hSub.o) _ _ rfl) _ _ rfl⟩;rw [hout.o,hyes.o];rfl
def st2 (s t:ByteArray):St:=fun i=>if i=0 then s else if i=1 then t else ⟨#[]⟩
theorem Quc (W:World) (s t:ByteArray) (T:TypeId):Box (W.alloc (O #[Z s,Z t] T)) ⟨W.heap.size,0,none⟩ s∧Box (W.alloc (O #[Z s,Z t] T)) ⟨W.heap.size,1,none⟩ t:=by
 have h:(W.alloc (O #[Z s,Z t] T)).heap[W.heap.size]? = some (O #[Z s,Z t] T (0,0)):=World.alloc_heap_new W _;generalize W.alloc (O #[Z s,Z t] T)=w at *
 exact ⟨⟨cell_of_row w _ 0 _ _ _ h,by simp [World.frozen?,h]⟩,⟨cell_of_row w _ 1 _ _ _ h,by simp [World.frozen?,h]⟩⟩
theorem Qcw (o:Option (ByteArray×ByteArray)):∃ (n d:ByteArray) (c:Int),bR o = .tuple #[.agg #[Z n,Z d],.int .i64 c]:=by
 cases o with
 | none=>exact ⟨_,_,_,rfl⟩
 | some p=>exact ⟨_,_,_,rfl⟩
theorem Qgn (w:World) (r o:Obj):((w.alloc r).alloc o).heap[w.heap.size]? = some r:=(Below.heap_alloc (w.alloc r) o w.heap.size (by simp)).trans (World.alloc_heap_new w r)
theorem Qud {w1:World} (w:World) (T:TypeId) {a b:Value} (h:w1.heap[w.heap.size]? = some (O #[a,b] T (0,0))):w1.cell? ⟨w.heap.size,0,none⟩=some a∧w1.cell? ⟨w.heap.size,1,none⟩=some b∧w1.frozen? ⟨w.heap.size,0,none⟩=false∧w1.frozen? ⟨w.heap.size,1,none⟩=false :=
 ⟨cell_of_row w1 _ 0 _ _ _ h,cell_of_row w1 _ 1 _ _ _ h,by simp [World.frozen?,h],by simp [World.frozen?,h]⟩
theorem QkF (s t:ByteArray) (hs:s.size≤1000000) (ht:t.size≤1000000) (w:World) :
  Calls Tryz.prog 105 #[Z s,Z t] w fun e w'=>e = .returned (bR (redR s t))∧Below w.heap.size w w':=by
 have hR:∀ W:World,Ready W.heap.size W.heap.size [] (.slice none 0 0) [] (st2 s t) (W.alloc (O #[Z s,Z t] 42)):=fun W=>by
  obtain ⟨b0,b1⟩:=Quc W s t 42;refine ⟨by simp,World.ownsRow_nil _ _ _ _,by simp,⟨fun i hi => ?_,fun i _ => ?_⟩,by simp,rfl, ?_,fun k hk=>by simp [Value.ownBlock] at hk,fun d _ p hp=>by cases hp⟩
  ·match i,hi with
   | 0,_=>exact b0
   | 1,_=>exact b1
  ·unfold st2;split
   ·exact hs
   ·split
    ·exact ht
    ·decide
  ·intro a ha;have hh:(W.alloc (O #[Z s,Z t] 42)).heap[W.heap.size]? = some (O #[Z s,Z t] 42 (0,0)):=World.alloc_heap_new W _;simp only [List.mem_cons,List.not_mem_nil,or_false] at ha;rcases ha with rfl | rfl <;> exact ⟨Nat.le_refl _,_,_,hh,by decide⟩
 have hC:∀ (W:World) (b:Nat),b=W.heap.size→Calls Tryz.prog 141 #[.pointer (some ⟨b,0,none⟩),.slice none 0 0] (W.alloc (O #[Z s,Z t] 42)) fun e w'=>e = .returned (bR (redR s t))∧Below W.heap.size (W.alloc (O #[Z s,Z t] 42)) w':=fun W b hb=>by
  subst hb;exact (QdI W.heap.size W.heap.size [] (.slice none 0 0) [] (st2 s t) _ (hR W)).mono fun e w' h=>⟨h.1,h.2.1⟩
 obtain ⟨n,d,c,ho⟩:=Qcw (redR s t);rw [ho] at hC ⊢;clear hR ho;go_enter Tryz.func105, Tryz.ntmps105;go_wp2_with (go_at_call 141; refine (hC _ _ (by simp)).mono ?_;rintro e w1 ⟨rfl,hB⟩;obtain ⟨c0,c1,z0,z1⟩:=Qud w _ ((hB.block w.heap.size (by simp)).trans (Qgn w _ _)));have k0:=QaM w1 w.heap.size (Z n) (Z d) _ _ c0 c1;have hB5:Below w.heap.size w w1:=(((Below.refl w.heap.size w).alloc Lr _).alloc (by simp) _).trans (hB.mono (by simp));refine bodyPost_ret (v:=.tuple #[.agg #[Z n,Z d],.int .i64 c]) (by simp [results,Tryz.results105, go_sem,k0.1,k0.2]) rfl ⟨rfl,(hB5.setCell Lr _).setCell Lr _⟩
theorem Qab {w1:World} {b:Nat} {T:TypeId} {x y:Value} (h:w1.heap[b]? = some (O #[x,y] T (0,0))):w1.cell? ⟨b,0,none⟩=some x∧w1.cell? ⟨b,1,none⟩=some y∧w1.frozen? ⟨b,0,none⟩=false∧w1.frozen? ⟨b,1,none⟩=false :=
 ⟨cell_of_row w1 _ 0 _ _ _ h,cell_of_row w1 _ 1 _ _ _ h,by simp [World.frozen?,h],by simp [World.frozen?,h]⟩
def QaU (w:World) (os:List Obj):World:=os.foldl (fun W o=>W.alloc o) w
theorem QcQ (w:World):∀ os:List Obj,(QaU w os).heap.size=w.heap.size+os.length:=by
 intro os
 induction os generalizing w with
 | nil=>rfl
 | cons o os ih =>
  show (QaU (w.alloc o) os).heap.size=_;rw [ih,World.size_alloc,List.length_cons];omega
theorem Qcr (w:World):∀ os:List Obj,Below w.heap.size w (QaU w os):=by
 intro os
 induction os generalizing w with
 | nil=>exact Below.refl _ _
 | cons o os ih =>
  have:=ih (w.alloc o);rw [World.size_alloc] at this;exact ((Below.refl w.heap.size w).alloc Lr o).trans (this.mono (by omega))
theorem QaY (w:World):∀ (os:List Obj) (i:Nat) (o:Obj),os[i]? = some o→(QaU w os).heap[w.heap.size+i]? = some o:=by
 intro os
 induction os generalizing w with
 | nil=>intro i o h;cases h
 | cons p os ih =>
  intro i o h;cases i with
  | zero =>
   injection h with h;subst h;have hb:=Qcr (w.alloc p) os;rw [World.size_alloc] at hb;exact (hb.block w.heap.size (by omega)).trans (World.alloc_heap_new w p)
  | succ i =>
   have:=ih (w.alloc p) i o (by simpa using h);rw [World.size_alloc] at this;rw [show w.heap.size+(i+1)=w.heap.size+1+i from by omega];exact this
abbrev Ent:=Nat×Nat×ByteArray
def adE (b:Nat) (e:Ent):Addr:=⟨b+e.1,e.2.1,none⟩
def stE (es:List Ent):St:=fun i=>(es.getD i (0,0,⟨#[]⟩)).2.2
def InOs (os:List Obj) (e:Ent):Prop:=∃ (cs:Array Value) (T:TypeId),os[e.1]? = some (.cells cs T (0,0))∧cs[e.2.1]? = some (Z e.2.2)∧T ≠ 155
structure IntoSpec (w:World) (os:List Obj) (es:List Ent) (W:World) (p:(Nat×Array Value)×(St→Option St)):Prop where
 it:∃ (i j l k:Nat) (op:ByteArray→ByteArray→Option ByteArray) (B:Nat) (hi:i<es.length) (hj:j<es.length) (hl:l<es.length),p=(cloF B,fun st=>(op (st j) (st l)).map (upd st i))∧Enters Tryz.prog k∧OpC k op∧(∀ s t u:ByteArray,s.size≤1000000→op s t=some u→u.size≤1000000)∧l≠i ∧
  IntoAt W B (adE w.heap.size es[i]) (.func (.func k) #[] #[]) (adE w.heap.size es[j]) (adE w.heap.size es[l])∧w.heap.size+os.length≤B∧B+3<W.heap.size
structure ValidSpec (w:World) (os:List Obj) (es:List Ent) (W:World) (p:(Nat×Array Value)×(St→Option St)):Prop where
 it:∃ (b g cap:Nat) (l:List (ByteArray×ByteArray)),p=((183, #[.pointer (some ⟨b,0,none⟩)]),fun st=>if qsOk l then some st else none)∧Boxed W b 29 (.slice (some ⟨g,0,none⟩) l.length cap)∧l.length≤1000 ∧
  (∀ (i:Nat) (h:i<l.length),W.cell? ⟨g,i*2,none⟩=some (Z l[i].1)∧W.cell? ⟨g,i*2+1,none⟩=some (Z l[i].2)∧l[i].1.size≤1000000∧l[i].2.size≤1000000) ∧
  (∀ e∈es,w.heap.size+e.1≠b∧w.heap.size+e.1≠g)∧b<W.heap.size∧g<W.heap.size
theorem Qgo {w W:World} {os:List Obj} {rI:Nat} {n0 d0:ByteArray} {es':List Ent} {ps:Ps} (hes:∀ e∈((rI,0,n0) :: (rI,1,d0) :: es':List Ent),InOs os e∧e.2.2.size≤1000000)
  (hnd:(((rI,0,n0) :: (rI,1,d0) :: es':List Ent).map fun e=>(e.1,e.2.1)).Nodup) (hb:Below (w.heap.size+os.length) (QaU w os) W) (hlen:ps.length≤10)
  (hst:∀ p∈ps,IntoSpec w os ((rI,0,n0) :: (rI,1,d0) :: es') W p∨ValidSpec w os ((rI,0,n0) :: (rI,1,d0) :: es') W p) :
  Ready w.heap.size (w.heap.size+rI) ps (.slice (some ⟨W.heap.size,0,none⟩) ps.length ps.length) (es'.map (adE w.heap.size)) (stE ((rI,0,n0) :: (rI,1,d0) :: es')) (W.alloc (.cells (ps.map fun p=>fval p.1).toArray 155)):=by
 have eAd:(⟨w.heap.size+rI,0,none⟩ :: ⟨w.heap.size+rI,1,none⟩ :: es'.map (adE w.heap.size):List Addr)=((rI,0,n0) :: (rI,1,d0) :: es':List Ent).map (adE w.heap.size):=rfl;have eLen:es'.length+2=((rI,0,n0) :: (rI,1,d0) :: es':List Ent).length:=rfl;have hWl:w.heap.size+os.length≤W.heap.size:=by have:=hb.size;rw [QcQ] at this;exact this
 have hos:∀ e∈((rI,0,n0) :: (rI,1,d0) :: es':List Ent),e.1<os.length:=fun e he=>by
  obtain ⟨⟨cs,T,h,_⟩,_⟩:=hes e he;exact (List.getElem?_eq_some_iff.1 h).1
 have hblk:∀ e∈((rI,0,n0) :: (rI,1,d0) :: es':List Ent),∃ cs T,(W.alloc (.cells (ps.map fun p=>fval p.1).toArray 155)).heap[w.heap.size+e.1]? = some (.cells cs T (0,0))∧cs[e.2.1]? = some (Z e.2.2)∧T ≠ 155 := fun e he=>by
  obtain ⟨⟨cs,T,h,h2,h3⟩,_⟩:=hes e he;have:=hos e he;refine ⟨cs,T, ?_,h2,h3⟩;rw [Below.heap_alloc _ _ _ (by omega),hb.block _ (by omega)];exact QaY w os _ _ h
 have hrow:(W.alloc (.cells (ps.map fun p=>fval p.1).toArray 155)).heap[W.heap.size]? = some (.cells (ps.map fun p=>fval p.1).toArray 155 (0,0)):=World.alloc_heap_new W _;have hsz:(W.alloc (.cells (ps.map fun p=>fval p.1).toArray 155)).heap.size=W.heap.size+1:=World.size_alloc _ _;have hB1:Rim (fun _=>False) W (W.alloc (.cells (ps.map fun p=>fval p.1).toArray 155)):=Rim.of_below ((Below.refl _ W).alloc Lr _);generalize hWe:W.alloc (.cells (ps.map fun p=>fval p.1).toArray 155)=We at *
 clear hWe;generalize hesE:((rI,0,n0) :: (rI,1,d0) :: es':List Ent)=es at *
 have hdup:(es.map (adE w.heap.size)).Nodup:=by
  rw [List.Nodup,List.pairwise_map] at hnd ⊢;refine hnd.imp ?_;intro a b hab e;apply hab;injection e with e1 e2;rw [Prod.mk.injEq];exact ⟨by omega,e2⟩
 have hapart:∀ k,blk (es.map (adE w.heap.size)) k→∃ e∈es,w.heap.size+e.1=k:=by
  rintro k ⟨a,ha,rfl⟩;obtain ⟨e,he,rfl⟩:=List.mem_map.1 ha;exact ⟨e,he,rfl⟩
 refine ⟨hlen,⟨by simp,.inr ⟨W.heap.size,ps.length,_,rfl,by omega,hrow,Nat.le_refl _,by unfold maxLen;omega,by simp,by simp only [Nat.mul_one];exact List.take_of_length_le (by simp)⟩⟩,by omega, ?_,by rw [eAd];exact hdup, ?_, ?_, ?_, ?_⟩
 ·rw [eAd];refine ⟨fun i hi => ?_,fun i hi => ?_⟩
  ·have hi':i<es.length:=by simpa using hi
   obtain ⟨cs,T,h1,h2,_⟩:=hblk es[i] (List.getElem_mem hi');rw [List.getElem_map];have e1:stE es i=es[i].2.2:=by rw [stE,List.getD_eq_getElem?_getD,List.getElem?_eq_getElem hi'];rfl
   rw [e1];exact ⟨by rw [adE,cell_of_row We _ _ _ _ _ h1];exact h2,by simp [adE,World.frozen?,h1]⟩
  ·have hi':i<es.length:=by simpa using hi
   have e1:stE es i=es[i].2.2:=by rw [stE,List.getD_eq_getElem?_getD,List.getElem?_eq_getElem hi'];rfl
   rw [e1];exact (hes _ (List.getElem_mem hi')).2
 ·rw [List.length_map,eLen,stE,List.getD_eq_getElem?_getD,List.getElem?_eq_none Lr];rfl
 ·rw [eAd];intro a ha;obtain ⟨e,he,rfl⟩:=List.mem_map.1 ha;obtain ⟨cs,T,h1,_,h3⟩:=hblk e he;exact ⟨by simp [adE],cs,T,h1,h3⟩
 ·intro k hk;rw [eAd];intro hc;obtain ⟨e,he,rfl⟩:=hapart k hc;have:=hos e he;simp [Value.ownBlock] at hk;omega
 ·intro d hd p hp;have eA:adr (w.heap.size+rI) (es'.map (adE w.heap.size)) d=es.map (adE w.heap.size) ++ [d]:=by rw [←eAd];rfl
  rw [eA]
  have hbk:∀ k,blk (es.map (adE w.heap.size) ++ [d]) k→(∃ e∈es,w.heap.size+e.1=k)∨W.heap.size<k:=by
   rintro k ⟨a,ha,rfl⟩;rcases List.mem_append.1 ha with ha | ha
   ·exact .inl (hapart _ ⟨a,ha,rfl⟩)
   ·rw [List.mem_singleton.1 ha];exact .inr (by omega)
  have hdupA:(es.map (adE w.heap.size) ++ [d]).Nodup:=by
   rw [List.nodup_append];refine ⟨hdup,by simp, ?_⟩;intro a ha b hb' e;rw [List.mem_singleton] at hb';subst hb';subst e;obtain ⟨e,he,h⟩:=hapart _ ⟨_,ha,rfl⟩;have:=hos e he;omega
  have own:∀ k,(Value.slice (some ⟨W.heap.size,0,none⟩) ps.length ps.length).ownBlock=some k→k=W.heap.size:=fun k hk=>by
   simp [Value.ownBlock] at hk;omega
  rcases hst p hp with h | h
  ·obtain ⟨i,j,l,k,op,B,hi,hj,hl,rfl,h1,h2,h3,h4,h5,h6,h7⟩:=h.it
   have gi:∀ (i:Nat) (hi:i<es.length) (h':i<(es.map (adE w.heap.size) ++ [d]).length),(es.map (adE w.heap.size) ++ [d])[i]=adE w.heap.size es[i]:=fun i hi h'=>by
    rw [List.getElem_append_left (by simpa using hi),List.getElem_map]
   have gl:(es.map (adE w.heap.size) ++ [d]).length=es.length+1:=by simp
   refine Qdh (i:=i) (j:=j) (l:=l) h1 h2 h3 hdupA (by omega) (by omega) (by omega) h4 (by rw [gi i hi,gi j hj,gi l hl];exact h5.keep hB1 (fun _ _ _ h=>h)) ?_ (fun k hk => .inl hk);rintro k k1 k2 (hk | hk)
   ·rcases hbk k hk with ⟨e,he,rfl⟩ | h
    ·have:=hos e he;omega
    ·omega
   ·have:=own k hk;omega
  ·obtain ⟨b,g,cap,l,rfl,h1,h2,h3,h4,h5,h6⟩:=h.it;refine Qhi (hB1.heap h1 (fun h=>h)) h2 (fun i hi => ?_) ?_ ?_
   ·obtain ⟨q1,q2,q3,q4⟩:=h3 i hi;have hbl:=hB1.block g h6 (fun h=>h);exact ⟨(World.cell?_of_block (a:=⟨g,i*2,none⟩) hbl).trans q1,(World.cell?_of_block (a:=⟨g,i*2+1,none⟩) hbl).trans q2,q3,q4⟩
   ·rintro (hk | hk)
    ·rcases hbk b hk with ⟨e,he,h⟩ | h
     ·exact (h4 e he).1 h
     ·omega
    ·have:=own b hk;omega
   ·rintro (hk | hk)
    ·rcases hbk g hk with ⟨e,he,h⟩ | h
     ·exact (h4 e he).2 h
     ·omega
    ·have:=own g hk;omega
theorem Qgp {w w2 w3 w4:World} (os:List Obj) {o:Obj} (h1:Below (QaU w os).heap.size (QaU w os) w2) (h2:Below w2.heap.size w2 w3) (h4:Below w.heap.size (w3.alloc o) w4):Below w.heap.size w w4:=by
 have h0:=Qcr w os;have:=h0.size;have:=h1.size;have:=h2.size;exact (((h0.trans (h1.mono (by omega))).trans (h2.mono (by omega))).alloc (by omega) o).trans h4
noncomputable def mulR (s t u v:ByteArray):Option (ByteArray×ByteArray):=if qsOk [(s,t),(u,v)] then (QaZ s u).bind fun n=>(QaZ t v).bind fun d=>redR n d else none
theorem Qsl (f1 f2 f3:Nat×Array Value) (l:List (ByteArray×ByteArray)) (st:St):outR [(f1,fun st=>if qsOk l then some st else none),(f2,fun st=>(QaZ (st 2) (st 4)).map (upd st 0)),(f3,fun st=>(QaZ (st 3) (st 5)).map (upd st 1))] st=if qsOk l then (QaZ (st 2) (st 4)).bind fun n=>(QaZ (st 3) (st 5)).bind fun d=>redR n d else none:=by
 simp only [outR,run,List.map_cons,List.map_nil,List.foldl_cons,List.foldl_nil,Option.bind_some];cases qsOk l with
 | false=>rfl
 | true =>
  simp only [if_true,Option.bind_some];cases QaZ (st 2) (st 4) with
  | none=>rfl
  | some n =>
   simp only [Option.map_some,Option.bind_some];rw [show upd st 0 n 3=st 3 from rfl,show upd st 0 n 5=st 5 from rfl];cases QaZ (st 3) (st 5) with
   | none=>rfl
   | some d=>rfl
def Qgq (w:World) (s t u v:ByteArray):List Obj := [O #[Z s,Z t] 42, O #[Z u,Z v] 42, O #[Z ⟨#[]⟩,Z ⟨#[]⟩] 42, O #[Z ⟨#[]⟩,Z ⟨#[]⟩] 42, O #[Z s,Z t,Z u,Z v] 42, O #[.slice (some ⟨w.heap.size+1+1+1+1,0,none⟩) 2 2] 29]
theorem QnL (s t u v:ByteArray) (hs:s.size≤1000000) (ht:t.size≤1000000) (hu:u.size≤1000000) (hv:v.size≤1000000) {w w2 w3:World}
  (hI1:IntoAt w2 (QaU w (Qgq w s t u v)).heap.size ⟨w.heap.size+1+1+1,0,none⟩ (.func (.func 66) #[] #[]) ⟨w.heap.size,0,none⟩ ⟨w.heap.size+1,0,none⟩) (hB1:Below (QaU w (Qgq w s t u v)).heap.size (QaU w (Qgq w s t u v)) w2) (hs1:(QaU w (Qgq w s t u v)).heap.size+4≤w2.heap.size)
  (hI2:IntoAt w3 w2.heap.size ⟨w.heap.size+1+1+1,1,none⟩ (.func (.func 66) #[] #[]) ⟨w.heap.size,1,none⟩ ⟨w.heap.size+1,1,none⟩) (hB2:Below w2.heap.size w2 w3) (hs2:w2.heap.size+4≤w3.heap.size) :
  Calls Tryz.prog 141 #[.pointer (some ⟨w.heap.size+1+1+1,0,none⟩),.slice (some ⟨w3.heap.size,0,none⟩) 3 3] (w3.alloc (O #[.func (.func 183) #[] #[.pointer (some ⟨w.heap.size+1+1+1+1+1,0,none⟩)],clo (w.heap.size+1+1+1+1+1+1),clo w2.heap.size] 155)) fun e w'=>e = .returned (bR (mulR s t u v))∧Below w.heap.size (w3.alloc (O #[.func (.func 183) #[] #[.pointer (some ⟨w.heap.size+1+1+1+1+1,0,none⟩)],clo (w.heap.size+1+1+1+1+1+1),clo w2.heap.size] 155)) w'∧w'.heap[w.heap.size+1+1]? = some (O #[Z ⟨#[]⟩,Z ⟨#[]⟩] 42 (0,0)):=by
 have hsz:(QaU w (Qgq w s t u v)).heap.size=w.heap.size+6:=QcQ _ _;have hBw:Below (w.heap.size+6) (QaU w (Qgq w s t u v)) w3:=by rw [hsz] at hB1;exact hB1.trans (hB2.mono (by omega))
 have g2:=QaY w (Qgq w s t u v) 2 _ rfl;have g4:=QaY w (Qgq w s t u v) 4 _ rfl;have g5:=QaY w (Qgq w s t u v) 5 _ rfl;rw [hsz] at hI1 hs1;have k4:=(hBw.block (w.heap.size+4) (by omega)).trans g4;have k5:=(hBw.block (w.heap.size+5) (by omega)).trans g5;have hk:Enters Tryz.prog 66 := enters_of Tryz.func66 (by kernel_rfl) rfl
 have hR:=Qgo (w:=w) (W:=w3) (os:=Qgq w s t u v) (rI:=3) (n0:=⟨#[]⟩) (d0:=⟨#[]⟩) (es' := [(0,0,s),(0,1,t),(1,0,u),(1,1,v)])
  (ps := [((183, #[.pointer (some ⟨w.heap.size+1+1+1+1+1,0,none⟩)]),fun st=>if qsOk [(s,t),(u,v)] then some st else none),(cloF (w.heap.size+6),fun st=>(QaZ (st 2) (st 4)).map (upd st 0)),(cloF w2.heap.size,fun st=>(QaZ (st 3) (st 5)).map (upd st 1))])
  (by
   intro e he;simp only [List.mem_cons,List.not_mem_nil,or_false] at he;rcases he with rfl | rfl | rfl | rfl | rfl | rfl
   ·exact ⟨⟨_,_,rfl,rfl,by decide⟩,by decide⟩
   ·exact ⟨⟨_,_,rfl,rfl,by decide⟩,by decide⟩
   ·exact ⟨⟨_,_,rfl,rfl,by decide⟩,hs⟩
   ·exact ⟨⟨_,_,rfl,rfl,by decide⟩,ht⟩
   ·exact ⟨⟨_,_,rfl,rfl,by decide⟩,hu⟩
   ·exact ⟨⟨_,_,rfl,rfl,by decide⟩,hv⟩)
  (by simp) hBw (by simp)
  (by
   intro p hp;simp only [List.mem_cons,List.not_mem_nil,or_false] at hp;rcases hp with rfl | rfl | rfl
   ·refine .inr ⟨w.heap.size+5,w.heap.size+4,2, [(s,t),(u,v)],rfl,k5,by simp, ?_, ?_,by have:=hs2;omega,by have:=hs2;omega⟩
    ·intro i hi
     match i,hi with
     | 0,_=>exact ⟨cell_of_row w3 _ 0 _ _ _ k4,cell_of_row w3 _ 1 _ _ _ k4,hs,ht⟩
     | 1,_=>exact ⟨cell_of_row w3 _ 2 _ _ _ k4,cell_of_row w3 _ 3 _ _ _ k4,hu,hv⟩
    ·intro e he;simp only [List.mem_cons,List.not_mem_nil,or_false] at he;rcases he with rfl | rfl | rfl | rfl | rfl | rfl <;> constructor <;> simp
   ·exact .inl ⟨0,2,4,_,QaZ,w.heap.size+6,by simp,by simp,by simp,rfl,hk,QdH,Qbf,by decide,hI1.keep (Rim.of_below (bs:=fun _=>False) hB2) (fun _ _ _ h=>h),by show _+6≤_;omega,by omega⟩
   ·exact .inl ⟨1,3,5,_,QaZ,w2.heap.size,by simp,by simp,by simp,rfl,hk,QdH,Qbf,by decide,hI2,by show _+6≤_;omega,by omega⟩)
 have k2:=(hBw.block (w.heap.size+2) (by omega)).trans g2;have hw3:=hBw.size;rw [hsz] at hw3;have:=QdI _ _ _ _ _ _ _ hR;rw [Qsl] at this;refine this.mono ?_;rintro e w' ⟨h1,h2,h3⟩;refine ⟨h1,h2,h3.heap (k:=w.heap.size+2) ((Below.heap_alloc w3 _ _ (by omega)).trans k2) ?_⟩;rintro (⟨a,ha,hk⟩ | hk)
 ·simp only [List.map_cons,List.map_nil,List.mem_cons,List.not_mem_nil,or_false,adE] at ha;rcases ha with rfl | rfl | rfl | rfl | rfl | rfl <;> simp at hk
 ·simp [Value.ownBlock] at hk;omega
theorem Qsm (s t u v:ByteArray) (hs:s.size≤1000000) (ht:t.size≤1000000) (hu:u.size≤1000000) (hv:v.size≤1000000) (w:World) :
  Calls Tryz.prog 95 #[rv s t,rv u v] w fun e w'=>e = .returned (bR (mulR s t u v))∧Below w.heap.size w w':=by
 have hb:=fun (w2 w3:World)=>QnL s t u v hs ht hu hv (w:=w) (w2:=w2) (w3:=w3);obtain ⟨n,d,c,ho⟩:=Qcw (mulR s t u v);rw [ho] at hb ⊢;clear ho;unfold clo at hb;unfold rv;go_enter Tryz.func95, Tryz.ntmps95;go_wp2_with (first | (go_at_call 142; refine (QeL _ 2 _ 2 _ rfl).mono ?_;rintro e w1 ⟨rfl,rfl⟩) | (go_at_call 143; (have q:=hI1;clear q);refine (QbE _ _ _ _ _).mono ?_;rintro e w3 ⟨rfl,hI2,hB2,hs2⟩) | (go_at_call 143; refine (QbE _ _ _ _ _).mono ?_;rintro e w2 ⟨rfl,hI1,hB1,hs1⟩) | (go_at_call 141; refine (hb w2 w3 hI1 hB1 hs1 hI2 hB2 hs2).mono ?_;rintro e w4 ⟨rfl,hB4,hq⟩;obtain ⟨c0,c1,z0,z1⟩:=Qab hq));have k0:=QaM w4 (w.heap.size+1+1) (Z n) (Z d) _ _ c0 c1;have hB5:Below w.heap.size w w4:=Qgp (Qgq w s t u v) hB1 hB2 hB4;refine bodyPost_ret (v:=.tuple #[.agg #[Z n,Z d],.int .i64 c]) (by simp [results,Tryz.results95, go_sem,k0.1,k0.2]) rfl ⟨rfl,(hB5.setCell (by simp;omega) _).setCell (by simp;omega) _⟩
noncomputable def divR (s t u v:ByteArray):Option (ByteArray×ByteArray):=if qsOk [(s,t),(u,v)] then (QaZ s v).bind fun n=>(QaZ t u).bind fun d=>redR n d else none
theorem Qgk (f1 f2 f3:Nat×Array Value) (l:List (ByteArray×ByteArray)) (st:St):outR [(f1,fun st=>if qsOk l then some st else none),(f2,fun st=>(QaZ (st 2) (st 5)).map (upd st 0)),(f3,fun st=>(QaZ (st 3) (st 4)).map (upd st 1))] st=if qsOk l then (QaZ (st 2) (st 5)).bind fun n=>(QaZ (st 3) (st 4)).bind fun d=>redR n d else none:=by
 simp only [outR,run,List.map_cons,List.map_nil,List.foldl_cons,List.foldl_nil,Option.bind_some];cases qsOk l with
 | false=>rfl
 | true =>
  simp only [if_true,Option.bind_some];cases QaZ (st 2) (st 5) with
  | none=>rfl
  | some n =>
   simp only [Option.map_some,Option.bind_some];rw [show upd st 0 n 3=st 3 from rfl,show upd st 0 n 4=st 4 from rfl];cases QaZ (st 3) (st 4) with
   | none=>rfl
   | some d=>rfl
def Qgr (w:World) (s t u v:ByteArray):List Obj := [O #[Z s,Z t] 42, O #[Z u,Z v] 42, O #[Z ⟨#[]⟩,Z ⟨#[]⟩] 42, O #[Z ⟨#[]⟩,Z ⟨#[]⟩] 42, O #[Z s,Z t,Z u,Z v] 42, O #[.slice (some ⟨w.heap.size+1+1+1+1,0,none⟩) 2 2] 29]
theorem QnM (s t u v:ByteArray) (hs:s.size≤1000000) (ht:t.size≤1000000) (hu:u.size≤1000000) (hv:v.size≤1000000) {w w2 w3:World}
  (hI1:IntoAt w2 (QaU w (Qgr w s t u v)).heap.size ⟨w.heap.size+1+1+1,0,none⟩ (.func (.func 66) #[] #[]) ⟨w.heap.size,0,none⟩ ⟨w.heap.size+1,1,none⟩) (hB1:Below (QaU w (Qgr w s t u v)).heap.size (QaU w (Qgr w s t u v)) w2) (hs1:(QaU w (Qgr w s t u v)).heap.size+4≤w2.heap.size)
  (hI2:IntoAt w3 w2.heap.size ⟨w.heap.size+1+1+1,1,none⟩ (.func (.func 66) #[] #[]) ⟨w.heap.size,1,none⟩ ⟨w.heap.size+1,0,none⟩) (hB2:Below w2.heap.size w2 w3) (hs2:w2.heap.size+4≤w3.heap.size) :
  Calls Tryz.prog 141 #[.pointer (some ⟨w.heap.size+1+1+1,0,none⟩),.slice (some ⟨w3.heap.size,0,none⟩) 3 3] (w3.alloc (O #[.func (.func 183) #[] #[.pointer (some ⟨w.heap.size+1+1+1+1+1,0,none⟩)],clo (w.heap.size+1+1+1+1+1+1),clo w2.heap.size] 155)) fun e w'=>e = .returned (bR (divR s t u v))∧Below w.heap.size (w3.alloc (O #[.func (.func 183) #[] #[.pointer (some ⟨w.heap.size+1+1+1+1+1,0,none⟩)],clo (w.heap.size+1+1+1+1+1+1),clo w2.heap.size] 155)) w'∧w'.heap[w.heap.size+1+1]? = some (O #[Z ⟨#[]⟩,Z ⟨#[]⟩] 42 (0,0)):=by
 have hsz:(QaU w (Qgr w s t u v)).heap.size=w.heap.size+6:=QcQ _ _;have hBw:Below (w.heap.size+6) (QaU w (Qgr w s t u v)) w3:=by rw [hsz] at hB1;exact hB1.trans (hB2.mono (by omega))
 have g2:=QaY w (Qgr w s t u v) 2 _ rfl;have g4:=QaY w (Qgr w s t u v) 4 _ rfl;have g5:=QaY w (Qgr w s t u v) 5 _ rfl;rw [hsz] at hI1 hs1;have k4:=(hBw.block (w.heap.size+4) (by omega)).trans g4;have k5:=(hBw.block (w.heap.size+5) (by omega)).trans g5;have hk:Enters Tryz.prog 66 := enters_of Tryz.func66 (by kernel_rfl) rfl
 have hR:=Qgo (w:=w) (W:=w3) (os:=Qgr w s t u v) (rI:=3) (n0:=⟨#[]⟩) (d0:=⟨#[]⟩) (es' := [(0,0,s),(0,1,t),(1,0,u),(1,1,v)])
  (ps := [((183, #[.pointer (some ⟨w.heap.size+1+1+1+1+1,0,none⟩)]),fun st=>if qsOk [(s,t),(u,v)] then some st else none),(cloF (w.heap.size+6),fun st=>(QaZ (st 2) (st 5)).map (upd st 0)),(cloF w2.heap.size,fun st=>(QaZ (st 3) (st 4)).map (upd st 1))])
  (by
   intro e he;simp only [List.mem_cons,List.not_mem_nil,or_false] at he;rcases he with rfl | rfl | rfl | rfl | rfl | rfl
   ·exact ⟨⟨_,_,rfl,rfl,by decide⟩,by decide⟩
   ·exact ⟨⟨_,_,rfl,rfl,by decide⟩,by decide⟩
   ·exact ⟨⟨_,_,rfl,rfl,by decide⟩,hs⟩
   ·exact ⟨⟨_,_,rfl,rfl,by decide⟩,ht⟩
   ·exact ⟨⟨_,_,rfl,rfl,by decide⟩,hu⟩
   ·exact ⟨⟨_,_,rfl,rfl,by decide⟩,hv⟩)
  (by simp) hBw (by simp)
  (by
   intro p hp;simp only [List.mem_cons,List.not_mem_nil,or_false] at hp;rcases hp with rfl | rfl | rfl
   ·refine .inr ⟨w.heap.size+5,w.heap.size+4,2, [(s,t),(u,v)],rfl,k5,by simp, ?_, ?_,by have:=hs2;omega,by have:=hs2;omega⟩
    ·intro i hi
     match i,hi with
     | 0,_=>exact ⟨cell_of_row w3 _ 0 _ _ _ k4,cell_of_row w3 _ 1 _ _ _ k4,hs,ht⟩
     | 1,_=>exact ⟨cell_of_row w3 _ 2 _ _ _ k4,cell_of_row w3 _ 3 _ _ _ k4,hu,hv⟩
    ·intro e he;simp only [List.mem_cons,List.not_mem_nil,or_false] at he;rcases he with rfl | rfl | rfl | rfl | rfl | rfl <;> constructor <;> simp
   ·exact .inl ⟨0,2,5,_,QaZ,w.heap.size+6,by simp,by simp,by simp,rfl,hk,QdH,Qbf,by decide,hI1.keep (Rim.of_below (bs:=fun _=>False) hB2) (fun _ _ _ h=>h),by show _+6≤_;omega,by omega⟩
   ·exact .inl ⟨1,3,4,_,QaZ,w2.heap.size,by simp,by simp,by simp,rfl,hk,QdH,Qbf,by decide,hI2,by show _+6≤_;omega,by omega⟩)
 have k2:=(hBw.block (w.heap.size+2) (by omega)).trans g2;have hw3:=hBw.size;rw [hsz] at hw3;have:=QdI _ _ _ _ _ _ _ hR;rw [Qgk] at this;refine this.mono ?_;rintro e w' ⟨h1,h2,h3⟩;refine ⟨h1,h2,h3.heap (k:=w.heap.size+2) ((Below.heap_alloc w3 _ _ (by omega)).trans k2) ?_⟩;rintro (⟨a,ha,hk⟩ | hk)
 ·simp only [List.map_cons,List.map_nil,List.mem_cons,List.not_mem_nil,or_false,adE] at ha;rcases ha with rfl | rfl | rfl | rfl | rfl | rfl <;> simp at hk
 ·simp [Value.ownBlock] at hk;omega
theorem Qsn (s t u v:ByteArray) (hs:s.size≤1000000) (ht:t.size≤1000000) (hu:u.size≤1000000) (hv:v.size≤1000000) (w:World) :
  Calls Tryz.prog 103 #[rv s t,rv u v] w fun e w'=>e = .returned (bR (divR s t u v))∧Below w.heap.size w w':=by
 have hb:=fun (w2 w3:World)=>QnM s t u v hs ht hu hv (w:=w) (w2:=w2) (w3:=w3);obtain ⟨n,d,c,ho⟩:=Qcw (divR s t u v);rw [ho] at hb ⊢;clear ho;unfold clo at hb;unfold rv;go_enter Tryz.func103, Tryz.ntmps103;go_wp2_with (first | (go_at_call 142; refine (QeL _ 2 _ 2 _ rfl).mono ?_;rintro e w1 ⟨rfl,rfl⟩) | (go_at_call 143; (have q:=hI1;clear q);refine (QbE _ _ _ _ _).mono ?_;rintro e w3 ⟨rfl,hI2,hB2,hs2⟩) | (go_at_call 143; refine (QbE _ _ _ _ _).mono ?_;rintro e w2 ⟨rfl,hI1,hB1,hs1⟩) | (go_at_call 141; refine (hb w2 w3 hI1 hB1 hs1 hI2 hB2 hs2).mono ?_;rintro e w4 ⟨rfl,hB4,hq⟩;obtain ⟨c0,c1,z0,z1⟩:=Qab hq));have k0:=QaM w4 (w.heap.size+1+1) (Z n) (Z d) _ _ c0 c1;have hB5:Below w.heap.size w w4:=Qgp (Qgr w s t u v) hB1 hB2 hB4;refine bodyPost_ret (v:=.tuple #[.agg #[Z n,Z d],.int .i64 c]) (by simp [results,Tryz.results103, go_sem,k0.1,k0.2]) rfl ⟨rfl,(hB5.setCell (by simp;omega) _).setCell (by simp;omega) _⟩
noncomputable def sumR (op:ByteArray→ByteArray→Option ByteArray) (s t u v:ByteArray):Option (ByteArray×ByteArray):=if qsOk [(s,t),(u,v)] then (QaZ s v).bind fun x=>(QaZ u t).bind fun y=>(op x y).bind fun n=>(QaZ t v).bind fun d=>redR n d else none
theorem Qso (op:ByteArray→ByteArray→Option ByteArray) (f1 f2 f3 f4 f5:Nat×Array Value) (l:List (ByteArray×ByteArray)) (st:St):outR [(f1,fun st=>if qsOk l then some st else none),(f2,fun st=>(QaZ (st 2) (st 5)).map (upd st 6)),(f3,fun st=>(QaZ (st 4) (st 3)).map (upd st 7)),(f4,fun st=>(op (st 6) (st 7)).map (upd st 0)),(f5,fun st=>(QaZ (st 3) (st 5)).map (upd st 1))] st=if qsOk l then (QaZ (st 2) (st 5)).bind fun x=>(QaZ (st 4) (st 3)).bind fun y=>(op x y).bind fun n=>(QaZ (st 3) (st 5)).bind fun d=>redR n d else none:=by
 simp only [outR,run,List.map_cons,List.map_nil,List.foldl_cons,List.foldl_nil,Option.bind_some];cases qsOk l with
 | false=>rfl
 | true =>
  simp only [if_true,Option.bind_some];cases QaZ (st 2) (st 5) with
  | none=>rfl
  | some x =>
   simp only [Option.map_some,Option.bind_some];rw [show upd st 6 x 4=st 4 from rfl,show upd st 6 x 3=st 3 from rfl];cases QaZ (st 4) (st 3) with
   | none=>rfl
   | some y =>
    simp only [Option.map_some,Option.bind_some];rw [show upd (upd st 6 x) 7 y 6=x from rfl,show upd (upd st 6 x) 7 y 7=y from rfl];cases op x y with
    | none=>rfl
    | some n =>
     simp only [Option.map_some,Option.bind_some];rw [show upd (upd (upd st 6 x) 7 y) 0 n 3=st 3 from rfl,show upd (upd (upd st 6 x) 7 y) 0 n 5=st 5 from rfl];cases QaZ (st 3) (st 5) with
     | none=>rfl
     | some d=>rfl
def Qgs (w:World) (s t u v:ByteArray):List Obj := [O #[Z s,Z t] 42, O #[Z u,Z v] 42, O #[Z ⟨#[]⟩,Z ⟨#[]⟩] 42, O #[Z ⟨#[]⟩] 9, O #[Z ⟨#[]⟩] 9, O #[Z ⟨#[]⟩,Z ⟨#[]⟩] 42, O #[Z s,Z t,Z u,Z v] 42, O #[.slice (some ⟨w.heap.size+1+1+1+1+1+1,0,none⟩) 2 2] 29]
theorem QnN (s t u v:ByteArray) (hs:s.size≤1000000) (ht:t.size≤1000000) (hu:u.size≤1000000) (hv:v.size≤1000000) (k:Nat) (op:ByteArray→ByteArray→Option ByteArray) (hke:Enters Tryz.prog k) (hop:OpC k op) (hsm:∀ s t u:ByteArray,s.size≤1000000→op s t=some u→u.size≤1000000) {w w2 w3 w4 w5:World}
  (hI1:IntoAt w2 (QaU w (Qgs w s t u v)).heap.size ⟨w.heap.size+1+1+1,0,none⟩ (.func (.func 66) #[] #[]) ⟨w.heap.size,0,none⟩ ⟨w.heap.size+1,1,none⟩) (hB1:Below (QaU w (Qgs w s t u v)).heap.size (QaU w (Qgs w s t u v)) w2) (hs1:(QaU w (Qgs w s t u v)).heap.size+4≤w2.heap.size)
  (hI2:IntoAt w3 w2.heap.size ⟨w.heap.size+1+1+1+1,0,none⟩ (.func (.func 66) #[] #[]) ⟨w.heap.size+1,0,none⟩ ⟨w.heap.size,1,none⟩) (hB2:Below w2.heap.size w2 w3) (hs2:w2.heap.size+4≤w3.heap.size)
  (hI3:IntoAt w4 w3.heap.size ⟨w.heap.size+1+1+1+1+1,0,none⟩ (.func (.func k) #[] #[]) ⟨w.heap.size+1+1+1,0,none⟩ ⟨w.heap.size+1+1+1+1,0,none⟩) (hB3:Below w3.heap.size w3 w4) (hs3:w3.heap.size+4≤w4.heap.size)
  (hI4:IntoAt w5 w4.heap.size ⟨w.heap.size+1+1+1+1+1,1,none⟩ (.func (.func 66) #[] #[]) ⟨w.heap.size,1,none⟩ ⟨w.heap.size+1,1,none⟩) (hB4:Below w4.heap.size w4 w5) (hs4:w4.heap.size+4≤w5.heap.size) :
  Calls Tryz.prog 141 #[.pointer (some ⟨w.heap.size+1+1+1+1+1,0,none⟩),.slice (some ⟨w5.heap.size,0,none⟩) 5 5] (w5.alloc (O #[.func (.func 183) #[] #[.pointer (some ⟨w.heap.size+1+1+1+1+1+1+1,0,none⟩)],clo (w.heap.size+1+1+1+1+1+1+1+1),clo w2.heap.size,clo w3.heap.size,clo w4.heap.size] 155)) fun e w'=>e = .returned (bR (sumR op s t u v))∧Below w.heap.size (w5.alloc (O #[.func (.func 183) #[] #[.pointer (some ⟨w.heap.size+1+1+1+1+1+1+1,0,none⟩)],clo (w.heap.size+1+1+1+1+1+1+1+1),clo w2.heap.size,clo w3.heap.size,clo w4.heap.size] 155)) w'∧w'.heap[w.heap.size+1+1]? = some (O #[Z ⟨#[]⟩,Z ⟨#[]⟩] 42 (0,0)):=by
 have hsz:(QaU w (Qgs w s t u v)).heap.size=w.heap.size+8:=QcQ _ _;have c2:Below w3.heap.size w3 w5:=hB3.trans (hB4.mono (by omega));have c1:Below w2.heap.size w2 w5:=hB2.trans (c2.mono (by omega));have hBw:Below (w.heap.size+8) (QaU w (Qgs w s t u v)) w5:=by rw [hsz] at hB1;exact hB1.trans (c1.mono (by omega))
 have g2:=QaY w (Qgs w s t u v) 2 _ rfl;have g6:=QaY w (Qgs w s t u v) 6 _ rfl;have g7:=QaY w (Qgs w s t u v) 7 _ rfl;rw [hsz] at hI1 hs1;have k6:=(hBw.block (w.heap.size+6) (by omega)).trans g6;have k7:=(hBw.block (w.heap.size+7) (by omega)).trans g7;have hk:Enters Tryz.prog 66 := enters_of Tryz.func66 (by kernel_rfl) rfl
 have hR:=Qgo (w:=w) (W:=w5) (os:=Qgs w s t u v) (rI:=5) (n0:=⟨#[]⟩) (d0:=⟨#[]⟩) (es' := [(0,0,s),(0,1,t),(1,0,u),(1,1,v),(3,0,⟨#[]⟩),(4,0,⟨#[]⟩)])
  (ps := [((183, #[.pointer (some ⟨w.heap.size+1+1+1+1+1+1+1,0,none⟩)]),fun st=>if qsOk [(s,t),(u,v)] then some st else none),(cloF (w.heap.size+8),fun st=>(QaZ (st 2) (st 5)).map (upd st 6)),(cloF w2.heap.size,fun st=>(QaZ (st 4) (st 3)).map (upd st 7)),(cloF w3.heap.size,fun st=>(op (st 6) (st 7)).map (upd st 0)),(cloF w4.heap.size,fun st=>(QaZ (st 3) (st 5)).map (upd st 1))])
  (by
   intro e he;simp only [List.mem_cons,List.not_mem_nil,or_false] at he;rcases he with rfl | rfl | rfl | rfl | rfl | rfl | rfl | rfl
   ·exact ⟨⟨_,_,rfl,rfl,by decide⟩,by decide⟩
   ·exact ⟨⟨_,_,rfl,rfl,by decide⟩,by decide⟩
   ·exact ⟨⟨_,_,rfl,rfl,by decide⟩,hs⟩
   ·exact ⟨⟨_,_,rfl,rfl,by decide⟩,ht⟩
   ·exact ⟨⟨_,_,rfl,rfl,by decide⟩,hu⟩
   ·exact ⟨⟨_,_,rfl,rfl,by decide⟩,hv⟩
   ·exact ⟨⟨_,_,rfl,rfl,by decide⟩,by decide⟩
   ·exact ⟨⟨_,_,rfl,rfl,by decide⟩,by decide⟩)
  (by simp) hBw (by simp)
  (by
   intro p hp;simp only [List.mem_cons,List.not_mem_nil,or_false] at hp;rcases hp with rfl | rfl | rfl | rfl | rfl
   ·refine .inr ⟨w.heap.size+7,w.heap.size+6,2, [(s,t),(u,v)],rfl,k7,by simp, ?_, ?_,by omega,by omega⟩
    ·intro i hi
     match i,hi with
     | 0,_=>exact ⟨cell_of_row w5 _ 0 _ _ _ k6,cell_of_row w5 _ 1 _ _ _ k6,hs,ht⟩
     | 1,_=>exact ⟨cell_of_row w5 _ 2 _ _ _ k6,cell_of_row w5 _ 3 _ _ _ k6,hu,hv⟩
    ·intro e he;simp only [List.mem_cons,List.not_mem_nil,or_false] at he;rcases he with rfl | rfl | rfl | rfl | rfl | rfl | rfl | rfl <;> constructor <;> simp
   ·exact .inl ⟨6,2,5,_,QaZ,w.heap.size+8,by simp,by simp,by simp,rfl,hk,QdH,Qbf,by decide,hI1.keep (Rim.of_below (bs:=fun _=>False) c1) (fun _ _ _ h=>h),by show _+8≤_;omega,by omega⟩
   ·exact .inl ⟨7,4,3,_,QaZ,w2.heap.size,by simp,by simp,by simp,rfl,hk,QdH,Qbf,by decide,hI2.keep (Rim.of_below (bs:=fun _=>False) c2) (fun _ _ _ h=>h),by show _+8≤_;omega,by omega⟩
   ·exact .inl ⟨0,6,7,k,op,w3.heap.size,by simp,by simp,by simp,rfl,hke,hop,hsm,by decide,hI3.keep (Rim.of_below (bs:=fun _=>False) hB4) (fun _ _ _ h=>h),by show _+8≤_;omega,by omega⟩
   ·exact .inl ⟨1,3,5,_,QaZ,w4.heap.size,by simp,by simp,by simp,rfl,hk,QdH,Qbf,by decide,hI4,by show _+8≤_;omega,by omega⟩)
 have k2:=(hBw.block (w.heap.size+2) (by omega)).trans g2;have hw5:=hBw.size;rw [hsz] at hw5;have:=QdI _ _ _ _ _ _ _ hR;rw [Qso] at this;refine this.mono ?_;rintro e w' ⟨h1,h2,h3⟩;refine ⟨h1,h2,h3.heap (k:=w.heap.size+2) ((Below.heap_alloc w5 _ _ (by omega)).trans k2) ?_⟩;rintro (⟨a,ha,hk⟩ | hk)
 ·simp only [List.map_cons,List.map_nil,List.mem_cons,List.not_mem_nil,or_false,adE] at ha;rcases ha with rfl | rfl | rfl | rfl | rfl | rfl | rfl | rfl <;> simp at hk
 ·simp [Value.ownBlock] at hk;omega
theorem QiL {w w2 w3 w4 w5 w6:World} (os:List Obj) {o:Obj} (h1:Below (QaU w os).heap.size (QaU w os) w2) (h2:Below w2.heap.size w2 w3) (h3:Below w3.heap.size w3 w4) (h4:Below w4.heap.size w4 w5) (h5:Below w.heap.size (w5.alloc o) w6):Below w.heap.size w w6:=by
 have h0:=Qcr w os;have:=h0.size;have:=h1.size;have:=h2.size;have:=h3.size;have:=h4.size;exact (((((h0.trans (h1.mono (by omega))).trans (h2.mono (by omega))).trans (h3.mono (by omega))).trans (h4.mono (by omega))).alloc (by omega) o).trans h5
theorem QnO (s t u v:ByteArray) (hs:s.size≤1000000) (ht:t.size≤1000000) (hu:u.size≤1000000) (hv:v.size≤1000000) (k:Nat) (op:ByteArray→ByteArray→Option ByteArray) (hke:Enters Tryz.prog k) (hop:OpC k op) (hsm:∀ s t u:ByteArray,s.size≤1000000→op s t=some u→u.size≤1000000) (w:World) :
  Calls Tryz.prog 130 #[rv s t,rv u v,.func (.func k) #[] #[]] w fun e w'=>e = .returned (bR (sumR op s t u v))∧Below w.heap.size w w':=by
 have hb:=fun (w2 w3 w4 w5:World)=>QnN s t u v hs ht hu hv k op hke hop hsm (w:=w) (w2:=w2) (w3:=w3) (w4:=w4) (w5:=w5);obtain ⟨n,d,c,ho⟩:=Qcw (sumR op s t u v);rw [ho] at hb ⊢;clear ho hop hsm hke;unfold clo at hb;unfold rv;go_enter Tryz.func130, Tryz.ntmps130;go_wp2_with (first | (go_at_call 142; refine (QeL _ 2 _ 2 _ rfl).mono ?_;rintro e w1 ⟨rfl,rfl⟩) | (go_at_call 143; (have q:=hI3;clear q);refine (QbE _ _ _ _ _).mono ?_;rintro e w5 ⟨rfl,hI4,hB4,hs4⟩) | (go_at_call 143; (have q:=hI2;clear q);refine (QbE _ _ _ _ _).mono ?_;rintro e w4 ⟨rfl,hI3,hB3,hs3⟩) | (go_at_call 143; (have q:=hI1;clear q);refine (QbE _ _ _ _ _).mono ?_;rintro e w3 ⟨rfl,hI2,hB2,hs2⟩) | (go_at_call 143; refine (QbE _ _ _ _ _).mono ?_;rintro e w2 ⟨rfl,hI1,hB1,hs1⟩) | (go_at_call 141; refine (hb w2 w3 w4 w5 hI1 hB1 hs1 hI2 hB2 hs2 hI3 hB3 hs3 hI4 hB4 hs4).mono ?_;rintro e w6 ⟨rfl,hB6,hq⟩;obtain ⟨c0,c1,z0,z1⟩:=Qab hq));have k0:=QaM w6 (w.heap.size+1+1) (Z n) (Z d) _ _ c0 c1;have hB5:Below w.heap.size w w6:=QiL (Qgs w s t u v) hB1 hB2 hB3 hB4 hB6;refine bodyPost_ret (v:=.tuple #[.agg #[Z n,Z d],.int .i64 c]) (by simp [results,Tryz.results130, go_sem,k0.1,k0.2]) rfl ⟨rfl,(hB5.setCell (by simp;omega) _).setCell (by simp;omega) _⟩
end Rt
end
section
namespace Rt
open Go.RowKit Go.Proofs.YtadcmepaniiciaaGreatDoor.Nm Go.Shelf
def renR:Go.Shelf.Ren where
 f:=fun x=>match x with
  | 105 => 159
  | 212 => 181
  | 99 => 198
  | 165 => 199
  | 166 => 200
  | 170 => 201
  | 169 => 202
  | 263 => 219
  | 264 => 220
  | 206 => 227
  | 240 => 228
  | 241 => 229
  | 276 => 238
  | 277 => 239
  | n=>n
 t:=fun x=>match x with
  | 9 => 9
  | 3 => 3
  | 4 => 4
  | 20 => 20
  | 0 => 0
  | 46 => 188
  | 109 => 189
  | 5 => 5
  | 72 => 206
  | 76 => 208
  | 51 => 171
  | 146 => 227
  | 53 => 160
  | 148 => 229
  | 70 => 204
  | 37 => 202
  | 75 => 144
  | 127 => 237
  | 164 => 253
  | 80 => 136
  | n=>n
 g:=fun n=>n
theorem renR_lays:Lays.n105 Tryz.prog renR where
 mixed:=by kernel_rfl
 f99:=(Tryz.func198).trans (congrArg some (by kernel_rfl))
 f105:=(Tryz.func159).trans (congrArg some (by kernel_rfl))
 f165:=(Tryz.func199).trans (congrArg some (by kernel_rfl))
 f166:=(Tryz.func200).trans (congrArg some (by kernel_rfl))
 f169:=(Tryz.func202).trans (congrArg some (by kernel_rfl))
 f170:=(Tryz.func201).trans (congrArg some (by kernel_rfl))
 f206:=(Tryz.func227).trans (congrArg some (by kernel_rfl))
 f212:=(Tryz.func181).trans (congrArg some (by kernel_rfl))
 f240:=(Tryz.func228).trans (congrArg some (by kernel_rfl))
 f241:=(Tryz.func229).trans (congrArg some (by kernel_rfl))
 f263:=(Tryz.func219).trans (congrArg some (by kernel_rfl))
 f264:=(Tryz.func220).trans (congrArg some (by kernel_rfl))
 f276:=(Tryz.func238).trans (congrArg some (by kernel_rfl))
 f277:=(Tryz.func239).trans (congrArg some (by kernel_rfl))
 t0:=Tryz.underlying0
 a0:=Tryz.isAgg0
 z0:=Tryz.sizeOf0
 v0:=Tryz.zeroValue0
 t3:=Tryz.underlying3
 a3:=Tryz.isAgg3
 z3:=Tryz.sizeOf3
 v3:=Tryz.zeroValue3
 t4:=Tryz.underlying4
 a4:=Tryz.isAgg4
 z4:=Tryz.sizeOf4
 v4:=Tryz.zeroValue4
 t5:=Tryz.underlying5
 a5:=Tryz.isAgg5
 z5:=Tryz.sizeOf5
 v5:=Tryz.zeroValue5
 t9:=Tryz.underlying9
 a9:=Tryz.isAgg9
 z9:=Tryz.sizeOf9
 v9:=Tryz.zeroValue9
 t20:=Tryz.underlying20
 a20:=Tryz.isAgg20
 z20:=Tryz.sizeOf20
 v20:=Tryz.zeroValue20
 t37:=Tryz.underlying202
 a37:=Tryz.isAgg202
 z37:=Tryz.sizeOf202
 v37:=Tryz.zeroValue202
 t46:=Tryz.underlying188
 a46:=Tryz.isAgg188
 z46:=Tryz.sizeOf188
 v46:=Tryz.zeroValue188
 t51:=Tryz.underlying171
 a51:=Tryz.isAgg171
 z51:=Tryz.sizeOf171
 v51:=Tryz.zeroValue171
 t53:=Tryz.underlying160
 a53:=Tryz.isAgg160
 z53:=Tryz.sizeOf160
 v53:=Tryz.zeroValue160
 t70:=Tryz.underlying204
 a70:=Tryz.isAgg204
 z70:=Tryz.sizeOf204
 v70:=Tryz.zeroValue204
 t72:=Tryz.underlying206
 a72:=Tryz.isAgg206
 z72:=Tryz.sizeOf206
 v72:=Tryz.zeroValue206
 t75:=Tryz.underlying144
 a75:=Tryz.isAgg144
 z75:=Tryz.sizeOf144
 v75:=Tryz.zeroValue144
 t76:=Tryz.underlying208
 a76:=Tryz.isAgg208
 z76:=Tryz.sizeOf208
 v76:=Tryz.zeroValue208
 t109:=Tryz.underlying189
 a109:=Tryz.isAgg189
 z109:=Tryz.sizeOf189
 v109:=Tryz.zeroValue189
 t127:=Tryz.underlying237
 a127:=Tryz.isAgg237
 z127:=Tryz.sizeOf237
 v127:=Tryz.zeroValue237
 t146:=Tryz.underlying227
 a146:=Tryz.isAgg227
 z146:=Tryz.sizeOf227
 v146:=Tryz.zeroValue227
 t148:=Tryz.underlying229
 a148:=Tryz.isAgg229
 z148:=Tryz.sizeOf229
 v148:=Tryz.zeroValue229
 t164:=Tryz.underlying253
 a164:=Tryz.isAgg253
 z164:=Tryz.sizeOf253
 v164:=Tryz.zeroValue253
theorem Que:Builder.Extra Tryz.prog renR where
 sizeBuilder:=by kernel_rfl
 liesBuilder:=by kernel_rfl
 t5:=renR_lays.t5
 a5:=renR_lays.a5
 z5:=renR_lays.z5
 v5:=renR_lays.v5
 infoByte:=by kernel_rfl
 cellsByte:=by kernel_rfl
 sizeByte:=by kernel_rfl
 neB5:=by decide
theorem Qfg (c:Nat) (hc:c≤30) (w:World):Calls Tryz.prog 159 #[Z ⟨#[48]⟩,.int .i64 c] w fun e w'=>e = .returned (Z ⟨(Lib.repeatL [48] c).toArray⟩)∧Below w.heap.size w w' :=
 Any.strings_Repeat renR_lays Que ⟨#[48]⟩ c w (by omega) (by show 1*c≤_;omega)
theorem QhV (c:Nat) (hc:c≤30):(⟨#[49]⟩ ++ ⟨(Lib.repeatL [48] c).toArray⟩:ByteArray)=txt (10^c):=by
 have h:∀ c:Fin 31,(⟨#[49]⟩ ++ ⟨(Lib.repeatL [48] c.val).toArray⟩:ByteArray)=txt (10^c.val):=by decide +kernel
 exact h ⟨c,by omega⟩
end Rt
end
section
namespace Rt
open Go.RowKit Go.Proofs.YtadcmepaniiciaaGreatDoor.Nm
def adA (e:Ent):Addr:=⟨e.1,e.2.1,none⟩
def InW (X:World) (e:Ent):Prop:=∃ (cs:Array Value) (T:TypeId),X.heap[e.1]? = some (.cells cs T (0,0))∧cs[e.2.1]? = some (Z e.2.2)∧T ≠ 155
structure IntoSpecA (X:World) (es:List Ent) (W:World) (p:(Nat×Array Value)×(St→Option St)):Prop where
 it:∃ (i j l k:Nat) (op:ByteArray→ByteArray→Option ByteArray) (B:Nat) (hi:i<es.length) (hj:j<es.length) (hl:l<es.length),p=(cloF B,fun st=>(op (st j) (st l)).map (upd st i))∧Enters Tryz.prog k∧OpC k op∧(∀ s t u:ByteArray,s.size≤1000000→op s t=some u→u.size≤1000000)∧l≠i ∧
  IntoAt W B (adA es[i]) (.func (.func k) #[] #[]) (adA es[j]) (adA es[l])∧X.heap.size≤B∧B+3<W.heap.size
structure ValidSpecA (X:World) (es:List Ent) (W:World) (p:(Nat×Array Value)×(St→Option St)):Prop where
 it:∃ (b g cap:Nat) (l:List (ByteArray×ByteArray)),p=((183, #[.pointer (some ⟨b,0,none⟩)]),fun st=>if qsOk l then some st else none)∧Boxed W b 29 (.slice (some ⟨g,0,none⟩) l.length cap)∧l.length≤1000 ∧
  (∀ (i:Nat) (h:i<l.length),W.cell? ⟨g,i*2,none⟩=some (Z l[i].1)∧W.cell? ⟨g,i*2+1,none⟩=some (Z l[i].2)∧l[i].1.size≤1000000∧l[i].2.size≤1000000) ∧
  (∀ e∈es,e.1≠b∧e.1≠g)∧b<W.heap.size∧g<W.heap.size
theorem QnP {X W:World} {base rI:Nat} {n0 d0:ByteArray} {es':List Ent} {ps:Ps} (hes:∀ e∈((rI,0,n0) :: (rI,1,d0) :: es':List Ent),InW X e∧base≤e.1∧e.2.2.size≤1000000)
  (hnd:(((rI,0,n0) :: (rI,1,d0) :: es':List Ent).map fun e=>(e.1,e.2.1)).Nodup) (hbase:base≤X.heap.size) (hb:Below X.heap.size X W) (hlen:ps.length≤10)
  (hst:∀ p∈ps,IntoSpecA X ((rI,0,n0) :: (rI,1,d0) :: es') W p∨ValidSpecA X ((rI,0,n0) :: (rI,1,d0) :: es') W p) :
  Ready base rI ps (.slice (some ⟨W.heap.size,0,none⟩) ps.length ps.length) (es'.map adA) (stE ((rI,0,n0) :: (rI,1,d0) :: es')) (W.alloc (.cells (ps.map fun p=>fval p.1).toArray 155)):=by
 have eAd:(⟨rI,0,none⟩ :: ⟨rI,1,none⟩ :: es'.map adA:List Addr)=((rI,0,n0) :: (rI,1,d0) :: es':List Ent).map adA:=rfl;have eLen:es'.length+2=((rI,0,n0) :: (rI,1,d0) :: es':List Ent).length:=rfl;have hWl:X.heap.size≤W.heap.size:=hb.size
 have hos:∀ e∈((rI,0,n0) :: (rI,1,d0) :: es':List Ent),e.1<X.heap.size:=fun e he=>by
  obtain ⟨⟨cs,T,h,_⟩,_⟩:=hes e he;exact lt_of_block h
 have hblk:∀ e∈((rI,0,n0) :: (rI,1,d0) :: es':List Ent),∃ cs T,(W.alloc (.cells (ps.map fun p=>fval p.1).toArray 155)).heap[e.1]? = some (.cells cs T (0,0))∧cs[e.2.1]? = some (Z e.2.2)∧T ≠ 155 := fun e he=>by
  obtain ⟨⟨cs,T,h,h2,h3⟩,_⟩:=hes e he;have:=hos e he;refine ⟨cs,T, ?_,h2,h3⟩;rw [Below.heap_alloc _ _ _ (by omega),hb.block _ (by omega)];exact h
 have hrow:(W.alloc (.cells (ps.map fun p=>fval p.1).toArray 155)).heap[W.heap.size]? = some (.cells (ps.map fun p=>fval p.1).toArray 155 (0,0)):=World.alloc_heap_new W _;have hsz:(W.alloc (.cells (ps.map fun p=>fval p.1).toArray 155)).heap.size=W.heap.size+1:=World.size_alloc _ _;have hB1:Rim (fun _=>False) W (W.alloc (.cells (ps.map fun p=>fval p.1).toArray 155)):=Rim.of_below ((Below.refl _ W).alloc Lr _);generalize hWe:W.alloc (.cells (ps.map fun p=>fval p.1).toArray 155)=We at *
 clear hWe;generalize hesE:((rI,0,n0) :: (rI,1,d0) :: es':List Ent)=es at *
 have hdup:(es.map adA).Nodup:=by
  rw [List.Nodup,List.pairwise_map] at hnd ⊢;refine hnd.imp ?_;intro a b hab e;apply hab;injection e with e1 e2;rw [Prod.mk.injEq];exact ⟨e1,e2⟩
 have hapart:∀ k,blk (es.map adA) k→∃ e∈es,e.1=k:=by
  rintro k ⟨a,ha,rfl⟩;obtain ⟨e,he,rfl⟩:=List.mem_map.1 ha;exact ⟨e,he,rfl⟩
 refine ⟨hlen,⟨by simp,.inr ⟨W.heap.size,ps.length,_,rfl,by omega,hrow,Nat.le_refl _,by unfold maxLen;omega,by simp,by simp only [Nat.mul_one];exact List.take_of_length_le (by simp)⟩⟩,by omega, ?_,by rw [eAd];exact hdup, ?_, ?_, ?_, ?_⟩
 ·rw [eAd];refine ⟨fun i hi => ?_,fun i hi => ?_⟩
  ·have hi':i<es.length:=by simpa using hi
   obtain ⟨cs,T,h1,h2,_⟩:=hblk es[i] (List.getElem_mem hi');rw [List.getElem_map];have e1:stE es i=es[i].2.2:=by rw [stE,List.getD_eq_getElem?_getD,List.getElem?_eq_getElem hi'];rfl
   rw [e1];exact ⟨by rw [adA,cell_of_row We _ _ _ _ _ h1];exact h2,by simp [adA,World.frozen?,h1]⟩
  ·have hi':i<es.length:=by simpa using hi
   have e1:stE es i=es[i].2.2:=by rw [stE,List.getD_eq_getElem?_getD,List.getElem?_eq_getElem hi'];rfl
   rw [e1];exact (hes _ (List.getElem_mem hi')).2.2
 ·rw [List.length_map,eLen,stE,List.getD_eq_getElem?_getD,List.getElem?_eq_none Lr];rfl
 ·rw [eAd];intro a ha;obtain ⟨e,he,rfl⟩:=List.mem_map.1 ha;obtain ⟨cs,T,h1,_,h3⟩:=hblk e he;exact ⟨(hes e he).2.1,cs,T,h1,h3⟩
 ·intro k hk;rw [eAd];intro hc;obtain ⟨e,he,rfl⟩:=hapart k hc;have:=hos e he;simp [Value.ownBlock] at hk;omega
 ·intro d hd p hp;have eA:adr rI (es'.map adA) d=es.map adA ++ [d]:=by rw [←eAd];rfl
  rw [eA]
  have hbk:∀ k,blk (es.map adA ++ [d]) k→(∃ e∈es,e.1=k)∨W.heap.size<k:=by
   rintro k ⟨a,ha,rfl⟩;rcases List.mem_append.1 ha with ha | ha
   ·exact .inl (hapart _ ⟨a,ha,rfl⟩)
   ·rw [List.mem_singleton.1 ha];exact .inr (by omega)
  have hdupA:(es.map adA ++ [d]).Nodup:=by
   rw [List.nodup_append];refine ⟨hdup,by simp, ?_⟩;intro a ha b hb' e;rw [List.mem_singleton] at hb';subst hb';subst e;obtain ⟨e,he,h⟩:=hapart _ ⟨_,ha,rfl⟩;have:=hos e he;omega
  have own:∀ k,(Value.slice (some ⟨W.heap.size,0,none⟩) ps.length ps.length).ownBlock=some k→k=W.heap.size:=fun k hk=>by
   simp [Value.ownBlock] at hk;omega
  rcases hst p hp with h | h
  ·obtain ⟨i,j,l,k,op,B,hi,hj,hl,rfl,h1,h2,h3,h4,h5,h6,h7⟩:=h.it
   have gi:∀ (i:Nat) (hi:i<es.length) (h':i<(es.map adA ++ [d]).length),(es.map adA ++ [d])[i]=adA es[i]:=fun i hi h'=>by
    rw [List.getElem_append_left (by simpa using hi),List.getElem_map]
   have gl:(es.map adA ++ [d]).length=es.length+1:=by simp
   refine Qdh (i:=i) (j:=j) (l:=l) h1 h2 h3 hdupA (by omega) (by omega) (by omega) h4 (by rw [gi i hi,gi j hj,gi l hl];exact h5.keep hB1 (fun _ _ _ h=>h)) ?_ (fun k hk => .inl hk);rintro k k1 k2 (hk | hk)
   ·rcases hbk k hk with ⟨e,he,rfl⟩ | h
    ·have:=hos e he;omega
    ·omega
   ·have:=own k hk;omega
  ·obtain ⟨b,g,cap,l,rfl,h1,h2,h3,h4,h5,h6⟩:=h.it;refine Qhi (hB1.heap h1 (fun h=>h)) h2 (fun i hi => ?_) ?_ ?_
   ·obtain ⟨q1,q2,q3,q4⟩:=h3 i hi;have hbl:=hB1.block g h6 (fun h=>h);exact ⟨(World.cell?_of_block (a:=⟨g,i*2,none⟩) hbl).trans q1,(World.cell?_of_block (a:=⟨g,i*2+1,none⟩) hbl).trans q2,q3,q4⟩
   ·rintro (hk | hk)
    ·rcases hbk b hk with ⟨e,he,h⟩ | h
     ·exact (h4 e he).1 h
     ·omega
    ·have:=own b hk;omega
   ·rintro (hk | hk)
    ·rcases hbk g hk with ⟨e,he,h⟩ | h
     ·exact (h4 e he).2 h
     ·omega
    ·have:=own g hk;omega
noncomputable def rndR (op:ByteArray→ByteArray→Option ByteArray) (s t:ByteArray) (c:Nat):Option (ByteArray×ByteArray):=if qsOk [(s,t)] then (QaZ s (txt (10^c))).bind fun x=>(op x t).bind fun n=>redR n (txt (10^c)) else none
theorem Qsp (op:ByteArray→ByteArray→Option ByteArray) (f1 f2 f3:Nat×Array Value) (l:List (ByteArray×ByteArray)) (st:St):outR [(f1,fun st=>if qsOk l then some st else none),(f2,fun st=>(QaZ (st 2) (st 4)).map (upd st 0)),(f3,fun st=>(op (st 0) (st 3)).map (upd st 0))] st=if qsOk l then (QaZ (st 2) (st 4)).bind fun x=>(op x (st 3)).bind fun n=>redR n (st 1) else none:=by
 simp only [outR,run,List.map_cons,List.map_nil,List.foldl_cons,List.foldl_nil,Option.bind_some];cases qsOk l with
 | false=>rfl
 | true =>
  simp only [if_true,Option.bind_some];cases QaZ (st 2) (st 4) with
  | none=>rfl
  | some x =>
   simp only [Option.map_some,Option.bind_some];rw [show upd st 0 x 0=x from rfl,show upd st 0 x 3=st 3 from rfl];cases op x (st 3) with
   | none=>rfl
   | some n=>rfl
def Qej (w:World) (s t:ByteArray) (c:Nat):List Obj := [O #[Z (txt (10^c))] 9, O #[Z ⟨#[]⟩,Z (txt (10^c))] 42, O #[Z s,Z t] 42, O #[.slice (some ⟨w.heap.size+1+1,0,none⟩) 1 1] 29]
theorem Qcm (c:Nat) (hc:c≤30):Fits ((10:Int)^c):=by
 have h:∀ c:Fin 31,((10:Int)^c.val).natAbs<10^200:=by decide +kernel
 exact Qas (h ⟨c,by omega⟩)
theorem QnQ (s t:ByteArray) (hs:s.size≤1000000) (ht:t.size≤1000000) (c:Nat) (hc:c≤30) (k:Nat) (op:ByteArray→ByteArray→Option ByteArray) (hke:Enters Tryz.prog k) (hop:OpC k op) (hsm:∀ s t u:ByteArray,s.size≤1000000→op s t=some u→u.size≤1000000) {w w1 w3 w4:World}
  (hB0:Below ((w.alloc (O #[Z s,Z t] 42)).alloc (O #[Z ⟨#[]⟩,Z ⟨#[]⟩] 42)).heap.size ((w.alloc (O #[Z s,Z t] 42)).alloc (O #[Z ⟨#[]⟩,Z ⟨#[]⟩] 42)) w1)
  (hI1:IntoAt w3 (QaU w1 (Qej w1 s t c)).heap.size ⟨w1.heap.size+1,0,none⟩ (.func (.func 66) #[] #[]) ⟨w.heap.size,0,none⟩ ⟨w1.heap.size,0,none⟩) (hB1:Below (QaU w1 (Qej w1 s t c)).heap.size (QaU w1 (Qej w1 s t c)) w3) (hs1:(QaU w1 (Qej w1 s t c)).heap.size+4≤w3.heap.size)
  (hI2:IntoAt w4 w3.heap.size ⟨w1.heap.size+1,0,none⟩ (.func (.func k) #[] #[]) ⟨w1.heap.size+1,0,none⟩ ⟨w.heap.size,1,none⟩) (hB2:Below w3.heap.size w3 w4) (hs2:w3.heap.size+4≤w4.heap.size) :
  Calls Tryz.prog 141 #[.pointer (some ⟨w1.heap.size+1,0,none⟩),.slice (some ⟨w4.heap.size,0,none⟩) 3 3] (w4.alloc (O #[.func (.func 183) #[] #[.pointer (some ⟨w1.heap.size+1+1+1,0,none⟩)],clo (w1.heap.size+1+1+1+1),clo w3.heap.size] 155)) fun e w'=>e = .returned (bR (rndR op s t c))∧Below w.heap.size (w4.alloc (O #[.func (.func 183) #[] #[.pointer (some ⟨w1.heap.size+1+1+1,0,none⟩)],clo (w1.heap.size+1+1+1+1),clo w3.heap.size] 155)) w'∧w'.heap[w.heap.size+1]? = some (O #[Z ⟨#[]⟩,Z ⟨#[]⟩] 42 (0,0)):=by
 have hsz:(QaU w1 (Qej w1 s t c)).heap.size=w1.heap.size+4:=QcQ _ _;have hUs:(txt (10^c)).size≤1000000:=QaT (Qcm c hc);have hs01:((w.alloc (O #[Z s,Z t] 42)).alloc (O #[Z ⟨#[]⟩,Z ⟨#[]⟩] 42)).heap.size=w.heap.size+2:=by rw [World.size_alloc,World.size_alloc]
 have hw1:w.heap.size+2≤w1.heap.size:=by have:=hB0.size;rw [hs01] at this;exact this
 have r0:w1.heap[w.heap.size]? = some (O #[Z s,Z t] 42 (0,0)):=(hB0.block w.heap.size (by rw [hs01];omega)).trans (Qgn w _ _)
 have r1:w1.heap[w.heap.size+1]? = some (O #[Z ⟨#[]⟩,Z ⟨#[]⟩] 42 (0,0)):=(hB0.block (w.heap.size+1) (by rw [hs01];omega)).trans (by
  have:=World.alloc_heap_new (w.alloc (O #[Z s,Z t] 42)) (O #[Z ⟨#[]⟩,Z ⟨#[]⟩] 42)
  rwa [World.size_alloc] at this)
 have hXw:=Qcr w1 (Qej w1 s t c);have x0:=(hXw.block w.heap.size (by omega)).trans r0;have x1:=(hXw.block (w.heap.size+1) (by omega)).trans r1;have g0:=QaY w1 (Qej w1 s t c) 0 _ rfl;have g1:=QaY w1 (Qej w1 s t c) 1 _ rfl;have g2:=QaY w1 (Qej w1 s t c) 2 _ rfl;have g3:=QaY w1 (Qej w1 s t c) 3 _ rfl;have hBw:Below (QaU w1 (Qej w1 s t c)).heap.size (QaU w1 (Qej w1 s t c)) w4:=hB1.trans (hB2.mono (by omega));have k2:=(hBw.block (w1.heap.size+2) (by omega)).trans g2;have k3:=(hBw.block (w1.heap.size+3) (by omega)).trans g3;have q1:=(hBw.block (w.heap.size+1) (by omega)).trans x1;have hk:Enters Tryz.prog 66 := enters_of Tryz.func66 (by kernel_rfl) rfl
 have hR:=QnP (X:=(QaU w1 (Qej w1 s t c))) (W:=w4) (base:=w.heap.size) (rI:=w1.heap.size+1) (n0:=⟨#[]⟩) (d0:=(txt (10^c))) (es' := [(w.heap.size,0,s),(w.heap.size,1,t),(w1.heap.size,0,(txt (10^c)))])
  (ps := [((183, #[.pointer (some ⟨w1.heap.size+1+1+1,0,none⟩)]),fun st=>if qsOk [(s,t)] then some st else none),(cloF (w1.heap.size+4),fun st=>(QaZ (st 2) (st 4)).map (upd st 0)),(cloF w3.heap.size,fun st=>(op (st 0) (st 3)).map (upd st 0))])
  (by
   intro e he;simp only [List.mem_cons,List.not_mem_nil,or_false] at he;rcases he with rfl | rfl | rfl | rfl | rfl
   ·exact ⟨⟨_,_,g1,rfl,by decide⟩,by show _≤_+1;omega,by show (⟨#[]⟩:ByteArray).size≤_;decide⟩
   ·exact ⟨⟨_,_,g1,rfl,by decide⟩,by show _≤_+1;omega,hUs⟩
   ·exact ⟨⟨_,_,x0,rfl,by decide⟩,Nat.le_refl _,hs⟩
   ·exact ⟨⟨_,_,x0,rfl,by decide⟩,Nat.le_refl _,ht⟩
   ·exact ⟨⟨_,_,g0,rfl,by decide⟩,by show _≤w1.heap.size;omega,hUs⟩)
  (by simp;omega) (by omega) hBw (by simp)
  (by
   intro p hp;simp only [List.mem_cons,List.not_mem_nil,or_false] at hp;rcases hp with rfl | rfl | rfl
   ·refine .inr ⟨w1.heap.size+3,w1.heap.size+2,1, [(s,t)],rfl,k3,by simp, ?_, ?_,by omega,by omega⟩
    ·intro i hi
     match i,hi with
     | 0,_=>exact ⟨cell_of_row w4 _ 0 _ _ _ k2,cell_of_row w4 _ 1 _ _ _ k2,hs,ht⟩
    ·intro e he;simp only [List.mem_cons,List.not_mem_nil,or_false] at he;rcases he with rfl | rfl | rfl | rfl | rfl <;> constructor <;> simp <;> omega
   ·exact .inl ⟨0,2,4,_,QaZ,w1.heap.size+4,by simp,by simp,by simp,rfl,hk,QdH,Qbf,by decide,(hsz▸hI1).keep (Rim.of_below (bs:=fun _=>False) hB2) (fun _ _ _ h=>h),by omega,by omega⟩
   ·exact .inl ⟨0,0,3,k,op,w3.heap.size,by simp,by simp,by simp,rfl,hke,hop,hsm,by decide,hI2,by omega,by omega⟩)
 have hw4:=hBw.size;have:=QdI _ _ _ _ _ _ _ hR;rw [Qsp] at this;refine this.mono ?_;rintro e w' ⟨h1,h2,h3⟩;refine ⟨h1,h2,h3.heap (k:=w.heap.size+1) ((Below.heap_alloc w4 _ _ (by omega)).trans q1) ?_⟩;rintro (⟨a,ha,hk⟩ | hk)
 ·simp only [List.map_cons,List.map_nil,List.mem_cons,List.not_mem_nil,or_false,adA] at ha;rcases ha with rfl | rfl | rfl | rfl | rfl <;> simp at hk <;> omega
 ·simp [Value.ownBlock] at hk;omega
theorem QkG (W:World) (o p:Obj) (a:Addr) (h:a.block<W.heap.size):((W.alloc o).alloc p).cell? a=W.cell? a:=by
 refine World.cell?_of_block ?_;rw [Below.heap_alloc _ _ _ (by rw [World.size_alloc];omega),Below.heap_alloc _ _ _ h]
theorem Qgt (s t:ByteArray) (hs:s.size≤1000000) (ht:t.size≤1000000) (c:Nat) (hc:c≤30) (k:Nat) (op:ByteArray→ByteArray→Option ByteArray) (hke:Enters Tryz.prog k) (hop:OpC k op) (hsm:∀ s t u:ByteArray,s.size≤1000000→op s t=some u→u.size≤1000000) (w:World) :
  Calls Tryz.prog 164 #[rv s t,.int .i64 c,.func (.func k) #[] #[]] w fun e w'=>e = .returned (bR (rndR op s t c))∧Below w.heap.size w w':=by
 have hb:=fun (w1 w3 w4:World)=>QnQ s t hs ht c hc k op hke hop hsm (w:=w) (w1:=w1) (w3:=w3) (w4:=w4);have hr:=fun W=>Qfg c hc W;have hu:=QhV c hc
 have hz:(⟨(Lib.repeatL [48] c).toArray⟩:ByteArray).size≤1000:=by
  have h:∀ c:Fin 31,(⟨(Lib.repeatL [48] c.val).toArray⟩:ByteArray).size≤1000:=by decide +kernel
  exact h ⟨c,by omega⟩
 obtain ⟨n,d,e0,ho⟩:=Qcw (rndR op s t c);rw [ho] at hb ⊢;clear ho hop hsm hke;generalize (⟨(Lib.repeatL [48] c).toArray⟩:ByteArray)=z at *
 unfold clo at hb;unfold rv;go_enter Tryz.func164, Tryz.ntmps164;go_wp2_with (first | (go_at_call 159; refine (hr _).mono ?_;rintro e w1 ⟨rfl,hB0⟩;have f0:=hB0.size;simp only [World.size_alloc] at f0;have f1:w.heap.size<w1.heap.size:=(by omega);have f2:w.heap.size<w1.heap.size+1:=(by omega);have f3:w.heap.size≠w1.heap.size:=(by omega);have f4:w.heap.size≠w1.heap.size+1:=(by omega);obtain ⟨a0,a1,a2,a3⟩:=Qab ((hB0.block w.heap.size (by simp;omega)).trans (Qgn w _ _));have b0:=(QkG w1 (O #[Z (txt (10^c))] 9) (O #[Z ⟨#[]⟩,Z (txt (10^c))] 42) ⟨w.heap.size,0,none⟩ f1).trans a0;have b1:=(QkG w1 (O #[Z (txt (10^c))] 9) (O #[Z ⟨#[]⟩,Z (txt (10^c))] 42) ⟨w.heap.size,1,none⟩ f1).trans a1) | (go_at_call 142; refine (QeL _ 1 _ 1 _ rfl).mono ?_;rintro e w2 ⟨rfl,rfl⟩) | (go_at_call 143; (have q:=hI1;clear q);refine (QbE _ _ _ _ _).mono ?_;rintro e w4 ⟨rfl,hI2,hB2,hs2⟩) | (go_at_call 143; refine (QbE _ _ _ _ _).mono ?_;rintro e w3 ⟨rfl,hI1,hB1,hs1⟩) | (go_at_call 141; refine (hb w1 w3 w4 hB0 hI1 hB1 hs1 hI2 hB2 hs2).mono ?_;rintro e w5 ⟨rfl,hB4,hq⟩;obtain ⟨c0,c1,z0,z1⟩:=Qab hq));have k0:=QaM w5 (w.heap.size+1) (Z n) (Z d) _ _ c0 c1;have s1:=hB0.size;have s2:=hB1.size;have s3:=hB2.size;simp only [World.size_alloc] at s1;have hX:=Qcr w1 (Qej w1 s t c);have h0:Below w.heap.size w w1:=(((Below.refl w.heap.size w).alloc Lr _).alloc (by simp) _).trans (hB0.mono (by simp;omega));have t1:=hX.size;have t2:(QaU w1 (Qej w1 s t c)).heap.size≤w3.heap.size:=s2;have hB5:Below w.heap.size w w5:=((((h0.trans (hX.mono (by omega))).trans (hB1.mono (by show _≤(QaU w1 (Qej w1 s t c)).heap.size;omega))).trans (hB2.mono (by omega))).alloc (by omega) _).trans hB4;refine bodyPost_ret (v:=.tuple #[.agg #[Z n,Z d],.int .i64 e0]) (by simp [results,Tryz.results164, go_sem,k0.1,k0.2]) rfl ⟨rfl,(hB5.setCell (by simp) _).setCell (by simp) _⟩
theorem Qgu (s t:ByteArray) (c:Int) (hc:c<0∨30<c) (f:Value) (w:World) :
  Calls Tryz.prog 164 #[rv s t,.int .i64 c,f] w fun e w'=>e = .returned (bR none)∧Below w.heap.size w w':=by
 unfold rv bR;unfold rv;rcases hc with hc | hc
 ·go_enter Tryz.func164, Tryz.ntmps164;go_wp2;refine bodyPost_ret (v:=.tuple #[.agg #[Z ⟨#[]⟩,Z ⟨#[]⟩],.int .i64 40]) (by simp [results,Tryz.results164, go_sem]) rfl ⟨rfl,((Below.refl w.heap.size w).alloc Lr _).alloc (by simp) _⟩
 ·have hc0:¬ c<0:=by omega
  go_enter Tryz.func164, Tryz.ntmps164;go_wp2;refine bodyPost_ret (v:=.tuple #[.agg #[Z ⟨#[]⟩,Z ⟨#[]⟩],.int .i64 40]) (by simp [results,Tryz.results164, go_sem]) rfl ⟨rfl,((Below.refl w.heap.size w).alloc Lr _).alloc (by simp) _⟩
theorem QaP (w:World) (a r:Obj):((w.alloc a).alloc r).heap[w.heap.size+1]? = some r:=by
 have:=World.alloc_heap_new (w.alloc a) r
 rwa [World.size_alloc] at this
theorem QiM (w:World) (a b r:Obj):(((w.alloc a).alloc b).alloc r).heap[w.heap.size+1+1]? = some r:=by
 have:=World.alloc_heap_new ((w.alloc a).alloc b) r
 rwa [World.size_alloc,World.size_alloc] at this
theorem Qsq (s t u v:ByteArray) (hs:s.size≤1000000) (ht:t.size≤1000000) (hu:u.size≤1000000) (hv:v.size≤1000000) (w:World) :
  Calls Tryz.prog 77 #[rv s t,rv u v] w fun e w'=>e = .returned (bR (sumR Qfd s t u v))∧Below w.heap.size w w':=by
 have hC:=fun W=>QnO s t u v hs ht hu hv 131 Qfd (enters_of Tryz.func131 (by kernel_rfl) rfl) QnF Qbf W;obtain ⟨n,d,e0,ho⟩:=Qcw (sumR Qfd s t u v);rw [ho] at hC ⊢;clear ho;unfold rv at hC ⊢;go_enter Tryz.func77, Tryz.ntmps77;go_wp2_with (go_at_call 130; refine (hC _).mono ?_;rintro e w5 ⟨rfl,hB4⟩;obtain ⟨c0,c1,z0,z1⟩:=Qab ((hB4.block (w.heap.size+1+1) (by simp)).trans (QiM w _ _ _)));have k0:=QaM w5 (w.heap.size+1+1) (Z n) (Z d) _ _ c0 c1;have hB5:Below w.heap.size w w5:=((((Below.refl w.heap.size w).alloc Lr _).alloc (by simp) _).alloc (by simp;omega) _).trans (hB4.mono (by simp;omega));refine bodyPost_ret (v:=.tuple #[.agg #[Z n,Z d],.int .i64 e0]) (by simp [results,Tryz.results77, go_sem,k0.1,k0.2]) rfl ⟨rfl,(hB5.setCell (by simp;omega) _).setCell (by simp;omega) _⟩
noncomputable def Qmc (s t:ByteArray) (c:Int):Option (ByteArray×ByteArray):=if 0≤c∧c≤30 then rndR QbV s t c.toNat else none
theorem QpS (s t:ByteArray) (hs:s.size≤1000000) (ht:t.size≤1000000) (c:Int) (w:World) :
  Calls Tryz.prog 125 #[rv s t,.int .i64 c] w fun e w'=>e = .returned (bR (Qmc s t c))∧Below w.heap.size w w':=by
 have hC:∀ W:World,Calls Tryz.prog 164 #[rv s t,.int .i64 c,.func (.func 165) #[] #[]] W fun e w'=>e = .returned (bR (Qmc s t c))∧Below W.heap.size W w':=fun W=>by
  unfold Qmc;by_cases hc:0≤c∧c≤30
  ·rw [if_pos hc];have:=Qgt s t hs ht c.toNat (by omega) 165 QbV (enters_of Tryz.func165 (by kernel_rfl) rfl) Qgl Qbf W
   rwa [Int.toNat_of_nonneg hc.1] at this
  ·rw [if_neg hc];exact Qgu s t c (by omega) _ W
 obtain ⟨n,d,e0,ho⟩:=Qcw (Qmc s t c);rw [ho] at hC ⊢;clear ho;unfold rv at hC ⊢;go_enter Tryz.func125, Tryz.ntmps125;go_wp2_with (go_at_call 164; refine (hC _).mono ?_;rintro e w5 ⟨rfl,hB4⟩;obtain ⟨c0,c1,z0,z1⟩:=Qab ((hB4.block (w.heap.size+1) (by simp)).trans (QaP w _ _)));have k0:=QaM w5 (w.heap.size+1) (Z n) (Z d) _ _ c0 c1;have hB5:Below w.heap.size w w5:=(((Below.refl w.heap.size w).alloc Lr _).alloc (by simp) _).trans (hB4.mono (by simp;omega));refine bodyPost_ret (v:=.tuple #[.agg #[Z n,Z d],.int .i64 e0]) (by simp [results,Tryz.results125, go_sem,k0.1,k0.2]) rfl ⟨rfl,(hB5.setCell (by simp) _).setCell (by simp) _⟩
noncomputable def upR (s t:ByteArray) (c:Int):Option (ByteArray×ByteArray):=if 0≤c∧c≤30 then rndR QeJ s t c.toNat else none
theorem Quf (s t:ByteArray) (hs:s.size≤1000000) (ht:t.size≤1000000) (c:Int) (w:World) :
  Calls Tryz.prog 126 #[rv s t,.int .i64 c] w fun e w'=>e = .returned (bR (upR s t c))∧Below w.heap.size w w':=by
 have hC:∀ W:World,Calls Tryz.prog 164 #[rv s t,.int .i64 c,.func (.func 166) #[] #[]] W fun e w'=>e = .returned (bR (upR s t c))∧Below W.heap.size W w':=fun W=>by
  unfold upR;by_cases hc:0≤c∧c≤30
  ·rw [if_pos hc];have:=Qgt s t hs ht c.toNat (by omega) 166 QeJ (enters_of Tryz.func166 (by kernel_rfl) rfl) QjK Qbf W
   rwa [Int.toNat_of_nonneg hc.1] at this
  ·rw [if_neg hc];exact Qgu s t c (by omega) _ W
 obtain ⟨n,d,e0,ho⟩:=Qcw (upR s t c);rw [ho] at hC ⊢;clear ho;unfold rv at hC ⊢;go_enter Tryz.func126, Tryz.ntmps126;go_wp2_with (go_at_call 164; refine (hC _).mono ?_;rintro e w5 ⟨rfl,hB4⟩;obtain ⟨c0,c1,z0,z1⟩:=Qab ((hB4.block (w.heap.size+1) (by simp)).trans (QaP w _ _)));have k0:=QaM w5 (w.heap.size+1) (Z n) (Z d) _ _ c0 c1;have hB5:Below w.heap.size w w5:=(((Below.refl w.heap.size w).alloc Lr _).alloc (by simp) _).trans (hB4.mono (by simp;omega));refine bodyPost_ret (v:=.tuple #[.agg #[Z n,Z d],.int .i64 e0]) (by simp [results,Tryz.results126, go_sem,k0.1,k0.2]) rfl ⟨rfl,(hB5.setCell (by simp) _).setCell (by simp) _⟩
theorem Qsr (s t u v:ByteArray) (hs:s.size≤1000000) (ht:t.size≤1000000) (hu:u.size≤1000000) (hv:v.size≤1000000) (w:World) :
  Calls Tryz.prog 100 #[rv s t,rv u v] w fun e w'=>e = .returned (bR (sumR QeI s t u v))∧Below w.heap.size w w':=by
 have hC:=fun W=>QnO s t u v hs ht hu hv 145 QeI (enters_of Tryz.func145 (by kernel_rfl) rfl) QnG Qbf W;obtain ⟨n,d,e0,ho⟩:=Qcw (sumR QeI s t u v);rw [ho] at hC ⊢;clear ho;unfold rv at hC ⊢;go_enter Tryz.func100, Tryz.ntmps100;go_wp2_with (go_at_call 130; refine (hC _).mono ?_;rintro e w5 ⟨rfl,hB4⟩;obtain ⟨c0,c1,z0,z1⟩:=Qab ((hB4.block (w.heap.size+1+1) (by simp)).trans (QiM w _ _ _)));have k0:=QaM w5 (w.heap.size+1+1) (Z n) (Z d) _ _ c0 c1;have hB5:Below w.heap.size w w5:=((((Below.refl w.heap.size w).alloc Lr _).alloc (by simp) _).alloc (by simp;omega) _).trans (hB4.mono (by simp;omega));refine bodyPost_ret (v:=.tuple #[.agg #[Z n,Z d],.int .i64 e0]) (by simp [results,Tryz.results100, go_sem,k0.1,k0.2]) rfl ⟨rfl,(hB5.setCell (by simp;omega) _).setCell (by simp;omega) _⟩
def txtQ (q:Rat):ByteArray×ByteArray:=(txt q.num,txt (q.den:Int))
theorem QfJ {p q:Rat} (h:txtQ p=txtQ q):p=q:=by
 injection h with h1 h2;have e1:=Qcv h1;have e2:=Qcv h2;exact Rat.ext e1 (by omega)
theorem FitQ.size {q:Rat} (h:FitQ q):(txt q.num).size≤1000000∧(txt (q.den:Int)).size≤1000000:=⟨QaT h.1,QaT h.2⟩
theorem QdJ (q:Rat):(q.den:Int)≠0:=by have:=q.den_pos;omega
theorem QeM {p q:Rat} (hp:FitQ p) (hq:FitQ q):qsOk [(txt p.num,txt (p.den:Int)),(txt q.num,txt (q.den:Int))]=true:=by
 simp [qsOk,QdG hp,QdG hq]
theorem QkH {p:Rat} (hp:FitQ p):qsOk [(txt p.num,txt (p.den:Int))]=true:=by simp [qsOk,QdG hp]
theorem Qfz {x y:Int} (hx:Fits x) (hy:Fits y) (h0:y≠0):redR (txt x) (txt y)=some (txtQ (Rat.divInt x y)):=Qua hx hy h0
theorem Qrh {x y:Int} (hy:Fits y) (h0:y=0):redR (txt x) (txt y)=none:=by
 subst h0;exact QpM (QbC hy)
theorem Qbn {x y:Int} (hx:Fits x) (hy:Fits y):QaZ (txt x) (txt y)=fitO (x*y):=by rw [QaZ,QbD hx hy];rfl
theorem QnR {x y:Int} (hx:Fits x) (hy:Fits y):Qfd (txt x) (txt y)=fitO (x+y):=by rw [Qfd,QbD hx hy];rfl
theorem QnS {x y:Int} (hx:Fits x) (hy:Fits y):QeI (txt x) (txt y)=fitO (x-y):=by rw [QeI,QbD hx hy];rfl
open Classical in
noncomputable def mulQ (p q:Rat):Option Rat:=if Fits (p.num*q.num)∧Fits ((p.den:Int)*q.den) then some (p*q) else none
open Classical in
noncomputable def divQ (p q:Rat):Option Rat:=if Fits (p.num*q.den)∧Fits ((p.den:Int)*q.num)∧q≠0 then some (p / q) else none
open Classical in
noncomputable def addQ (p q:Rat):Option Rat:=if Fits (p.num*q.den)∧Fits (q.num*p.den)∧Fits (p.num*q.den+q.num*p.den)∧Fits ((p.den:Int)*q.den) then some (p+q) else none
open Classical in
noncomputable def subQ (p q:Rat):Option Rat:=if Fits (p.num*q.den)∧Fits (q.num*p.den)∧Fits (p.num*q.den-q.num*p.den)∧Fits ((p.den:Int)*q.den) then some (p-q) else none
theorem QcV (p q:Rat):((p.den:Int)*q.den)≠0:=Int.mul_ne_zero (QdJ p) (QdJ q)
theorem QnT (p q:Rat):Rat.divInt (p.num*q.num) ((p.den:Int)*q.den)=p*q:=by
 rw [←Rat.divInt_mul_divInt,Rat.num_divInt_den,Rat.num_divInt_den]
theorem QjN (p q:Rat):Rat.divInt (p.num*q.den+q.num*p.den) ((p.den:Int)*q.den)=p+q:=by
 rw [←Rat.divInt_add_divInt _ _ (QdJ p) (QdJ q),Rat.num_divInt_den,Rat.num_divInt_den]
theorem QjO (p q:Rat):Rat.divInt (p.num*q.den-q.num*p.den) ((p.den:Int)*q.den)=p-q:=by
 rw [←Rat.divInt_sub_divInt _ _ (QdJ p) (QdJ q),Rat.num_divInt_den,Rat.num_divInt_den]
theorem QnU (p q:Rat):Rat.divInt (p.num*q.den) ((p.den:Int)*q.num)=p / q:=by
 rw [←Rat.divInt_mul_divInt,Rat.num_divInt_den,←Rat.inv_divInt,Rat.num_divInt_den];rfl
theorem Qug {p q:Rat} (hp:FitQ p) (hq:FitQ q):mulR (txt p.num) (txt (p.den:Int)) (txt q.num) (txt (q.den:Int))=(mulQ p q).map txtQ:=by
 rw [mulR,QeM hp hq,if_pos rfl,Qbn hp.1 hq.1,Qbn hp.2 hq.2,mulQ];by_cases h1:Fits (p.num*q.num)
 ·by_cases h2:Fits ((p.den:Int)*q.den)
  ·rw [if_pos ⟨h1,h2⟩,Qay h1,Qay h2,Option.bind_some,Option.bind_some,Qfz h1 h2 (QcV p q),QnT];rfl
  ·rw [if_neg (fun h=>h2 h.2),Qay h1,Qbj h2];rfl
 ·rw [if_neg (fun h=>h1 h.1),Qbj h1];rfl
theorem Quh {p q:Rat} (hp:FitQ p) (hq:FitQ q):divR (txt p.num) (txt (p.den:Int)) (txt q.num) (txt (q.den:Int))=(divQ p q).map txtQ:=by
 rw [divR,QeM hp hq,if_pos rfl,Qbn hp.1 hq.2,Qbn hp.2 hq.1,divQ];by_cases h1:Fits (p.num*q.den)
 ·by_cases h2:Fits ((p.den:Int)*q.num)
  ·rw [Qay h1,Qay h2,Option.bind_some,Option.bind_some];by_cases h3:q=0
   ·rw [if_neg (fun h=>h.2.2 h3),Qrh h2 (by rw [h3];simp)];rfl
   ·rw [if_pos ⟨h1,h2,h3⟩,Qfz h1 h2 (Int.mul_ne_zero (QdJ p) (fun h=>h3 (Rat.num_eq_zero.1 h))),QnU];rfl
  ·rw [if_neg (fun h=>h2 h.2.1),Qay h1,Qbj h2];rfl
 ·rw [if_neg (fun h=>h1 h.1),Qbj h1];rfl
theorem Qri {p q:Rat} (hp:FitQ p) (hq:FitQ q):sumR Qfd (txt p.num) (txt (p.den:Int)) (txt q.num) (txt (q.den:Int))=(addQ p q).map txtQ:=by
 rw [sumR,QeM hp hq,if_pos rfl,Qbn hp.1 hq.2,Qbn hq.1 hp.2,Qbn hp.2 hq.2,addQ];by_cases h1:Fits (p.num*q.den)
 ·by_cases h2:Fits (q.num*p.den)
  ·rw [Qay h1,Qay h2,Option.bind_some,Option.bind_some,QnR h1 h2];by_cases h3:Fits (p.num*q.den+q.num*p.den)
   ·rw [Qay h3,Option.bind_some];by_cases h4:Fits ((p.den:Int)*q.den)
    ·rw [if_pos ⟨h1,h2,h3,h4⟩,Qay h4,Option.bind_some,Qfz h3 h4 (QcV p q),QjN];rfl
    ·rw [if_neg (fun h=>h4 h.2.2.2),Qbj h4];rfl
   ·rw [if_neg (fun h=>h3 h.2.2.1),Qbj h3];rfl
  ·rw [if_neg (fun h=>h2 h.2.1),Qay h1,Qbj h2];rfl
 ·rw [if_neg (fun h=>h1 h.1),Qbj h1];rfl
theorem Qrj {p q:Rat} (hp:FitQ p) (hq:FitQ q):sumR QeI (txt p.num) (txt (p.den:Int)) (txt q.num) (txt (q.den:Int))=(subQ p q).map txtQ:=by
 rw [sumR,QeM hp hq,if_pos rfl,Qbn hp.1 hq.2,Qbn hq.1 hp.2,Qbn hp.2 hq.2,subQ];by_cases h1:Fits (p.num*q.den)
 ·by_cases h2:Fits (q.num*p.den)
  ·rw [Qay h1,Qay h2,Option.bind_some,Option.bind_some,QnS h1 h2];by_cases h3:Fits (p.num*q.den-q.num*p.den)
   ·rw [Qay h3,Option.bind_some];by_cases h4:Fits ((p.den:Int)*q.den)
    ·rw [if_pos ⟨h1,h2,h3,h4⟩,Qay h4,Option.bind_some,Qfz h3 h4 (QcV p q),QjO];rfl
    ·rw [if_neg (fun h=>h4 h.2.2.2),Qbj h4];rfl
   ·rw [if_neg (fun h=>h3 h.2.2.1),Qbj h3];rfl
  ·rw [if_neg (fun h=>h2 h.2.1),Qay h1,Qbj h2];rfl
 ·rw [if_neg (fun h=>h1 h.1),Qbj h1];rfl
open Classical in
noncomputable def QjP (p:Rat) (c:Nat):Option Rat:=if Fits (p.num*10^c) then some (Rat.divInt (p.num*10^c / p.den) (10^c)) else none
theorem Qrk (c:Nat):((10:Int)^c)≠0:=Int.pow_ne_zero (by decide)
theorem Qss {p:Rat} (hp:FitQ p) (c:Nat) (hc:c≤30):Qmc (txt p.num) (txt (p.den:Int)) c=(QjP p c).map txtQ:=by
 rw [Qmc,if_pos ⟨by omega,by omega⟩,Int.toNat_natCast,rndR,QkH hp,if_pos rfl,Qbn hp.1 (Qcm c hc),QjP];by_cases h1:Fits (p.num*10^c)
 ·rw [if_pos h1,Qay h1,Option.bind_some,QbV,QbD h1 hp.2,if_neg (QdJ p),Option.bind_some,Qay (QaX h1),Option.bind_some,Qfz (QaX h1) (Qcm c hc) (Qrk c)];rfl
 ·rw [if_neg h1,Qbj h1];rfl
def upI (x y:Int):Int:=if x % y=0 then x / y else x / y+1
open Classical in
noncomputable def upQ (p:Rat) (c:Nat):Option Rat:=if Fits (p.num*10^c)∧Fits (upI (p.num*10^c) p.den) then some (Rat.divInt (upI (p.num*10^c) p.den) (10^c)) else none
theorem QvL {p:Rat} (hp:FitQ p) (c:Nat) (hc:c≤30):upR (txt p.num) (txt (p.den:Int)) c=(upQ p c).map txtQ:=by
 rw [upR,if_pos ⟨by omega,by omega⟩,Int.toNat_natCast,rndR,QkH hp,if_pos rfl,Qbn hp.1 (Qcm c hc),upQ];by_cases h1:Fits (p.num*10^c)
 ·rw [Qay h1,Option.bind_some,QeJ,QbD h1 hp.2,if_neg (QdJ p),Option.bind_some];show ((fitO (upI (p.num*10^c) p.den)).bind _)=_;by_cases h2:Fits (upI (p.num*10^c) p.den)
  ·rw [if_pos ⟨h1,h2⟩,Qay h2,Option.bind_some,Qfz h2 (Qcm c hc) (Qrk c)];rfl
  ·rw [if_neg (fun h=>h2 h.2),Qbj h2];rfl
 ·rw [if_neg (fun h=>h1 h.1),Qbj h1];rfl
theorem QnV {s t u v:ByteArray} (h:qOf s t=none∨qOf u v=none):qsOk [(s,t),(u,v)]=false:=by
 rcases h with h | h <;> simp [qsOk,h]
theorem FitQ.mulQ {p q r:Rat} (h:mulQ p q=some r):FitQ r:=by
 rw [Rt.mulQ] at h;split at h
 ·rename_i hc;injection h with h;rw [←h,←QnT];exact FitQ.div hc.1 hc.2 (QcV p q)
 ·cases h
theorem FitQ.divQ {p q r:Rat} (h:divQ p q=some r):FitQ r:=by
 rw [Rt.divQ] at h;split at h
 ·rename_i hc;injection h with h;rw [←h,←QnU];exact FitQ.div hc.1 hc.2.1 (Int.mul_ne_zero (QdJ p) (fun h=>hc.2.2 (Rat.num_eq_zero.1 h)))
 ·cases h
theorem FitQ.addQ {p q r:Rat} (h:addQ p q=some r):FitQ r:=by
 rw [Rt.addQ] at h;split at h
 ·rename_i hc;injection h with h;rw [←h,←QjN];exact FitQ.div hc.2.2.1 hc.2.2.2 (QcV p q)
 ·cases h
theorem FitQ.subQ {p q r:Rat} (h:subQ p q=some r):FitQ r:=by
 rw [Rt.subQ] at h;split at h
 ·rename_i hc;injection h with h;rw [←h,←QjO];exact FitQ.div hc.2.2.1 hc.2.2.2 (QcV p q)
 ·cases h
structure AB (b:Nat) (W:World) (s t u v:ByteArray):Prop where
 a:W.heap[b]? = some (O #[Z s,Z t] 42 (0,0))
 b:W.heap[b+1]? = some (O #[Z u,Z v] 42 (0,0))
theorem AB.new (w:World) (s t u v:ByteArray):AB w.heap.size ((w.alloc (O #[Z s,Z t] 42)).alloc (O #[Z u,Z v] 42)) s t u v :=
 ⟨Qgn w _ _,QaP w _ _⟩
theorem AB.keep {b:Nat} {W W':World} {s t u v:ByteArray} (h:AB b W s t u v) (hB:Below W.heap.size W W'):AB b W' s t u v :=
 ⟨(hB.block _ (lt_of_block h.a)).trans h.a,(hB.block _ (lt_of_block h.b)).trans h.b⟩
theorem AB.cells {b:Nat} {W:World} {s t u v:ByteArray} (h:AB b W s t u v):W.cell? ⟨b,0,none⟩=some (Z s)∧W.cell? ⟨b,1,none⟩=some (Z t)∧W.cell? ⟨b+1,0,none⟩=some (Z u)∧W.cell? ⟨b+1,1,none⟩=some (Z v) :=
 ⟨cell_of_row W _ 0 _ _ _ h.a,cell_of_row W _ 1 _ _ _ h.a,cell_of_row W _ 0 _ _ _ h.b,cell_of_row W _ 1 _ _ _ h.b⟩
theorem QiN (s t:ByteArray) (w:World):Calls Tryz.prog 27 #[rv s t,rv s t] w fun e w'=>e = .returned (.int .i64 0)∧Below w.heap.size w w':=by
 unfold rv;go_enter Tryz.func27, Tryz.ntmps27;go_wp2;go_step3;go_wp2;rw [Exit.noGoto_ret];go_ret;exact ⟨rfl,((Below.refl w.heap.size w).alloc Lr _).alloc (by simp) _⟩
def rq (q:Rat):Value:=rv (txt q.num) (txt (q.den:Int))
theorem QnW {q:Rat} (h:FitQ q) (W:World):Calls Tryz.prog 65 #[rq q] W fun e W'=>e = .returned (.bool true)∧Below W.heap.size W W':=by
 have:=Qgm (txt q.num) (txt (q.den:Int)) h.size.1 h.size.2 W;rw [QdG h] at this;exact this
def cmpQ (p q:Rat):Int:=cmpZ (p.num*q.den) (q.num*p.den)
theorem Qgv (p:Rat):cmpQ p p=0:=by rw [cmpQ,cmpZ,if_neg (by omega),if_pos rfl]
end Rt
end
end Go.Proofs.YtadcmepaniiciaaGreatDoor
