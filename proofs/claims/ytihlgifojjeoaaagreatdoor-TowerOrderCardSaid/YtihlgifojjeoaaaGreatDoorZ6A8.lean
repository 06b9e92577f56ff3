import Derived.Test.YtihlgifojjeoaaaGreatDoorZ6A6
import Derived.Test.YtihlgifojjeoaaaGreatDoorZ6A7
import Derived.Lib.SmallJoins
import Derived.Lib.SlBytesRow
import Derived.Lib.ConvBytes
set_option maxRecDepth 1000000
set_option maxHeartbeats 40000000
open Go.Value renaming string→Z
open Go.Obj renaming cells→O
namespace Go.Proofs.YtihlgifojjeoaaaGreatDoor
section
namespace Nm
def dg:Nat→Nat→List Nat
 | 0,_ => []
 | t+1,x=>(48+x / 10^t % 10) :: dg t x
theorem Qrc:∀ t x,(dg t x).length=t
 | 0,_=>rfl
 | t+1,x=>by rw [dg,List.length_cons,Qrc]
def dvl (l:List Nat):Nat:=l.foldl (fun a d=>10*a+(d-48)) 0
theorem Qez (l:List Nat) (d:Nat):dvl (l ++ [d])=10*dvl l+(d-48):=by simp [dvl]
theorem Qhe (l:List Nat) (a:Nat):l.foldl (fun a d=>10*a+(d-48)) a=a*10^l.length+dvl l:=by
 induction l generalizing a with
 | nil=>simp [dvl]
 | cons d l ih =>
  rw [List.foldl_cons,ih,show dvl (d :: l)=(d :: l).foldl (fun a d=>10*a+(d-48)) 0 from rfl,List.foldl_cons,ih,List.length_cons,Nat.pow_succ]
  grind
theorem QhO (d:Nat) (l:List Nat):dvl (d :: l)=(d-48)*10^l.length+dvl l:=by
 rw [dvl,List.foldl_cons,Qhe];simp
theorem QdW (l m:List Nat):dvl (l++m)=dvl l*10^m.length+dvl m:=by
 rw [dvl,List.foldl_append,Qhe];rfl
theorem Qhf (l:List Nat) (h:∀ y∈l,48≤y∧y<58):dvl l<10^l.length:=by
 induction l with
 | nil=>decide
 | cons d l ih =>
  have h1:=ih (fun y hy=>h y (List.mem_cons_of_mem _ hy));have h2:=h d (by simp);rw [QhO,List.length_cons,Nat.pow_succ];have h3:(d-48)*10^l.length≤9*10^l.length:=Nat.mul_le_mul_right _ (by omega);omega
theorem Qnj (l:List Nat) (h:∀ y∈l,48≤y∧y<58):dg l.length (dvl l)=l:=by
 induction l with
 | nil=>rfl
 | cons d l ih =>
  have hl:=fun y hy=>h y (List.mem_cons_of_mem d hy);have h1:=Qhf l hl;have h2:=h d (by simp);have hp:0<10^l.length:=Nat.pow_pos (by decide);rw [List.length_cons,dg,QhO]
  have e1:((d-48)*10^l.length+dvl l) / 10^l.length=d-48:=by
   rw [Nat.add_comm,Nat.add_mul_div_right _ _ hp,Nat.div_eq_of_lt h1,Nat.zero_add]
  have e2:dg l.length ((d-48)*10^l.length+dvl l)=dg l.length (dvl l):=by
   have:∀ t k,t≤l.length→dg t (k*10^l.length+dvl l)=dg t (dvl l):=by
    intro t
    induction t with
    | zero=>intro k _;rfl
    | succ t iht =>
     intro k ht;rw [dg,dg,iht k (by omega)];congr 2;obtain ⟨m,hm⟩:∃ m,l.length=t+1+m:=⟨l.length-(t+1),by omega⟩;have e:k*10^l.length+dvl l=dvl l+10^t*(10*(k*10^m)):=by rw [hm,Nat.pow_add,Nat.pow_succ];grind
     rw [e,Nat.add_mul_div_left _ _ (Nat.pow_pos (by decide)),Nat.add_mul_mod_self_left]
   exact this l.length (d-48) Lr
  rw [e1,e2,ih hl];congr 1;omega
def decN (n:Nat):List Nat:=if n=0 then [] else decN (n / 10) ++ [48+n % 10]
decreasing_by omega
theorem Qbe:decN 0 = []:=by rw [decN,if_pos rfl]
theorem Qcl {n:Nat} (h:n≠0):decN n=decN (n / 10) ++ [48+n % 10]:=by rw [decN,if_neg h]
theorem QdX (n:Nat):dvl (decN n)=n:=by
 induction n using Nat.strongRecOn with
 | ind n ih =>
  by_cases h:n=0
  ·subst h;rw [Qbe];rfl
  ·rw [Qcl h,Qez,ih (n / 10) (by omega)];omega
theorem QaQ (n:Nat):∀ y∈decN n,48≤y∧y<58:=by
 induction n using Nat.strongRecOn with
 | ind n ih =>
  by_cases h:n=0
  ·subst h;rw [Qbe];intro x hx;cases hx
  ·rw [Qcl h];intro x hx;rcases List.mem_append.1 hx with hx | hx
   ·exact ih (n / 10) (by omega) x hx
   ·rw [List.mem_singleton.1 hx];omega
theorem QeA {n:Nat}:decN n = []↔n=0:=by
 constructor
 ·intro h;by_cases h0:n=0
  ·exact h0
  ·rw [Qcl h0] at h;simp at h
 ·rintro rfl;exact Qbe
theorem QcN (n:Nat) (h:n≠0):(decN n).getD 0 0≠48:=by
 induction n using Nat.strongRecOn with
 | ind n ih =>
  rw [Qcl h];by_cases h1:n / 10=0
  ·rw [h1,Qbe];simp;omega
  ·have h2:=ih (n / 10) (by omega) h1;have h3:decN (n / 10) ≠ []:=fun e=>h1 (QeA.1 e);cases hd:decN (n / 10) with
   | nil=>exact absurd hd h3
   | cons a r=>rw [hd] at h2;simpa using h2
theorem QrS (l : List Nat) (h : ∀ y ∈ l, 48 ≤ y ∧ y < 58) (hz : l = [] ∨ l.getD 0 0 ≠ 48) : l = decN (dvl l) := by
  have key : ∀ k (l : List Nat), l.length = k → (∀ y ∈ l, 48 ≤ y ∧ y < 58) → (l = [] ∨ l.getD 0 0 ≠ 48) → l = decN (dvl l) := by
    intro k
    induction k with
    | zero => intro l hl _ _; obtain rfl := List.eq_nil_of_length_eq_zero hl; rw [show dvl [] = 0 from rfl, Qbe]
    | succ k ih =>
      intro l hl h hz;obtain ⟨m, d, rfl⟩ : ∃ m d, l = m ++ [d] := ⟨l.dropLast, l.getLast (by intro e; rw [e] at hl; simp at hl), (List.dropLast_concat_getLast _).symm⟩;have hd := h d (by simp);have hm : ∀ y ∈ m, 48 ≤ y ∧ y < 58 := fun y hy => h y (by simp [hy]);have hml : m.length = k := by simpa using hl
      have hmz : m = [] ∨ m.getD 0 0 ≠ 48 := by
        cases m with
        | nil => exact .inl rfl
        | cons a r => right; rcases hz with hz | hz
                      · simp at hz
                      · simpa using hz
      have e := ih m hml hm hmz
      have hne : dvl (m ++ [d]) ≠ 0 := by
        rw [Qez];rcases hmz with rfl | hm0
        · rcases hz with hz | hz
          · simp at hz
          · simp at hz; omega
        · intro h0
          have : dvl m = 0 := by omega
          rw [this, Qbe] at e;rw [e] at hm0; simp at hm0;rcases hz with hz | hz
          · rw [e] at hz; simp at hz
          · rw [e] at hz; simp at hz; omega
      rw [Qcl hne, Qez, show (10 * dvl m + (d - 48)) / 10 = dvl m by omega, show 48 + (10 * dvl m + (d - 48)) % 10 = d by omega, ← e]
  exact key l.length l rfl h hz
theorem QjF (n:Nat):n<10^(decN n).length:=by have:=Qhf _ (QaQ n);rwa [QdX] at this
theorem Qce {n t : Nat} (h : n < 10 ^ t) : (decN n).length ≤ t := by
  induction t generalizing n with
  | zero => have : n = 0 := by simpa using h
            subst this; rw [Qbe]; exact Nat.le_refl _
  | succ t ih =>
    by_cases h0 : n = 0
    · subst h0; rw [Qbe]; simp
    · rw [Qcl h0, List.length_append]
      have := ih (n := n / 10) (by rw [Nat.pow_succ] at h; omega);simpa using this
theorem QrT (t n:Nat) (h:n<10^t):dg t n=List.replicate (t-(decN n).length) 48++decN n:=by
 have hl:=Qce h
 have hu:=Qnj (List.replicate (t-(decN n).length) 48++decN n) (fun y hy=>by
  rcases List.mem_append.1 hy with hy | hy
  ·rw [(List.mem_replicate.1 hy).2];decide
  ·exact QaQ n y hy)
 have hv:dvl (List.replicate (t-(decN n).length) 48++decN n)=n:=by
  rw [QdW,QdX]
  have:∀ k,dvl (List.replicate k 48)=0:=by
   intro k
   induction k with
   | zero=>rfl
   | succ k ih=>rw [List.replicate_succ,QhO,ih];simp
  rw [this];omega
 rw [hv,List.length_append,List.length_replicate,show t-(decN n).length+(decN n).length=t by omega] at hu;exact hu
theorem Qpv (l:List Nat) (h:Dig l) (i:Nat) (hi:i<l.length) (j:Nat) (hj:j<4):nv l / 10^(4*i+j) % 10=l.getD i 0 / 10^j % 10:=by
 have h1:=QaH l i (by omega);have h2:=QdC (h.take i);rw [List.length_take,Nat.min_eq_left (by omega)] at h2;have hp:10000^i=10^(4*i):=by rw [show (10000:Nat)=10^4 from rfl,←Nat.pow_mul]
 have h3:nv (l.drop i)=l.getD i 0+10000*nv (l.drop (i+1)):=by
  rw [List.drop_eq_getElem_cons hi,nv];simp [List.getD,hi]
 have h4:(nv (l.take i)+10000^i*nv (l.drop i)) / 10000^i=nv (l.drop i):=by rw [Nat.add_mul_div_left _ _ (Nat.pow_pos (by decide)),Nat.div_eq_of_lt h2,Nat.zero_add]
 rw [←h1] at h4;rw [Nat.pow_add,←Nat.div_div_eq_div_mul,←hp,h4,h3];have hd:=h.getD i;generalize l.getD i 0=d at *
 generalize nv (l.drop (i+1))=r at *
 rcases (show j=0∨j=1∨j=2∨j=3 by omega) with rfl | rfl | rfl | rfl <;> omega
end Nm
end
section
open Go.RowKit Nm

def bl (s:ByteArray):List Nat:=s.data.toList.map UInt8.toNat
def ba (l:List Nat):ByteArray:=⟨(l.map UInt8.ofNat).toArray⟩
theorem QcA (s:ByteArray):(bl s).length=s.size:=by simp [bl]
theorem QtV (s:ByteArray):ba (bl s)=s:=by
 simp only [ba,bl,List.map_map];have:(UInt8.ofNat ∘ UInt8.toNat)=id:=by funext x;simp
 rw [this,List.map_id]
theorem QeB (l:List Nat) (h:∀ x∈l,x<256):bl (ba l)=l:=by
 simp only [bl,ba,List.map_map]
 conv=>rhs;rw [←List.map_id l]
 exact List.map_congr_left (fun x hx=>by simp;exact h x hx)
theorem Qeo (l:List Nat):(ba l).size=l.length:=by rw [←QcA];simp [bl,ba]
theorem QeC (s:ByteArray) (i:Nat) (h:i<s.size):(bl s).getD i 0=s[i].toNat:=by
 have h2:i<s.data.size:=h;simp only [bl,List.getD_eq_getElem?_getD,List.getElem?_map,Array.getElem?_toList,Array.getElem?_eq_getElem h2,Option.map_some,Option.getD_some];rfl
theorem Qnk (l m:List Nat):ba (l++m)=ba l++ba m:=by
 apply ByteArray.ext;simp [ba]
theorem QtW {l m:List Nat} (hl:∀ x∈l,x<256) (hm:∀ x∈m,x<256) (h:ba l=ba m):l=m:=by rw [←QeB l hl,h,QeB m hm]
theorem Qkx {s t:ByteArray} (h:bl s=bl t):s=t:=by rw [←QtV s,h,QtV]

def u8s (l:List Nat):Array Value:=(l.map fun n:Nat=>Value.int .u8 (n:Int)).toArray
theorem QrU (l:List Nat) (i:Nat) (h:i<l.length):(u8s l)[i]? = some (.int .u8 ((l.getD i 0:Nat):Int)):=by simp [u8s,List.getD,h]
theorem QrV (l:List Nat) (i x:Nat):(u8s l).setIfInBounds i (.int .u8 (x:Int))=u8s (l.set i x):=by simp [u8s,List.map_set]
def BR (W:World) (g:Nat) (L:List Nat):Prop:=RowAt W g (u8s L) 5
theorem BR.u8 {w:World} {b:Nat} {l:List Nat} (h:BR w b l) (i:Nat) (hi:i<l.length):w.cell? ⟨b,i,none⟩=some (.int .u8 ((l.getD i 0:Nat):Int)):=(RowAt.cell h i).trans (QrU l i hi)
theorem BR.frozen {w:World} {b:Nat} {l:List Nat} (h:BR w b l) (i:Nat):w.frozen? ⟨b,i,none⟩=false:=RowAt.frozen h i
theorem BR.set8 {w:World} {b:Nat} {l:List Nat} (h:BR w b l) (i x:Nat):BR (w.setCell ⟨b,i,none⟩ (.int .u8 (x:Int))) b (l.set i x):=by unfold BR;rw [←QrV];exact RowAt.set_same h i _
theorem Qrd:(Tryz.prog.info? 5).map (fun i=>(i.zero,i.size,i.bytes))=some (some (.int .u8 0),1,1):=by kernel_rfl
theorem QlN (n:Nat):(madeCells (Value.int .u8 0).cells (n*1)).toList=(List.replicate n 0).map fun n:Nat=>Value.int .u8 (n:Int):=by
 rw [Nat.mul_one,List.map_replicate];simp [madeCells,Value.cells];rw [List.eq_replicate_iff];refine ⟨by simp,fun b hb => ?_⟩;simp only [List.mem_map,Nat.mod_one] at hb;obtain ⟨_,_,rfl⟩:=hb;rfl
theorem QrW {w:World} {ops:Array Oper} {rest:List Oper} {o:Oper} {a:Act} {Q:Exit→Act→World→Prop} (hg:o.guard=none) (l c:Operand) (hop:o.op=Op.makeSlice 202 l c)
  (base n:Nat) (hl:a.eval l = .int .i64 (n:Int)) (hc:a.eval c = .int .i64 (n:Int)) (hn:n≤1000000) (hb:base≤w.heap.size)
  (h:∀ w',BR w' w.heap.size (List.replicate n 0)→Below base w w'→wpList Tryz.prog ops Q rest (a.put o.dst (.slice (some ⟨w.heap.size,0,none⟩) n n)) w'):wpList Tryz.prog ops Q (o :: rest) a w:=by
 obtain ⟨i0,hinf,hz0,hz1,hz2⟩:=info_parts Qrd;refine wpList_make_full w hg l c 202 hop base 5 i0 (.int .u8 0) 1 Tryz.underlying202 hinf hz0 hz1 .i64 .i64 (n:Int) (n:Int) n hl hc rfl rfl (by rw [hz2];omega) (by unfold maxLen;omega) hb ?_;intro w' ho hgr;refine h w' ?_ ⟨hgr.os,hgr.tape,hgr.output,hgr.size,fun k hk=>hgr.block k (by omega) (by simp)⟩;rw [QlN] at ho;rcases ho.2 with ⟨h1,_⟩ | ⟨g,cap,cur,h1,_,h2,_,_,h3,h4⟩
 ·cases h1
 ·injection h1 with e1 e2 e3;injection e1 with e1;injection e1 with e1;subst e1;subst e3
  have:cur=u8s (List.replicate n 0):=by
   apply Array.ext';rw [show (u8s (List.replicate n 0)).toList=(List.replicate n 0).map fun n:Nat=>Value.int .u8 (n:Int) from rfl,←h4,List.take_of_length_le];rw [Array.length_toList,h3];exact Nat.le_refl _
  unfold BR RowAt;rw [this] at h2;exact h2
theorem Qep (w:World) (g o cap:Nat) (l:List Nat) (hl:∀ x∈l,x<256) (h:∀ i,i<l.length→w.cell? ⟨g,o+i,none⟩=some (.int .u8 ((l.getD i 0:Nat):Int))) :
  Sem.run Tryz.prog (convert 202 9 (.slice (some ⟨g,o,none⟩) l.length cap)) w = .ok (Z (ba l)) w:=by
 have:=Go.run_convert_bytes_back (P:=Tryz.prog) w 202 9 5 ⟨g,o,none⟩ cap (l.map UInt8.ofNat) Tryz.underlying202 Tryz.underlying5 Tryz.underlying9 (fun i hi=>by
  rw [List.length_map] at hi;rw [Addr.add_lit,h i hi];have hx:l.getD i 0<256:=by rw [List.getD_eq_getElem?_getD,List.getElem?_eq_getElem hi];exact hl _ (List.getElem_mem hi)
  have e:l[i]=l.getD i 0:=by simp [List.getD,hi]
  simp only [List.getElem_map];rw [e];congr 3;rw [UInt8.toNat_ofNat_of_lt' hx])
 rwa [List.length_map] at this
def rowD (m t x:Nat):List Nat:=List.replicate (m-t) 0++dg t x
theorem Qpw (m t x:Nat) (h:t≤m):(rowD m t x).length=m:=by simp [rowD,Qrc];omega
theorem Qpx (m t x:Nat) (h:t<m):(rowD m t x).set (m-t-1) (48+x / 10^t % 10)=rowD m (t+1) x:=by
 obtain ⟨k,hk⟩:∃ k,m-t=k+1:=⟨m-t-1,by omega⟩;rw [rowD,rowD,hk,show m-(t+1)=k by omega,Nat.add_sub_cancel,List.replicate_succ',List.append_assoc,List.set_append_right _ _ (by simp),List.length_replicate,Nat.sub_self,List.singleton_append,List.set_cons_zero,dg]
theorem Qnl (m x:Nat) (h:x<10^m):rowD m m x=List.replicate (m-(decN x).length) 48++decN x:=by
 rw [rowD,Nat.sub_self,List.replicate_zero,List.nil_append,QrT m x h]
theorem Qhg (l r:List Nat) (i:Nat):(l++r).getD (l.length+i) 0=r.getD i 0:=by
 simp only [List.getD_eq_getElem?_getD];rw [List.getElem?_append_right (by omega),Nat.add_sub_cancel_left]
theorem Qpy (n i y:Nat) (r:List Nat) (h:i<n):(List.replicate n y++r).getD i 0=y:=by
 simp only [List.getD_eq_getElem?_getD];rw [List.getElem?_append_left (by simpa using h),List.getElem?_replicate,if_pos h];rfl

set_option maxRecDepth 100000 in
theorem QlO (x:Nat) (hx:x≠0) (va:Value) (w:World) (ha:NA w va (natL x)) (hla:(natL x).length≤1000) :
  Calls Tryz.prog 157 #[va] w fun e w'=>e = .returned (Z (ba (decN x)))∧Below w.heap.size w w':=by
 obtain ⟨pa,ca,ga,oa,rfl,hla2,hca,hpa,hua⟩:=ha.open;obtain ⟨m,hm⟩:∃ m,m=4*(natL x).length:=⟨_,rfl⟩;have hxm:x<10^m:=by have:=QaI x;rw [hm,Nat.pow_mul];exact this
 have hdl:=Qce hxm
 have hd0:1≤(decN x).length:=by
  rcases Nat.eq_zero_or_pos (decN x).length with h | h
  ·exact absurd (QeA.1 (List.eq_nil_of_length_eq_zero h)) hx
  ·exact h
 have HM1:Shut ((4:Int)*(((natL x).length:Nat):Int)=(m:Int)):=⟨by omega⟩;have hm4:m≤4000:=by omega
 have HM:Shut _:=⟨hm⟩;have HA:Shut _:=⟨And.intro hua hpa⟩;have HFULL:Shut _:=⟨Qnl m x hxm⟩;have HHEAD:Shut _:=⟨QcN x hx⟩;obtain ⟨dl,hdle⟩:∃ dl,dl=(decN x).length:=⟨_,rfl⟩;rw [←hdle] at hdl hd0;have HDL:Shut _:=⟨hdle⟩;have HX:Shut _:=⟨hx⟩;clear hm hua hpa ha hxm hdle hx;go_enter Tryz.func157, Tryz.ntmps157;go_wp2_with (first | (at_make;refine QrW rfl _ _ rfl w.heap.size m (congrArg (Value.int .i64) HM1.o) (congrArg (Value.int .i64) HM1.o) (by omega) Lr ?_;intro w1 hu1 hB1));have HU1:Shut (BR w1 w.heap.size (rowD m (4*0) x)):=⟨by rw [rowD,dg,Nat.mul_zero,Nat.sub_zero,List.append_nil];exact hu1⟩;clear hu1
 go_loopw [4,15] (fun ev iv wr=>∃ i e:Nat,i≤(natL x).length∧e+4*i=m∧ev = .int .i64 e∧iv = .int .i64 i∧Shut (BR wr w.heap.size (rowD m (4*i) x))∧Shut (Below w.heap.size w wr)) (fun _ iv _=>(natL x).length-(intOf iv).toNat)
 case atStart=>exact ⟨0,m,Nat.zero_le _,rfl,rfl,rfl,HU1,⟨hB1⟩⟩
 case round =>
  obtain ⟨i,e0,hi,he0,rfl,rfl,hu,hB⟩:=hrel;by_cases hlt:i<(natL x).length
  ·obtain ⟨hp,hg⟩:=HA.o.2 (by omega);subst hp;have hcl:=HA.o.1.below hB.o hg i hlt;have hd1:decide ((i:Int)<(((natL x).length:Nat):Int))=true:=decide_eq_true (by omega)
   have HDG:Shut (∀ j,j<4→x / 10^(4*i+j) % 10=(natL x).getD i 0 / 10^j % 10):=⟨fun j hj=>by
    have:=Qpv (natL x) (Qao x) i hlt j hj
    rwa [Qan] at this⟩
   have hd:=(Qao x).getD i;have hmi:4*i+4≤m:=by have:=HM.o;omega
   generalize (natL x).getD i 0=d at *
   go_wp2
   go_loopw [4,6,19] (fun ev gv jv wr'=>∃ j e:Nat,j≤4∧e+(4*i+j)=m∧ev = .int .i64 e∧gv = .int .u32 ((d / 10^j:Nat):Int)∧jv = .int .i64 j∧Shut (BR wr' w.heap.size (rowD m (4*i+j) x))∧Shut (Below w.heap.size w wr')) (fun _ _ jv _=>4-(intOf jv).toNat)
   case atStart=>exact ⟨0,e0,by omega,by omega,rfl,by simp,rfl,hu,hB⟩
   case round =>
    obtain ⟨j,e1,hj,he1,rfl,rfl,rfl,hu2,hB2⟩:=hrel;by_cases hj4:j<4
    ·obtain ⟨e,rfl⟩:∃ e,e1=e+1:=⟨e1-1,by omega⟩;have HG:Shut (d / 10^j / 10=d / 10^(j+1)):=⟨by rw [Nat.div_div_eq_div_mul,Nat.pow_succ]⟩;have hfr:=hu2.o.frozen e;have hce:=hu2.o.u8 e (by rw [Qpw m _ x (by omega)];omega);have hgj:d / 10^j<10000:=Nat.lt_of_le_of_lt (Nat.div_le_self _ _) hd
     have HC:Shut (BR (wr.setCell ⟨w.heap.size,e,none⟩ (.int .u8 ((48+d / 10^j % 10:Nat):Int))) w.heap.size (rowD m (4*i+(j+1)) x)):=⟨by
      have h1:=hu2.o.set8 e (48+d / 10^j % 10);have h2:=Qpx m (4*i+j) x (by omega);rw [HDG.o j hj4,show m-(4*i+j)-1=e by omega] at h2;rw [h2] at h1;exact h1⟩
     have HB2:Shut (∀ v,Below w.heap.size w (wr.setCell ⟨w.heap.size,e,none⟩ v)):=⟨fun v=>hB2.o.trans ((Only.setCell (Only.refl w.heap.size wr) e v).below Lr)⟩;clear hu2 hB2;generalize (rowD m (4*i+j) x).getD e 0=old at *
     generalize d / 10^j=gj at *
     go_wp2;have e1:(48+(gj:Int) % 10)=((48+gj % 10:Nat):Int):=by omega
     have e2:((gj:Int) / 10)=((gj / 10:Nat):Int):=by omega
     rw [e1,e2];exact ⟨⟨j+1,e,by omega,by omega,by go_num,by rw [HG.o],by go_num,HC,⟨HB2.o _⟩⟩,by simp [intOf];omega⟩
    ·obtain rfl:j=4:=by omega
     go_wp2;exact ⟨⟨i+1,e1,by omega,by omega,rfl,by go_num,hu2,hB2⟩,by simp [intOf];omega⟩
  ·obtain rfl:i=(natL x).length:=by omega
   obtain rfl:e0=0:=by have:=HM.o;omega
   have HR:Shut (BR wr w.heap.size (List.replicate (m-dl) 48++decN x)):=⟨by
    have h1:=hu.o;rw [show 4*(natL x).length=m by omega,HFULL.o,←HDL.o] at h1;exact h1⟩
   clear hu;go_wp2
   go_loopw [3] (fun sv wr'=>∃ o r:Nat,o+r=m∧dl≤r∧sv = .slice (some ⟨w.heap.size,o,none⟩) r r∧wr'=wr) (fun sv _=>match sv with | .slice _ k _=>k | _=>0)
   case atStart=>exact ⟨0,m,by omega,by omega,rfl,rfl⟩
   case round =>
    obtain ⟨o,r,hor,hr,rfl,rfl⟩:=hrel;by_cases ho2:dl<r
    ·obtain ⟨r,rfl⟩:∃ r',r=r'+1:=⟨r-1,by omega⟩;have hc:=HR.o.u8 o (by rw [List.length_append,List.length_replicate];omega);rw [Qpy (m-dl) o 48 _ (by omega)] at hc;have hr1:¬ r+1=1:=by omega
     have hr2:r≠0:=by omega
     go_wp2;exact ⟨⟨o+1,r,by omega,by omega,rfl,trivial⟩,Nat.lt_succ_self r⟩
    ·obtain rfl:r=dl:=by omega
     have hc:=HR.o.u8 o (by rw [List.length_append,List.length_replicate,←HDL.o];omega)
     have hcv:=Qep wr w.heap.size o r (decN x) (fun y hy=>by have:=QaQ x y hy;omega) (fun i hi=>by
      have h1:=HR.o.u8 (o+i) (by rw [List.length_append,List.length_replicate];omega);have h2:=Qhg (List.replicate (m-r) 48) (decN x) i;rw [List.length_replicate,show m-r=o by omega] at h2;rw [show m-r=o by omega,h2] at h1;exact h1)
     rw [←HDL.o] at hcv;have h2:=Qhg (List.replicate (m-r) 48) (decN x) 0;rw [List.length_replicate,show m-r=o by omega,Nat.add_zero] at h2;rw [show m-r=o by omega,h2] at hc;have h48:=HHEAD.o;have h48i:(((decN x).getD 0 0:Nat):Int)≠48:=by omega
     have hr0:0<r:=by omega
     clear h2 hor hr hdl hi;generalize (decN x).getD 0 0=hd at *
     obtain ⟨str,hstr⟩:∃ str,str=ba (decN x):=⟨_,rfl⟩;rw [←hstr] at hcv;have HSTR:Shut _:=⟨hstr⟩;clear hstr he0 hlt ho2;go_wp2;go_ret;exact ⟨by rw [←HSTR.o];rfl,hB.o⟩
theorem Qnm (k x:Nat):padL (k+1) x=padL k x ++ [x / 10000^k % 10000]:=by
 have h1:=Qdq (k+1) k x (by omega);have h2:=Qdq k k x Lr;rw [Nat.sub_self,padL,List.append_nil] at h2;rw [h1,←h2,show k+1-k=1 by omega,padL,padL]
theorem Qde (s:ByteArray) (i j:Nat):bl (s.extract i j)=((bl s).take j).drop i:=by
 simp [bl,List.map_take,List.map_drop,List.drop_take]
theorem QrX (t:ByteArray) (n:Nat) (hn:t.size=n) (w:World):∃ (W1:World) (cap:Nat),
  Sem.run Tryz.prog (convert 9 202 (Z t)) w = .ok (.slice (some ⟨w.heap.size,0,none⟩) n cap) W1∧(∀ i,i<n→W1.cell? ⟨w.heap.size,i,none⟩=some (.int .u8 (((bl t).getD i 0:Nat):Int)))∧Below w.heap.size w W1:=by
 subst hn;refine ⟨Lib.bytesWorld w 5 t,grownCap w t.size 0 5, Lib.run_convert_string_bytes w 9 202 5 t Tryz.underlying9 Tryz.underlying202 Tryz.underlying5, fun i hi => ?_,Joins.below_bytesWorld _ w 5 t Lr⟩;rw [Lib.bytesWorld_cell w 5 t i hi,QeC t i hi];congr 3;simp [List.getD,hi];rfl

theorem Qpz (a i c:Nat) (ha:a<100000) (h1:48≤c) (h2:c<58) (w:World) :
  Calls Tryz.prog 225 #[.int .u32 a,.int .i64 i,.int .u8 c] w fun e w'=>e = .returned (.int .u32 ((10*a+(c-48):Nat):Int))∧w'=w:=by
 go_enter Tryz.func225, Tryz.ntmps225;obtain ⟨d,rfl⟩:∃ d,c=48+d:=⟨c-48,by omega⟩;go_wp2;go_ret;exact ⟨QrQ (by omega),rfl⟩

theorem Qnn (l:List Nat) (g cap n:Nat) (hn:l.length=n) (h4:n≤4) (hl:∀ y∈l,48≤y∧y<58) (w:World) (hc:∀ i,i<n→w.cell? ⟨g,i,none⟩=some (.int .u8 ((l.getD i 0:Nat):Int))) :
  Calls Tryz.prog 224 #[.slice (some ⟨g,0,none⟩) n cap,.int .u32 0,.func (Fn.func 225) #[] #[]] w fun e w'=>e = .returned (.int .u32 (dvl l:Nat))∧w'=w:=by
 go_enter Tryz.func224, Tryz.ntmps224;have HC:Shut _:=⟨hc⟩;have HL:Shut _:=⟨hl⟩;have HN:Shut _:=⟨hn⟩;clear hc hl hn;go_wp2
 go_loopw [7,13] (fun sv iv wr=>∃ k:Nat,k≤n∧sv = .int .u32 (dvl (l.take k):Nat)∧iv = .int .i64 k∧wr=w) (fun _ iv _=>n-(intOf iv).toNat)
 case atStart=>exact ⟨0,Nat.zero_le _,rfl,rfl,rfl⟩
 case round =>
  obtain ⟨k,hk,rfl,rfl,rfl⟩:=hrel;by_cases hlt:k<n
  ·have hkl:k<l.length:=by have:=HN.o;omega
   have hcl:=HC.o k hlt;have hg:l.getD k 0=l[k]:=by simp [List.getD,hkl]
   have hd:=HL.o _ (List.getElem_mem hkl);rw [←hg] at hd;have hv:=Qhf (l.take k) (fun y hy=>HL.o y (List.mem_of_mem_take hy));have hp:10^(l.take k).length≤10^4:=Nat.pow_le_pow_right (by decide) (by rw [List.length_take];omega);have HV:Shut (dvl (l.take (k+1))=10*dvl (l.take k)+(l.getD k 0-48)):=⟨by rw [List.take_succ_eq_append_getElem hkl,Qez,hg]⟩;have hv2:dvl (l.take k)<100000:=by omega
   have hd1:decide ((k:Int)<(n:Int))=true:=decide_eq_true (by omega);clear hg hv hp hkl;generalize dvl (l.take k)=a at *
   generalize l.getD k 0=c at *
   have c1:=Qpz a k c hv2 hd.1 hd.2 wr;go_wp2_with (go_at_call 225; refine c1.mono ?_;rintro e w1 ⟨rfl,rfl⟩);exact ⟨⟨k+1,by omega,by rw [HV.o];congr 1,by go_num,trivial⟩,by simp [intOf];omega⟩
  ·obtain rfl:k=n:=by omega
   have HF:Shut (dvl (l.take k)=dvl l):=⟨by rw [←HN.o,List.take_length]⟩;rw [HF.o];go_wp2;go_ret;exact ⟨rfl,rfl⟩
theorem Qno (l:List Nat) (hl:∀ y∈l,48≤y∧y<58) (k e:Nat) (he:e+4*k=l.length):dvl ((l.take e).drop (e-4))=dvl l / 10000^k % 10000:=by
 have h1:dvl l=dvl (l.take e)*10^(l.drop e).length+dvl (l.drop e):=by rw [←QdW,List.take_append_drop]
 have h2:=Qhf (l.drop e) (fun y hy=>hl y (List.mem_of_mem_drop hy));have h3:(l.drop e).length=4*k:=by rw [List.length_drop];omega
 rw [h3] at h1 h2;have hp:10000^k=10^(4*k):=by rw [show (10000:Nat)=10^4 from rfl,←Nat.pow_mul]
 have h4:dvl l / 10000^k=dvl (l.take e):=by
  rw [hp,h1,Nat.add_comm,Nat.add_mul_div_right _ _ (Nat.pow_pos (by decide)),Nat.div_eq_of_lt h2,Nat.zero_add]
 rw [h4];have h5:dvl (l.take e)=dvl ((l.take e).take (e-4))*10^((l.take e).drop (e-4)).length+dvl ((l.take e).drop (e-4)):=by rw [←QdW,List.take_append_drop]
 have h6:=Qhf ((l.take e).drop (e-4)) (fun y hy=>hl y (List.mem_of_mem_take (List.mem_of_mem_drop hy)));have h7:((l.take e).drop (e-4)).length=e-(e-4):=by rw [List.length_drop,List.length_take];omega
 rw [h7] at h5 h6;by_cases he4:4≤e
 ·rw [show e-(e-4)=4 by omega] at h5 h6;rw [h5];omega
 ·rw [show e-4=0 by omega,List.drop_zero];have h8:10^(e-(e-4))≤10^4:=Nat.pow_le_pow_right (by decide) (by omega);rw [show e-4=0 by omega,List.drop_zero] at h6;rw [show e-4=0 by omega] at h8;omega

theorem Qbt {w:World} {y:Nat} {ops:Array Oper} {rest:List Oper} {o:Oper} {a:Act} {Q:Exit→Act→World→Prop} (hgd:o.guard=none) (s x:Operand)
  (ho:o.op = .call {callee:=.builtin .append,args:=#[s,x],argTypes:=#[128, 128]}) (base:Nat) (v:Value) (xs:List Nat) (hs:a.eval s=v) (w0:World) (hw:w=w0.alloc (O #[.int .u32 (y:Nat)] 171)) (hown:OwnU w0 base v xs)
  (hx:a.eval x = .slice (some ⟨w0.heap.size,0,none⟩) 1 1) (hl:xs.length+1≤1000000) (hb:base≤w0.heap.size)
  (h:∀ v' w',OwnU w' base v' (xs ++ [y])→v' ≠ .slice none 0 0→Below base w0 w'→wpList Tryz.prog ops Q rest (a.put o.dst v') w'):wpList Tryz.prog ops Q (o :: rest) a w:=by
 subst hw;obtain ⟨i0,hinf,hz0,hz1,hz2⟩:=info_parts Qnb;have hB0:Below base w0 (w0.alloc (O #[.int .u32 (y:Nat)] 171)):=(Below.refl _ _).alloc hb _;refine wpList_append_own _ hgd s x 128 ho base 171 i0 (.int .u32 0) 1 4 Tryz.underlying128 hinf hz0 hz1 hz2 rfl (by decide) v xs.length _ hs (World.ownsRow.alloc hown _) ⟨w0.heap.size,0,none⟩ 1 1 [.int .u32 (y:Nat)] hx rfl (cell_one_new _ _ _) (by simp [Value.oneCell']) (by unfold maxLen;omega) (by omega) (by rw [World.size_alloc];omega) ?_;intro v' w' hown' hgrow hnil;exact h v' w' (OwnU.snoc hown') (fun e=>by have:=(hnil.1 e).2;omega) (QbT hB0 hb (World.ownsRow.alloc hown _) hgrow)

set_option maxRecDepth 100000 in
theorem QiD (s:ByteArray) (hs:s.size≤1000) (hl:∀ y∈bl s,48≤y∧y<58) (w:World) :
  Calls Tryz.prog 192 #[Z s] w fun e w'=>∃ v,e = .returned v∧NA w' v (natL (dvl (bl s)))∧Below w.heap.size w w':=by
 have hbl:=QcA s;obtain ⟨V,hV⟩:∃ V,V=dvl (bl s):=⟨_,rfl⟩;have hVlt:V<10^s.size:=by rw [hV,←hbl];exact Qhf _ hl
 obtain ⟨n,hn⟩:∃ n,n=s.size:=⟨_,rfl⟩;have HV:Shut _:=⟨hV⟩;have HVL:Shut _:=⟨hVlt⟩;have HL:Shut _:=⟨hl⟩;have HBL:Shut _:=⟨hbl⟩;have HN:Shut _:=⟨hn⟩;obtain ⟨cp,hcp⟩:∃ cp,cp=(n+3) / 4:=⟨_,rfl⟩;have HCP:Shut ((((n:Int)+4-1) / 4)=(cp:Int)):=⟨by omega⟩;have hcp2:cp≤1000:=by omega
 have hn2:n≤1000:=by omega
 rw [←hV];clear hV hVlt hl hbl hcp hs;go_enter Tryz.func192, Tryz.ntmps192;obtain ⟨i0,hinf,hz0,hz1,hz2⟩:=info_parts Qnb;have hsz:s.size=n:=hn.symm;clear hn;go_wp2_with (first | (at_make;refine wpList_make_own w rfl _ _ 128 rfl w.heap.size 171 i0 (.int .u32 0) 1 Tryz.underlying128 hinf hz0 hz1 .i64 .i64 (cp:Int) cp rfl (congrArg (Value.int .i64) HCP.o) rfl (by rw [hz2];omega) (by unfold maxLen;omega) Lr ?_;intro w1 hO1 hgr1));have hB1:Below w.heap.size w w1:=⟨hgr1.os,hgr1.tape,hgr1.output,hgr1.size,fun k hk=>hgr1.block k (by omega) (by simp)⟩
 go_loopw [3,4] (fun v ev wr=>∃ k:Nat,4*k<n+4∧ev = .int .i64 ((n:Int)-4*k)∧v ≠ .slice none 0 0∧OwnU wr w.heap.size v (padL k V)∧Below w.heap.size w wr) (fun _ ev _=>(intOf ev).toNat)
 case atStart=>exact ⟨0,by omega,by simp,by simp,hO1,hB1⟩
 case round =>
  rename_i v0 _;obtain ⟨k,hk,rfl,hne,hO,hB⟩:=hrel;by_cases hlt:4*k<n
  ·obtain ⟨e,he⟩:∃ e,e+4*k=n:=⟨n-4*k,by omega⟩;obtain ⟨st,hst⟩:∃ st,st=e-4:=⟨_,rfl⟩;have hei:((n:Int)-4*(k:Int))=(e:Int):=by omega
   have hmax:max ((e:Int)-4) 0=(st:Int):=by omega
   have hmax2:(if (e:Int)-4<0 then (0:Int) else (e:Int)-4)=(st:Int):=by split <;> omega
   have hse:st≤e:=by omega
   have hen:e≤n:=by omega
   have hseg:bl (s.extract st e)=((bl s).take e).drop st:=Qde s st e;have hsegl:(s.extract st e).size=e-st:=by rw [ByteArray.size_extract];omega
   have hsegd:∀ y∈bl (s.extract st e),48≤y∧y<58:=fun y hy=>by rw [hseg] at hy;exact HL.o y (List.mem_of_mem_take (List.mem_of_mem_drop hy))
   have HG:Shut (padL (k+1) V=padL k V ++ [dvl (bl (s.extract st e))]):=⟨by
    rw [Qnm,hseg,hst,Qno (bl s) HL.o k e (by rw [HBL.o];omega),HV.o]⟩
   have hsl:=QcA (s.extract st e);have hpl:=Qaq k V;obtain ⟨W1,c1,hcv,hcell,hBc⟩:=QrX (s.extract st e) (e-st) hsegl wr;have cF:=Qnn (bl (s.extract st e)) wr.heap.size c1 (e-st) (by rw [hsl,hsegl]) (by omega) hsegd W1 hcell;have hB1':Below w.heap.size w W1:=hB.trans (hBc.mono hB.size);have hO1':=hO.below hBc;have hes:(e:Int)≤(n:Int):=by omega
   have hss:(st:Int)≤(e:Int):=by omega
   rw [hei];clear hst hseg hsegl hsegd hsl hcell hO hO1 hgr1 hB1 hBc;generalize dvl (bl (s.extract st e))=gd at *
   generalize hsg:s.extract st e=sg at *
   go_wp2_with (first | (go_at_call 224; refine cF.mono ?_;rintro e9 w5 ⟨rfl,rfl⟩) | (at_builtin;go_must (refine Qbt rfl _ _ rfl w.heap.size _ (padL k V) rfl w5 rfl hO1' rfl (by omega) hB1'.size ?_);intro v3 w3 hO3 hn3 hB3));exact ⟨⟨k+1,by omega,by congr 1;omega,hn3,by rw [HG.o];exact hO3,hB1'.trans hB3⟩,by simp [intOf];omega⟩
  ·have hei:¬(0:Int)<((n:Int)-4*(k:Int)):=by omega
   rcases hO.open with ⟨h1,_⟩ | ⟨cap,g,rfl,hg,hu,hc,hm⟩
   ·exact absurd h1 hne
   rw [Qaq] at hc ⊢
   have hz:V<10000^k:=by
    have:=HVL.o;rw [show (10000:Nat)=10^4 from rfl,←Nat.pow_mul];exact Nat.lt_of_lt_of_le this (Nat.pow_le_pow_right (by decide) (by omega))
   have cT:=Qdr wr g cap k V (padL k V) hu (List.take_of_length_le (by rw [Qaq];exact Nat.le_refl _)) hz hc hm (by omega);clear hu hz hO hne hO1 hgr1 hB1;go_wp2_with (go_at_call 191; refine cT.mono ?_;rintro e w4 ⟨⟨v4,rfl,hv4⟩,rfl⟩);go_ret;exact ⟨_,rfl,hv4,hB⟩
end
end Go.Proofs.YtihlgifojjeoaaaGreatDoor
