import Derived.Test.YtihlgifojjeoaaaGreatDoorZ6A6
set_option maxRecDepth 1000000
set_option maxHeartbeats 40000000
open Go.Value renaming string→Z
open Go.Obj renaming cells→O
namespace Go.Proofs.YtihlgifojjeoaaaGreatDoor
section
namespace Nm
def rowR (L:List Nat) (o i r:Nat):List Nat:=L.take o++padL i r++L.drop (o+i)
theorem QiB (L:List Nat) (o:Nat):rowR L o 0 0=L:=by simp [rowR,padL]
theorem QdV (L:List Nat) (o i r:Nat) (h:o+i≤L.length):(rowR L o i r).length=L.length:=by simp [rowR,Qaq];omega
theorem Qkt (L:List Nat) (o i r:Nat) (h:o+i<L.length):(rowR L o i r).getD (o+i) 0=L.getD (o+i) 0:=by
 have hl:(L.take o++padL i r).length=o+i:=by simp [Qaq];omega
 simp only [rowR,List.getD_eq_getElem?_getD];rw [List.getElem?_append_right (by omega),hl,Nat.sub_self,List.getElem?_drop,Nat.add_zero]
theorem QfE (L:List Nat) (o i r d:Nat) (h:o+i<L.length) (hr:r<10000^i) (hd:d<10000):(rowR L o i r).set (o+i) d=rowR L o (i+1) (r+10000^i*d):=by
 have hl:(L.take o++padL i r).length=o+i:=by simp [Qaq];omega
 rw [rowR,List.set_append_right _ _ (by omega),hl,Nat.sub_self,List.drop_eq_getElem_cons h,List.set_cons_zero,rowR,Qew i r d hr hd,←Nat.add_assoc];simp only [List.append_assoc,List.cons_append,List.nil_append]
theorem Qne (L:List Nat) (o n i:Nat) (h:i<n):((L.drop o).take n).getD i 0=L.getD (o+i) 0:=by
 simp only [List.getD_eq_getElem?_getD];rw [List.getElem?_take,if_pos h,List.getElem?_drop]
theorem Qfb (L:List Nat) (o n:Nat) (h:o+n≤L.length):((L.drop o).take n).length=n:=by simp;omega
theorem Qku {L:List Nat} (hd:Dig L) (o n i r:Nat) (hi:i≤n) (h:o+n≤L.length) (hr:r<10000^i):rowR L o i r=rowR L o n (r+10000^i*nv (((L.drop o).take n).drop i)):=by
 have hs:(((L.drop o).take n).drop i).length=n-i:=by rw [List.length_drop,Qfb L o n h]
 have e:=QbR i (n-i) r (nv (((L.drop o).take n).drop i)) hr;rw [show i+(n-i)=n by omega] at e
 have e2:padL (n-i) (nv (((L.drop o).take n).drop i))=((L.drop o).take n).drop i:=by
  have:=Qdb ((((hd.drop o).take n)).drop i);rwa [hs] at this
 rw [rowR,rowR,e,e2]
 have e3:L.drop (o+i)=((L.drop o).take n).drop i++L.drop (o+n):=by
  rw [List.drop_take,List.drop_drop]
  conv=>lhs;rw [←List.take_append_drop (n-i) (L.drop (o+i))]
  rw [List.drop_drop,show o+i+(n-i)=o+n by omega]
 rw [e3];simp only [List.append_assoc]
theorem Qkv (L:List Nat) (o n r:Nat) (h:o+n≤L.length):((rowR L o n r).drop o).take n=padL n r:=by
 have hl:(L.take o).length=o:=by simp;omega
 rw [rowR,List.append_assoc,List.drop_append_of_le_length (by omega)];rw [show (L.take o).drop o = [] by rw [List.drop_eq_nil_iff];omega,List.nil_append,List.take_append_of_le_length (by rw [Qaq];exact Nat.le_refl _),List.take_of_length_le (by rw [Qaq];exact Nat.le_refl _)]
theorem Qnf {L t:List Nat} (o n i r c f x:Nat) (h:i<n) (hon:o+n≤L.length)
  (he:nv (((L.drop o).take n).take i)+nv (t.take i)*f=r+10000^i*c)
  (hx:x=c+(if i<t.length then t.getD i 0*f else 0)+L.getD (o+i) 0) :
  nv (((L.drop o).take n).take (i+1))+nv (t.take (i+1))*f=(r+10000^i*(x % 10000))+10000^(i+1)*(x / 10000):=by
 have hs:=Qfb L o n hon;rw [QaO _ i (by omega),Qne L o n i h];have hm:x=x % 10000+10000*(x / 10000):=by omega
 generalize x % 10000=d at *
 generalize x / 10000=c' at *
 have hP:10000^(i+1)=10000^i*10000:=Nat.pow_succ ..;rw [hP];generalize 10000^i=P at *
 by_cases ht:i<t.length
 ·rw [if_pos ht] at hx;rw [QaO t i ht]
  grind
 ·rw [if_neg ht] at hx;rw [List.take_of_length_le (show t.length≤i+1 by omega)];rw [List.take_of_length_le (show t.length≤i by omega)] at he
  grind
theorem QlJ {L t:List Nat} (o n i r c f x c' d:Nat) (h:i<n) (hon:o+n≤L.length)
  (he:nv (((L.drop o).take n).take i)+10000^i*c=r+nv (t.take i)*f)
  (hx:x=c+(if i<t.length then t.getD i 0*f else 0))
  (hd:L.getD (o+i) 0+10000*c'=x+d) :
  nv (((L.drop o).take n).take (i+1))+10000^(i+1)*c'=(r+10000^i*d)+nv (t.take (i+1))*f:=by
 have hs:=Qfb L o n hon;rw [QaO _ i (by omega),Qne L o n i h];have hP:10000^(i+1)=10000^i*10000:=Nat.pow_succ ..;rw [hP];generalize 10000^i=P at *
 by_cases ht:i<t.length
 ·rw [if_pos ht] at hx;rw [QaO t i ht]
  grind
 ·rw [if_neg ht] at hx;rw [List.take_of_length_le (show t.length≤i+1 by omega)];rw [List.take_of_length_le (show t.length≤i by omega)] at he
  grind
theorem Qng {L t:List Nat} (hL:Dig L) (ht:Dig t) (o n i r c f:Nat) (h:i≤n) (hon:o+n≤L.length) (hf:f≤10000)
  (he:nv (((L.drop o).take n).take i)+nv (t.take i)*f=r+10000^i*c):c≤10000:=by
 have h1:=QdC (((hL.drop o).take n).take i);rw [List.length_take,Qfb L o n hon,Nat.min_eq_left h] at h1;have h2:=QdC (ht.take i);have h2':nv (t.take i)<10000^i:=Nat.lt_of_lt_of_le h2 (Nat.pow_le_pow_right (by decide) (by rw [List.length_take];omega));have h3:nv (t.take i)*f≤nv (t.take i)*10000:=Nat.mul_le_mul_left _ hf;rcases Nat.lt_or_ge c 10001 with h4 | h4
 ·omega
 ·have h5:10000^i*10001≤10000^i*c:=Nat.mul_le_mul_left _ h4;omega
theorem QlK {L t:List Nat} (ht:Dig t) (o n i r c f:Nat) (hf:f<10000) (hr:r<10000^i)
  (he:nv (((L.drop o).take n).take i)+10000^i*c=r+nv (t.take i)*f):c<10000:=by
 have h2:=QdC (ht.take i);have h2':nv (t.take i)<10000^i:=Nat.lt_of_lt_of_le h2 (Nat.pow_le_pow_right (by decide) (by rw [List.length_take];omega));have h3:nv (t.take i)*f≤10000^i*9999:=Nat.mul_le_mul (by omega) (by omega);rcases Nat.lt_or_ge c 10000 with h4 | h4
 ·exact h4
 ·have h5:10000^i*10000≤10000^i*c:=Nat.mul_le_mul_left _ h4;omega
theorem Qrb (i r d:Nat) (hr:r<10000^i) (hd:d<10000):r+10000^i*d<10000^(i+1):=by
 rw [Nat.pow_succ];have:10000^i*d≤10000^i*9999:=Nat.mul_le_mul_left _ (by omega);omega
end Nm
end
section
open Go.RowKit Nm

theorem Qnh (g o n cap:Nat) (L:List Nat) (p':Option Addr) (g' o' cap':Nat) (t:List Nat) (f:Nat) (w:World)
  (hL:UR w g (L)) (hon:o+n≤L.length) (hg:1≤t.length→g'≠g) (hu:UA w g' o' t) (hp:1≤t.length→p'=some ⟨g',o',none⟩) (htn:t.length≤n) (hn:n≤1000000) (hdL:Dig L) (hdt:Dig t) (hf:f≤10000)
  (hroom:nv ((L.drop o).take n)+nv t*f<10000^n) :
  Calls Tryz.prog 190 #[.slice (some ⟨g,o,none⟩) n cap,.slice p' t.length cap',.int .u32 f] w fun e w'=>e = .returned (.tuple #[])∧Only g w w'∧UR w' g ((rowR L o n (nv ((L.drop o).take n)+nv t*f))):=by
 go_enter Tryz.func190, Tryz.ntmps190;have HL:Shut _:=⟨hL⟩;have HU:Shut _:=⟨hu⟩;have HP:Shut _:=⟨hp⟩;have HR:Shut _:=⟨hroom⟩;have HD:Shut _:=⟨And.intro hdL hdt⟩;clear hL hu hp hroom hdL hdt;obtain ⟨tn,htl⟩:∃ tn,tn=t.length:=⟨_,rfl⟩;have HTL:Shut _:=⟨htl⟩;have htn':tn≤n:=by omega
 rw [←htl];clear htl htn;go_wp2
 go_loopw [6,7] (fun cv iv wr=>∃ (i c r:Nat),i≤n∧c≤10000∧cv = .int .u32 c∧iv = .int .i64 i∧Shut (Only g w wr)∧Shut (UR wr g ((rowR L o i r)))∧Shut (r<10000^i∧nv (((L.drop o).take n).take i)+nv (t.take i)*f=r+10000^i*c)) (fun _ iv _=>n-(intOf iv).toNat)
 case atStart=>exact ⟨0,0,0,by omega,by omega,rfl,rfl,⟨Only.refl _ _⟩,⟨by rw [QiB];exact HL.o⟩,⟨by decide,by simp [nv]⟩⟩
 case round =>
  obtain ⟨i,c,r,hin,hc,rfl,rfl,hO,hR,hE⟩:=hrel
  have hcell:i<n→wr.cell? ⟨g,o+i,none⟩=some (.int .u32 ((L.getD (o+i) 0:Nat):Int)):=fun h=>by
   have:=hR.o.u32 (o+i) (by rw [QdV L o i r (by omega)];omega)
   rwa [Qkt L o i r (by omega)] at this
  have hfr:=hR.o.frozen (o+i);have hs:L.getD (o+i) 0<10000:=HD.o.1.getD _
  have HS:Shut (∀ x:Nat,i<n→x=c+(if i<t.length then t.getD i 0*f else 0)+L.getD (o+i) 0→Only g w (wr.setCell ⟨g,o+i,none⟩ (.int .u32 ((x % 10000:Nat):Int)))∧UR (wr.setCell ⟨g,o+i,none⟩ (.int .u32 ((x % 10000:Nat):Int))) g ((rowR L o (i+1) (r+10000^i*(x % 10000))))∧r+10000^i*(x % 10000)<10000^(i+1)∧nv (((L.drop o).take n).take (i+1))+nv (t.take (i+1))*f=(r+10000^i*(x % 10000))+10000^(i+1)*(x / 10000)∧x / 10000≤10000):=⟨fun x hi hx=>by
   have h1:=Qnf o n i r c f x hi hon hE.o.2 hx;refine ⟨hO.o.setCell _ _, ?_,Qrb i r _ hE.o.1 (by omega),h1,Qng HD.o.1 HD.o.2 o n (i+1) _ _ f (by omega) hon hf h1⟩;have h2:=hR.o.set32 (o+i) (x % 10000) (by rw [QdV L o i r (by omega)];omega)
   rwa [QfE L o i r _ (by omega) hE.o.1 (by omega)] at h2⟩
  by_cases hit:i<tn
  ·have hin2:i<n:=by omega
   have ht1:i<t.length:=by have:=HTL.o;omega
   obtain rfl:=HP.o (by omega);have hct:=HU.o.only hO.o (hg (by omega)) i ht1;have hti:t.getD i 0<10000:=HD.o.2.getD _;have hc2:=hcell hin2;have HS2:=HS.o;rw [if_pos ht1] at HS2;have hS3:=HS2 _ hin2 rfl;have HS3:Shut _:=⟨hS3⟩;clear hcell HS HS2 hS3 hE hR hO ht1;generalize t.getD i 0=ti at *
   generalize L.getD (o+i) 0=s at *
   have hm:ti*f≤9999*10000:=Nat.mul_le_mul (by omega) (by omega);obtain ⟨m,hmm⟩:∃ m,m=ti*f:=⟨_,rfl⟩;have hmi:((ti:Int)*(f:Int))=(m:Int):=by rw [hmm,Int.natCast_mul]
   rw [←hmm] at HS3 hm;clear hmm;go_wp2;have e1:(((c:Int)+m+s) % 10000)=(((c+m+s) % 10000:Nat):Int):=by omega
   have e2:(((c:Int)+m+s) / 10000)=(((c+m+s) / 10000:Nat):Int):=by omega
   rw [e1,e2];obtain ⟨k1,k2,k3,k4,k5⟩:=HS3.o;exact ⟨⟨i+1,_,_,by omega,k5,rfl,by go_num,⟨k1⟩,⟨k2⟩,⟨k3,k4⟩⟩,by simp [intOf];omega⟩
  ·have ht1:¬ i<t.length:=by have:=HTL.o;omega
   by_cases hc0:0<c
   ·have hin2:i<n:=by
     rcases Nat.lt_or_ge i n with h | h
     ·exact h
     ·exfalso;obtain rfl:i=n:=by omega
      have h1:=hE.o.2;have h2:=HR.o;rw [List.take_of_length_le (show t.length≤i by omega),List.take_of_length_le (show ((L.drop o).take i).length≤i by rw [List.length_take];omega)] at h1;have:10000^i*1≤10000^i*c:=Nat.mul_le_mul_left _ hc0;omega
    have hc2:=hcell hin2;have HS2:=HS.o;rw [if_neg ht1,Nat.add_zero] at HS2;have hS3:=HS2 _ hin2 rfl;have HS3:Shut _:=⟨hS3⟩;clear hcell HS HS2 hS3 hE hR hO ht1;generalize L.getD (o+i) 0=s at *
    go_wp2;have e1:(((c:Int)+s) % 10000)=(((c+s) % 10000:Nat):Int):=by omega
    have e2:(((c:Int)+s) / 10000)=(((c+s) / 10000:Nat):Int):=by omega
    rw [e1,e2];obtain ⟨k1,k2,k3,k4,k5⟩:=HS3.o;exact ⟨⟨i+1,_,_,by omega,k5,rfl,by go_num,⟨k1⟩,⟨k2⟩,⟨k3,k4⟩⟩,by simp [intOf];omega⟩
   ·obtain rfl:c=0:=by omega
    have HF:Shut (rowR L o i r=rowR L o n (nv ((L.drop o).take n)+nv t*f)):=⟨by
     rw [Qku HD.o.1 o n i r hin hon hE.o.1];have h1:=hE.o.2;rw [List.take_of_length_le (show t.length≤i by omega),Nat.mul_zero,Nat.add_zero] at h1;have h2:=QaH ((L.drop o).take n) i (by rw [Qfb L o n hon];exact hin);congr 1;omega⟩
    clear HS hcell hE ht1;go_wp2
    go_end0
    exact ⟨rfl,hO.o,by rw [←HF.o];exact hR.o⟩

theorem Qkw (g o n cap:Nat) (L:List Nat) (p':Option Addr) (g' o' cap':Nat) (t:List Nat) (f:Nat) (w:World)
  (hL:UR w g (L)) (hon:o+n≤L.length) (hg:1≤t.length→g'≠g) (hu:UA w g' o' t) (hp:1≤t.length→p'=some ⟨g',o',none⟩) (htn:t.length≤n) (hn:n≤1000000) (hdL:Dig L) (hdt:Dig t) (hf:f<10000)
  (hroom:nv t*f≤nv ((L.drop o).take n)) :
  Calls Tryz.prog 197 #[.slice (some ⟨g,o,none⟩) n cap,.slice p' t.length cap',.int .u32 f] w fun e w'=>e = .returned (.tuple #[])∧Only g w w'∧UR w' g ((rowR L o n (nv ((L.drop o).take n)-nv t*f))):=by
 go_enter Tryz.func197, Tryz.ntmps197;have HL:Shut _:=⟨hL⟩;have HU:Shut _:=⟨hu⟩;have HP:Shut _:=⟨hp⟩;have HR:Shut _:=⟨hroom⟩;have HD:Shut _:=⟨And.intro hdL hdt⟩;clear hL hu hp hroom hdL hdt;obtain ⟨tn,htl⟩:∃ tn,tn=t.length:=⟨_,rfl⟩;have HTL:Shut _:=⟨htl⟩;have htn':tn≤n:=by omega
 rw [←htl];clear htl htn;go_wp2
 go_loopw [6,7] (fun cv iv wr=>∃ (i c r:Nat),i≤n∧c<10000∧cv = .int .u32 c∧iv = .int .i64 i∧Shut (Only g w wr)∧Shut (UR wr g ((rowR L o i r)))∧Shut (r<10000^i∧nv (((L.drop o).take n).take i)+10000^i*c=r+nv (t.take i)*f)) (fun _ iv _=>n-(intOf iv).toNat)
 case atStart=>exact ⟨0,0,0,by omega,by omega,rfl,rfl,⟨Only.refl _ _⟩,⟨by rw [QiB];exact HL.o⟩,⟨by decide,by simp [nv]⟩⟩
 case round =>
  obtain ⟨i,c,r,hin,hc,rfl,rfl,hO,hR,hE⟩:=hrel
  have hcell:i<n→wr.cell? ⟨g,o+i,none⟩=some (.int .u32 ((L.getD (o+i) 0:Nat):Int)):=fun h=>by
   have:=hR.o.u32 (o+i) (by rw [QdV L o i r (by omega)];omega)
   rwa [Qkt L o i r (by omega)] at this
  have hfr:=hR.o.frozen (o+i);have hs:L.getD (o+i) 0<10000:=HD.o.1.getD _
  have HS:Shut (∀ x c' d:Nat,i<n→x=c+(if i<t.length then t.getD i 0*f else 0)→L.getD (o+i) 0+10000*c'=x+d→d<10000→UR (wr.setCell ⟨g,o+i,none⟩ (.int .u32 (d:Int))) g ((rowR L o (i+1) (r+10000^i*d)))∧r+10000^i*d<10000^(i+1)∧nv (((L.drop o).take n).take (i+1))+10000^(i+1)*c'=(r+10000^i*d)+nv (t.take (i+1))*f∧c'<10000):=⟨fun x c' d hi hx he hd=>by
   have h1:=QlJ o n i r c f x c' d hi hon hE.o.2 hx he;have h3:=Qrb i r d hE.o.1 hd;refine ⟨?_,h3,h1,QlK HD.o.2 o n (i+1) _ _ f hf h3 h1⟩;have h2:=hR.o.set32 (o+i) d (by rw [QdV L o i r (by omega)];omega)
   rwa [QfE L o i r _ (by omega) hE.o.1 hd] at h2⟩
  have HS9:Shut (∀ a d:Nat,i<n→UR ((wr.setCell ⟨g,o+i,none⟩ (.int .u32 (a:Int))).setCell ⟨g,o+i,none⟩ (.int .u32 (d:Int))) g (((rowR L o i r).set (o+i) d))):=⟨fun a d hi=>by
   have h2:=(hR.o.set32 (o+i) a (by rw [QdV L o i r (by omega)];omega)).set32 (o+i) d (by rw [List.length_set,QdV L o i r (by omega)];omega)
   rwa [List.set_set] at h2⟩
  by_cases hit:i<tn
  ·have hin2:i<n:=by omega
   have ht1:i<t.length:=by have:=HTL.o;omega
   obtain rfl:=HP.o (by omega);have hct:=HU.o.only hO.o (hg (by omega)) i ht1;have hti:t.getD i 0<10000:=HD.o.2.getD _;have hc2:=hcell hin2;have HS2:=HS.o;rw [if_pos ht1] at HS2;have HS3:Shut _:=⟨HS2⟩;clear hcell HS HS2 ht1;generalize t.getD i 0=ti at *
   generalize L.getD (o+i) 0=s at *
   have hm:ti*f≤9999*9999:=Nat.mul_le_mul (by omega) (by omega);obtain ⟨m,hmm⟩:∃ m,m=ti*f:=⟨_,rfl⟩;have hmi:((ti:Int)*(f:Int))=(m:Int):=by rw [hmm,Int.natCast_mul]
   rw [←hmm] at HS3 hm;clear hmm;by_cases hsg:s<(c+m) % 10000
   ·go_wp2;have e1:((s:Int)+10000-((c:Int)+m) % 10000)=((s+10000-(c+m) % 10000:Nat):Int):=by omega
    have e2:(((c:Int)+m) / 10000+1)=(((c+m) / 10000+1:Nat):Int):=by omega
    obtain ⟨k2,k3,k4,k5⟩:=HS3.o (c+m) ((c+m) / 10000+1) (s+10000-(c+m) % 10000) hin2 rfl (by omega) (by omega);rw [e1,e2];have k6:=HS9.o (s+10000) (s+10000-(c+m) % 10000) hin2;rw [QfE L o i r _ (by omega) hE.o.1 (by omega)] at k6;have e3:((s:Int)+10000)=((s+10000:Nat):Int):=by omega
    rw [e3];exact ⟨⟨i+1,_,_,by omega,k5,rfl,by go_num,⟨(hO.o.setCell _ _).setCell _ _⟩,⟨k6⟩,⟨k3,k4⟩⟩,by simp [intOf];omega⟩
   ·go_wp2;have e1:((s:Int)-((c:Int)+m) % 10000)=((s-(c+m) % 10000:Nat):Int):=by omega
    have e2:(((c:Int)+m) / 10000)=(((c+m) / 10000:Nat):Int):=by omega
    obtain ⟨k2,k3,k4,k5⟩:=HS3.o (c+m) ((c+m) / 10000) (s-(c+m) % 10000) hin2 rfl (by omega) (by omega);rw [e1,e2];exact ⟨⟨i+1,_,_,by omega,k5,rfl,by go_num,⟨hO.o.setCell _ _⟩,⟨k2⟩,⟨k3,k4⟩⟩,by simp [intOf];omega⟩
  ·have ht1:¬ i<t.length:=by have:=HTL.o;omega
   by_cases hc0:0<c
   ·have hin2:i<n:=by
     rcases Nat.lt_or_ge i n with h | h
     ·exact h
     ·exfalso;obtain rfl:i=n:=by omega
      have h1:=hE.o.2;have h2:=HR.o;have h3:=hE.o.1;rw [List.take_of_length_le (show t.length≤i by omega),List.take_of_length_le (show ((L.drop o).take i).length≤i by rw [List.length_take];omega)] at h1;have:10000^i*1≤10000^i*c:=Nat.mul_le_mul_left _ hc0;omega
    have hc2:=hcell hin2;have HS2:=HS.o;rw [if_neg ht1,Nat.add_zero] at HS2;have HS3:Shut _:=⟨HS2⟩;clear hcell HS HS2 ht1;generalize L.getD (o+i) 0=s at *
    by_cases hsg:s<c % 10000
    ·go_wp2;have e1:((s:Int)+10000-((c:Int)) % 10000)=((s+10000-(c) % 10000:Nat):Int):=by omega
     have e2:(((c:Int)) / 10000+1)=(((c) / 10000+1:Nat):Int):=by omega
     obtain ⟨k2,k3,k4,k5⟩:=HS3.o (c) ((c) / 10000+1) (s+10000-(c) % 10000) hin2 rfl (by omega) (by omega);rw [e1,e2];have k6:=HS9.o (s+10000) (s+10000-(c) % 10000) hin2;rw [QfE L o i r _ (by omega) hE.o.1 (by omega)] at k6;have e3:((s:Int)+10000)=((s+10000:Nat):Int):=by omega
     rw [e3];exact ⟨⟨i+1,_,_,by omega,k5,rfl,by go_num,⟨(hO.o.setCell _ _).setCell _ _⟩,⟨k6⟩,⟨k3,k4⟩⟩,by simp [intOf];omega⟩
    ·go_wp2;have e1:((s:Int)-((c:Int)) % 10000)=((s-(c) % 10000:Nat):Int):=by omega
     have e2:(((c:Int)) / 10000)=(((c) / 10000:Nat):Int):=by omega
     obtain ⟨k2,k3,k4,k5⟩:=HS3.o (c) ((c) / 10000) (s-(c) % 10000) hin2 rfl (by omega) (by omega);rw [e1,e2];exact ⟨⟨i+1,_,_,by omega,k5,rfl,by go_num,⟨hO.o.setCell _ _⟩,⟨k2⟩,⟨k3,k4⟩⟩,by simp [intOf];omega⟩
   ·obtain rfl:c=0:=by omega
    have HF:Shut (rowR L o i r=rowR L o n (nv ((L.drop o).take n)-nv t*f)):=⟨by
     rw [Qku HD.o.1 o n i r hin hon hE.o.1];have h1:=hE.o.2;rw [List.take_of_length_le (show t.length≤i by omega),Nat.mul_zero,Nat.add_zero] at h1;have h2:=QaH ((L.drop o).take n) i (by rw [Qfb L o n hon];exact hin);congr 1;omega⟩
    clear HS HS9 hcell hE ht1;go_wp2
    go_end0
    exact ⟨rfl,hO.o,by rw [←HF.o];exact hR.o⟩
theorem QtT:(Tryz.prog.info? 171).map (·.size)=some 1:=by kernel_rfl
theorem Qpt {w:World} {ops:Array Oper} {rest:List Oper} {o:Oper} {a:Act} {Q:Exit→Act→World→Prop} (hgd:o.guard=none) (d s:Operand)
  (ho:o.op = .call {callee:=.builtin .copy,args:=#[d,s],argTypes:=#[128, 128]}) (g dLen dCap:Nat) (hd:a.eval d = .slice (some ⟨g,0,none⟩) dLen dCap) (L:List Nat) (hL:UR w g L) (hdl:dLen≤L.length)
  (vx:Value) (ys:List Nat) (hx:a.eval s=vx) (hys:NA w vx ys) (hle:ys.length≤dLen) (B:Nat) (w0:World) (hb:Below B w0 w) (hBg:B≤g)
  (h:∀ w',UR w' g (ys++L.drop ys.length)→Below B w0 w'→wpList Tryz.prog ops Q rest (a.put o.dst (goInt ys.length)) w'):wpList Tryz.prog ops Q (o :: rest) a w:=by
 obtain ⟨X,hX⟩:=hL;have hlen:(ys.map fun n:Nat=>Value.int .u32 (n:Int)).length=ys.length:=List.length_map _;obtain ⟨p,cap,rfl,h1,h2,h3⟩:=hys
 have key:=@wpList_copy_splice Tryz.prog w ops rest o a Q hgd d s 128 128 ho 171 Tryz.underlying128 QtT (some ⟨g,0,none⟩) p dLen dCap ys.length cap hd hx g 0 (u32s L++X).toList 171 (by rw [Array.toArray_toList];exact hX) (ys.map fun n:Nat=>Value.int .u32 (n:Int)) (by rw [hlen];exact (Nat.min_eq_left hle).symm) (fun hp=>by
   rw [hlen] at hp;refine ⟨rfl, ?_⟩;rcases h3 with ⟨_,e,_⟩ | ⟨g',o',rfl,hg',hu⟩
   ·rw [e] at hp;simp at hp
   ·exact ⟨_,rfl,UA.cells hu⟩) (by rw [hlen];simp [QfY];omega) (Qnd ys) B w0 hb hBg (fun w' hrow hB => ?_)
 ·exact key
 ·rw [hlen];refine h w' ⟨X, ?_⟩ hB;have hr:=hrow.out
  have e:(splice (u32s L++X).toList 0 (ys.map fun n:Nat=>Value.int .u32 (n:Int))).toArray=u32s (ys++L.drop ys.length)++X:=by
   apply Array.ext';simp only [splice,hlen,Nat.zero_add,List.take_zero,List.nil_append,Array.toList_append,u32s,List.map_append,List.map_drop];rw [List.drop_append_of_le_length (by rw [List.length_map];omega),List.append_assoc]
  rw [e] at hr;exact hr

theorem QhM {W:World} {g o cap:Nat} {l:List Nat} (hd:Dig l) (hu:UA W g o l) (hg:g<W.heap.size) (hc:l.length≤cap) (hm:cap≤maxLen):NA W (.slice (some ⟨g,o,none⟩) (natL (nv l)).length cap) (natL (nv l)):=by
 refine ⟨_,cap,rfl,Nat.le_trans (QdT hd) hc,hm,.inr ⟨g,o,rfl,hg, ?_⟩⟩;have:=hu.take (natL (nv l)).length
 rwa [Qga hd] at this
theorem QrR {la lb:Nat} {x y:Nat} (hx:x<10000^la) (hy:y<10000^lb):x+y<10000^(max la lb+1):=by
 have h1:10000^la≤10000^(max la lb):=Nat.pow_le_pow_right (by decide) (Nat.le_max_left _ _);have h2:10000^lb≤10000^(max la lb):=Nat.pow_le_pow_right (by decide) (Nat.le_max_right _ _);rw [Nat.pow_succ];omega
theorem Qey (x y:Nat) (va vb:Value) (w:World) (ha:NA w va (natL x)) (hb:NA w vb (natL y)) (hla:(natL x).length≤1000) (hlb:(natL y).length≤1000) :
  Calls Tryz.prog 155 #[va,vb] w fun e w'=>∃ v,e = .returned v∧NA w' v (natL (x+y))∧Below w.heap.size w w':=by
 obtain ⟨pb,cb,gb,ob,rfl,hlb2,hcb,hpb,hub⟩:=hb.open;obtain ⟨pa,ca,ga,oa,rfl,hla2,hca,hpa,hua⟩:=ha.open;go_enter Tryz.func155, Tryz.ntmps155;obtain ⟨n,hn⟩:∃ n,n=max (natL x).length (natL y).length+1:=⟨_,rfl⟩;have hx:=QaI x;have hy:=QaI y;have hroom:x+y<10000^n:=by rw [hn];exact QrR hx hy
 have HX:Shut _:=⟨hroom⟩;have HA:Shut _:=⟨ha⟩;have HB:Shut _:=⟨And.intro hub hpb⟩;obtain ⟨k,rfl⟩:∃ k,n=k+1:=⟨n-1,by omega⟩;have hmax:max (((natL x).length:Nat):Int) (((natL y).length:Nat):Int)=(k:Int):=by omega
 have hmax2:(if (natL x).length<(natL y).length then (((natL y).length:Nat):Int) else (((natL x).length:Nat):Int))=(k:Int):=by split <;> omega
 have HN1:Shut (((k:Int)+1)=((k+1:Nat):Int)):=⟨by omega⟩;have hnb:k≤1000:=by omega
 have hnl:(natL x).length≤k+1∧(natL y).length≤k+1:=by omega
 have HN:Shut _:=⟨hnl⟩;clear hx hy hroom ha hub hpb hua hpa hn hnl;obtain ⟨L,hLe⟩:∃ L,L=natL x++(List.replicate (k+1) 0).drop (natL x).length:=⟨_,rfl⟩;have hLl:L.length=k+1:=by rw [hLe];simp;omega
 have hLd:Dig L:=by rw [hLe];exact (Qao x).append ((Qna _).drop _)
 have hLv:nv L=x:=by
  rw [hLe,QcI,Qan,List.drop_replicate,Qra];omega
 have hseg:(L.drop 0).take (k+1)=L:=by rw [List.drop_zero,List.take_of_length_le (by omega)]
 have hpv:nv (padL (k+1) (x+y))=x+y:=QbZ _ _ HX.o;have hrs:((rowR L 0 (k+1) (x+y)).drop 0).take (k+1)=padL (k+1) (x+y):=Qkv L 0 (k+1) (x+y) (by omega)
 have cA:∀ (W:World) (g9 c9:Nat),UR W g9 L→(1≤(natL y).length→gb≠g9)→UA W gb ob (natL y)→Calls Tryz.prog 190 #[.slice (some ⟨g9,0,none⟩) (k+1) c9,.slice pb (natL y).length cb,.int .u32 1] W fun e w'=>e = .returned (.tuple #[])∧Only g9 W w'∧UR w' g9 (rowR L 0 (k+1) (x+y)):=fun W g9 c9 h1 h2 h3=>by
  have:=Qnh g9 0 (k+1) c9 L pb gb ob cb (natL y) 1 W h1 (by omega) h2 h3 (fun h=>(HB.o.2 h).1) HN.o.2 (by omega) hLd (Qao y) (by decide) (by rw [hseg,hLv,Qan,Nat.mul_one];exact HX.o);rw [hseg,hLv,Qan,Nat.mul_one] at this;exact this
 have cT:∀ (W:World) (g9 c9:Nat),UR W g9 (rowR L 0 (k+1) (x+y))→k+1≤c9→c9≤maxLen→Calls Tryz.prog 191 #[.slice (some ⟨g9,0,none⟩) (k+1) c9] W fun e w'=>(∃ v,e = .returned v∧NA w' v (natL (x+y)))∧w'=W:=fun W g9 c9 h1 h2 h3=>by
  have hu:=h1.uaSeg 0 (k+1);rw [hrs] at hu;have hl:=Qaq (k+1) (x+y);have:=QcK (padL (k+1) (x+y)) (some ⟨g9,0,none⟩) c9 g9 0 W (fun _=>rfl) hu (Qbl _ _) (by omega) (by omega) h3;rw [hl] at this;refine this.mono ?_;rintro e w' ⟨rfl,rfl⟩;refine ⟨⟨_,rfl, ?_⟩,rfl⟩;have h4:=QhM (Qbl (k+1) (x+y)) hu h1.lt (by omega) h3
  rwa [hpv] at h4 ⊢
 have HLE:Shut _:=⟨hLe⟩;have HCA:Shut _:=⟨cA⟩;have HCT:Shut _:=⟨cT⟩;clear hLe hLd hLv hseg hpv hrs cA cT hLl;go_wp2_with (first | (at_make;refine QfD rfl _ _ rfl w.heap.size (k+1) (congrArg (Value.int .i64) HN1.o) (congrArg (Value.int .i64) HN1.o) (by omega) Lr ?_;intro w1 hO1 hB1;obtain ⟨h9,_⟩ | ⟨c9,g9,h9,hg9,hu9,hc9,hm9⟩:=hO1.open;cases h9) | (refine Qpt rfl _ _ rfl g9 (k+1) c9 rfl (List.replicate (k+1) 0) hu9 (by simp) _ (natL x) rfl (HA.o.below hB1 Lr) HN.o.1 w.heap.size w hB1 hg9 ?_;intro w2 hu2 hB2;rw [←HLE.o] at hu2) | (go_at_call 190; refine (HCA.o w2 g9 c9 hu2 (fun h=>by have:=(HB.o.2 h).2;omega) (HB.o.1.below1 hB2 (fun h=>(HB.o.2 h).2))).mono ?_;rintro e w3 ⟨rfl,hO3,hu3⟩) | (go_at_call 191; refine (HCT.o w3 g9 c9 hu3 (by simpa using hc9) hm9).mono ?_;rintro e w4 ⟨⟨v4,rfl,hv4⟩,rfl⟩));go_ret;exact ⟨_,rfl,hv4,hB2.trans (hO3.below hg9)⟩

theorem QdE (x y:Nat) (hxy:y≤x) (va vb:Value) (w:World) (ha:NA w va (natL x)) (hb:NA w vb (natL y)) (hla:(natL x).length≤1000) :
  Calls Tryz.prog 156 #[va,vb] w fun e w'=>∃ v,e = .returned v∧NA w' v (natL (x-y))∧Below w.heap.size w w':=by
 obtain ⟨pb,cb,gb,ob,rfl,hlb2,hcb,hpb,hub⟩:=hb.open;have hlb:=Qal hxy;have HB:Shut _:=⟨And.intro hub hpb⟩;obtain ⟨n,hn⟩:∃ n,n=(natL x).length:=⟨_,rfl⟩;have hseg:((natL x).drop 0).take n=natL x:=by rw [List.drop_zero,List.take_of_length_le (by omega)]
 have hlt:=QaI x;have hpv:nv (padL n (x-y))=x-y:=QbZ _ _ (by rw [hn];omega);have hrs:((rowR (natL x) 0 n (x-y)).drop 0).take n=padL n (x-y):=Qkv (natL x) 0 n (x-y) (by omega);have cS:=fun W (h:NA W va (natL x))=>QcL (natL x) va 0 W h (by omega)
 have cA:∀ (W:World) (g9 c9:Nat),UR W g9 (natL x)→(1≤(natL y).length→gb≠g9)→UA W gb ob (natL y)→Calls Tryz.prog 197 #[.slice (some ⟨g9,0,none⟩) n c9,.slice pb (natL y).length cb,.int .u32 1] W fun e w'=>e = .returned (.tuple #[])∧Only g9 W w'∧UR w' g9 (rowR (natL x) 0 n (x-y)):=fun W g9 c9 h1 h2 h3=>by
  have:=Qkw g9 0 n c9 (natL x) pb gb ob cb (natL y) 1 W h1 (by omega) h2 h3 (fun h=>(HB.o.2 h).1) (by omega) (by omega) (Qao x) (Qao y) (by decide) (by rw [hseg,Qan,Qan,Nat.mul_one];exact hxy);rw [hseg,Qan,Qan,Nat.mul_one] at this;exact this
 have cT:∀ (W:World) (g9 c9:Nat),UR W g9 (rowR (natL x) 0 n (x-y))→n≤c9→c9≤maxLen→Calls Tryz.prog 191 #[.slice (some ⟨g9,0,none⟩) n c9] W fun e w'=>(∃ v,e = .returned v∧NA w' v (natL (x-y)))∧w'=W:=fun W g9 c9 h1 h2 h3=>by
  have hu:=h1.uaSeg 0 n;rw [hrs] at hu;have hl:=Qaq n (x-y);have:=QcK (padL n (x-y)) (some ⟨g9,0,none⟩) c9 g9 0 W (fun _=>rfl) hu (Qbl _ _) (by omega) (by omega) h3;rw [hl] at this;refine this.mono ?_;rintro e w' ⟨rfl,rfl⟩;refine ⟨⟨_,rfl, ?_⟩,rfl⟩;have h4:=QhM (Qbl n (x-y)) hu h1.lt (by omega) h3
  rwa [hpv] at h4 ⊢
 have HN:Shut _:=⟨hn⟩;have HA:Shut _:=⟨ha⟩;have HCA:Shut _:=⟨cA⟩;have HCT:Shut _:=⟨cT⟩;go_enter Tryz.func156, Tryz.ntmps156;clear hn hseg hlt hpv hrs cA cT hub hpb ha hb;go_wp2_with (first | (go_at_call 195; refine (cS w HA.o).mono ?_;rintro e w1 ⟨u1,rfl,hO1,hn1,hB1⟩;rw [List.replicate_zero,List.nil_append] at hO1;obtain ⟨h9,_⟩ | ⟨c9,g9,h9,hg9,hu9,hc9,hm9⟩:=hO1.open;exact absurd h9 hn1;rw [←HN.o] at h9 hc9;subst h9) | (go_at_call 197; refine (HCA.o w1 g9 c9 hu9 (fun h=>by have:=(HB.o.2 h).2;omega) (HB.o.1.below1 hB1 (fun h=>(HB.o.2 h).2))).mono ?_;rintro e w3 ⟨rfl,hO3,hu3⟩) | (go_at_call 191; refine (HCT.o w3 g9 c9 hu3 hc9 hm9).mono ?_;rintro e w4 ⟨⟨v4,rfl,hv4⟩,rfl⟩));go_ret;exact ⟨_,rfl,hv4,hB1.trans (hO3.below hg9)⟩
theorem Qdq (n k v:Nat) (hk:k≤n):padL n v=padL k (v % 10000^k)++padL (n-k) (v / 10000^k):=by
 have:=QbR k (n-k) (v % 10000^k) (v / 10000^k) (Nat.mod_lt _ (Nat.pow_pos (by decide)));rw [Nat.mod_add_div,show k+(n-k)=n by omega] at this;exact this
theorem Qpu (n k v u:Nat) (hk:k≤n):rowR (padL n v) k (n-k) (v / 10000^k+u)=padL n (v+10000^k*u):=by
 have hl:(padL k (v % 10000^k)).length=k:=Qaq _ _;have h1:(padL n v).take k=padL k (v % 10000^k):=by rw [Qdq n k v hk,List.take_append_of_le_length (by omega),List.take_of_length_le (by omega)]
 have h2:(padL n v).drop (k+(n-k)) = []:=by rw [List.drop_eq_nil_iff,Qaq];omega
 have h3:=QbR k (n-k) (v % 10000^k) (v / 10000^k+u) (Nat.mod_lt _ (Nat.pow_pos (by decide)));rw [rowR,h1,h2,List.append_nil,←h3,show k+(n-k)=n by omega];congr 1;rw [Nat.mul_add,←Nat.add_assoc,Nat.mod_add_div]
theorem Qni (n k v:Nat) (hk:k≤n):((padL n v).drop k).take (n-k)=padL (n-k) (v / 10000^k):=by
 have hl:(padL k (v % 10000^k)).length=k:=Qaq _ _;rw [Qdq n k v hk,List.drop_append_of_le_length (by omega),List.drop_eq_nil_iff.2 (by omega),List.nil_append,List.take_of_length_le (by rw [Qaq];exact Nat.le_refl _)]
theorem QhN {n k v u:Nat} (hk:k≤n) (h:v+10000^k*u<10000^n):v / 10000^k+u<10000^(n-k):=by
 have hp:0<10000^k:=Nat.pow_pos (by decide);rw [←Nat.add_mul_div_left v u hp];refine Nat.div_lt_of_lt_mul ?_;rw [←Nat.pow_add,show k+(n-k)=n by omega];exact h

theorem Only.cell {g:Nat} {w w':World} (h:Only g w w') {b:Nat} (hb:b≠g) (i:Nat):w'.cell? ⟨b,i,none⟩=w.cell? ⟨b,i,none⟩:=by
 unfold World.cell?;rw [show w'.heap[(⟨b,i,none⟩:Addr).block]? = w.heap[b]? from h.block b hb]
theorem QlL (x:Nat) (pa:Option Addr) (ca ga oa:Nat) (g n c k f v bx:Nat) (w:World) (hbox:w.cell? ⟨bx,0,none⟩=some (.slice pa (natL x).length ca)) (hpa:1≤(natL x).length→pa=some ⟨ga,oa,none⟩∧ga≠g) (hua:UA w ga oa (natL x))
  (hr:UR w g (padL n v)) (hk:k+(natL x).length≤n) (hkn:k<n) (hbx:bx≠g) (hn:n≤2000) (hc:n≤c) (_:c≤maxLen) (hf:f≤10000) (hv:v<10000^n) (hroom:v+10000^k*(x*f)<10000^n) :
  Calls Tryz.prog 189 #[.slice (some ⟨g,0,none⟩) n c,.int .i64 k,.int .u32 f,.pointer (some ⟨bx,0,none⟩)] w fun e w'=>e = .returned (.slice (some ⟨g,0,none⟩) n c)∧Only g w w'∧UR w' g (padL n (v+10000^k*(x*f))):=by
 have hla:(natL x).length≤n:=by omega
 have hnk:n-k≤c-k:=by omega
 have hl:=Qaq n v
 have cA:=Qnh g k (n-k) (c-k) (padL n v) pa ga oa ca (natL x) f w.drew hr (by omega) (fun h=>(hpa h).2) (hua.drewN 1) (fun h=>(hpa h).1) (by omega) (by omega) (Qbl _ _) (Qao _) hf (by
  rw [Qni n k v (by omega),QbZ _ _ (by have:=QhN (u:=0) (show k≤n by omega) (by simpa using hv);simpa using this),Qan];exact QhN (by omega) hroom)
 rw [Qni n k v (by omega),QbZ _ _ (by have:=QhN (u:=0) (show k≤n by omega) (by simpa using hv);simpa using this),Qan,Qpu n k v _ (by omega)] at cA;have i1:(0:Int)≤(k:Int):=by omega
 have i2:(k:Int)≤(n:Int):=by omega
 have i3:(n:Int)≤(c:Int):=by omega
 have i4:¬ c=k:=by omega
 clear hpa hua hr hv hroom hl;generalize padL n (v+10000^k*(x*f))=L2 at *
 generalize (natL x).length=la at *
 go_enter Tryz.func189, Tryz.ntmps189;go_wp2
 go_region_held3 (fun w'=>w'.cell? ⟨bx,0,none⟩=some (.slice pa la ca)) (first | go_keep | skip) ((go_at_call 190; refine cA.mono ?_;rintro e w1 ⟨rfl,hO1,hu1⟩;have hb1:w1.cell? ⟨bx,0,none⟩=some (.slice pa la ca):=(hO1.cell hbx 0).trans hbox))
 go_wp2;go_ret;exact ⟨rfl,((Only.refl g w).drew).trans hO1,hu1⟩

theorem QtU {x y la lb:Nat} (hx:x<10000^la) (hy:y<10000^lb):x*y<10000^(la+lb):=by
 rw [Nat.pow_add];have hp:0<10000^lb:=Nat.pow_pos (by decide)
 calc x*y≤x*10000^lb:=Nat.mul_le_mul_left _ (by omega)
  _<10000^la*10000^lb:=Nat.mul_lt_mul_of_pos_right hx hp
theorem Qhd (l:List Nat) (k:Nat) (hk:k≤l.length):nv (l.take k)≤nv l:=by rw [QaH l k hk];omega
theorem QlM (x:Nat) (l:List Nat) (hle:∀ z∈l,z≤10000) (pa:Option Addr) (ca ga oa:Nat) (pb:Option Addr) (cb gb ob:Nat) (g n c bx:Nat) (w:World) (hbox:w.cell? ⟨bx,0,none⟩=some (.slice pa (natL x).length ca)) (hpa:1≤(natL x).length→pa=some ⟨ga,oa,none⟩∧ga≠g) (hua:UA w ga oa (natL x))
  (hpb:1≤l.length→pb=some ⟨gb,ob,none⟩∧gb≠g) (hub:UA w gb ob l) (hr:UR w g (padL n 0)) (hn:n=(natL x).length+l.length) (hroom:x*nv l<10000^n) (hn2:n≤2000) (hc:n≤c) (hcm:c≤maxLen) (hbx:bx≠g) :
  Calls Tryz.prog 188 #[.slice pb l.length cb,.slice (some ⟨g,0,none⟩) n c,.func (Fn.func 189) #[] #[.pointer (some ⟨bx,0,none⟩)]] w fun e w'=>e = .returned (.slice (some ⟨g,0,none⟩) n c)∧Only g w w'∧UR w' g (padL n (x*nv l)):=by
 have HUB:Shut _:=⟨And.intro hub hpb⟩;have hlt:∀ z,z≤nv l→x*z<10000^n:=fun z hz=>Nat.lt_of_le_of_lt (Nat.mul_le_mul_left x hz) hroom
 have cT:∀ (W:World) (k:Nat),Only g w W→k<l.length→UR W g (padL n (x*nv (l.take k)))→Calls Tryz.prog 189 #[.slice (some ⟨g,0,none⟩) n c,.int .i64 k,.int .u32 (l.getD k 0:Nat),.pointer (some ⟨bx,0,none⟩)] W fun e w'=>e = .returned (.slice (some ⟨g,0,none⟩) n c)∧Only g W w'∧UR w' g (padL n (x*nv (l.take (k+1)))):=fun W k hO hk hu=>by
  have h1:=Qhd l k (by omega);have h2:=Qhd l (k+1) (by omega);have e:x*nv (l.take (k+1))=x*nv (l.take k)+10000^k*(x*l.getD k 0):=by rw [QaO _ _ hk];grind
  have:=QlL x pa ca ga oa g n c k (l.getD k 0) (x*nv (l.take k)) bx W ((hO.cell hbx 0).trans hbox) hpa (fun i hi=>(hO.cell (hpa (by omega)).2 _).trans (hua i hi)) hu (by omega) (by omega) hbx hn2 hc hcm (by rw [List.getD_eq_getElem?_getD,List.getElem?_eq_getElem hk];exact hle _ (List.getElem_mem hk)) (hlt _ h1) (by rw [←e];exact hlt _ h2)
  rwa [←e] at this
 have HT:Shut _:=⟨cT⟩;have HR:Shut (UR w g (padL n (x*nv (l.take 0)))):=⟨by rw [List.take_zero,nv,Nat.mul_zero];exact hr⟩;have hlb:l.length≤2000:=by omega
 clear hbox hpa hua hpb hub hr hlt cT hn hroom hle;go_enter Tryz.func188, Tryz.ntmps188;go_wp2
 go_loopw [7,13] (fun sv iv wr=>∃ k:Nat,k≤l.length∧sv = .slice (some ⟨g,0,none⟩) n c∧iv = .int .i64 k∧Shut (Only g w wr)∧Shut (UR wr g (padL n (x*nv (l.take k))))) (fun _ iv _=>l.length-(intOf iv).toNat)
 case atStart=>exact ⟨0,Nat.zero_le _,rfl,rfl,⟨Only.refl _ _⟩,HR⟩
 case round =>
  obtain ⟨k,hk,rfl,rfl,hO,hu⟩:=hrel;by_cases hlt:k<l.length
  ·obtain ⟨hp,hg⟩:=HUB.o.2 (by omega);subst hp;have hcl:=HUB.o.1.only hO.o hg k hlt;have c1:=HT.o wr k hO.o hlt hu.o;have hd1:decide ((k:Int)<((l.length:Nat):Int))=true:=decide_eq_true (by omega);generalize l.getD k 0=f at *
   clear hu;go_wp2_with (go_at_call 189; refine c1.mono ?_;rintro e w1 ⟨rfl,hO1,hu1⟩);exact ⟨⟨k+1,by omega,rfl,by go_num,⟨hO.o.trans hO1⟩,⟨hu1⟩⟩,by simp [intOf];omega⟩
  ·obtain rfl:k=l.length:=by omega
   have hu2:=hu.o;rw [List.take_length] at hu2;clear hu;go_wp2;go_ret;exact ⟨rfl,hO.o,hu2⟩

theorem Qdr (W:World) (g c n z:Nat) (L:List Nat) (hr:UR W g L) (hL:L.take n=padL n z) (hz:z<10000^n) (hc:n≤c) (hcm:c≤maxLen) (hn:n≤1000000) :
  Calls Tryz.prog 191 #[.slice (some ⟨g,0,none⟩) n c] W fun e w'=>(∃ v,e = .returned v∧NA w' v (natL z))∧w'=W:=by
 have hu:=hr.uaSeg 0 n;rw [List.drop_zero,hL] at hu;have hl:=Qaq n z;have:=QcK (padL n z) (some ⟨g,0,none⟩) c g 0 W (fun _=>rfl) hu (Qbl _ _) (by omega) (by omega) hcm;rw [hl] at this;refine this.mono ?_;rintro e w' ⟨rfl,rfl⟩;refine ⟨⟨_,rfl, ?_⟩,rfl⟩;have h4:=QhM (Qbl n z) hu hr.lt (by omega) hcm
 rwa [QbZ n z hz] at h4 ⊢
theorem QcM:∀ n,padL n 0=List.replicate n 0
 | 0=>rfl
 | n+1=>by rw [padL,List.replicate_succ,show 0 / 10000=0 from rfl,QcM n]

theorem QiC (x:Nat) (l:List Nat) (hle:∀ z∈l,z≤10000) (va vb:Value) (w:World) (ha:NA w va (natL x)) (hb:NA w vb l) (hla:(natL x).length≤1000) (hlb:l.length≤1000) (hroom:x*nv l<10000^((natL x).length+l.length)) :
  Calls Tryz.prog 151 #[va,vb] w fun e w'=>∃ v,e = .returned v∧NA w' v (natL (x*nv l))∧Below w.heap.size w w':=by
 obtain ⟨pb,cb,gb,ob,rfl,hlb2,hcb,hpb,hub⟩:=hb.open;obtain ⟨pa,ca,ga,oa,rfl,hla2,hca,hpa,hua⟩:=ha.open;obtain ⟨n,hn⟩:∃ n,n=(natL x).length+l.length:=⟨_,rfl⟩;have HN1:Shut ((((natL x).length:Nat):Int)+((l.length:Nat):Int)=(n:Int)):=⟨by omega⟩;have hn2:n≤2000:=by omega
 have HN:Shut _:=⟨hn⟩;have hlt:x*nv l<10000^n:=by rw [hn];exact hroom
 have HLT:Shut _:=⟨hlt⟩;have HA:Shut _:=⟨And.intro hua hpa⟩;have HB:Shut _:=⟨And.intro hub hpb⟩;clear hn hlt hua hpa hub hpb ha hb hroom;have hB0:Below w.heap.size w (w.alloc (O #[.slice pa (natL x).length ca] 128)):=(Below.refl _ w).alloc Lr _;have hz0:(w.alloc (O #[.slice pa (natL x).length ca] 128)).heap.size=w.heap.size+1:=World.size_alloc _ _
 have hbx0:(w.alloc (O #[.slice pa (natL x).length ca] 128)).cell? ⟨w.heap.size,0,none⟩=some (.slice pa (natL x).length ca):=by
  rw [(RowAt.new w #[.slice pa (natL x).length ca] 128).cell 0];rfl
 have HBX:Shut _:=⟨hbx0⟩;have HB0:Shut _:=⟨hB0⟩;clear hB0;have hadd:decide ((((natL x).length:Nat):Int)+((l.length:Nat):Int)≤9223372036854775807)=true:=decide_eq_true (by omega)
 have cF:∀ (W:World) (g9 c9:Nat),Below (w.heap.size+1) (w.alloc (O #[.slice pa (natL x).length ca] 128)) W→UR W g9 (List.replicate n 0)→w.heap.size+1≤g9→n≤c9→c9≤maxLen→Calls Tryz.prog 188 #[.slice pb l.length cb,.slice (some ⟨g9,0,none⟩) n c9,.func (Fn.func 189) #[] #[.pointer (some ⟨w.heap.size,0,none⟩)]] W fun e w'=>e = .returned (.slice (some ⟨g9,0,none⟩) n c9)∧Only g9 W w'∧UR w' g9 (padL n (x*nv l)):=fun W g9 c9 hW hu hg hc hm=>by
  have hW2:Below w.heap.size w W:=HB0.o.trans (hW.mono (by omega));refine QlM x l hle pa ca ga oa pb cb gb ob g9 n c9 w.heap.size W ?_ (fun h=>⟨(HA.o.2 h).1,by have:=(HA.o.2 h).2;omega⟩) (HA.o.1.below1 hW2 (fun h=>(HA.o.2 h).2)) (fun h=>⟨(HB.o.2 h).1,by have:=(HB.o.2 h).2;omega⟩) (HB.o.1.below1 hW2 (fun h=>(HB.o.2 h).2)) (by rw [QcM];exact hu) HN.o HLT.o hn2 hc hm (by omega);exact (hW.cell (p:=⟨w.heap.size,0,none⟩) (Nat.lt_succ_self _)).trans HBX.o
 have HCF:Shut _:=⟨cF⟩;clear cF hle;go_enter Tryz.func151, Tryz.ntmps151;go_wp2_with (first | (at_make;refine QfD rfl _ _ rfl (w.heap.size+1) n (congrArg (Value.int .i64) HN1.o) (congrArg (Value.int .i64) HN1.o) (by omega) (by rw [hz0];exact Nat.le_refl _) ?_;intro w1 hO1 hB1;obtain ⟨hg9,hu9, -,hc9,hm9⟩:=hO1.openS;rw [List.length_replicate] at hc9;rw [hz0] at hu9 hg9) | (go_at_call 188; refine (HCF.o w1 _ _ hB1 hu9 hg9 hc9 hm9).mono ?_;rintro e w3 ⟨rfl,hO3,hu3⟩) | (go_at_call 191; refine (Qdr w3 _ _ n (x*nv l) _ hu3 (List.take_of_length_le (by rw [Qaq];exact Nat.le_refl _)) HLT.o hc9 hm9 (by omega)).mono ?_;rintro e w4 ⟨⟨v4,rfl,hv4⟩,rfl⟩));go_ret;exact ⟨_,rfl,hv4,HB0.o.trans ((hB1.mono (by omega)).trans (hO3.below (by omega)))⟩

theorem Qdd (x y:Nat) (va vb:Value) (w:World) (ha:NA w va (natL x)) (hb:NA w vb (natL y)) (hla:(natL x).length≤1000) (hlb:(natL y).length≤1000) :
  Calls Tryz.prog 151 #[va,vb] w fun e w'=>∃ v,e = .returned v∧NA w' v (natL (x*y))∧Below w.heap.size w w':=by
 have:=QiC x (natL y) (fun z hz=>Nat.le_of_lt (Qao y z hz)) va vb w ha hb hla hlb (by rw [Qan];exact QtU (QaI x) (QaI y))
 rwa [Qan] at this
end
end Go.Proofs.YtihlgifojjeoaaaGreatDoor
