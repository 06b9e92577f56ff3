import Derived.Test.YtihlgifojjeoaaaGreatDoorZ6B9
import Derived.Test.YtihlgifojjeoaaaGreatDoorZ6B4
import Derived.Test.YtihlgifojjeoaaaGreatDoorZ6B5
import Derived.Test.YtihlgifojjeoaaaGreatDoorZ6B3
import Derived.Test.YtihlgifojjeoaaaGreatDoorZ6B8
set_option maxRecDepth 1000000
set_option maxHeartbeats 40000000
open Go.Value renaming string→Z
open Go.Obj renaming cells→O
namespace Go.Proofs.YtihlgifojjeoaaaGreatDoor
section
namespace N10
open Go.RowKit

theorem Qum (neg:Bool) (n:Nat):(sg neg n).natAbs=n:=by unfold sg;split <;> omega
theorem QjS (z:Int):sg (decide (z<0)) z.natAbs=z:=by
 unfold sg;by_cases h:z<0
 ·rw [decide_eq_true h,if_pos rfl];omega
 ·rw [decide_eq_false h,if_neg (by simp)];omega
theorem Qsw (neg:Bool) (n:Nat):Fits (sg neg n)↔(natL n).length≤200:=by unfold Fits;rw [Qum,QcD]
theorem Qbg (neg:Bool) (n:Nat) (v:Value) (w:World) (h:NI w v (natL n)) (hl:(natL n).length≤1000) :
  Calls Tryz.prog 211 #[.bool neg,v] w fun e w'=>e = .returned (QcC (sg neg n))∧Below w.heap.size w w':=by
 have ct:=QdL n neg v w h hl;have hf:=Qsw neg n;generalize sg neg n=z at *
 clear h;by_cases hz:(natL n).length≤200
 ·have HC:Shut _:=⟨Qav (hf.2 hz)⟩;rw [decide_eq_true hz] at ct;clear hf hz hl;generalize hs:txt z=s at *
  go_enter Tryz.func211, Tryz.ntmps211;go_wp2_with (go_at_call 174; refine ct.mono ?_;rintro e w1 ⟨rfl,hB1⟩)
  go_ret2
  exact ⟨by rw [HC.o];rfl,hB1⟩
 ·have HC:Shut _:=⟨QaJ (fun h=>hz (hf.1 h))⟩;rw [decide_eq_false hz] at ct;clear hf hz hl;generalize hs:txt z=s at *
  go_enter Tryz.func211, Tryz.ntmps211;go_wp2_with (go_at_call 174; refine ct.mono ?_;rintro e w1 ⟨rfl,hB1⟩)
  go_ret2
  exact ⟨by rw [HC.o];rfl,hB1⟩

theorem Qgw {nx ny k:Nat} (ha:(natL nx).length≤k) (hb:(natL ny).length≤k):(natL (nx+ny)).length≤k+1:=by
 have h1:=QaI nx;have h2:=QaI ny;have h3:10^(natL nx).length≤10^k:=Nat.pow_le_pow_right (by decide) ha;have h4:10^(natL ny).length≤10^k:=Nat.pow_le_pow_right (by decide) hb;exact Qat (k:=k+1) (by rw [Nat.pow_succ];generalize 10^k=P at *;omega)
theorem Qca (z:Int):∃ (s:ByteArray) (k:Int),QcC z = .tuple #[Z s,.int .i64 k]:=by
 by_cases h:Fits z
 ·exact ⟨_,_,Qav h⟩
 ·exact ⟨_,_,QaJ h⟩
theorem Qun (nx ny:Nat) (va vb:Value) (w:World) (ha:NI w va (natL nx)) (hb:NI w vb (natL ny)) (hla:(natL nx).length≤300) (hlb:(natL ny).length≤300) :
  Calls Tryz.prog 209 #[.bool true,va,.bool true,vb] w fun e w'=>e = .returned (QcC (sg true nx+sg true ny))∧Below w.heap.size w w':=by
 have hs:sg true nx+sg true ny=sg true (nx+ny):=by unfold sg;simp;try omega
 rw [hs];have hlen:(natL (nx+ny)).length≤1000:=Nat.le_trans (Qgw hla hlb) (by decide);have cp:=QhW nx ny va vb w ha hb (by omega) (by omega);have cc:=fun (v:Value) (W:World) (h:NI W v (natL (nx+ny)))=>Qbg true (nx+ny) v W h hlen;obtain ⟨s,k,hk⟩:=Qca (sg true (nx+ny));rw [hk] at cc ⊢;clear hs hk ha hb hla hlb hlen;go_enter Tryz.func209, Tryz.ntmps209;go_wp2_with (first | (go_at_call 212; refine cp.mono ?_;rintro e w1 ⟨v1,rfl,hv1,hB1⟩) | (go_at_call 211; refine (cc v1 w1 hv1).mono ?_;rintro e w2 ⟨rfl,hB2⟩))
 go_ret2
 exact ⟨rfl,hB1.trans (hB2.mono hB1.size)⟩
theorem Quo (nx ny:Nat) (va vb:Value) (w:World) (ha:NI w va (natL nx)) (hb:NI w vb (natL ny)) (hla:(natL nx).length≤300) (hlb:(natL ny).length≤300) :
  Calls Tryz.prog 209 #[.bool true,va,.bool false,vb] w fun e w'=>e = .returned (QcC (sg true nx+sg false ny))∧Below w.heap.size w w':=by
 have co:=QdK nx ny va vb w ha hb (by omega) (by omega);by_cases hle:ny≤nx
 ·have hs:sg true nx+sg false ny=sg true (nx-ny):=by unfold sg;simp;try omega
  rw [hs];have hcm:0≤cmpN nx ny:=by unfold cmpN;(repeat' split) <;> omega
  have hlen:(natL (nx-ny)).length≤1000:=by have:=Qal (Nat.sub_le nx ny);omega
  have cm:=fun m=>Qdi nx ny hle va vb (w.drewN m) (ha.below (Qag (Below.refl _ w) m) Lr) (hb.below (Qag (Below.refl _ w) m) Lr) (by omega);have cc:=fun (v:Value) (W:World) (h:NI W v (natL (nx-ny)))=>Qbg true (nx-ny) v W h hlen;obtain ⟨s,k,hk⟩:=Qca (sg true (nx-ny));rw [hk] at cc ⊢;clear hs hk ha hb hla hlb hlen hle;generalize cmpN nx ny=cv at *
  go_enter Tryz.func209, Tryz.ntmps209;go_wp2_with (first | (go_at_call 208; refine co.mono ?_;rintro e w0 ⟨rfl,m,rfl⟩) | (go_at_call 213; refine (cm m).mono ?_;rintro e w1 ⟨v1,rfl,hv1,_,hB1⟩) | (go_at_call 211; refine (cc v1 w1 hv1).mono ?_;rintro e w2 ⟨rfl,hB2⟩))
  go_ret2
  exact ⟨rfl,(Qag (Below.refl _ w) m).trans (hB1.trans (hB2.mono hB1.size))⟩
 ·have hs:sg true nx+sg false ny=sg false (ny-nx):=by unfold sg;simp;try omega
  rw [hs];have hcm:cmpN nx ny<0:=by unfold cmpN;(repeat' split) <;> omega
  have hcm2:¬ 0≤cmpN nx ny:=by omega
  have hlen:(natL (ny-nx)).length≤1000:=by have:=Qal (Nat.sub_le ny nx);omega
  have cm:=fun m=>Qdi ny nx (by omega) vb va (w.drewN m) (hb.below (Qag (Below.refl _ w) m) Lr) (ha.below (Qag (Below.refl _ w) m) Lr) (by omega);have cc:=fun (v:Value) (W:World) (h:NI W v (natL (ny-nx)))=>Qbg false (ny-nx) v W h hlen;obtain ⟨s,k,hk⟩:=Qca (sg false (ny-nx));rw [hk] at cc ⊢;clear hs hk ha hb hla hlb hlen hle;generalize cmpN nx ny=cv at *
  go_enter Tryz.func209, Tryz.ntmps209;go_wp2_with (first | (go_at_call 208; refine co.mono ?_;rintro e w0 ⟨rfl,m,rfl⟩) | (go_at_call 213; refine (cm m).mono ?_;rintro e w1 ⟨v1,rfl,hv1,_,hB1⟩) | (go_at_call 211; refine (cc v1 w1 hv1).mono ?_;rintro e w2 ⟨rfl,hB2⟩))
  go_ret2
  exact ⟨rfl,(Qag (Below.refl _ w) m).trans (hB1.trans (hB2.mono hB1.size))⟩
theorem Qup (nx ny:Nat) (va vb:Value) (w:World) (ha:NI w va (natL nx)) (hb:NI w vb (natL ny)) (hla:(natL nx).length≤300) (hlb:(natL ny).length≤300) :
  Calls Tryz.prog 209 #[.bool false,va,.bool true,vb] w fun e w'=>e = .returned (QcC (sg false nx+sg true ny))∧Below w.heap.size w w':=by
 have co:=QdK nx ny va vb w ha hb (by omega) (by omega);by_cases hle:ny≤nx
 ·have hs:sg false nx+sg true ny=sg false (nx-ny):=by unfold sg;simp;try omega
  rw [hs];have hcm:0≤cmpN nx ny:=by unfold cmpN;(repeat' split) <;> omega
  have hlen:(natL (nx-ny)).length≤1000:=by have:=Qal (Nat.sub_le nx ny);omega
  have cm:=fun m=>Qdi nx ny hle va vb (w.drewN m) (ha.below (Qag (Below.refl _ w) m) Lr) (hb.below (Qag (Below.refl _ w) m) Lr) (by omega);have cc:=fun (v:Value) (W:World) (h:NI W v (natL (nx-ny)))=>Qbg false (nx-ny) v W h hlen;obtain ⟨s,k,hk⟩:=Qca (sg false (nx-ny));rw [hk] at cc ⊢;clear hs hk ha hb hla hlb hlen hle;generalize cmpN nx ny=cv at *
  go_enter Tryz.func209, Tryz.ntmps209;go_wp2_with (first | (go_at_call 208; refine co.mono ?_;rintro e w0 ⟨rfl,m,rfl⟩) | (go_at_call 213; refine (cm m).mono ?_;rintro e w1 ⟨v1,rfl,hv1,_,hB1⟩) | (go_at_call 211; refine (cc v1 w1 hv1).mono ?_;rintro e w2 ⟨rfl,hB2⟩))
  go_ret2
  exact ⟨rfl,(Qag (Below.refl _ w) m).trans (hB1.trans (hB2.mono hB1.size))⟩
 ·have hs:sg false nx+sg true ny=sg true (ny-nx):=by unfold sg;simp;try omega
  rw [hs];have hcm:cmpN nx ny<0:=by unfold cmpN;(repeat' split) <;> omega
  have hcm2:¬ 0≤cmpN nx ny:=by omega
  have hlen:(natL (ny-nx)).length≤1000:=by have:=Qal (Nat.sub_le ny nx);omega
  have cm:=fun m=>Qdi ny nx (by omega) vb va (w.drewN m) (hb.below (Qag (Below.refl _ w) m) Lr) (ha.below (Qag (Below.refl _ w) m) Lr) (by omega);have cc:=fun (v:Value) (W:World) (h:NI W v (natL (ny-nx)))=>Qbg true (ny-nx) v W h hlen;obtain ⟨s,k,hk⟩:=Qca (sg true (ny-nx));rw [hk] at cc ⊢;clear hs hk ha hb hla hlb hlen hle;generalize cmpN nx ny=cv at *
  go_enter Tryz.func209, Tryz.ntmps209;go_wp2_with (first | (go_at_call 208; refine co.mono ?_;rintro e w0 ⟨rfl,m,rfl⟩) | (go_at_call 213; refine (cm m).mono ?_;rintro e w1 ⟨v1,rfl,hv1,_,hB1⟩) | (go_at_call 211; refine (cc v1 w1 hv1).mono ?_;rintro e w2 ⟨rfl,hB2⟩))
  go_ret2
  exact ⟨rfl,(Qag (Below.refl _ w) m).trans (hB1.trans (hB2.mono hB1.size))⟩
theorem Quq (nx ny:Nat) (va vb:Value) (w:World) (ha:NI w va (natL nx)) (hb:NI w vb (natL ny)) (hla:(natL nx).length≤300) (hlb:(natL ny).length≤300) :
  Calls Tryz.prog 209 #[.bool false,va,.bool false,vb] w fun e w'=>e = .returned (QcC (sg false nx+sg false ny))∧Below w.heap.size w w':=by
 have hs:sg false nx+sg false ny=sg false (nx+ny):=by unfold sg;simp;try omega
 rw [hs];have hlen:(natL (nx+ny)).length≤1000:=Nat.le_trans (Qgw hla hlb) (by decide);have cp:=QhW nx ny va vb w ha hb (by omega) (by omega);have cc:=fun (v:Value) (W:World) (h:NI W v (natL (nx+ny)))=>Qbg false (nx+ny) v W h hlen;obtain ⟨s,k,hk⟩:=Qca (sg false (nx+ny));rw [hk] at cc ⊢;clear hs hk ha hb hla hlb hlen;go_enter Tryz.func209, Tryz.ntmps209;go_wp2_with (first | (go_at_call 212; refine cp.mono ?_;rintro e w1 ⟨v1,rfl,hv1,hB1⟩) | (go_at_call 211; refine (cc v1 w1 hv1).mono ?_;rintro e w2 ⟨rfl,hB2⟩))
 go_ret2
 exact ⟨rfl,hB1.trans (hB2.mono hB1.size)⟩
theorem Qoc (sx sy:Bool) (nx ny:Nat) (va vb:Value) (w:World) (ha:NI w va (natL nx)) (hb:NI w vb (natL ny)) (hla:(natL nx).length≤300) (hlb:(natL ny).length≤300) :
  Calls Tryz.prog 209 #[.bool sx,va,.bool sy,vb] w fun e w'=>e = .returned (QcC (sg sx nx+sg sy ny))∧Below w.heap.size w w':=by
 cases sx <;> cases sy
 ·exact Quq nx ny va vb w ha hb hla hlb
 ·exact Qup nx ny va vb w ha hb hla hlb
 ·exact Quo nx ny va vb w ha hb hla hlb
 ·exact Qun nx ny va vb w ha hb hla hlb
theorem Qgx:bl (ba [48]) = [48]:=QeB _ (by decide)
theorem QkL:cutB (ba [48])=(false,ba [48]):=by rw [cutB,hd0,Qgx];rfl
theorem QiQ (s:ByteArray) (k:Nat) (hk:k<(cutB s).2.size) (hb:okC ((bl (cutB s).2).getD k 0)=false):Qap s=false:=by
 rw [Qap];split
 ·rfl
 ·split
  ·rw [decide_eq_false_iff_not];rintro rfl;rw [QkL,Qgx] at hb;rw [QkL] at hk;have hk2:k<1:=hk;obtain rfl:k=0:=by omega
   revert hb;decide
  ·rw [List.all_eq_false];have hkl:k<(bl (cutB s).2).length:=by rw [QcA];exact hk
   refine ⟨(bl (cutB s).2).getD k 0, ?_,by rw [hb];decide⟩;rw [List.getD_eq_getElem?_getD,List.getElem?_eq_getElem hkl];exact List.getElem_mem hkl
theorem QiR (s:ByteArray) (h:∀ j,j<(cutB s).2.size→okC ((bl (cutB s).2).getD j 0)=true):Qap s=decide (0<(cutB s).2.size∧(cutB s).2.size≤200∧(hd0 (cutB s).2=48→s=ba [48])):=by
 have hall:(bl (cutB s).2).all okC=true:=by
  rw [List.all_eq_true];intro y hy;obtain ⟨j,hj,rfl⟩:=List.getElem_of_mem hy;have:=h j (by rw [←QcA];exact hj)
  rwa [List.getD_eq_getElem?_getD,List.getElem?_eq_getElem hj] at this
 rw [Qap,hall];split
 ·next c=>exact (decide_eq_false (by omega)).symm
 ·next c =>
  split
  ·next c2=>exact decide_eq_decide.2 ⟨fun e=>⟨by omega,by omega,fun _=>e⟩,fun e=>e.2.2 c2⟩
  ·next c2=>exact (decide_eq_true ⟨by omega,by omega,fun e=>absurd e c2⟩).symm
theorem Qer (d:ByteArray):(d.toList == [48])=decide (d=ba [48]):=by
 rw [←QcU,show (ba [48]).toList = [48] by rw [ByteArray.toList_eq];rfl]
theorem QhY (d:ByteArray) (h:0<d.size):d[0].toNat=hd0 d:=(QeC d 0 h).symm
theorem Qsx {s:ByteArray} (h:hd0 s=45):(cutB s).2=s.extract 1 s.size:=by rw [cutB,if_pos h]
theorem Qsy {s:ByteArray} (h:hd0 s≠45):(cutB s).2=s:=by rw [cutB,if_neg h]

theorem Qod (s:ByteArray) (hs:s.size≤1000000) (h45:hd0 s≠45) (w:World) :
  Calls Tryz.prog 169 #[Z s] w fun e w'=>e = .returned (.bool (Qap s))∧∃ m,w'=w.drewN m:=by
 have hbad:=QiQ s;have hend:=QiR s;obtain ⟨vr,hvr⟩:∃ vr,vr=Qap s:=⟨_,rfl⟩;rw [←hvr] at hbad hend ⊢;clear hvr;have hc:=Qsy h45;rw [hc] at hbad hend;obtain ⟨d,hd⟩:∃ d,d=s:=⟨_,rfl⟩;subst hd;have HDZ:Shut (d=ba [48]→d=ba [48]):=⟨fun h=>h⟩;have HNZ:Shut (d≠ba [48]→d≠ba [48]):=⟨fun h=>h⟩;have HBAD:Shut (∀ k,k<d.size→okC ((bl d).getD k 0)=false→vr=false):=⟨hbad⟩;have HEND:Shut ((∀ j,j<d.size→okC ((bl d).getD j 0)=true)→vr=decide (0<d.size∧d.size≤200∧(hd0 d=48→d=ba [48]))):=⟨hend⟩;clear hbad hend hc;have H45:Shut (∀ h:0<d.size,d[0].toNat≠45):=⟨fun h=>by rw [QhY d h];exact h45⟩;go_enter Tryz.func169, Tryz.ntmps169;by_cases hs0:d.size=0
 ·have HE:Shut (vr=false):=⟨by rw [HEND.o (fun j hj=>by omega)];exact decide_eq_false (by omega)⟩;clear HEND HBAD HDZ HNZ H45;go_upto_region 2 with fail
  go_loopw [2,3] (fun rv iv wr=>rv = .bool false∧iv = .int .i64 0∧wr=w) (fun _ _ _=>0)
  case atStart=>exact ⟨rfl,rfl,rfl⟩
  case round =>
   obtain ⟨rfl,rfl,rfl⟩:=hrel;go_wp2;go_ret;exact ⟨by rw [HE.o];rfl,0,rfl⟩
 ·have hs1:0<d.size:=by omega
  obtain ⟨b0,hbe⟩:∃ b0,d[0].toNat=b0:=⟨_,rfl⟩;have hb0:b0≠45:=by rw [←hbe];exact H45.o hs1
  have hbq:(((b0:Nat):Int) == 45)=false:=by rw [beq_eq_false_iff_ne];omega
  go_upto_region 2 with fail
  clear hb0 hbe
  go_loopw [2,3] (fun rv iv wr=>rv = .bool false∧∃ k:Nat,k≤d.size∧iv = .int .i64 k∧(∃ m,wr=w.drewN m)∧Shut (∀ j,j<k→okC ((bl d).getD j 0)=true)) (fun _ iv _=>d.size-(intOf iv).toNat)
  case atStart=>exact ⟨rfl,0,by omega,rfl,⟨0,rfl⟩,⟨fun j hj=>by omega⟩⟩
  case round =>
   obtain ⟨rfl,k,hk,rfl,⟨m,hw⟩,hall⟩:=hrel;have HW:Shut _:=⟨hw⟩;clear hw;by_cases hlt:k<d.size
   ·have hgk:=QeC d k hlt;by_cases hok:okC ((bl d).getD k 0)=true
    ·have hall2:Shut (∀ j,j<k+1→okC ((bl d).getD j 0)=true):=⟨fun j hj=>by
      by_cases e:j=k
      ·rw [e];exact hok
      ·exact hall.o j (by omega)⟩
     rw [hgk,okC,Bool.and_eq_true,decide_eq_true_eq,decide_eq_true_eq] at hok;obtain ⟨h1,h2⟩:=hok;clear hgk hall;go_wp2;exact ⟨⟨rfl,k+1,by omega,by go_num,⟨m,HW.o⟩,hall2⟩,by simp [intOf];omega⟩
    ·have HF:Shut (vr=false):=⟨HBAD.o k hlt (by simpa using hok)⟩;rw [hgk,okC,Bool.and_eq_true,decide_eq_true_eq,decide_eq_true_eq] at hok;clear hgk hall;by_cases h1:d[k].toNat<48
     ·go_wp2;go_ret;exact ⟨by rw [HF.o];rfl,m,HW.o⟩
     ·have h2:57<d[k].toNat:=by omega
      go_wp2;go_ret;exact ⟨by rw [HF.o];rfl,m,HW.o⟩
   ·obtain rfl:k=d.size:=by omega
    have HE:Shut _:=⟨HEND.o hall.o⟩;have HZ:Shut _:=⟨Qer d⟩;clear hall;by_cases h0:d.size=0
    ·have HF:Shut (vr=false):=⟨by rw [HE.o];exact decide_eq_false (by omega)⟩;go_wp2;go_ret;exact ⟨by rw [HF.o];rfl,m,HW.o⟩
    ·by_cases h200:200<d.size
     ·have HF:Shut (vr=false):=⟨by rw [HE.o];exact decide_eq_false (by omega)⟩;go_wp2;go_ret;exact ⟨by rw [HF.o];rfl,m,HW.o⟩
     ·have hp:0<d.size:=by omega
      have hg:=QhY d hp;by_cases hd:d=ba [48]
      ·have hzz:(d.toList == [48])=true:=by rw [HZ.o];exact decide_eq_true hd
       have HF:Shut (vr=true):=⟨by rw [HE.o];exact decide_eq_true ⟨hp,by omega,fun _=>HDZ.o hd⟩⟩;clear hd;go_wp2;go_ret;exact ⟨by rw [HF.o];rfl,m,HW.o⟩
      ·have hzz:(d.toList == [48])=false:=by rw [HZ.o];exact decide_eq_false hd
       by_cases h48:hd0 d=48
       ·have HF:Shut (vr=false):=⟨by rw [HE.o];exact decide_eq_false (fun h=>HNZ.o hd (h.2.2 h48))⟩;have hb:d[0].toNat=48:=by rw [hg];exact h48
        clear hd hg h48;go_wp2;go_ret;exact ⟨by rw [HF.o];rfl,m,HW.o⟩
       ·have HF:Shut (vr=true):=⟨by rw [HE.o];exact decide_eq_true ⟨hp,by omega,fun h=>absurd h h48⟩⟩;have hb:d[0].toNat≠48:=by rw [hg];exact h48
        have hb2:(((d[0].toNat:Nat):Int) == 48)=false:=by rw [beq_eq_false_iff_ne];omega
        have hb3:(((d[0].toNat:Nat):Int) != 48)=true:=by rw [bne,hb2];rfl
        clear hd hg h48;go_wp2;go_ret;exact ⟨by rw [HF.o];rfl,m,HW.o⟩

theorem Qoe (s : ByteArray) (hs : s.size ≤ 1000000) (h45 : hd0 s = 45) (w : World) :
    Calls Tryz.prog 169 #[Z s] w fun e w' => e = .returned (.bool (Qap s)) ∧ ∃ m, w' = w.drewN m := by
  have hbad := QiQ s;have hend := QiR s;obtain ⟨vr, hvr⟩ : ∃ vr, vr = Qap s := ⟨_, rfl⟩;rw [← hvr] at hbad hend ⊢;clear hvr
  have hp0 : 0 < s.size := by
    rcases Nat.eq_zero_or_pos s.size with h | h
    · rw [Qnq h] at h45; exact absurd h45 (by decide)
    · exact h
  have hb0 : s[0].toNat = 45 := by rw [QhY s hp0]; exact h45
  have hc := Qsx h45;rw [hc] at hbad hend;have hsz : s ≠ ba [48] := by rintro rfl; rw [hd0, Qgx] at h45; revert h45; decide
  obtain ⟨d, hd⟩ : ∃ d, s.extract 1 s.size = d := ⟨_, rfl⟩;have hds : d.size = s.size - 1 := by rw [← hd, ByteArray.size_extract]; omega
  rw [hd] at hbad hend;have HNZ : Shut (d ≠ ba [48] → s ≠ ba [48]) := ⟨fun _ => hsz⟩;have HBAD : Shut (∀ k, k < d.size → okC ((bl d).getD k 0) = false → vr = false) := ⟨hbad⟩;have HEND : Shut ((∀ j, j < d.size → okC ((bl d).getD j 0) = true) → vr = decide (0 < d.size ∧ d.size ≤ 200 ∧ (hd0 d = 48 → s = ba [48]))) := ⟨hend⟩
  have HZ0 : Shut (d = ba [48] → vr = false) := ⟨fun h => by
    rw [hend (by subst h; rw [Qgx]; intro j hj; have hz : (ba [48]).size = 1 := rfl; obtain rfl : j = 0 := by omega
                 decide)]
    exact decide_eq_false (fun c => hsz (c.2.2 (by rw [h, hd0, Qgx]; rfl)))⟩
  clear hbad hend hc h45 hsz;have hi1 : (1 : Int) ≤ (s.size : Int) := by omega
  by_cases hdz : d = ba [48]
  · have HF : Shut (vr = false) := ⟨HZ0.o hdz⟩
    have hzz : (d.toList == [48]) = true := by rw [Qer]; exact decide_eq_true hdz
    clear hdz;go_enter Tryz.func169, Tryz.ntmps169;go_wp2;go_ret;exact ⟨by rw [HF.o]; rfl, 0, rfl⟩
  · have hzz : (d.toList == [48]) = false := by rw [Qer]; exact decide_eq_false hdz
    have HND : Shut (d ≠ ba [48]) := ⟨hdz⟩;clear hdz;go_enter Tryz.func169, Tryz.ntmps169;go_upto_region 2 with fail
    go_upto_region 99 with fail
    go_loopw [2, 3] (fun rv iv wr => rv = .bool false ∧ ∃ k : Nat, k ≤ d.size ∧ iv = .int .i64 k ∧ (∃ m, wr = w.drewN m) ∧ Shut (∀ j, j < k → okC ((bl d).getD j 0) = true)) (fun _ iv _ => d.size - (intOf iv).toNat)
    case atStart => exact ⟨rfl, 0, by omega, rfl, ⟨0, rfl⟩, ⟨fun j hj => by omega⟩⟩
    case round =>
      obtain ⟨rfl, k, hk, rfl, ⟨m, hw⟩, hall⟩ := hrel;have HW : Shut _ := ⟨hw⟩;clear hw;by_cases hlt : k < d.size
      · have hgk := QeC d k hlt
        by_cases hok : okC ((bl d).getD k 0) = true
        · have hall2 : Shut (∀ j, j < k + 1 → okC ((bl d).getD j 0) = true) := ⟨fun j hj => by
            by_cases e : j = k
            · rw [e]; exact hok
            · exact hall.o j (by omega)⟩
          rw [hgk, okC, Bool.and_eq_true, decide_eq_true_eq, decide_eq_true_eq] at hok;obtain ⟨h1, h2⟩ := hok;clear hgk hall;go_wp2;exact ⟨⟨rfl, k + 1, by omega, by go_num, ⟨m, HW.o⟩, hall2⟩, by simp [intOf]; omega⟩
        · have HF : Shut (vr = false) := ⟨HBAD.o k hlt (by simpa using hok)⟩
          rw [hgk, okC, Bool.and_eq_true, decide_eq_true_eq, decide_eq_true_eq] at hok;clear hgk hall;by_cases h1 : d[k].toNat < 48
          · go_wp2
            go_ret;exact ⟨by rw [HF.o]; rfl, m, HW.o⟩
          · have h2 : 57 < d[k].toNat := by omega
            go_wp2;go_ret;exact ⟨by rw [HF.o]; rfl, m, HW.o⟩
      · obtain rfl : k = d.size := by omega
        have HE : Shut _ := ⟨HEND.o hall.o⟩;have HZ : Shut _ := ⟨Qer d⟩;clear hall;by_cases h0 : d.size = 0
        · have HF : Shut (vr = false) := ⟨by rw [HE.o]; exact decide_eq_false (by omega)⟩
          go_wp2;go_ret;exact ⟨by rw [HF.o]; rfl, m, HW.o⟩
        · by_cases h200 : 200 < d.size
          · have HF : Shut (vr = false) := ⟨by rw [HE.o]; exact decide_eq_false (by omega)⟩
            go_wp2;go_ret;exact ⟨by rw [HF.o]; rfl, m, HW.o⟩
          · have hp : 0 < d.size := by omega
            have hg := QhY d hp;by_cases hd : d = ba [48]
            · exact absurd hd HND.o
            · have hzz : (d.toList == [48]) = false := by rw [HZ.o]; exact decide_eq_false hd
              by_cases h48 : hd0 d = 48
              · have HF : Shut (vr = false) := ⟨by rw [HE.o]; exact decide_eq_false (fun h => HNZ.o hd (h.2.2 h48))⟩
                have hb : d[0].toNat = 48 := by rw [hg]; exact h48
                clear hd hg h48;go_wp2;go_ret;exact ⟨by rw [HF.o]; rfl, m, HW.o⟩
              · have HF : Shut (vr = true) := ⟨by rw [HE.o]; exact decide_eq_true ⟨hp, by omega, fun h => absurd h h48⟩⟩
                have hb : d[0].toNat ≠ 48 := by rw [hg]; exact h48
                have hb2 : (((d[0].toNat : Nat) : Int) == 48) = false := by rw [beq_eq_false_iff_ne]; omega
                have hb3 : (((d[0].toNat : Nat) : Int) != 48) = true := by rw [bne, hb2]; rfl
                clear hd hg h48;go_wp2;go_ret;exact ⟨by rw [HF.o]; rfl, m, HW.o⟩
theorem QbO (s:ByteArray) (hs:s.size≤1000000) (w:World) :
  Calls Tryz.prog 169 #[Z s] w fun e w'=>e = .returned (.bool (Qap s))∧∃ m,w'=w.drewN m:=by
 by_cases h:hd0 s=45
 ·exact Qoe s hs h w
 ·exact Qod s hs h w
theorem Qcx {z:Int} (h:Fits z):(natL z.natAbs).length≤200:=by rw [←QcD];exact h
theorem Qur (s:Bool) (n:Nat):sg (!s) n = - sg s n:=by cases s <;> simp [sg]
theorem Qus (a b:Bool) (m n:Nat):sg (a != b) (m*n)=sg a m*sg b n:=by cases a <;> cases b <;> simp [sg,Int.natCast_mul,Int.neg_mul,Int.mul_neg]
theorem Qsz {m n:Nat} (hm:(natL m).length≤200) (hn:(natL n).length≤200):(natL (m*n)).length≤1000:=by
 have h1:=QaI m;have h2:=QaI n;have h3:(natL (m*n)).length≤(natL m).length+(natL n).length:=Qat (by rw [Nat.pow_add];exact Nat.mul_lt_mul_of_lt_of_le h1 (Nat.le_of_lt h2) (Nat.pow_pos (by decide)));omega
theorem QaK (x:Int) (hx:Fits x) (w:World) :
  Calls Tryz.prog 169 #[Z (txt x)] w fun e w'=>e = .returned (.bool true)∧∃ m,w'=w.drewN m:=by
 have h:=QbO (txt x) (by have:=Qbm hx;omega) w;rw [Qax x hx] at h;exact h
theorem Qai {w w':World} (h:∃ m,w'=w.drewN m):Below w.heap.size w w':=by
 obtain ⟨m,rfl⟩:=h;exact Qag (Below.refl _ w) m
theorem Qmk (x y:Int) (hx:Fits x) (hy:Fits y) (h1:x<0) (h2:y<0) (w:World) :
  Calls Tryz.prog 170 #[Z (txt x),Z (txt y)] w fun e w'=>e = .returned (.int .i64 (cmpZ x y))∧Below w.heap.size w w':=by
 have lx:=Qcx hx;have ly:=Qcx hy;have ca:=fun W=>QaK x hx W;have cb:=fun W=>QaK y hy W;have dx:=fun W=>QaD x (by omega) W;have dy:=fun W=>QaD y (by omega) W;rw [decide_eq_true (by omega)] at dx;rw [decide_eq_true (by omega)] at dy;have hz:cmpZ x y=cmpN y.natAbs x.natAbs:=by unfold cmpZ cmpN;(repeat' split) <;> omega
 rw [hz];have co:=fun (va vb:Value) (W:World) (ha:NI W va (natL y.natAbs)) (hb:NI W vb (natL x.natAbs))=>QdK y.natAbs x.natAbs va vb W ha hb (by omega) (by omega);generalize cmpN y.natAbs x.natAbs=cv at *
 clear hz h1 h2 hx hy lx ly;generalize txt x=s at *
 generalize txt y=t at *
 generalize natL x.natAbs=kx at *
 generalize natL y.natAbs=ky at *
 go_enter Tryz.func170, Tryz.ntmps170;go_wp2_with (first | (go_at_call 169; with_reducible refine (ca _).mono ?_;rintro e w1 ⟨rfl,hm⟩;have hb1:=Qai hm;clear hm) | (go_at_call 169; with_reducible refine (cb _).mono ?_;rintro e w2 ⟨rfl,hm⟩;have hb2:=Qai hm;clear hm) | (go_at_call 207; with_reducible refine (dx _).mono ?_;rintro e w3 ⟨v3,rfl,hv3,hb3⟩) | (go_at_call 207; with_reducible refine (dy _).mono ?_;rintro e w4 ⟨v4,rfl,hv4,hb4⟩;have hv5:=hv3.below hb4 Lr) | (go_at_call 208; refine (co v4 v3 w4 hv4 hv5).mono ?_;rintro e w5 ⟨rfl,hm⟩;have hb5:=Qai hm;clear hm));go_ret;have q1:=hb1;have q2:=q1.trans (hb2.mono q1.size);have q3:=q2.trans (hb3.mono q2.size);have q4:=q3.trans (hb4.mono q3.size);exact ⟨rfl,q4.trans (hb5.mono q4.size)⟩
theorem Qml (x y:Int) (hx:Fits x) (hy:Fits y) (h1:x<0) (h2:0≤y) (w:World) :
  Calls Tryz.prog 170 #[Z (txt x),Z (txt y)] w fun e w'=>e = .returned (.int .i64 (cmpZ x y))∧Below w.heap.size w w':=by
 have lx:=Qcx hx;have ly:=Qcx hy;have ca:=fun W=>QaK x hx W;have cb:=fun W=>QaK y hy W;have dx:=fun W=>QaD x (by omega) W;have dy:=fun W=>QaD y (by omega) W;rw [decide_eq_true (by omega)] at dx;rw [decide_eq_false (by omega)] at dy;have hz:cmpZ x y = -1:=by unfold cmpZ;(repeat' split) <;> omega
 rw [hz];clear hz h1 h2 hx hy lx ly;generalize txt x=s at *
 generalize txt y=t at *
 generalize natL x.natAbs=kx at *
 generalize natL y.natAbs=ky at *
 go_enter Tryz.func170, Tryz.ntmps170;go_wp2_with (first | (go_at_call 169; with_reducible refine (ca _).mono ?_;rintro e w1 ⟨rfl,hm⟩;have hb1:=Qai hm;clear hm) | (go_at_call 169; with_reducible refine (cb _).mono ?_;rintro e w2 ⟨rfl,hm⟩;have hb2:=Qai hm;clear hm) | (go_at_call 207; with_reducible refine (dx _).mono ?_;rintro e w3 ⟨v3,rfl,hv3,hb3⟩) | (go_at_call 207; with_reducible refine (dy _).mono ?_;rintro e w4 ⟨v4,rfl,hv4,hb4⟩;have hv5:=hv3.below hb4 Lr) | fail);go_ret;have q1:=hb1;have q2:=q1.trans (hb2.mono q1.size);have q3:=q2.trans (hb3.mono q2.size);have q4:=q3.trans (hb4.mono q3.size);exact ⟨rfl,q4⟩
theorem Qmm (x y:Int) (hx:Fits x) (hy:Fits y) (h1:0≤x) (h2:y<0) (w:World) :
  Calls Tryz.prog 170 #[Z (txt x),Z (txt y)] w fun e w'=>e = .returned (.int .i64 (cmpZ x y))∧Below w.heap.size w w':=by
 have lx:=Qcx hx;have ly:=Qcx hy;have ca:=fun W=>QaK x hx W;have cb:=fun W=>QaK y hy W;have dx:=fun W=>QaD x (by omega) W;have dy:=fun W=>QaD y (by omega) W;rw [decide_eq_false (by omega)] at dx;rw [decide_eq_true (by omega)] at dy;have hz:cmpZ x y=1:=by unfold cmpZ;(repeat' split) <;> omega
 rw [hz];clear hz h1 h2 hx hy lx ly;generalize txt x=s at *
 generalize txt y=t at *
 generalize natL x.natAbs=kx at *
 generalize natL y.natAbs=ky at *
 go_enter Tryz.func170, Tryz.ntmps170;go_wp2_with (first | (go_at_call 169; with_reducible refine (ca _).mono ?_;rintro e w1 ⟨rfl,hm⟩;have hb1:=Qai hm;clear hm) | (go_at_call 169; with_reducible refine (cb _).mono ?_;rintro e w2 ⟨rfl,hm⟩;have hb2:=Qai hm;clear hm) | (go_at_call 207; with_reducible refine (dx _).mono ?_;rintro e w3 ⟨v3,rfl,hv3,hb3⟩) | (go_at_call 207; with_reducible refine (dy _).mono ?_;rintro e w4 ⟨v4,rfl,hv4,hb4⟩;have hv5:=hv3.below hb4 Lr) | fail);go_ret;have q1:=hb1;have q2:=q1.trans (hb2.mono q1.size);have q3:=q2.trans (hb3.mono q2.size);have q4:=q3.trans (hb4.mono q3.size);exact ⟨rfl,q4⟩
theorem Qmn (x y:Int) (hx:Fits x) (hy:Fits y) (h1:0≤x) (h2:0≤y) (w:World) :
  Calls Tryz.prog 170 #[Z (txt x),Z (txt y)] w fun e w'=>e = .returned (.int .i64 (cmpZ x y))∧Below w.heap.size w w':=by
 have lx:=Qcx hx;have ly:=Qcx hy;have ca:=fun W=>QaK x hx W;have cb:=fun W=>QaK y hy W;have dx:=fun W=>QaD x (by omega) W;have dy:=fun W=>QaD y (by omega) W;rw [decide_eq_false (by omega)] at dx;rw [decide_eq_false (by omega)] at dy;have hz:cmpZ x y=cmpN x.natAbs y.natAbs:=by unfold cmpZ cmpN;(repeat' split) <;> omega
 rw [hz];have co:=fun (va vb:Value) (W:World) (ha:NI W va (natL x.natAbs)) (hb:NI W vb (natL y.natAbs))=>QdK x.natAbs y.natAbs va vb W ha hb (by omega) (by omega);generalize cmpN x.natAbs y.natAbs=cv at *
 clear hz h1 h2 hx hy lx ly;generalize txt x=s at *
 generalize txt y=t at *
 generalize natL x.natAbs=kx at *
 generalize natL y.natAbs=ky at *
 go_enter Tryz.func170, Tryz.ntmps170;go_wp2_with (first | (go_at_call 169; with_reducible refine (ca _).mono ?_;rintro e w1 ⟨rfl,hm⟩;have hb1:=Qai hm;clear hm) | (go_at_call 169; with_reducible refine (cb _).mono ?_;rintro e w2 ⟨rfl,hm⟩;have hb2:=Qai hm;clear hm) | (go_at_call 207; with_reducible refine (dx _).mono ?_;rintro e w3 ⟨v3,rfl,hv3,hb3⟩) | (go_at_call 207; with_reducible refine (dy _).mono ?_;rintro e w4 ⟨v4,rfl,hv4,hb4⟩;have hv5:=hv3.below hb4 Lr) | (go_at_call 208; refine (co v3 v4 w4 hv5 hv4).mono ?_;rintro e w5 ⟨rfl,hm⟩;have hb5:=Qai hm;clear hm));go_ret;have q1:=hb1;have q2:=q1.trans (hb2.mono q1.size);have q3:=q2.trans (hb3.mono q2.size);have q4:=q3.trans (hb4.mono q3.size);exact ⟨rfl,q4.trans (hb5.mono q4.size)⟩
theorem QjT (x y:Int) (hx:Fits x) (hy:Fits y) (w:World) :
  Calls Tryz.prog 170 #[Z (txt x),Z (txt y)] w fun e w'=>e = .returned (.int .i64 (cmpZ x y))∧Below w.heap.size w w':=by
 by_cases h1:x<0 <;> by_cases h2:y<0
 ·exact Qmk x y hx hy h1 h2 w
 ·exact Qml x y hx hy h1 (by omega) w
 ·exact Qmm x y hx hy (by omega) h2 w
 ·exact Qmn x y hx hy (by omega) (by omega) w
theorem Qof (x y:Int) (hx:Fits x) (hy:Fits y) (w:World) :
  Calls Tryz.prog 245 #[Z (txt x),Z (txt y)] w fun e w'=>e = .returned (QcC (x+y))∧Below w.heap.size w w':=by
 have lx:=Qcx hx;have ly:=Qcx hy;have ca:=fun W=>QaK x hx W;have cb:=fun W=>QaK y hy W;have dx:=fun W=>QaD x (by omega) W;have dy:=fun W=>QaD y (by omega) W
 have cs:∀ (va vb:Value) (W:World),NI W va (natL x.natAbs)→NI W vb (natL y.natAbs)→Calls Tryz.prog 209 #[.bool (decide (x<0)),va,.bool (decide (y<0)),vb] W fun e w'=>e = .returned (QcC (x+y))∧Below W.heap.size W w':=fun va vb W ha hb=>by
  have h:=Qoc (decide (x<0)) (decide (y<0)) x.natAbs y.natAbs va vb W ha hb (by omega) (by omega);rw [QjS,QjS] at h;exact h
 generalize x+y=z at *
 obtain ⟨r,c,hr⟩:=Qca z;rw [hr] at cs ⊢;clear hr hx hy lx ly;generalize txt x=s at *
 generalize txt y=t at *
 generalize decide (x<0)=sx at *
 generalize decide (y<0)=sy at *
 generalize natL x.natAbs=kx at *
 generalize natL y.natAbs=ky at *
 go_enter Tryz.func245, Tryz.ntmps245;go_wp2_with (first | (go_at_call 169; with_reducible refine (ca _).mono ?_;rintro e w1 ⟨rfl,hm⟩;have hb1:=Qai hm;clear hm) | (go_at_call 169; with_reducible refine (cb _).mono ?_;rintro e w2 ⟨rfl,hm⟩;have hb2:=Qai hm;clear hm) | (go_at_call 207; with_reducible refine (dx _).mono ?_;rintro e w3 ⟨v3,rfl,hv3,hb3⟩) | (go_at_call 207; with_reducible refine (dy _).mono ?_;rintro e w4 ⟨v4,rfl,hv4,hb4⟩;have hv5:=hv3.below hb4 Lr) | (go_at_call 209; refine (cs v3 v4 w4 hv5 hv4).mono ?_;rintro e w5 ⟨rfl,hb5⟩))
 go_ret2
 have q1:=hb1;have q2:=q1.trans (hb2.mono q1.size);have q3:=q2.trans (hb3.mono q2.size);have q4:=q3.trans (hb4.mono q3.size);exact ⟨rfl,q4.trans (hb5.mono q4.size)⟩
theorem QjU (x y:Int) (hx:Fits x) (hy:Fits y) (w:World) :
  Calls Tryz.prog 171 #[Z (txt x),Z (txt y)] w fun e w'=>e = .returned (QcC (x-y))∧Below w.heap.size w w':=by
 have lx:=Qcx hx;have ly:=Qcx hy;have ca:=fun W=>QaK x hx W;have cb:=fun W=>QaK y hy W;have dx:=fun W=>QaD x (by omega) W;have dy:=fun W=>QaD y (by omega) W
 have cs:∀ (va vb:Value) (W:World),NI W va (natL x.natAbs)→NI W vb (natL y.natAbs)→Calls Tryz.prog 209 #[.bool (decide (x<0)),va,.bool (!decide (y<0)),vb] W fun e w'=>e = .returned (QcC (x-y))∧Below W.heap.size W w':=fun va vb W ha hb=>by
  have h:=Qoc (decide (x<0)) (!decide (y<0)) x.natAbs y.natAbs va vb W ha hb (by omega) (by omega);rw [Qur,QjS,QjS,←Int.sub_eq_add_neg] at h;exact h
 generalize x-y=z at *
 obtain ⟨r,c,hr⟩:=Qca z;rw [hr] at cs ⊢;clear hr hx hy lx ly;generalize txt x=s at *
 generalize txt y=t at *
 generalize decide (x<0)=sx at *
 generalize decide (y<0)=sy at *
 generalize natL x.natAbs=kx at *
 generalize natL y.natAbs=ky at *
 go_enter Tryz.func171, Tryz.ntmps171;go_wp2_with (first | (go_at_call 169; with_reducible refine (ca _).mono ?_;rintro e w1 ⟨rfl,hm⟩;have hb1:=Qai hm;clear hm) | (go_at_call 169; with_reducible refine (cb _).mono ?_;rintro e w2 ⟨rfl,hm⟩;have hb2:=Qai hm;clear hm) | (go_at_call 207; with_reducible refine (dx _).mono ?_;rintro e w3 ⟨v3,rfl,hv3,hb3⟩) | (go_at_call 207; with_reducible refine (dy _).mono ?_;rintro e w4 ⟨v4,rfl,hv4,hb4⟩;have hv5:=hv3.below hb4 Lr) | (go_at_call 209; refine (cs v3 v4 w4 hv5 hv4).mono ?_;rintro e w5 ⟨rfl,hb5⟩))
 go_ret2
 have q1:=hb1;have q2:=q1.trans (hb2.mono q1.size);have q3:=q2.trans (hb3.mono q2.size);have q4:=q3.trans (hb4.mono q3.size);exact ⟨rfl,q4.trans (hb5.mono q4.size)⟩
theorem Qog (x y:Int) (hx:Fits x) (hy:Fits y) (w:World) :
  Calls Tryz.prog 243 #[Z (txt x),Z (txt y)] w fun e w'=>e = .returned (QcC (x*y))∧Below w.heap.size w w':=by
 have lx:=Qcx hx;have ly:=Qcx hy;have ca:=fun W=>QaK x hx W;have cb:=fun W=>QaK y hy W;have dx:=fun W=>QaD x (by omega) W;have dy:=fun W=>QaD y (by omega) W;have ct:=fun (va vb:Value) (W:World) (ha:NI W va (natL x.natAbs)) (hb:NI W vb (natL y.natAbs))=>Qoa x.natAbs y.natAbs va vb W ha hb (by omega) (by omega);have hlen:=Qsz lx ly
 have cs:∀ (v:Value) (W:World),NI W v (natL (x.natAbs*y.natAbs))→Calls Tryz.prog 211 #[.bool (decide (x<0) != decide (y<0)),v] W fun e w'=>e = .returned (QcC (x*y))∧Below W.heap.size W w':=fun v W h=>by
  have hc:=Qbg (decide (x<0) != decide (y<0)) (x.natAbs*y.natAbs) v W h hlen;rw [Qus,QjS,QjS] at hc;exact hc
 clear hlen;generalize natL (x.natAbs*y.natAbs)=kz at *
 generalize x*y=z at *
 obtain ⟨r,c,hr⟩:=Qca z;rw [hr] at cs ⊢;clear hr hx hy lx ly;generalize txt x=s at *
 generalize txt y=t at *
 generalize decide (x<0)=sx at *
 generalize decide (y<0)=sy at *
 generalize natL x.natAbs=kx at *
 generalize natL y.natAbs=ky at *
 go_enter Tryz.func243, Tryz.ntmps243;go_wp2_with (first | (go_at_call 169; with_reducible refine (ca _).mono ?_;rintro e w1 ⟨rfl,hm⟩;have hb1:=Qai hm;clear hm) | (go_at_call 169; with_reducible refine (cb _).mono ?_;rintro e w2 ⟨rfl,hm⟩;have hb2:=Qai hm;clear hm) | (go_at_call 207; with_reducible refine (dx _).mono ?_;rintro e w3 ⟨v3,rfl,hv3,hb3⟩) | (go_at_call 207; with_reducible refine (dy _).mono ?_;rintro e w4 ⟨v4,rfl,hv4,hb4⟩;have hv5:=hv3.below hb4 Lr) | (go_at_call 246; refine (ct v3 v4 w4 hv5 hv4).mono ?_;rintro e w5 ⟨v5,rfl,hw5,hb5⟩) | (go_at_call 211; refine (cs v5 w5 hw5).mono ?_;rintro e w6 ⟨rfl,hb6⟩))
 go_ret2
 have q1:=hb1;have q2:=q1.trans (hb2.mono q1.size);have q3:=q2.trans (hb3.mono q2.size);have q4:=q3.trans (hb4.mono q3.size);have q5:=q4.trans (hb5.mono q4.size);exact ⟨rfl,q5.trans (hb6.mono q5.size)⟩
/-! ### what is not valid -/
theorem Qgi (s t:ByteArray) (hs:s.size≤1000000) (ht:t.size≤1000000) (h:Qap s=false∨Qap t=false) (w:World) :
  Calls Tryz.prog 170 #[Z s,Z t] w fun e w'=>e = .returned (.int .i64 0)∧Below w.heap.size w w':=by
 have ca:=fun W=>QbO s hs W;have cb:=fun W=>QbO t ht W;clear hs ht;generalize Qap s=bs at *
 generalize Qap t=bt at *
 go_enter Tryz.func170, Tryz.ntmps170;cases bs
 ·clear h;go_wp2_with (go_at_call 169; with_reducible refine (ca _).mono ?_;rintro e w1 ⟨rfl,hm⟩;have hb1:=Qai hm;clear hm);go_ret;exact ⟨rfl,hb1⟩
 ·obtain rfl:bt=false:=by simpa using h
  clear h;go_wp2_with (first | (go_at_call 169; with_reducible refine (ca _).mono ?_;rintro e w1 ⟨rfl,hm⟩;have hb1:=Qai hm;clear hm) | (go_at_call 169; with_reducible refine (cb _).mono ?_;rintro e w2 ⟨rfl,hm⟩;have hb2:=Qai hm;clear hm));go_ret;exact ⟨rfl,hb1.trans (hb2.mono hb1.size)⟩
theorem Qny (s t:ByteArray) (hs:s.size≤1000000) (ht:t.size≤1000000) (h:Qap s=false∨Qap t=false) (w:World) :
  Calls Tryz.prog 245 #[Z s,Z t] w fun e w'=>e = .returned (.tuple #[Z ⟨#[]⟩,.int .i64 30])∧Below w.heap.size w w':=by
 have ca:=fun W=>QbO s hs W;have cb:=fun W=>QbO t ht W;clear hs ht;generalize Qap s=bs at *
 generalize Qap t=bt at *
 go_enter Tryz.func245, Tryz.ntmps245;cases bs
 ·clear h;go_wp2_with (go_at_call 169; with_reducible refine (ca _).mono ?_;rintro e w1 ⟨rfl,hm⟩;have hb1:=Qai hm;clear hm)
  go_ret2
  exact ⟨rfl,hb1⟩
 ·obtain rfl:bt=false:=by simpa using h
  clear h;go_wp2_with (first | (go_at_call 169; with_reducible refine (ca _).mono ?_;rintro e w1 ⟨rfl,hm⟩;have hb1:=Qai hm;clear hm) | (go_at_call 169; with_reducible refine (cb _).mono ?_;rintro e w2 ⟨rfl,hm⟩;have hb2:=Qai hm;clear hm))
  go_ret2
  exact ⟨rfl,hb1.trans (hb2.mono hb1.size)⟩
theorem Qnz (s t:ByteArray) (hs:s.size≤1000000) (ht:t.size≤1000000) (h:Qap s=false∨Qap t=false) (w:World) :
  Calls Tryz.prog 171 #[Z s,Z t] w fun e w'=>e = .returned (.tuple #[Z ⟨#[]⟩,.int .i64 30])∧Below w.heap.size w w':=by
 have ca:=fun W=>QbO s hs W;have cb:=fun W=>QbO t ht W;clear hs ht;generalize Qap s=bs at *
 generalize Qap t=bt at *
 go_enter Tryz.func171, Tryz.ntmps171;cases bs
 ·clear h;go_wp2_with (go_at_call 169; with_reducible refine (ca _).mono ?_;rintro e w1 ⟨rfl,hm⟩;have hb1:=Qai hm;clear hm)
  go_ret2
  exact ⟨rfl,hb1⟩
 ·obtain rfl:bt=false:=by simpa using h
  clear h;go_wp2_with (first | (go_at_call 169; with_reducible refine (ca _).mono ?_;rintro e w1 ⟨rfl,hm⟩;have hb1:=Qai hm;clear hm) | (go_at_call 169; with_reducible refine (cb _).mono ?_;rintro e w2 ⟨rfl,hm⟩;have hb2:=Qai hm;clear hm))
  go_ret2
  exact ⟨rfl,hb1.trans (hb2.mono hb1.size)⟩
theorem QnA (s t:ByteArray) (hs:s.size≤1000000) (ht:t.size≤1000000) (h:Qap s=false∨Qap t=false) (w:World) :
  Calls Tryz.prog 243 #[Z s,Z t] w fun e w'=>e = .returned (.tuple #[Z ⟨#[]⟩,.int .i64 30])∧Below w.heap.size w w':=by
 have ca:=fun W=>QbO s hs W;have cb:=fun W=>QbO t ht W;clear hs ht;generalize Qap s=bs at *
 generalize Qap t=bt at *
 go_enter Tryz.func243, Tryz.ntmps243;cases bs
 ·clear h;go_wp2_with (go_at_call 169; with_reducible refine (ca _).mono ?_;rintro e w1 ⟨rfl,hm⟩;have hb1:=Qai hm;clear hm)
  go_ret2
  exact ⟨rfl,hb1⟩
 ·obtain rfl:bt=false:=by simpa using h
  clear h;go_wp2_with (first | (go_at_call 169; with_reducible refine (ca _).mono ?_;rintro e w1 ⟨rfl,hm⟩;have hb1:=Qai hm;clear hm) | (go_at_call 169; with_reducible refine (cb _).mono ?_;rintro e w2 ⟨rfl,hm⟩;have hb2:=Qai hm;clear hm))
  go_ret2
  exact ⟨rfl,hb1.trans (hb2.mono hb1.size)⟩
theorem Qgy {x y:Int} (hx:Fits x) (hy:y≠0):Fits (x / y):=by
 have h0:(x / y).natAbs≤x.natAbs:=by
  by_cases hc:x<0∧0<x.natAbs % y.natAbs
  ·obtain ⟨_,h2,_,_⟩:=Qdg x y hy _ _ (.inr ⟨hc.1,hc.2,rfl,rfl⟩)
   have hy2:2≤y.natAbs:=by
    rcases Nat.lt_or_ge y.natAbs 2 with h | h
    ·have h1:y.natAbs=1:=by omega
     rw [h1,Nat.mod_one] at hc;omega
    ·exact h
   have h3:x.natAbs / y.natAbs≤x.natAbs / 2:=Nat.div_le_div_left hy2 (by decide);omega
  ·obtain ⟨_,h2,_,_⟩:=Qdg x y hy _ _ (.inl ⟨hc,rfl,rfl⟩);have:=Nat.div_le_self x.natAbs y.natAbs;omega
 unfold Fits;rw [QcD];exact Nat.le_trans (Qal h0) (Qcx hx)
theorem Qut (W:World):NI (W.alloc (O #[.int .i64 1] 3)) (.slice (some ⟨W.heap.size,0,none⟩) 1 1) (natL 1):=by
 have h:natL 1 = [1]:=by decide +kernel
 rw [h];exact (OwnJ.one W 0 1 (Nat.zero_le _)).ni
theorem QjV (x y:Int) (hy:y≠0) (Q R:Nat) (h:(¬(x<0∧0<x.natAbs % y.natAbs)∧Q=x.natAbs / y.natAbs∧R=x.natAbs % y.natAbs)∨(x<0∧0<x.natAbs % y.natAbs∧Q=x.natAbs / y.natAbs+1∧R=y.natAbs-x.natAbs % y.natAbs)) :
  sg (decide (x<0) != decide (y<0)) Q=x / y∧sg false R=x % y:=by
 obtain ⟨h1,h2⟩:=QkB x y hy Q R h;rw [h1,h2];cases decide (x<0) <;> cases decide (y<0) <;> exact ⟨rfl,rfl⟩
theorem QsA (x y:Int) (hx:Fits x) (hy:Fits y) (h0:y≠0) (hs:0≤x) (w:World) :
  Calls Tryz.prog 173 #[Z (txt x),Z (txt y)] w fun e w'=>e = .returned (.tuple #[Z (txt (x / y)),Z (txt (x % y)),.int .i64 0])∧Below w.heap.size w w':=by
 have lx:=Qcx hx;have ly:=Qcx hy;have ca:=fun W=>QaK x hx W;have cb:=fun W=>QaK y hy W;have dx:=fun W=>QaD x (by omega) W;have dy:=fun W=>QaD y (by omega) W;have hf:=Qgy hx h0
 have hz:((txt y).toList == [48])=false:=by
  rw [Qer,decide_eq_false_iff_not];intro e;exact h0 (Qcv (e.trans txt_0.symm))
 have hn0:y.natAbs≠0:=by omega
 have hmod:=Nat.mod_lt x.natAbs (show 0<y.natAbs by omega);have cd:=fun (va vb:Value) (W:World) (ha:NI W va (natL x.natAbs)) (hb:NI W vb (natL y.natAbs))=>Qds x.natAbs y.natAbs hn0 va vb W ha hb (by omega) (by omega);have hQR:=QjV x y h0 (x.natAbs / y.natAbs) (x.natAbs % y.natAbs) (.inl ⟨by omega,rfl,rfl⟩);have hlQ:(natL (x.natAbs / y.natAbs)).length≤1000:=by have:=Qgw (nx:=x.natAbs / y.natAbs) (ny:=1) (k:=200) (Nat.le_trans (Qal (Nat.div_le_self _ _)) lx) (by decide +kernel);have h2:=Qal (show x.natAbs / y.natAbs≤x.natAbs / y.natAbs+1 by omega);omega
 have hlR:(natL (x.natAbs % y.natAbs)).length≤1000:=by have h2:=Qal (show x.natAbs % y.natAbs≤y.natAbs by omega);omega
 have cs:∀ (v:Value) (W:World),NI W v (natL (x.natAbs / y.natAbs))→Calls Tryz.prog 211 #[.bool (decide (x<0) != decide (y<0)),v] W fun e w'=>e = .returned (.tuple #[Z (txt (x / y)),.int .i64 0])∧Below W.heap.size W w':=fun v W h=>by
  have hc:=Qbg (decide (x<0) != decide (y<0)) (x.natAbs / y.natAbs) v W h hlQ;rw [hQR.1,Qav hf] at hc;exact hc
 have cx:∀ (v:Value) (W:World),NI W v (natL (x.natAbs % y.natAbs))→Calls Tryz.prog 174 #[.bool false,v] W fun e w'=>e = .returned (.tuple #[Z (txt (x % y)),.bool (decide ((natL (x.natAbs % y.natAbs)).length≤200))])∧Below W.heap.size W w':=fun v W h=>by
  have hc:=QdL (x.natAbs % y.natAbs) false v W h hlR;rw [hQR.2] at hc;exact hc
 rw [decide_eq_false (show ¬ x<0 by omega)] at dx cs;clear hQR hf hx hy;clear hn0 hmod hlQ hlR lx ly h0 hs;generalize txt x=s at *
 generalize txt y=t at *
 generalize decide (y<0)=sy at *
 simp only [Bool.false_bne] at cs;generalize txt (x / y)=tq at *
 generalize txt (x % y)=tr at *
 generalize decide ((natL (x.natAbs % y.natAbs)).length≤200)=fb at *
 generalize natL x.natAbs=kx at *
 generalize natL y.natAbs=ky at *
 generalize natL (x.natAbs / y.natAbs)=kq at *
 generalize natL (x.natAbs % y.natAbs)=kr at *
 go_enter Tryz.func173, Tryz.ntmps173;go_wp2_with (first | (go_at_call 169; with_reducible refine (ca _).mono ?_;rintro e w1 ⟨rfl,hm⟩;have hb1:=Qai hm;clear hm) | (go_at_call 169; with_reducible refine (cb _).mono ?_;rintro e w2 ⟨rfl,hm⟩;have hb2:=Qai hm;clear hm) | (go_at_call 207; with_reducible refine (dx _).mono ?_;rintro e w3 ⟨v3,rfl,hv3,hb3⟩) | (go_at_call 207; with_reducible refine (dy _).mono ?_;rintro e w4 ⟨v4,rfl,hv4,hb4⟩;have hv5:=hv3.below hb4 Lr) | (go_at_call 210; with_reducible refine (cd v3 v4 w4 hv5 hv4).mono ?_;rintro e w5 ⟨vq,vr,rfl,hq,hr,hb5⟩;have hr0:=hr;obtain ⟨pr,cr,gr,og,rfl,_,_,_,_⟩:=hr.open;(try rw [hkr] at hr0)) | fail | (go_at_call 211; with_reducible refine (cs vq w5 hq).mono ?_;rintro e w7 ⟨rfl,hb7⟩) | (go_at_call 174; with_reducible refine (cx _ _ (hr0.below hb7 Lr)).mono ?_;rintro e w8 ⟨rfl,hb8⟩))
 go_ret3
 have q1:=hb1;have q2:=q1.trans (hb2.mono q1.size);have q3:=q2.trans (hb3.mono q2.size);have q4:=q3.trans (hb4.mono q3.size);have q5:=q4.trans (hb5.mono q4.size);have q7:=q5.trans (hb7.mono q5.size);exact ⟨rfl,q7.trans (hb8.mono q7.size)⟩
theorem QpY (x y:Int) (hx:Fits x) (hy:Fits y) (h0:y≠0) (hs:x<0) (hr1:x.natAbs % y.natAbs=0) (w:World) :
  Calls Tryz.prog 173 #[Z (txt x),Z (txt y)] w fun e w'=>e = .returned (.tuple #[Z (txt (x / y)),Z (txt (x % y)),.int .i64 0])∧Below w.heap.size w w':=by
 have lx:=Qcx hx;have ly:=Qcx hy;have ca:=fun W=>QaK x hx W;have cb:=fun W=>QaK y hy W;have dx:=fun W=>QaD x (by omega) W;have dy:=fun W=>QaD y (by omega) W;have hf:=Qgy hx h0
 have hz:((txt y).toList == [48])=false:=by
  rw [Qer,decide_eq_false_iff_not];intro e;exact h0 (Qcv (e.trans txt_0.symm))
 have hn0:y.natAbs≠0:=by omega
 have hmod:=Nat.mod_lt x.natAbs (show 0<y.natAbs by omega);have cd:=fun (va vb:Value) (W:World) (ha:NI W va (natL x.natAbs)) (hb:NI W vb (natL y.natAbs))=>Qds x.natAbs y.natAbs hn0 va vb W ha hb (by omega) (by omega);have hQR:=QjV x y h0 (x.natAbs / y.natAbs) (x.natAbs % y.natAbs) (.inl ⟨by omega,rfl,rfl⟩);have hlQ:(natL (x.natAbs / y.natAbs)).length≤1000:=by have:=Qgw (nx:=x.natAbs / y.natAbs) (ny:=1) (k:=200) (Nat.le_trans (Qal (Nat.div_le_self _ _)) lx) (by decide +kernel);have h2:=Qal (show x.natAbs / y.natAbs≤x.natAbs / y.natAbs+1 by omega);omega
 have hlR:(natL (x.natAbs % y.natAbs)).length≤1000:=by have h2:=Qal (show x.natAbs % y.natAbs≤y.natAbs by omega);omega
 have cs:∀ (v:Value) (W:World),NI W v (natL (x.natAbs / y.natAbs))→Calls Tryz.prog 211 #[.bool (decide (x<0) != decide (y<0)),v] W fun e w'=>e = .returned (.tuple #[Z (txt (x / y)),.int .i64 0])∧Below W.heap.size W w':=fun v W h=>by
  have hc:=Qbg (decide (x<0) != decide (y<0)) (x.natAbs / y.natAbs) v W h hlQ;rw [hQR.1,Qav hf] at hc;exact hc
 have cx:∀ (v:Value) (W:World),NI W v (natL (x.natAbs % y.natAbs))→Calls Tryz.prog 174 #[.bool false,v] W fun e w'=>e = .returned (.tuple #[Z (txt (x % y)),.bool (decide ((natL (x.natAbs % y.natAbs)).length≤200))])∧Below W.heap.size W w':=fun v W h=>by
  have hc:=QdL (x.natAbs % y.natAbs) false v W h hlR;rw [hQR.2] at hc;exact hc
 have hkr:(natL (x.natAbs % y.natAbs)).length=0:=QaF.2 hr1;rw [decide_eq_true hs] at dx cs;clear hQR hf hx hy;clear hn0 hmod hlQ hlR lx ly h0 hs hr1;generalize txt x=s at *
 generalize txt y=t at *
 generalize decide (y<0)=sy at *
 simp only [Bool.true_bne] at cs;generalize txt (x / y)=tq at *
 generalize txt (x % y)=tr at *
 generalize decide ((natL (x.natAbs % y.natAbs)).length≤200)=fb at *
 generalize natL x.natAbs=kx at *
 generalize natL y.natAbs=ky at *
 generalize natL (x.natAbs / y.natAbs)=kq at *
 generalize natL (x.natAbs % y.natAbs)=kr at *
 go_enter Tryz.func173, Tryz.ntmps173;go_wp2_with (first | (go_at_call 169; with_reducible refine (ca _).mono ?_;rintro e w1 ⟨rfl,hm⟩;have hb1:=Qai hm;clear hm) | (go_at_call 169; with_reducible refine (cb _).mono ?_;rintro e w2 ⟨rfl,hm⟩;have hb2:=Qai hm;clear hm) | (go_at_call 207; with_reducible refine (dx _).mono ?_;rintro e w3 ⟨v3,rfl,hv3,hb3⟩) | (go_at_call 207; with_reducible refine (dy _).mono ?_;rintro e w4 ⟨v4,rfl,hv4,hb4⟩;have hv5:=hv3.below hb4 Lr) | (go_at_call 210; with_reducible refine (cd v3 v4 w4 hv5 hv4).mono ?_;rintro e w5 ⟨vq,vr,rfl,hq,hr,hb5⟩;have hr0:=hr;obtain ⟨pr,cr,gr,og,rfl,_,_,_,_⟩:=hr.open;(try rw [hkr] at hr0)) | fail | (go_at_call 211; with_reducible refine (cs vq w5 hq).mono ?_;rintro e w7 ⟨rfl,hb7⟩) | (go_at_call 174; with_reducible refine (cx _ _ (hr0.below hb7 Lr)).mono ?_;rintro e w8 ⟨rfl,hb8⟩))
 go_ret3
 have q1:=hb1;have q2:=q1.trans (hb2.mono q1.size);have q3:=q2.trans (hb3.mono q2.size);have q4:=q3.trans (hb4.mono q3.size);have q5:=q4.trans (hb5.mono q4.size);have q7:=q5.trans (hb7.mono q5.size);exact ⟨rfl,q7.trans (hb8.mono q7.size)⟩
theorem QsB (x y:Int) (hx:Fits x) (hy:Fits y) (h0:y≠0) (hs:x<0) (hr1:0<x.natAbs % y.natAbs) (w:World) :
  Calls Tryz.prog 173 #[Z (txt x),Z (txt y)] w fun e w'=>e = .returned (.tuple #[Z (txt (x / y)),Z (txt (x % y)),.int .i64 0])∧Below w.heap.size w w':=by
 have lx:=Qcx hx;have ly:=Qcx hy;have ca:=fun W=>QaK x hx W;have cb:=fun W=>QaK y hy W;have dx:=fun W=>QaD x (by omega) W;have dy:=fun W=>QaD y (by omega) W;have hf:=Qgy hx h0
 have hz:((txt y).toList == [48])=false:=by
  rw [Qer,decide_eq_false_iff_not];intro e;exact h0 (Qcv (e.trans txt_0.symm))
 have hn0:y.natAbs≠0:=by omega
 have hmod:=Nat.mod_lt x.natAbs (show 0<y.natAbs by omega);have cd:=fun (va vb:Value) (W:World) (ha:NI W va (natL x.natAbs)) (hb:NI W vb (natL y.natAbs))=>Qds x.natAbs y.natAbs hn0 va vb W ha hb (by omega) (by omega);have hQR:=QjV x y h0 (x.natAbs / y.natAbs+1) (y.natAbs-x.natAbs % y.natAbs) (.inr ⟨hs,hr1,rfl,rfl⟩);have hlQ:(natL (x.natAbs / y.natAbs+1)).length≤1000:=by have:=Qgw (nx:=x.natAbs / y.natAbs) (ny:=1) (k:=200) (Nat.le_trans (Qal (Nat.div_le_self _ _)) lx) (by decide +kernel);have h2:=Qal (show x.natAbs / y.natAbs+1≤x.natAbs / y.natAbs+1 by omega);omega
 have hlR:(natL (y.natAbs-x.natAbs % y.natAbs)).length≤1000:=by have h2:=Qal (show y.natAbs-x.natAbs % y.natAbs≤y.natAbs by omega);omega
 have cs:∀ (v:Value) (W:World),NI W v (natL (x.natAbs / y.natAbs+1))→Calls Tryz.prog 211 #[.bool (decide (x<0) != decide (y<0)),v] W fun e w'=>e = .returned (.tuple #[Z (txt (x / y)),.int .i64 0])∧Below W.heap.size W w':=fun v W h=>by
  have hc:=Qbg (decide (x<0) != decide (y<0)) (x.natAbs / y.natAbs+1) v W h hlQ;rw [hQR.1,Qav hf] at hc;exact hc
 have cx:∀ (v:Value) (W:World),NI W v (natL (y.natAbs-x.natAbs % y.natAbs))→Calls Tryz.prog 174 #[.bool false,v] W fun e w'=>e = .returned (.tuple #[Z (txt (x % y)),.bool (decide ((natL (y.natAbs-x.natAbs % y.natAbs)).length≤200))])∧Below W.heap.size W w':=fun v W h=>by
  have hc:=QdL (y.natAbs-x.natAbs % y.natAbs) false v W h hlR;rw [hQR.2] at hc;exact hc
 have hkr:0<(natL (x.natAbs % y.natAbs)).length:=by
  rcases Nat.eq_zero_or_pos (natL (x.natAbs % y.natAbs)).length with h | h
  ·have:=QaF.1 h;omega
  ·exact h
 have hlq:(natL (x.natAbs / y.natAbs)).length≤1000:=by have:=Qal (Nat.div_le_self x.natAbs y.natAbs);omega
 have cp:=fun (va vb:Value) (W:World) (ha:NI W va (natL (x.natAbs / y.natAbs))) (hb:NI W vb (natL 1))=>QhW (x.natAbs / y.natAbs) 1 va vb W ha hb (by omega) (Nat.le_trans (show (natL 1).length≤1 by decide +kernel) (by decide));have cm:=fun (va vb:Value) (W:World) (ha:NI W va (natL y.natAbs)) (hb:NI W vb (natL (x.natAbs % y.natAbs)))=>Qdi y.natAbs (x.natAbs % y.natAbs) (by omega) va vb W ha hb (by omega);clear hlq;rw [decide_eq_true hs] at dx cs;clear hQR hf hx hy;clear hn0 hmod hlQ hlR lx ly h0 hs hr1;generalize txt x=s at *
 generalize txt y=t at *
 generalize decide (y<0)=sy at *
 simp only [Bool.true_bne] at cs;generalize txt (x / y)=tq at *
 generalize txt (x % y)=tr at *
 generalize decide ((natL (y.natAbs-x.natAbs % y.natAbs)).length≤200)=fb at *
 generalize natL (x.natAbs / y.natAbs+1)=kq1 at *
 generalize natL (y.natAbs-x.natAbs % y.natAbs)=kr1 at *
 generalize natL x.natAbs=kx at *
 generalize natL y.natAbs=ky at *
 generalize natL (x.natAbs / y.natAbs)=kq at *
 generalize natL (x.natAbs % y.natAbs)=kr at *
 have hki:(0:Int)<(kr.length:Int):=by omega
 go_enter Tryz.func173, Tryz.ntmps173;go_wp2_with (first | (go_at_call 169; with_reducible refine (ca _).mono ?_;rintro e w1 ⟨rfl,hm⟩;have hb1:=Qai hm;clear hm) | (go_at_call 169; with_reducible refine (cb _).mono ?_;rintro e w2 ⟨rfl,hm⟩;have hb2:=Qai hm;clear hm) | (go_at_call 207; with_reducible refine (dx _).mono ?_;rintro e w3 ⟨v3,rfl,hv3,hb3⟩) | (go_at_call 207; with_reducible refine (dy _).mono ?_;rintro e w4 ⟨v4,rfl,hv4,hb4⟩;have hv5:=hv3.below hb4 Lr) | (go_at_call 210; with_reducible refine (cd v3 v4 w4 hv5 hv4).mono ?_;rintro e w5 ⟨vq,vr,rfl,hq,hr,hb5⟩;have hr0:=hr;obtain ⟨pr,cr,gr,og,rfl,_,_,_,_⟩:=hr.open;(try rw [hkr] at hr0)) | (go_at_call 212; with_reducible refine (cp vq _ _ (hq.below ((Below.refl _ w5).alloc Lr _) Lr) (Qut w5)).mono ?_;rintro e w6 ⟨v6,rfl,hq6,hb6a⟩;have hA:=(Below.refl w5.heap.size w5).alloc Lr (O #[.int .i64 1] 3);have hb6:=hA.trans (hb6a.mono hA.size);clear hA hb6a;have hv6:=(hv4.below hb5 Lr).below hb6 Lr;have hr6:=hr0.below hb6 Lr) | (go_at_call 213; with_reducible refine (cm v4 _ w6 hv6 hr6).mono ?_;rintro e w9 ⟨v9,rfl,hv9,_,hb9⟩;have hq9:=hq6.below hb9 Lr) | (go_at_call 211; with_reducible refine (cs v6 w9 hq9).mono ?_;rintro e w7 ⟨rfl,hb7⟩) | (go_at_call 174; with_reducible refine (cx v9 _ (hv9.below hb7 Lr)).mono ?_;rintro e w8 ⟨rfl,hb8⟩))
 go_ret3
 have q1:=hb1;have q2:=q1.trans (hb2.mono q1.size);have q3:=q2.trans (hb3.mono q2.size);have q4:=q3.trans (hb4.mono q3.size);have q5:=q4.trans (hb5.mono q4.size);have q6:=q5.trans (hb6.mono q5.size);have q9:=q6.trans (hb9.mono q6.size);have q7:=q9.trans (hb7.mono q9.size);exact ⟨rfl,q7.trans (hb8.mono q7.size)⟩
theorem QsC (x y:Int) (hx:Fits x) (hy:Fits y) (h0:y≠0) (w:World) :
  Calls Tryz.prog 173 #[Z (txt x),Z (txt y)] w fun e w'=>e = .returned (.tuple #[Z (txt (x / y)),Z (txt (x % y)),.int .i64 0])∧Below w.heap.size w w':=by
 by_cases hs:x<0
 ·rcases Nat.eq_zero_or_pos (x.natAbs % y.natAbs) with h | h
  ·exact QpY x y hx hy h0 hs h w
  ·exact QsB x y hx hy h0 hs h w
 ·exact QsA x y hx hy h0 (by omega) w
def GR (w wr:World) (kv lv:Value) (a b G:Nat):Prop :=
 NI wr kv (natL a)∧NI wr lv (natL b)∧(natL a).length≤200∧(natL b).length≤200∧Nat.gcd a b=G∧Below w.heap.size w wr
theorem QsD (x y:Int) (hx:Fits x) (hy:Fits y) (w:World) :
  Calls Tryz.prog 172 #[Z (txt x),Z (txt y)] w fun e w'=>e = .returned (.tuple #[Z (txt (Nat.gcd x.natAbs y.natAbs:Nat)),.int .i64 0])∧Below w.heap.size w w':=by
 have lx:=Qcx hx;have ly:=Qcx hy;have ca:=fun W=>QaK x hx W;have cb:=fun W=>QaK y hy W;have dx:=fun W=>QaD x (by omega) W;have dy:=fun W=>QaD y (by omega) W;generalize txt x=s at *
 generalize txt y=t at *
 clear hx hy;obtain ⟨G,hG⟩:∃ G,G=Nat.gcd x.natAbs y.natAbs:=⟨_,rfl⟩;rw [←hG];obtain ⟨r,hr⟩:∃ r,r=txt (G:Int):=⟨_,rfl⟩;rw [←hr];have HR:Shut _:=⟨hr⟩;clear hr;generalize decide (x<0)=sx at *
 generalize decide (y<0)=sy at *
 generalize x.natAbs=a0 at *
 generalize y.natAbs=b0 at *
 clear x y;have HL:Shut _:=⟨And.intro lx (And.intro ly hG)⟩;clear lx ly hG;go_enter Tryz.func172, Tryz.ntmps172;go_wp2_with (first | (go_at_call 169; with_reducible refine (ca _).mono ?_;rintro e w1 ⟨rfl,hm⟩;have hb1:=Qai hm;clear hm) | (go_at_call 169; with_reducible refine (cb _).mono ?_;rintro e w2 ⟨rfl,hm⟩;have hb2:=Qai hm;clear hm) | (go_at_call 207; with_reducible refine (dx _).mono ?_;rintro e w3 ⟨v3,rfl,hv3,hb3⟩) | (go_at_call 207; with_reducible refine (dy _).mono ?_;rintro e w4 ⟨v4,rfl,hv4,hb4⟩;have hv5:=hv3.below hb4 Lr));have q1:=hb1;have q2:=q1.trans (hb2.mono q1.size);have q3:=q2.trans (hb3.mono q2.size);have q4:=q3.trans (hb4.mono q3.size);have HS:Shut (GR w w4 v3 v4 a0 b0 G):=⟨⟨hv5,hv4,HL.o.1,HL.o.2.1,HL.o.2.2.symm,q4⟩⟩;clear hv3 hv4 hv5 hb1 hb2 hb3 hb4 q1 q2 q3 q4 HL ca cb dx dy
 go_loopw [7,9] (fun kv lv wr=>∃ a b:Nat,Shut (GR w wr kv lv a b G)) (fun _ lv wr=>numI wr lv)
 case atStart=>exact ⟨a0,b0,HS⟩
 case round =>
  rename World=>wo
  clear HS;obtain ⟨a,b,hS⟩:=hrel;obtain ⟨pl,cl,gl,ol,rfl,_,_,_,_⟩:=hS.o.2.1.open;obtain ⟨nl,hnl⟩:∃ nl,nl=(natL b).length:=⟨_,rfl⟩;have HNL:Shut _:=⟨hnl⟩;rw [←hnl] at hS ⊢;clear hnl;by_cases hb0:b=0
  ·have hn0:nl=0:=by rw [HNL.o,hb0,Qau];rfl
   have hc:=Qbg false G u7 wo (by have:=hS.o.1;have h2:=hS.o.2.2.2.2.1;rw [hb0,Nat.gcd_zero_right] at h2;rw [←h2];exact this) (by have h2:=hS.o.2.2.2.2.1;rw [hb0,Nat.gcd_zero_right] at h2;have:=hS.o.2.2.1;rw [←h2];omega);rw [show sg false G=(G:Int) from rfl,Qav (by have h2:=hS.o.2.2.2.2.1;rw [hb0,Nat.gcd_zero_right] at h2;have h3:=hS.o.2.2.1;unfold Fits;rw [QcD,Int.natAbs_natCast,←h2];exact h3)] at hc;have HB:Shut _:=⟨hS.o.2.2.2.2.2⟩;have hli:¬(0:Int)<(nl:Int):=by omega
   clear hS HNL hb0 hn0;rw [←HR.o] at hc;go_wp2_with (go_at_call 211; with_reducible refine hc.mono ?_;rintro e w5 ⟨rfl,hb5⟩)
   go_ret2
   exact ⟨rfl,HB.o.trans (hb5.mono HB.o.size)⟩
  ·have hli:(0:Int)<(nl:Int):=by have:=mt QaF.1 hb0;have:=HNL.o;omega
   have cd:=Qds a b hb0 u7 (.slice pl nl cl) wo hS.o.1 hS.o.2.1 (by have:=hS.o.2.2.1;omega) (by have:=hS.o.2.2.2.1;omega);have hnum:=QhX hS.o.2.1;have hmod:=Nat.mod_lt a (Nat.pos_of_ne_zero hb0);have HFIN:Shut (∀ (W:World) (u:Value),NI W u (natL (a % b))→Below wo.heap.size wo W→GR w W (.slice pl nl cl) u b (a % b) G∧numI W u<numI wo (.slice pl nl cl)):=⟨fun W u hu hB=>⟨⟨hS.o.2.1.below hB Lr,hu,hS.o.2.2.2.1,Nat.le_trans (Qal (Nat.le_of_lt hmod)) hS.o.2.2.2.1,by rw [←hS.o.2.2.2.2.1,Nat.gcd_comm b,←Nat.gcd_rec,Nat.gcd_comm],hS.o.2.2.2.2.2.trans (hB.mono hS.o.2.2.2.2.2.size)⟩,by rw [QhX hu,hnum];exact hmod⟩⟩;clear hS HNL hnum hmod;go_wp2_with (go_at_call 210; with_reducible refine cd.mono ?_;rintro e w5 ⟨vq,vr,rfl,hq,hr,hb5⟩);exact ⟨⟨b,a % b,⟨(HFIN.o w5 vr hr hb5).1⟩⟩,(HFIN.o w5 vr hr hb5).2⟩
end N10
end
section
namespace N10
open Go.RowKit
open Go.Proofs.YtihlgifojjeoaaaGreatDoor.Nm (decN Qbe Qcl QaQ QcN QeA dvl Qez QdW QdX)

theorem Qmo (z:Int) (h:0≤z):(∀ y∈bl (txt z),48≤y∧y<58)∧dvl (bl (txt z))=z.natAbs∧bl (txt z) ≠ []:=by
 rw [Qhh];by_cases h0:z=0
 ·rw [if_pos h0,h0];exact ⟨by simp,rfl,by simp⟩
 ·rw [if_neg h0,if_neg (by omega)];exact ⟨QaQ _,QdX _,fun e=>by have:=QeA.1 e;omega⟩
end N10
end
section
namespace N10
open Go.RowKit

theorem QpZ (m:Nat):Int.tmod (-(m:Int)) 10 = -((m % 10:Nat):Int):=by
 rw [Int.neg_tmod,Int.tmod_eq_emod_of_nonneg (by omega)];omega
theorem Qqa (m:Nat):Int.tdiv (-(m:Int)) 10 = -((m / 10:Nat):Int):=by
 rw [Int.neg_tdiv,Int.tdiv_eq_ediv_of_nonneg (by omega)];omega
theorem Qqb (m:Nat):Int.tmod (m:Int) 10=((m % 10:Nat):Int):=by
 rw [Int.tmod_eq_emod_of_nonneg (by omega)];omega
theorem Qqc (m:Nat):Int.tdiv (m:Int) 10=((m / 10:Nat):Int):=by
 rw [Int.tdiv_eq_ediv_of_nonneg (by omega)];omega
theorem QiS {n:Nat} (h:n<18446744073709551616):(natL n).length≤20:=Qat (Nat.lt_of_lt_of_le h (by decide +kernel))
def FI (w wr:World) (lv:Value) (ds:List Nat) (m n:Nat):Prop :=
 OwnJ wr w.heap.size lv ds∧natL n=ds++natL m∧Below w.heap.size w wr∧ds.length≤20
set_option maxRecDepth 100000 in
theorem Qgz (n:Int) (h1 : -9223372036854775808≤n) (h2:n≤9223372036854775807) (w:World) :
  Calls Tryz.prog 136 #[.int .i64 n] w fun e w'=>e = .returned (Z (txt n))∧Below w.heap.size w w':=by
 obtain ⟨i0,hinf,hz0,hz1,hz2⟩:=info_parts Qhj;obtain ⟨neg,hneg⟩:∃ neg,neg=decide (n<0):=⟨_,rfl⟩;obtain ⟨N,hN⟩:∃ N,N=n.natAbs:=⟨_,rfl⟩;have hsg:=QjS n;rw [←hneg,←hN] at hsg;have hNb:N≤9223372036854775808:=by omega
 have ct:=fun v W h=>QdL N neg v W h (by have:=QiS (n:=N) (by omega);omega);rw [hsg] at ct;have hNp:neg=false→N≤9223372036854775807:=fun h=>by rw [hneg,decide_eq_false_iff_not] at h;omega
 have hnl:=QiS (n:=N) (by omega);have HD:Shut (decide (n<0)=neg):=⟨hneg.symm⟩;have HSG:Shut (sg neg N=n):=⟨hsg⟩;have HNL:Shut _:=⟨hnl⟩;clear hneg hN hsg hnl;generalize hs:txt n=s at *
 clear hs;go_enter Tryz.func136, Tryz.ntmps136;go_wp2
 go_loopw [3,4] (fun lv mv wr=>∃ (ds:List Nat) (m:Nat),mv = .int .i64 (sg neg m)∧m≤N∧Shut (FI w wr lv ds m N)) (fun _ mv _=>(intOf mv).natAbs)
 case atStart=>exact ⟨[],N,by rw [HSG.o],Nat.le_refl _,⟨⟨OwnJ.nil _ _,rfl,Below.refl _ _,by simp⟩⟩⟩
 case round =>
  rename World=>wo
  obtain ⟨ds,m,rfl,hm,hS⟩:=hrel;cases neg
  ·have hM:sg false m=(m:Int):=rfl;rw [hM];by_cases hm0:m=0
   ·subst hm0;have hr:=hS.o.1.ni;have hE:=hS.o.2.1;rw [Qau,List.append_nil] at hE;rw [←hE] at hr;have c9:=ct u3 wo hr;have HB9:Shut _:=⟨hS.o.2.2.1⟩;have hd9:=HD.o;clear hS hr hE ct HSG HNL;go_wp2_with (go_at_call 174; refine (c9).mono ?_;rintro e w5 ⟨rfl,hb5⟩);go_ret;exact ⟨rfl,HB9.o.trans (hb5.mono HB9.o.size)⟩
   ·have hO2:=hS.o.1;have hE:=hS.o.2.1;rw [Qbi hm0] at hE;obtain ⟨d,hd⟩:∃ d,d=m % 10:=⟨_,rfl⟩;obtain ⟨q,hq⟩:∃ q,q=m / 10:=⟨_,rfl⟩;rw [←hd,←hq] at hE;have t1:=Qqb m;have t2:=Qqc m;rw [←hd] at t1;rw [←hq] at t2;have hql:q<m:=by omega
    have hd10:d<10:=by omega
    have hq2:q≤N:=by omega
    have hdl:ds.length≤19:=by
     have:=congrArg List.length hE;have:=HNL.o;rw [List.length_append,List.length_cons] at *
     omega
    have HQL:Shut (q<m):=⟨hql⟩;have HE9:Shut (natL N=(ds ++ [d])++natL q):=⟨by rw [hE,List.append_assoc];rfl⟩;have HB9:Shut _:=⟨hS.o.2.2.1⟩;have hbs:=HB9.o.size;have hM0:¬(m:Int)=0:=by omega
    have hMa:(intOf (Value.int .i64 (m:Int))).natAbs=m:=by simp [intOf]
    have HMA:Shut _:=⟨hMa⟩;clear hS hE hd hq hql hM ct hm0 hMa;have hb1 : -9223372036854775808≤(m:Int):=by omega
    have hb2:(m:Int)≤9223372036854775807:=by have:=hNp rfl;omega
    have hq3:(q:Int)≤9223372036854775807:=by have:=HQL.o;omega
    clear hNp;generalize hZZ:(m:Int)=M at *
    clear hZZ;by_cases hd0:d=0
    ·subst hd0;go_wp2_with (at_builtin;go_must (refine wpList_append_own _ rfl _ _ 106 rfl w.heap.size 3 i0 (.int .i64 0) 1 8 Tryz.underlying106 hinf hz0 hz1 hz2 rfl (by decide) _ _ _ rfl (World.ownsRow.alloc hO2 _) ⟨_,0,none⟩ 1 1 [.int .i64 0] rfl rfl (cell_one_new _ _ _) (by simp [Value.oneCell']) (by unfold maxLen;omega) (by omega) (by rw [World.size_alloc];omega) ?_);intro v' w' hown' hgrow _;have hB':=QaC (HB9.o.alloc hbs _) Lr (World.ownsRow.alloc hO2 _) hgrow);exact ⟨⟨ds ++ [0],q,rfl,hq2,⟨⟨OwnJ.snoc hown',HE9.o,hB',by simp;omega⟩⟩⟩,by rw [HMA.o];simp [intOf];exact HQL.o⟩
    ·have hdn:¬((d:Nat):Int)<0:=by omega
     go_wp2_with (at_builtin;go_must (refine wpList_append_own _ rfl _ _ 106 rfl w.heap.size 3 i0 (.int .i64 0) 1 8 Tryz.underlying106 hinf hz0 hz1 hz2 rfl (by decide) _ _ _ rfl (World.ownsRow.alloc hO2 _) ⟨_,0,none⟩ 1 1 [.int .i64 ((d:Nat):Int)] rfl rfl (cell_one_new _ _ _) (by simp [Value.oneCell']) (by unfold maxLen;omega) (by omega) (by rw [World.size_alloc];omega) ?_);intro v' w' hown' hgrow _;have hB':=QaC (HB9.o.alloc hbs _) Lr (World.ownsRow.alloc hO2 _) hgrow);exact ⟨⟨ds ++ [d],q,rfl,hq2,⟨⟨OwnJ.snoc hown',HE9.o,hB',by simp;omega⟩⟩⟩,by rw [HMA.o];simp [intOf];exact HQL.o⟩
  ·have hM:sg true m=(-(m:Int)):=rfl;rw [hM];by_cases hm0:m=0
   ·subst hm0;have hr:=hS.o.1.ni;have hE:=hS.o.2.1;rw [Qau,List.append_nil] at hE;rw [←hE] at hr;have c9:=ct u3 wo hr;have HB9:Shut _:=⟨hS.o.2.2.1⟩;have hd9:=HD.o;clear hS hr hE ct HSG HNL;go_wp2_with (go_at_call 174; refine (c9).mono ?_;rintro e w5 ⟨rfl,hb5⟩);go_ret;exact ⟨rfl,HB9.o.trans (hb5.mono HB9.o.size)⟩
   ·have hO2:=hS.o.1;have hE:=hS.o.2.1;rw [Qbi hm0] at hE;obtain ⟨d,hd⟩:∃ d,d=m % 10:=⟨_,rfl⟩;obtain ⟨q,hq⟩:∃ q,q=m / 10:=⟨_,rfl⟩;rw [←hd,←hq] at hE;have t1:=QpZ m;have t2:=Qqa m;rw [←hd] at t1;rw [←hq] at t2;have hql:q<m:=by omega
    have hd10:d<10:=by omega
    have hq2:q≤N:=by omega
    have hdl:ds.length≤19:=by
     have:=congrArg List.length hE;have:=HNL.o;rw [List.length_append,List.length_cons] at *
     omega
    have HQL:Shut (q<m):=⟨hql⟩;have HE9:Shut (natL N=(ds ++ [d])++natL q):=⟨by rw [hE,List.append_assoc];rfl⟩;have HB9:Shut _:=⟨hS.o.2.2.1⟩;have hbs:=HB9.o.size;have hM0:¬(-(m:Int))=0:=by omega
    have hMa:(intOf (Value.int .i64 (-(m:Int)))).natAbs=m:=by simp [intOf]
    have HMA:Shut _:=⟨hMa⟩;clear hS hE hd hq hql hM ct hm0 hMa;have hb1 : -9223372036854775808≤(-(m:Int)):=by omega
    have hb2:(-(m:Int))≤9223372036854775807:=by omega
    clear hNp;generalize hZZ:(-(m:Int))=M at *
    clear hZZ;by_cases hd0:d=0
    ·subst hd0;go_wp2_with (at_builtin;go_must (refine wpList_append_own _ rfl _ _ 106 rfl w.heap.size 3 i0 (.int .i64 0) 1 8 Tryz.underlying106 hinf hz0 hz1 hz2 rfl (by decide) _ _ _ rfl (World.ownsRow.alloc hO2 _) ⟨_,0,none⟩ 1 1 [.int .i64 0] rfl rfl (cell_one_new _ _ _) (by simp [Value.oneCell']) (by unfold maxLen;omega) (by omega) (by rw [World.size_alloc];omega) ?_);intro v' w' hown' hgrow _;have hB':=QaC (HB9.o.alloc hbs _) Lr (World.ownsRow.alloc hO2 _) hgrow);exact ⟨⟨ds ++ [0],q,rfl,hq2,⟨⟨OwnJ.snoc hown',HE9.o,hB',by simp;omega⟩⟩⟩,by rw [HMA.o];simp [intOf];exact HQL.o⟩
    ·have hdn : -((d:Nat):Int)<0:=by omega
     go_wp2_with (at_builtin;go_must (refine wpList_append_own _ rfl _ _ 106 rfl w.heap.size 3 i0 (.int .i64 0) 1 8 Tryz.underlying106 hinf hz0 hz1 hz2 rfl (by decide) _ _ _ rfl (World.ownsRow.alloc hO2 _) ⟨_,0,none⟩ 1 1 [.int .i64 ((d:Nat):Int)] rfl rfl (cell_one_new _ _ _) (by simp [Value.oneCell']) (by unfold maxLen;omega) (by omega) (by rw [World.size_alloc];omega) ?_);intro v' w' hown' hgrow _;have hB':=QaC (HB9.o.alloc hbs _) Lr (World.ownsRow.alloc hO2 _) hgrow);exact ⟨⟨ds ++ [d],q,rfl,hq2,⟨⟨OwnJ.snoc hown',HE9.o,hB',by simp;omega⟩⟩⟩,by rw [HMA.o];simp [intOf];exact HQL.o⟩
theorem OwnJ.zero (W:World) (B:Nat) (h:B≤W.heap.size):OwnJ (W.alloc (O #[] 3)) B (.slice (some ⟨W.heap.size,0,none⟩) 0 0) [] :=
 ⟨by simp,.inr ⟨W.heap.size,0,#[],rfl,h,RowAt.new W _ _,by simp,by unfold maxLen;omega,by simp,by simp⟩⟩
def Two (f:Nat) (args:Array Value) (v:Value):Prop:=∀ W:World,Calls Tryz.prog f args W fun e W'=>e = .returned v∧Below W.heap.size W W'
theorem Two.run {f:Nat} {args:Array Value} {v:Value} (h:Two f args v) (W:World):Calls Tryz.prog f args W fun e W'=>e = .returned v∧Below W.heap.size W W':=h W
theorem both (s t:ByteArray):(∃ x y:Int,s=txt x∧t=txt y∧Fits x∧Fits y)∨(Qap s=false∨Qap t=false):=by
 cases h1:Qap s with
 | false=>exact .inr (.inl rfl)
 | true =>
  cases h2:Qap t with
  | false=>exact .inr (.inr rfl)
  | true =>
   obtain ⟨x,e1,f1⟩:=QdY h1;obtain ⟨y,e2,f2⟩:=QdY h2;exact .inl ⟨x,y,e1,e2,f1,f2⟩
theorem one (s:ByteArray):(∃ x:Int,s=txt x∧Fits x)∨Qap s=false:=by
 cases h1:Qap s with
 | false=>exact .inr rfl
 | true =>
  obtain ⟨x,e1,f1⟩:=QdY h1;exact .inl ⟨x,e1,f1⟩
theorem nb {s t:ByteArray} (h:Qap s=false∨Qap t=false):(Qap s && Qap t)=false:=by
 rcases h with h | h <;> rw [h] <;> simp
theorem QkC (x y:Int) (hx:Fits x) (hy:Fits y):Fits ((Nat.gcd x.natAbs y.natAbs:Nat):Int):=by
 unfold Fits;rw [Int.natAbs_natCast,QcD];rcases Nat.eq_zero_or_pos x.natAbs with h | h
 ·rw [h,Nat.gcd_zero_left];exact Qcx hy
 ·exact Nat.le_trans (Qal (Nat.gcd_le_left _ h)) (Qcx hx)
end N10
end
section
namespace Rt
open Go.RowKit Go.Proofs.YtihlgifojjeoaaaGreatDoor.Nm
structure Cs (k n:Nat) (W:World) (x:Nat→Value):Prop where
 cell:∀ i,i<n→W.cell? ⟨k,i,none⟩=some (x i)
 free:∀ i,i<n→W.frozen? ⟨k,i,none⟩=false
structure Fr (b:Nat) (W:World) (s t u v:ByteArray) (x y:Nat→Value):Prop where
 fa:Cs b 2 W (fun i=>if i=0 then Z s else Z t)
 fb:Cs (b+1) 2 W (fun i=>if i=0 then Z u else Z v)
 fp:Cs (b+1+1) 8 W (fun _=>Z ⟨#[]⟩)
 fq:Cs (b+1+1+1) 4 W (fun _ => .int .i64 0)
 fr:Cs (b+1+1+1+1) 8 W x
 fe:Cs (b+1+1+1+1+1) 4 W y
end Rt
end
section
namespace Rt
open Go.RowKit Go.Proofs.YtihlgifojjeoaaaGreatDoor.Nm
open N10 (Two)
theorem QgZ {w w':World} {o:Obj} (h:Below (w.alloc o).heap.size (w.alloc o) w'):Below w.heap.size w w'∧w'.heap[w.heap.size]? = some o :=
 ⟨((Below.refl w.heap.size w).alloc Lr o).trans (h.mono (by simp)),(h.block w.heap.size (by simp)).trans (World.alloc_heap_new w o)⟩
theorem QmW {B:Nat} {w w':World} (h:Below B w.drew w'):Below B w w':=⟨h.os,h.tape,h.output,h.size,h.block⟩
theorem Qac {w w':World} {b:Nat} {o:Obj} (h:w.heap[b]? = some o) (hB:Below w.heap.size w w'):w'.heap[b]? = some o:=(hB.block b (lt_of_block h)).trans h

theorem Qqd (s t n d g r1 r2:ByteArray) (w:World) (h0:(t.toList == [48])=false)
  (cV1:Two 169 #[Z s] (.bool true)) (cV2:Two 169 #[Z t] (.bool true))
  (cC:Two 170 #[Z t,Z ⟨#[48]⟩] (.int .i64 1))
  (cG:Two 172 #[Z s,Z t] (.tuple #[Z g,.int .i64 0]))
  (cD1:Two 173 #[Z s,Z g] (.tuple #[Z n,Z r1,.int .i64 0]))
  (cD2:Two 173 #[Z t,Z g] (.tuple #[Z d,Z r2,.int .i64 0])) :
  Calls Tryz.prog 135 #[Z s,Z t] w fun e w'=>e = .returned (.tuple #[.agg #[Z n,Z d],.int .i64 0])∧Below w.heap.size w w':=by
 go_enter Tryz.func135, Tryz.ntmps135;go_wp2_with (first | (go_at_call 169; with_reducible refine (cV1.run _).mono ?_;rintro e w1 ⟨rfl,hB1⟩;have b1:=(QgZ hB1).1;have n1:=(QgZ hB1).2;clear hB1) | (go_at_call 169; with_reducible refine (cV2.run _).mono ?_;rintro e w2 ⟨rfl,hB2⟩;have b2:=b1.trans (hB2.mono b1.size);have n2:=Qac n1 hB2;clear hB2) | (go_at_call 170; with_reducible refine (cC.run _).mono ?_;rintro e w3 ⟨rfl,hB3⟩;have b3:=b2.trans (hB3.mono b2.size);have n3:=Qac n2 hB3;clear hB3) | (go_at_call 172; with_reducible refine (cG.run _).mono ?_;rintro e w4 ⟨rfl,hB4⟩;have b4:=b3.trans (hB4.mono b3.size);have n4:=Qac n3 hB4;clear hB4) | (go_at_call 173; with_reducible refine (cD1.run _).mono ?_;rintro e w5 ⟨rfl,hB5⟩;have b5:=b4.trans (hB5.mono b4.size);have n5:=Qac n4 hB5;clear hB5) | (go_at_call 173; with_reducible refine (cD2.run _).mono ?_;rintro e w6 ⟨rfl,hB6⟩;have b6:=b5.trans (hB6.mono b5.size);have n6:=Qac n5 hB6;clear hB6;obtain ⟨c0,c1,z0,z1⟩:=Qab n6));have k0:=QaM w6 w.heap.size (Z n) (Z d) _ _ c0 c1;refine bodyPost_ret (v:=.tuple #[.agg #[Z n,Z d],.int .i64 0]) (by simp [results,Tryz.results135, go_sem,k0.1,k0.2]) rfl ⟨rfl,(b6.setCell (by simp) _).setCell (by simp) _⟩
theorem Qqe (s t s' t' n d g r1 r2:ByteArray) (w:World) (h0:(t.toList == [48])=false)
  (cV1:Two 169 #[Z s] (.bool true)) (cV2:Two 169 #[Z t] (.bool true))
  (cC:Two 170 #[Z t,Z ⟨#[48]⟩] (.int .i64 (-1)))
  (cS1:Two 171 #[Z ⟨#[48]⟩,Z s] (.tuple #[Z s',.int .i64 0]))
  (cS2:Two 171 #[Z ⟨#[48]⟩,Z t] (.tuple #[Z t',.int .i64 0]))
  (cG:Two 172 #[Z s',Z t'] (.tuple #[Z g,.int .i64 0]))
  (cD1:Two 173 #[Z s',Z g] (.tuple #[Z n,Z r1,.int .i64 0]))
  (cD2:Two 173 #[Z t',Z g] (.tuple #[Z d,Z r2,.int .i64 0])) :
  Calls Tryz.prog 135 #[Z s,Z t] w fun e w'=>e = .returned (.tuple #[.agg #[Z n,Z d],.int .i64 0])∧Below w.heap.size w w':=by
 go_enter Tryz.func135, Tryz.ntmps135;go_wp2_with (first | (go_at_call 169; with_reducible refine (cV1.run _).mono ?_;rintro e w1 ⟨rfl,hB1⟩;have b1:=(QgZ hB1).1;have n1:=(QgZ hB1).2;clear hB1) | (go_at_call 169; with_reducible refine (cV2.run _).mono ?_;rintro e w2 ⟨rfl,hB2⟩;have b2:=b1.trans (hB2.mono b1.size);have n2:=Qac n1 hB2;clear hB2) | (go_at_call 170; with_reducible refine (cC.run _).mono ?_;rintro e w3 ⟨rfl,hB3⟩;have b3:=b2.trans (hB3.mono b2.size);have n3:=Qac n2 hB3;clear hB3) | (go_at_call 171; with_reducible refine (cS1.run _).mono ?_;rintro e x1 ⟨rfl,hB1⟩;have y1:=b3.trans (hB1.mono b3.size);have v1:=Qac n3 hB1;clear hB1) | (go_at_call 171; with_reducible refine (cS2.run _).mono ?_;rintro e x2 ⟨rfl,hB2⟩;have y2:=y1.trans (hB2.mono y1.size);have v2:=Qac v1 hB2;clear hB2) | (go_at_call 172; with_reducible refine (cG.run _).mono ?_;rintro e w4 ⟨rfl,hB4⟩;have b4:=y2.trans (hB4.mono y2.size);have n4:=Qac v2 hB4;clear hB4) | (go_at_call 173; with_reducible refine (cD1.run _).mono ?_;rintro e w5 ⟨rfl,hB5⟩;have b5:=b4.trans (hB5.mono b4.size);have n5:=Qac n4 hB5;clear hB5) | (go_at_call 173; with_reducible refine (cD2.run _).mono ?_;rintro e w6 ⟨rfl,hB6⟩;have b6:=b5.trans (hB6.mono b5.size);have n6:=Qac n5 hB6;clear hB6;obtain ⟨c0,c1,z0,z1⟩:=Qab n6));have k0:=QaM w6 w.heap.size (Z n) (Z d) _ _ c0 c1;refine bodyPost_ret (v:=.tuple #[.agg #[Z n,Z d],.int .i64 0]) (by simp [results,Tryz.results135, go_sem,k0.1,k0.2]) rfl ⟨rfl,(b6.setCell (by simp) _).setCell (by simp) _⟩
theorem QkM (s t:ByteArray) (x y:Bool) (w:World) (h:(x && y && !(t.toList == [48]))=false)
  (cV1:Two 169 #[Z s] (.bool x)) (cV2:Two 169 #[Z t] (.bool y)) :
  Calls Tryz.prog 135 #[Z s,Z t] w fun e w'=>e = .returned (.tuple #[.agg #[Z ⟨#[]⟩,Z ⟨#[]⟩],.int .i64 40])∧Below w.heap.size w w':=by
 rcases (show x=false∨(x=true∧y=false)∨(x=true∧y=true∧(t.toList == [48])=true) by revert h;cases x <;> cases y <;> cases (t.toList == [48]) <;> simp) with rfl | ⟨rfl,rfl⟩ | ⟨rfl,rfl,h0⟩
 all_goals
  clear h;go_enter Tryz.func135, Tryz.ntmps135;go_wp2_with (first | (go_at_call 169; with_reducible refine (cV1.run _).mono ?_;rintro e w1 ⟨rfl,hB1⟩;have b1:=(QgZ hB1).1;have n1:=(QgZ hB1).2;clear hB1) | (go_at_call 169; with_reducible refine (cV2.run _).mono ?_;rintro e w2 ⟨rfl,hB2⟩;have b2:=b1.trans (hB2.mono b1.size);have n2:=Qac n1 hB2;clear hB2;obtain ⟨c0,c1,z0,z1⟩:=Qab n2));have k0:=QaM w2 w.heap.size (Z ⟨#[]⟩) (Z ⟨#[]⟩) _ _ c0 c1;refine bodyPost_ret (v:=.tuple #[.agg #[Z ⟨#[]⟩,Z ⟨#[]⟩],.int .i64 40]) (by simp [results,Tryz.results135, go_sem,k0.1,k0.2]) rfl ⟨rfl,(b2.setCell (by simp) _).setCell (by simp) _⟩
theorem Qoh (s:ByteArray) (hs:s.size≤1000000):Two 169 #[Z s] (.bool (Qap s)):=fun W=>(N10.QbO s hs W).mono fun _ _ h=>⟨h.1,N10.Qai h.2⟩
theorem Qek {x:Int} (hx:Fits x):Two 169 #[Z (txt x)] (.bool true):=by
 have:=Qoh (txt x) (QaT hx)
 rwa [Qax x hx] at this
theorem Qqf {x y:Int} (hx:Fits x) (hy:Fits y):Two 170 #[Z (txt x),Z (txt y)] (.int .i64 (cmpZ x y)):=fun W=>N10.QjT x y hx hy W
theorem Quu {x y:Int} (hx:Fits x) (hy:Fits y) (h:Fits (x-y)):Two 171 #[Z (txt x),Z (txt y)] (.tuple #[Z (txt (x-y)),.int .i64 0]):=fun W=>by
 have:=N10.QjU x y hx hy W
 rwa [Qav h] at this
theorem QsE {x y:Int} (hx:Fits x) (hy:Fits y):Two 172 #[Z (txt x),Z (txt y)] (.tuple #[Z (txt (Nat.gcd x.natAbs y.natAbs:Nat)),.int .i64 0]):=fun W=>N10.QsD x y hx hy W
theorem Qmp {x y:Int} (hx:Fits x) (hy:Fits y) (h0:y≠0):Two 173 #[Z (txt x),Z (txt y)] (.tuple #[Z (txt (x / y)),Z (txt (x % y)),.int .i64 0]):=fun W=>N10.QsC x y hx hy h0 W
theorem QiT (s t:ByteArray) (hs:s.size≤1000000) (ht:t.size≤1000000) (w:World) :
  Calls Tryz.prog 135 #[Z s,Z t] w fun e w'=>e = .returned (bR (redR s t))∧Below w.heap.size w w':=by
 rcases N10.both s t with ⟨x,y,rfl,rfl,hx,hy⟩ | h
 ·by_cases h0:y=0
  ·rw [Qrh hy h0];exact QkM _ _ true true w (by rw [QbN,h0];rfl) (Qek hx) (Qek hy)
  ·rw [Qfz hx hy h0];have hne:((txt y).toList == [48])=false:=by rw [QbN];simpa using h0
   have hg0:Nat.gcd x.natAbs y.natAbs≠0:=Nat.pos_iff_ne_zero.1 (Nat.gcd_pos_of_pos_right _ (by omega));have e0:y.gcd x=Nat.gcd x.natAbs y.natAbs:=by rw [Int.gcd,Nat.gcd_comm]
   have hgf:=QiJ (x:=x) hy h0;have cC:=Qqf hy Qfy;rw [txt_0] at cC;show Calls _ _ _ _ fun e w'=>e = .returned (.tuple #[.agg #[Z (txt (Rat.divInt x y).num),Z (txt ((Rat.divInt x y).den:Int))],.int .i64 0])∧_;obtain ⟨d1,d2⟩:=QkE x y;rw [Rat.num_divInt,Rat.den_divInt,if_neg h0,e0];rcases Int.lt_trichotomy y 0 with hy0 | hy0 | hy0
   ·have cC':Two 170 #[Z (txt y),Z ⟨#[48]⟩] (.int .i64 (-1)):=by rwa [cmpZ,if_pos hy0] at cC
    have fx:=QeK hx;have fy:=QeK hy;have s1:=Quu Qfy hx (by rw [Int.zero_sub];exact fx);have s2:=Quu Qfy hy (by rw [Int.zero_sub];exact fy);rw [Int.zero_sub,txt_0] at s1 s2;have hG:=QsE fx fy;rw [Int.natAbs_neg,Int.natAbs_neg] at hG;generalize Nat.gcd x.natAbs y.natAbs=g at *
    have hgi:(g:Int)≠0:=by omega
    have r:=Qqe _ _ _ _ _ _ _ _ _ w hne (Qek hx) (Qek hy) cC' s1 s2 hG (Qmp fx hgf hgi) (Qmp fy hgf hgi);rw [Int.sign_eq_neg_one_of_neg hy0];have e1:(-1:Int)*x / (g:Int) = -x / (g:Int):=by rw [Int.neg_one_mul]
    have e2:((y.natAbs / g:Nat):Int) = -y / (g:Int):=by rw [Int.natCast_ediv,show ((y.natAbs:Nat):Int) = -y by omega]
    rw [e1,e2];exact r
   ·exact absurd hy0 h0
   ·have cC':Two 170 #[Z (txt y),Z ⟨#[48]⟩] (.int .i64 1):=by rwa [cmpZ,if_neg (by omega),if_neg (by omega)] at cC
    have hG:=QsE hx hy;generalize Nat.gcd x.natAbs y.natAbs=g at *
    have hgi:(g:Int)≠0:=by omega
    have r:=Qqd _ _ _ _ _ _ _ w hne (Qek hx) (Qek hy) cC' hG (Qmp hx hgf hgi) (Qmp hy hgf hgi);rw [Int.sign_eq_one_of_pos hy0,Int.one_mul];have e2:((y.natAbs / g:Nat):Int)=y / (g:Int):=by rw [Int.natCast_ediv,show ((y.natAbs:Nat):Int)=y by omega]
    rw [e2];exact r
 ·have hn:redR s t=none:=by
   rw [redR,QjJ,QnD (N10.nb h)];rfl
  rw [hn];exact QkM _ _ _ _ w (by rcases h with h | h <;> rw [h] <;> simp) (Qoh s hs) (Qoh t ht)
end Rt
end
section
namespace Rt
open Go.RowKit Go.Proofs.YtihlgifojjeoaaaGreatDoor.Nm

theorem Qde (s:ByteArray) (i:Nat):bl (s.extract i s.size)=(bl s).drop i:=by
 simp [bl];exact List.take_of_length_le (l:=(bl s).drop i) (by rw [List.length_drop,QcA];exact Nat.le_refl _)
theorem Qaa {W:World} {b:Nat} {cs:Array Value} {T:TypeId} (h:W.heap[b]? = some (.cells cs T (0,0))) (i:Nat) {v:Value} (hv:cs[i]? = some v):W.cell? ⟨b,i,none⟩=some v:=by simp [World.cell?,h,hv]
theorem Qad {W:World} {b:Nat} {cs:Array Value} {T:TypeId} (h:W.heap[b]? = some (.cells cs T (0,0))) (i:Nat):W.frozen? ⟨b,i,none⟩=false:=by simp [World.frozen?,h]
end Rt
end
section
namespace Rt
open Go.RowKit Go.Proofs.YtihlgifojjeoaaaGreatDoor.Nm
open N10 (Two)

theorem Qoi {x y:Int} {q:Rat} (hx:Fits x) (hy:Fits y) (h0:y≠0) (hq:Rat.divInt x y=q):Two 105 #[Z (txt x),Z (txt y)] (.tuple #[.agg #[Z (txt q.num),Z (txt (q.den:Int))],.int .i64 0]):=fun W=>by
 have:=QkF (txt x) (txt y) (QaT hx) (QaT hy) W;rw [Qfz hx hy h0,hq] at this;exact this
end Rt
end
end Go.Proofs.YtihlgifojjeoaaaGreatDoor
