/-
  The reference: checked, sum, Compare.
  The reference: Valid.
  The reference: Compare, Add, Sub, Mul.
-/
import Derived.Test.YtbfonkabmehlmaaGreatDoorY6B1
import Derived.Test.YtbfonkabmehlmaaGreatDoorY6A5
set_option maxRecDepth 1000000
set_option maxHeartbeats 40000000
open Go.Value renaming string→Z
open Go.Obj renaming cells→O
namespace Go.Proofs.YtbfonkabmehlmaaGreatDoor
section
namespace N10
open Go.RowKit

theorem sg_abs (neg:Bool) (n:Nat):(sg neg n).natAbs=n:=by unfold sg;split <;> omega
theorem sg_of (z:Int):sg (decide (z<0)) z.natAbs=z:=by
 unfold sg;by_cases h:z<0
 ·rw [decide_eq_true h,if_pos rfl];omega
 ·rw [decide_eq_false h,if_neg (by simp)];omega
theorem fits_sg (neg:Bool) (n:Nat):Fits (sg neg n)↔(natL n).length≤200:=by unfold Fits;rw [sg_abs,decN_len]
theorem checked_ref (neg:Bool) (n:Nat) (v:Value) (w:World) (h:NI w v (natL n)) (hl:(natL n).length≤1000) :
  Calls Tryz.prog 105 #[.bool neg,v] w fun e w'=>e = .returned (calcR (sg neg n))∧Below w.heap.size w w':=by
 have ct:=text_ref2 n neg v w h hl
 have hf:=fits_sg neg n
 generalize sg neg n=z at *
 clear h
 by_cases hz:(natL n).length≤200
 ·have HC:Shut _:=⟨calcR_fit (hf.2 hz)⟩
  rw [decide_eq_true hz] at ct
  clear hf hz hl
  generalize hs:txt z=s at *
  go_enter Tryz.func105, Tryz.ntmps105
  go_wp2_with (go_at_call 149; refine ct.mono ?_;rintro e w1 ⟨rfl,hB1⟩)
  go_ret2
  exact ⟨by rw [HC.o];rfl,hB1⟩
 ·have HC:Shut _:=⟨calcR_not (fun h=>hz (hf.1 h))⟩
  rw [decide_eq_false hz] at ct
  clear hf hz hl
  generalize hs:txt z=s at *
  go_enter Tryz.func105, Tryz.ntmps105
  go_wp2_with (go_at_call 149; refine ct.mono ?_;rintro e w1 ⟨rfl,hB1⟩)
  go_ret2
  exact ⟨by rw [HC.o];rfl,hB1⟩

theorem add_len {nx ny k:Nat} (ha:(natL nx).length≤k) (hb:(natL ny).length≤k):(natL (nx+ny)).length≤k+1:=by
 have h1:=natL_lt nx
 have h2:=natL_lt ny
 have h3:10^(natL nx).length≤10^k:=Nat.pow_le_pow_right (by decide) ha
 have h4:10^(natL ny).length≤10^k:=Nat.pow_le_pow_right (by decide) hb
 exact natL_len_le (k:=k+1) (by rw [Nat.pow_succ];generalize 10^k=P at *;omega)
theorem calcR_two (z:Int):∃ (s:ByteArray) (k:Int),calcR z = .tuple #[Z s,.int .i64 k]:=by
 by_cases h:Fits z
 ·exact ⟨_,_,calcR_fit h⟩
 ·exact ⟨_,_,calcR_not h⟩
theorem sum_tt (nx ny:Nat) (va vb:Value) (w:World) (ha:NI w va (natL nx)) (hb:NI w vb (natL ny)) (hla:(natL nx).length≤300) (hlb:(natL ny).length≤300) :
  Calls Tryz.prog 101 #[.bool true,va,.bool true,vb] w fun e w'=>e = .returned (calcR (sg true nx+sg true ny))∧Below w.heap.size w w':=by
 have hs:sg true nx+sg true ny=sg true (nx+ny):=by unfold sg;simp;try omega
 rw [hs]
 have hlen:(natL (nx+ny)).length≤1000:=Nat.le_trans (add_len hla hlb) (by decide)
 have cp:=plus_ref nx ny va vb w ha hb (by omega) (by omega)
 have cc:=fun (v:Value) (W:World) (h:NI W v (natL (nx+ny)))=>checked_ref true (nx+ny) v W h hlen
 obtain ⟨s,k,hk⟩:=calcR_two (sg true (nx+ny))
 rw [hk] at cc ⊢
 clear hs hk ha hb hla hlb hlen
 go_enter Tryz.func101, Tryz.ntmps101
 go_wp2_with (first | (go_at_call 147; refine cp.mono ?_;rintro e w1 ⟨v1,rfl,hv1,hB1⟩) | (go_at_call 105; refine (cc v1 w1 hv1).mono ?_;rintro e w2 ⟨rfl,hB2⟩))
 go_ret2
 exact ⟨rfl,hB1.trans (hB2.mono hB1.size)⟩
theorem sum_tf (nx ny:Nat) (va vb:Value) (w:World) (ha:NI w va (natL nx)) (hb:NI w vb (natL ny)) (hla:(natL nx).length≤300) (hlb:(natL ny).length≤300) :
  Calls Tryz.prog 101 #[.bool true,va,.bool false,vb] w fun e w'=>e = .returned (calcR (sg true nx+sg false ny))∧Below w.heap.size w w':=by
 have co:=order_ref nx ny va vb w ha hb (by omega) (by omega)
 by_cases hle:ny≤nx
 ·have hs:sg true nx+sg false ny=sg true (nx-ny):=by unfold sg;simp;try omega
  rw [hs]
  have hcm:0≤cmpN nx ny:=by unfold cmpN;(repeat' split) <;> omega
  have hlen:(natL (nx-ny)).length≤1000:=by have:=natL_len_mono (Nat.sub_le nx ny);omega
  have cm:=fun m=>minus_ref nx ny hle va vb (w.drewN m) (ha.below (below_drewN (Below.refl _ w) m) (Nat.le_refl _)) (hb.below (below_drewN (Below.refl _ w) m) (Nat.le_refl _)) (by omega)
  have cc:=fun (v:Value) (W:World) (h:NI W v (natL (nx-ny)))=>checked_ref true (nx-ny) v W h hlen
  obtain ⟨s,k,hk⟩:=calcR_two (sg true (nx-ny))
  rw [hk] at cc ⊢
  clear hs hk ha hb hla hlb hlen hle
  generalize cmpN nx ny=cv at *
  go_enter Tryz.func101, Tryz.ntmps101
  go_wp2_with (first | (go_at_call 103; refine co.mono ?_;rintro e w0 ⟨rfl,m,rfl⟩) | (go_at_call 148; refine (cm m).mono ?_;rintro e w1 ⟨v1,rfl,hv1,_,hB1⟩) | (go_at_call 105; refine (cc v1 w1 hv1).mono ?_;rintro e w2 ⟨rfl,hB2⟩))
  go_ret2
  exact ⟨rfl,(below_drewN (Below.refl _ w) m).trans (hB1.trans (hB2.mono hB1.size))⟩
 ·have hs:sg true nx+sg false ny=sg false (ny-nx):=by unfold sg;simp;try omega
  rw [hs]
  have hcm:cmpN nx ny<0:=by unfold cmpN;(repeat' split) <;> omega
  have hcm2:¬ 0≤cmpN nx ny:=by omega
  have hlen:(natL (ny-nx)).length≤1000:=by have:=natL_len_mono (Nat.sub_le ny nx);omega
  have cm:=fun m=>minus_ref ny nx (by omega) vb va (w.drewN m) (hb.below (below_drewN (Below.refl _ w) m) (Nat.le_refl _)) (ha.below (below_drewN (Below.refl _ w) m) (Nat.le_refl _)) (by omega)
  have cc:=fun (v:Value) (W:World) (h:NI W v (natL (ny-nx)))=>checked_ref false (ny-nx) v W h hlen
  obtain ⟨s,k,hk⟩:=calcR_two (sg false (ny-nx))
  rw [hk] at cc ⊢
  clear hs hk ha hb hla hlb hlen hle
  generalize cmpN nx ny=cv at *
  go_enter Tryz.func101, Tryz.ntmps101
  go_wp2_with (first | (go_at_call 103; refine co.mono ?_;rintro e w0 ⟨rfl,m,rfl⟩) | (go_at_call 148; refine (cm m).mono ?_;rintro e w1 ⟨v1,rfl,hv1,_,hB1⟩) | (go_at_call 105; refine (cc v1 w1 hv1).mono ?_;rintro e w2 ⟨rfl,hB2⟩))
  go_ret2
  exact ⟨rfl,(below_drewN (Below.refl _ w) m).trans (hB1.trans (hB2.mono hB1.size))⟩
theorem sum_ft (nx ny:Nat) (va vb:Value) (w:World) (ha:NI w va (natL nx)) (hb:NI w vb (natL ny)) (hla:(natL nx).length≤300) (hlb:(natL ny).length≤300) :
  Calls Tryz.prog 101 #[.bool false,va,.bool true,vb] w fun e w'=>e = .returned (calcR (sg false nx+sg true ny))∧Below w.heap.size w w':=by
 have co:=order_ref nx ny va vb w ha hb (by omega) (by omega)
 by_cases hle:ny≤nx
 ·have hs:sg false nx+sg true ny=sg false (nx-ny):=by unfold sg;simp;try omega
  rw [hs]
  have hcm:0≤cmpN nx ny:=by unfold cmpN;(repeat' split) <;> omega
  have hlen:(natL (nx-ny)).length≤1000:=by have:=natL_len_mono (Nat.sub_le nx ny);omega
  have cm:=fun m=>minus_ref nx ny hle va vb (w.drewN m) (ha.below (below_drewN (Below.refl _ w) m) (Nat.le_refl _)) (hb.below (below_drewN (Below.refl _ w) m) (Nat.le_refl _)) (by omega)
  have cc:=fun (v:Value) (W:World) (h:NI W v (natL (nx-ny)))=>checked_ref false (nx-ny) v W h hlen
  obtain ⟨s,k,hk⟩:=calcR_two (sg false (nx-ny))
  rw [hk] at cc ⊢
  clear hs hk ha hb hla hlb hlen hle
  generalize cmpN nx ny=cv at *
  go_enter Tryz.func101, Tryz.ntmps101
  go_wp2_with (first | (go_at_call 103; refine co.mono ?_;rintro e w0 ⟨rfl,m,rfl⟩) | (go_at_call 148; refine (cm m).mono ?_;rintro e w1 ⟨v1,rfl,hv1,_,hB1⟩) | (go_at_call 105; refine (cc v1 w1 hv1).mono ?_;rintro e w2 ⟨rfl,hB2⟩))
  go_ret2
  exact ⟨rfl,(below_drewN (Below.refl _ w) m).trans (hB1.trans (hB2.mono hB1.size))⟩
 ·have hs:sg false nx+sg true ny=sg true (ny-nx):=by unfold sg;simp;try omega
  rw [hs]
  have hcm:cmpN nx ny<0:=by unfold cmpN;(repeat' split) <;> omega
  have hcm2:¬ 0≤cmpN nx ny:=by omega
  have hlen:(natL (ny-nx)).length≤1000:=by have:=natL_len_mono (Nat.sub_le ny nx);omega
  have cm:=fun m=>minus_ref ny nx (by omega) vb va (w.drewN m) (hb.below (below_drewN (Below.refl _ w) m) (Nat.le_refl _)) (ha.below (below_drewN (Below.refl _ w) m) (Nat.le_refl _)) (by omega)
  have cc:=fun (v:Value) (W:World) (h:NI W v (natL (ny-nx)))=>checked_ref true (ny-nx) v W h hlen
  obtain ⟨s,k,hk⟩:=calcR_two (sg true (ny-nx))
  rw [hk] at cc ⊢
  clear hs hk ha hb hla hlb hlen hle
  generalize cmpN nx ny=cv at *
  go_enter Tryz.func101, Tryz.ntmps101
  go_wp2_with (first | (go_at_call 103; refine co.mono ?_;rintro e w0 ⟨rfl,m,rfl⟩) | (go_at_call 148; refine (cm m).mono ?_;rintro e w1 ⟨v1,rfl,hv1,_,hB1⟩) | (go_at_call 105; refine (cc v1 w1 hv1).mono ?_;rintro e w2 ⟨rfl,hB2⟩))
  go_ret2
  exact ⟨rfl,(below_drewN (Below.refl _ w) m).trans (hB1.trans (hB2.mono hB1.size))⟩
theorem sum_ff (nx ny:Nat) (va vb:Value) (w:World) (ha:NI w va (natL nx)) (hb:NI w vb (natL ny)) (hla:(natL nx).length≤300) (hlb:(natL ny).length≤300) :
  Calls Tryz.prog 101 #[.bool false,va,.bool false,vb] w fun e w'=>e = .returned (calcR (sg false nx+sg false ny))∧Below w.heap.size w w':=by
 have hs:sg false nx+sg false ny=sg false (nx+ny):=by unfold sg;simp;try omega
 rw [hs]
 have hlen:(natL (nx+ny)).length≤1000:=Nat.le_trans (add_len hla hlb) (by decide)
 have cp:=plus_ref nx ny va vb w ha hb (by omega) (by omega)
 have cc:=fun (v:Value) (W:World) (h:NI W v (natL (nx+ny)))=>checked_ref false (nx+ny) v W h hlen
 obtain ⟨s,k,hk⟩:=calcR_two (sg false (nx+ny))
 rw [hk] at cc ⊢
 clear hs hk ha hb hla hlb hlen
 go_enter Tryz.func101, Tryz.ntmps101
 go_wp2_with (first | (go_at_call 147; refine cp.mono ?_;rintro e w1 ⟨v1,rfl,hv1,hB1⟩) | (go_at_call 105; refine (cc v1 w1 hv1).mono ?_;rintro e w2 ⟨rfl,hB2⟩))
 go_ret2
 exact ⟨rfl,hB1.trans (hB2.mono hB1.size)⟩
theorem sum_ref (sx sy:Bool) (nx ny:Nat) (va vb:Value) (w:World) (ha:NI w va (natL nx)) (hb:NI w vb (natL ny)) (hla:(natL nx).length≤300) (hlb:(natL ny).length≤300) :
  Calls Tryz.prog 101 #[.bool sx,va,.bool sy,vb] w fun e w'=>e = .returned (calcR (sg sx nx+sg sy ny))∧Below w.heap.size w w':=by
 cases sx <;> cases sy
 ·exact sum_ff nx ny va vb w ha hb hla hlb
 ·exact sum_ft nx ny va vb w ha hb hla hlb
 ·exact sum_tf nx ny va vb w ha hb hla hlb
 ·exact sum_tt nx ny va vb w ha hb hla hlb
end N10
end
section
namespace N10
open Go.RowKit

theorem bl_zero:bl (ba [48]) = [48]:=bl_ba _ (by decide)
theorem cut_zero:cutB (ba [48])=(false,ba [48]):=by rw [cutB,hd0,bl_zero];rfl
theorem valid_bad (s:ByteArray) (k:Nat) (hk:k<(cutB s).2.size) (hb:okC ((bl (cutB s).2).getD k 0)=false):validB s=false:=by
 rw [validB]
 split
 ·rfl
 ·split
  ·rw [decide_eq_false_iff_not]
   rintro rfl
   rw [cut_zero,bl_zero] at hb
   rw [cut_zero] at hk
   have hk2:k<1:=hk
   obtain rfl:k=0:=by omega
   revert hb;decide
  ·rw [List.all_eq_false]
   have hkl:k<(bl (cutB s).2).length:=by rw [bl_len];exact hk
   refine ⟨(bl (cutB s).2).getD k 0, ?_,by rw [hb];decide⟩
   rw [List.getD_eq_getElem?_getD,List.getElem?_eq_getElem hkl]
   exact List.getElem_mem hkl
theorem valid_end (s:ByteArray) (h:∀ j,j<(cutB s).2.size→okC ((bl (cutB s).2).getD j 0)=true):validB s=decide (0<(cutB s).2.size∧(cutB s).2.size≤200∧(hd0 (cutB s).2=48→s=ba [48])):=by
 have hall:(bl (cutB s).2).all okC=true:=by
  rw [List.all_eq_true]
  intro y hy
  obtain ⟨j,hj,rfl⟩:=List.getElem_of_mem hy
  have:=h j (by rw [←bl_len];exact hj)
  rwa [List.getD_eq_getElem?_getD,List.getElem?_eq_getElem hj] at this
 rw [validB,hall]
 split
 ·next c=>exact (decide_eq_false (by omega)).symm
 ·next c =>
  split
  ·next c2=>exact decide_eq_decide.2 ⟨fun e=>⟨by omega,by omega,fun _=>e⟩,fun e=>e.2.2 c2⟩
  ·next c2=>exact (decide_eq_true ⟨by omega,by omega,fun e=>absurd e c2⟩).symm
theorem zero_eq (d:ByteArray):(d.toList == [48])=decide (d=ba [48]):=by
 rw [←str_eq,show (ba [48]).toList = [48] by rw [ByteArray.toList_eq];rfl]
theorem hd0_get (d:ByteArray) (h:0<d.size):d[0].toNat=hd0 d:=(bl_get d 0 h).symm
theorem cut_neg {s:ByteArray} (h:hd0 s=45):(cutB s).2=s.extract 1 s.size:=by rw [cutB,if_pos h]
theorem cut_pos {s:ByteArray} (h:hd0 s≠45):(cutB s).2=s:=by rw [cutB,if_neg h]

theorem Valid_pos (s:ByteArray) (hs:s.size≤1000000) (h45:hd0 s≠45) (w:World) :
  Calls Tryz.prog 48 #[Z s] w fun e w'=>e = .returned (.bool (validB s))∧∃ m,w'=w.drewN m:=by
 have hbad:=valid_bad s
 have hend:=valid_end s
 obtain ⟨vr,hvr⟩:∃ vr,vr=validB s:=⟨_,rfl⟩
 rw [←hvr] at hbad hend ⊢
 clear hvr
 have hc:=cut_pos h45
 rw [hc] at hbad hend
 obtain ⟨d,hd⟩:∃ d,d=s:=⟨_,rfl⟩
 subst hd
 have HDZ:Shut (d=ba [48]→d=ba [48]):=⟨fun h=>h⟩
 have HNZ:Shut (d≠ba [48]→d≠ba [48]):=⟨fun h=>h⟩
 have HBAD:Shut (∀ k,k<d.size→okC ((bl d).getD k 0)=false→vr=false):=⟨hbad⟩
 have HEND:Shut ((∀ j,j<d.size→okC ((bl d).getD j 0)=true)→vr=decide (0<d.size∧d.size≤200∧(hd0 d=48→d=ba [48]))):=⟨hend⟩
 clear hbad hend hc
 have H45:Shut (∀ h:0<d.size,d[0].toNat≠45):=⟨fun h=>by rw [hd0_get d h];exact h45⟩
 go_enter Tryz.func48, Tryz.ntmps48
 by_cases hs0:d.size=0
 ·have HE:Shut (vr=false):=⟨by rw [HEND.o (fun j hj=>by omega)];exact decide_eq_false (by omega)⟩
  clear HEND HBAD HDZ HNZ H45
  go_upto_region 2 with fail
  go_loopw [2,3] (fun rv iv wr=>rv = .bool false∧iv = .int .i64 0∧wr=w) (fun _ _ _=>0)
  case atStart=>exact ⟨rfl,rfl,rfl⟩
  case round =>
   obtain ⟨rfl,rfl,rfl⟩:=hrel
   go_wp2
   go_ret
   exact ⟨by rw [HE.o];rfl,0,rfl⟩
 ·have hs1:0<d.size:=by omega
  obtain ⟨b0,hbe⟩:∃ b0,d[0].toNat=b0:=⟨_,rfl⟩
  have hb0:b0≠45:=by rw [←hbe];exact H45.o hs1
  have hbq:(((b0:Nat):Int) == 45)=false:=by rw [beq_eq_false_iff_ne];omega
  go_upto_region 2 with fail
  clear hb0 hbe
  go_loopw [2,3] (fun rv iv wr=>rv = .bool false∧∃ k:Nat,k≤d.size∧iv = .int .i64 k∧(∃ m,wr=w.drewN m)∧Shut (∀ j,j<k→okC ((bl d).getD j 0)=true)) (fun _ iv _=>d.size-(intOf iv).toNat)
  case atStart=>exact ⟨rfl,0,by omega,rfl,⟨0,rfl⟩,⟨fun j hj=>by omega⟩⟩
  case round =>
   obtain ⟨rfl,k,hk,rfl,⟨m,hw⟩,hall⟩:=hrel
   have HW:Shut _:=⟨hw⟩
   clear hw
   by_cases hlt:k<d.size
   ·have hgk:=bl_get d k hlt
    by_cases hok:okC ((bl d).getD k 0)=true
    ·have hall2:Shut (∀ j,j<k+1→okC ((bl d).getD j 0)=true):=⟨fun j hj=>by
      by_cases e:j=k
      ·rw [e];exact hok
      ·exact hall.o j (by omega)⟩
     rw [hgk,okC,Bool.and_eq_true,decide_eq_true_eq,decide_eq_true_eq] at hok
     obtain ⟨h1,h2⟩:=hok
     clear hgk hall
     go_wp2
     exact ⟨⟨rfl,k+1,by omega,by go_num,⟨m,HW.o⟩,hall2⟩,by simp [intOf];omega⟩
    ·have HF:Shut (vr=false):=⟨HBAD.o k hlt (by simpa using hok)⟩
     rw [hgk,okC,Bool.and_eq_true,decide_eq_true_eq,decide_eq_true_eq] at hok
     clear hgk hall
     by_cases h1:d[k].toNat<48
     ·go_wp2
      go_ret
      exact ⟨by rw [HF.o];rfl,m,HW.o⟩
     ·have h2:57<d[k].toNat:=by omega
      go_wp2
      go_ret
      exact ⟨by rw [HF.o];rfl,m,HW.o⟩
   ·obtain rfl:k=d.size:=by omega
    have HE:Shut _:=⟨HEND.o hall.o⟩
    have HZ:Shut _:=⟨zero_eq d⟩
    clear hall
    by_cases h0:d.size=0
    ·have HF:Shut (vr=false):=⟨by rw [HE.o];exact decide_eq_false (by omega)⟩
     go_wp2
     go_ret
     exact ⟨by rw [HF.o];rfl,m,HW.o⟩
    ·by_cases h200:200<d.size
     ·have HF:Shut (vr=false):=⟨by rw [HE.o];exact decide_eq_false (by omega)⟩
      go_wp2
      go_ret
      exact ⟨by rw [HF.o];rfl,m,HW.o⟩
     ·have hp:0<d.size:=by omega
      have hg:=hd0_get d hp
      by_cases hd:d=ba [48]
      ·have hzz:(d.toList == [48])=true:=by rw [HZ.o];exact decide_eq_true hd
       have HF:Shut (vr=true):=⟨by rw [HE.o];exact decide_eq_true ⟨hp,by omega,fun _=>HDZ.o hd⟩⟩
       clear hd
       go_wp2
       go_ret
       exact ⟨by rw [HF.o];rfl,m,HW.o⟩
      ·have hzz:(d.toList == [48])=false:=by rw [HZ.o];exact decide_eq_false hd
       by_cases h48:hd0 d=48
       ·have HF:Shut (vr=false):=⟨by rw [HE.o];exact decide_eq_false (fun h=>HNZ.o hd (h.2.2 h48))⟩
        have hb:d[0].toNat=48:=by rw [hg];exact h48
        clear hd hg h48
        go_wp2
        go_ret
        exact ⟨by rw [HF.o];rfl,m,HW.o⟩
       ·have HF:Shut (vr=true):=⟨by rw [HE.o];exact decide_eq_true ⟨hp,by omega,fun h=>absurd h h48⟩⟩
        have hb:d[0].toNat≠48:=by rw [hg];exact h48
        have hb2:(((d[0].toNat:Nat):Int) == 48)=false:=by rw [beq_eq_false_iff_ne];omega
        have hb3:(((d[0].toNat:Nat):Int) != 48)=true:=by rw [bne,hb2];rfl
        clear hd hg h48
        go_wp2
        go_ret
        exact ⟨by rw [HF.o];rfl,m,HW.o⟩

theorem Valid_neg (s : ByteArray) (hs : s.size ≤ 1000000) (h45 : hd0 s = 45) (w : World) :
    Calls Tryz.prog 48 #[Z s] w fun e w' => e = .returned (.bool (validB s)) ∧ ∃ m, w' = w.drewN m := by
  have hbad := valid_bad s
  have hend := valid_end s
  obtain ⟨vr, hvr⟩ : ∃ vr, vr = validB s := ⟨_, rfl⟩
  rw [← hvr] at hbad hend ⊢
  clear hvr
  have hp0 : 0 < s.size := by
    rcases Nat.eq_zero_or_pos s.size with h | h
    · rw [hd0_nil h] at h45; exact absurd h45 (by decide)
    · exact h
  have hb0 : s[0].toNat = 45 := by rw [hd0_get s hp0]; exact h45
  have hc := cut_neg h45
  rw [hc] at hbad hend
  have hsz : s ≠ ba [48] := by rintro rfl; rw [hd0, bl_zero] at h45; revert h45; decide
  obtain ⟨d, hd⟩ : ∃ d, s.extract 1 s.size = d := ⟨_, rfl⟩
  have hds : d.size = s.size - 1 := by rw [← hd, ByteArray.size_extract]; omega
  rw [hd] at hbad hend
  have HNZ : Shut (d ≠ ba [48] → s ≠ ba [48]) := ⟨fun _ => hsz⟩
  have HBAD : Shut (∀ k, k < d.size → okC ((bl d).getD k 0) = false → vr = false) := ⟨hbad⟩
  have HEND : Shut ((∀ j, j < d.size → okC ((bl d).getD j 0) = true) → vr = decide (0 < d.size ∧ d.size ≤ 200 ∧ (hd0 d = 48 → s = ba [48]))) := ⟨hend⟩
  have HZ0 : Shut (d = ba [48] → vr = false) := ⟨fun h => by
    rw [hend (by subst h; rw [bl_zero]; intro j hj; have hz : (ba [48]).size = 1 := rfl; obtain rfl : j = 0 := by omega
                 decide)]
    exact decide_eq_false (fun c => hsz (c.2.2 (by rw [h, hd0, bl_zero]; rfl)))⟩
  clear hbad hend hc h45 hsz
  have hi1 : (1 : Int) ≤ (s.size : Int) := by omega
  by_cases hdz : d = ba [48]
  · have HF : Shut (vr = false) := ⟨HZ0.o hdz⟩
    have hzz : (d.toList == [48]) = true := by rw [zero_eq]; exact decide_eq_true hdz
    clear hdz
    go_enter Tryz.func48, Tryz.ntmps48
    go_wp2
    go_ret
    exact ⟨by rw [HF.o]; rfl, 0, rfl⟩
  · have hzz : (d.toList == [48]) = false := by rw [zero_eq]; exact decide_eq_false hdz
    have HND : Shut (d ≠ ba [48]) := ⟨hdz⟩
    clear hdz
    go_enter Tryz.func48, Tryz.ntmps48
    go_upto_region 2 with fail
    go_upto_region 99 with fail
    go_loopw [2, 3] (fun rv iv wr => rv = .bool false ∧ ∃ k : Nat, k ≤ d.size ∧ iv = .int .i64 k ∧ (∃ m, wr = w.drewN m) ∧ Shut (∀ j, j < k → okC ((bl d).getD j 0) = true)) (fun _ iv _ => d.size - (intOf iv).toNat)
    case atStart => exact ⟨rfl, 0, by omega, rfl, ⟨0, rfl⟩, ⟨fun j hj => by omega⟩⟩
    case round =>
      obtain ⟨rfl, k, hk, rfl, ⟨m, hw⟩, hall⟩ := hrel
      have HW : Shut _ := ⟨hw⟩
      clear hw
      by_cases hlt : k < d.size
      · have hgk := bl_get d k hlt
        by_cases hok : okC ((bl d).getD k 0) = true
        · have hall2 : Shut (∀ j, j < k + 1 → okC ((bl d).getD j 0) = true) := ⟨fun j hj => by
            by_cases e : j = k
            · rw [e]; exact hok
            · exact hall.o j (by omega)⟩
          rw [hgk, okC, Bool.and_eq_true, decide_eq_true_eq, decide_eq_true_eq] at hok
          obtain ⟨h1, h2⟩ := hok
          clear hgk hall
          go_wp2
          exact ⟨⟨rfl, k + 1, by omega, by go_num, ⟨m, HW.o⟩, hall2⟩, by simp [intOf]; omega⟩
        · have HF : Shut (vr = false) := ⟨HBAD.o k hlt (by simpa using hok)⟩
          rw [hgk, okC, Bool.and_eq_true, decide_eq_true_eq, decide_eq_true_eq] at hok
          clear hgk hall
          by_cases h1 : d[k].toNat < 48
          · go_wp2
            go_ret
            exact ⟨by rw [HF.o]; rfl, m, HW.o⟩
          · have h2 : 57 < d[k].toNat := by omega
            go_wp2
            go_ret
            exact ⟨by rw [HF.o]; rfl, m, HW.o⟩
      · obtain rfl : k = d.size := by omega
        have HE : Shut _ := ⟨HEND.o hall.o⟩
        have HZ : Shut _ := ⟨zero_eq d⟩
        clear hall
        by_cases h0 : d.size = 0
        · have HF : Shut (vr = false) := ⟨by rw [HE.o]; exact decide_eq_false (by omega)⟩
          go_wp2
          go_ret
          exact ⟨by rw [HF.o]; rfl, m, HW.o⟩
        · by_cases h200 : 200 < d.size
          · have HF : Shut (vr = false) := ⟨by rw [HE.o]; exact decide_eq_false (by omega)⟩
            go_wp2
            go_ret
            exact ⟨by rw [HF.o]; rfl, m, HW.o⟩
          · have hp : 0 < d.size := by omega
            have hg := hd0_get d hp
            by_cases hd : d = ba [48]
            · exact absurd hd HND.o
            · have hzz : (d.toList == [48]) = false := by rw [HZ.o]; exact decide_eq_false hd
              by_cases h48 : hd0 d = 48
              · have HF : Shut (vr = false) := ⟨by rw [HE.o]; exact decide_eq_false (fun h => HNZ.o hd (h.2.2 h48))⟩
                have hb : d[0].toNat = 48 := by rw [hg]; exact h48
                clear hd hg h48
                go_wp2
                go_ret
                exact ⟨by rw [HF.o]; rfl, m, HW.o⟩
              · have HF : Shut (vr = true) := ⟨by rw [HE.o]; exact decide_eq_true ⟨hp, by omega, fun h => absurd h h48⟩⟩
                have hb : d[0].toNat ≠ 48 := by rw [hg]; exact h48
                have hb2 : (((d[0].toNat : Nat) : Int) == 48) = false := by rw [beq_eq_false_iff_ne]; omega
                have hb3 : (((d[0].toNat : Nat) : Int) != 48) = true := by rw [bne, hb2]; rfl
                clear hd hg h48
                go_wp2
                go_ret
                exact ⟨by rw [HF.o]; rfl, m, HW.o⟩
theorem Valid_ref (s:ByteArray) (hs:s.size≤1000000) (w:World) :
  Calls Tryz.prog 48 #[Z s] w fun e w'=>e = .returned (.bool (validB s))∧∃ m,w'=w.drewN m:=by
 by_cases h:hd0 s=45
 ·exact Valid_neg s hs h w
 ·exact Valid_pos s hs h w
end N10
end
section
namespace N10
open Go.RowKit

theorem fitsL {z:Int} (h:Fits z):(natL z.natAbs).length≤200:=by rw [←decN_len];exact h
theorem sg_not (s:Bool) (n:Nat):sg (!s) n = - sg s n:=by cases s <;> simp [sg]
theorem sg_mul (a b:Bool) (m n:Nat):sg (a != b) (m*n)=sg a m*sg b n:=by cases a <;> cases b <;> simp [sg,Int.natCast_mul,Int.neg_mul,Int.mul_neg]
theorem mul_len {m n:Nat} (hm:(natL m).length≤200) (hn:(natL n).length≤200):(natL (m*n)).length≤1000:=by
 have h1:=natL_lt m
 have h2:=natL_lt n
 have h3:(natL (m*n)).length≤(natL m).length+(natL n).length:=natL_len_le (by rw [Nat.pow_add];exact Nat.mul_lt_mul_of_lt_of_le h1 (Nat.le_of_lt h2) (Nat.pow_pos (by decide)))
 omega
theorem Valid_yes (x:Int) (hx:Fits x) (w:World) :
  Calls Tryz.prog 48 #[Z (txt x)] w fun e w'=>e = .returned (.bool true)∧∃ m,w'=w.drewN m:=by
 have h:=Valid_ref (txt x) (by have:=txt_size hx;omega) w
 rw [valid_txt x hx] at h
 exact h
theorem drawn_below {w w':World} (h:∃ m,w'=w.drewN m):Below w.heap.size w w':=by
 obtain ⟨m,rfl⟩:=h
 exact below_drewN (Below.refl _ w) m
theorem Compare_nn (x y:Int) (hx:Fits x) (hy:Fits y) (h1:x<0) (h2:y<0) (w:World) :
  Calls Tryz.prog 49 #[Z (txt x),Z (txt y)] w fun e w'=>e = .returned (.int .i64 (cmpZ x y))∧Below w.heap.size w w':=by
 have lx:=fitsL hx
 have ly:=fitsL hy
 have ca:=fun W=>Valid_yes x hx W
 have cb:=fun W=>Valid_yes y hy W
 have dx:=fun W=>digits_ref x (by omega) W
 have dy:=fun W=>digits_ref y (by omega) W
 rw [decide_eq_true (by omega)] at dx
 rw [decide_eq_true (by omega)] at dy
 have hz:cmpZ x y=cmpN y.natAbs x.natAbs:=by unfold cmpZ cmpN;(repeat' split) <;> omega
 rw [hz]
 have co:=fun (va vb:Value) (W:World) (ha:NI W va (natL y.natAbs)) (hb:NI W vb (natL x.natAbs))=>order_ref y.natAbs x.natAbs va vb W ha hb (by omega) (by omega)
 generalize cmpN y.natAbs x.natAbs=cv at *
 clear hz h1 h2 hx hy lx ly
 generalize txt x=s at *
 generalize txt y=t at *
 generalize natL x.natAbs=kx at *
 generalize natL y.natAbs=ky at *
 go_enter Tryz.func49, Tryz.ntmps49
 go_wp2_with (first | (go_at_call 48; with_reducible refine (ca _).mono ?_;rintro e w1 ⟨rfl,hm⟩;have hb1:=drawn_below hm;clear hm) | (go_at_call 48; with_reducible refine (cb _).mono ?_;rintro e w2 ⟨rfl,hm⟩;have hb2:=drawn_below hm;clear hm) | (go_at_call 100; with_reducible refine (dx _).mono ?_;rintro e w3 ⟨v3,rfl,hv3,hb3⟩) | (go_at_call 100; with_reducible refine (dy _).mono ?_;rintro e w4 ⟨v4,rfl,hv4,hb4⟩;have hv5:=hv3.below hb4 (Nat.le_refl _)) | (go_at_call 103; refine (co v4 v3 w4 hv4 hv5).mono ?_;rintro e w5 ⟨rfl,hm⟩;have hb5:=drawn_below hm;clear hm))
 go_ret
 have q1:=hb1
 have q2:=q1.trans (hb2.mono q1.size)
 have q3:=q2.trans (hb3.mono q2.size)
 have q4:=q3.trans (hb4.mono q3.size)
 exact ⟨rfl,q4.trans (hb5.mono q4.size)⟩
theorem Compare_np (x y:Int) (hx:Fits x) (hy:Fits y) (h1:x<0) (h2:0≤y) (w:World) :
  Calls Tryz.prog 49 #[Z (txt x),Z (txt y)] w fun e w'=>e = .returned (.int .i64 (cmpZ x y))∧Below w.heap.size w w':=by
 have lx:=fitsL hx
 have ly:=fitsL hy
 have ca:=fun W=>Valid_yes x hx W
 have cb:=fun W=>Valid_yes y hy W
 have dx:=fun W=>digits_ref x (by omega) W
 have dy:=fun W=>digits_ref y (by omega) W
 rw [decide_eq_true (by omega)] at dx
 rw [decide_eq_false (by omega)] at dy
 have hz:cmpZ x y = -1:=by unfold cmpZ;(repeat' split) <;> omega
 rw [hz]
 clear hz h1 h2 hx hy lx ly
 generalize txt x=s at *
 generalize txt y=t at *
 generalize natL x.natAbs=kx at *
 generalize natL y.natAbs=ky at *
 go_enter Tryz.func49, Tryz.ntmps49
 go_wp2_with (first | (go_at_call 48; with_reducible refine (ca _).mono ?_;rintro e w1 ⟨rfl,hm⟩;have hb1:=drawn_below hm;clear hm) | (go_at_call 48; with_reducible refine (cb _).mono ?_;rintro e w2 ⟨rfl,hm⟩;have hb2:=drawn_below hm;clear hm) | (go_at_call 100; with_reducible refine (dx _).mono ?_;rintro e w3 ⟨v3,rfl,hv3,hb3⟩) | (go_at_call 100; with_reducible refine (dy _).mono ?_;rintro e w4 ⟨v4,rfl,hv4,hb4⟩;have hv5:=hv3.below hb4 (Nat.le_refl _)) | fail)
 go_ret
 have q1:=hb1
 have q2:=q1.trans (hb2.mono q1.size)
 have q3:=q2.trans (hb3.mono q2.size)
 have q4:=q3.trans (hb4.mono q3.size)
 exact ⟨rfl,q4⟩
theorem Compare_pn (x y:Int) (hx:Fits x) (hy:Fits y) (h1:0≤x) (h2:y<0) (w:World) :
  Calls Tryz.prog 49 #[Z (txt x),Z (txt y)] w fun e w'=>e = .returned (.int .i64 (cmpZ x y))∧Below w.heap.size w w':=by
 have lx:=fitsL hx
 have ly:=fitsL hy
 have ca:=fun W=>Valid_yes x hx W
 have cb:=fun W=>Valid_yes y hy W
 have dx:=fun W=>digits_ref x (by omega) W
 have dy:=fun W=>digits_ref y (by omega) W
 rw [decide_eq_false (by omega)] at dx
 rw [decide_eq_true (by omega)] at dy
 have hz:cmpZ x y=1:=by unfold cmpZ;(repeat' split) <;> omega
 rw [hz]
 clear hz h1 h2 hx hy lx ly
 generalize txt x=s at *
 generalize txt y=t at *
 generalize natL x.natAbs=kx at *
 generalize natL y.natAbs=ky at *
 go_enter Tryz.func49, Tryz.ntmps49
 go_wp2_with (first | (go_at_call 48; with_reducible refine (ca _).mono ?_;rintro e w1 ⟨rfl,hm⟩;have hb1:=drawn_below hm;clear hm) | (go_at_call 48; with_reducible refine (cb _).mono ?_;rintro e w2 ⟨rfl,hm⟩;have hb2:=drawn_below hm;clear hm) | (go_at_call 100; with_reducible refine (dx _).mono ?_;rintro e w3 ⟨v3,rfl,hv3,hb3⟩) | (go_at_call 100; with_reducible refine (dy _).mono ?_;rintro e w4 ⟨v4,rfl,hv4,hb4⟩;have hv5:=hv3.below hb4 (Nat.le_refl _)) | fail)
 go_ret
 have q1:=hb1
 have q2:=q1.trans (hb2.mono q1.size)
 have q3:=q2.trans (hb3.mono q2.size)
 have q4:=q3.trans (hb4.mono q3.size)
 exact ⟨rfl,q4⟩
theorem Compare_pp (x y:Int) (hx:Fits x) (hy:Fits y) (h1:0≤x) (h2:0≤y) (w:World) :
  Calls Tryz.prog 49 #[Z (txt x),Z (txt y)] w fun e w'=>e = .returned (.int .i64 (cmpZ x y))∧Below w.heap.size w w':=by
 have lx:=fitsL hx
 have ly:=fitsL hy
 have ca:=fun W=>Valid_yes x hx W
 have cb:=fun W=>Valid_yes y hy W
 have dx:=fun W=>digits_ref x (by omega) W
 have dy:=fun W=>digits_ref y (by omega) W
 rw [decide_eq_false (by omega)] at dx
 rw [decide_eq_false (by omega)] at dy
 have hz:cmpZ x y=cmpN x.natAbs y.natAbs:=by unfold cmpZ cmpN;(repeat' split) <;> omega
 rw [hz]
 have co:=fun (va vb:Value) (W:World) (ha:NI W va (natL x.natAbs)) (hb:NI W vb (natL y.natAbs))=>order_ref x.natAbs y.natAbs va vb W ha hb (by omega) (by omega)
 generalize cmpN x.natAbs y.natAbs=cv at *
 clear hz h1 h2 hx hy lx ly
 generalize txt x=s at *
 generalize txt y=t at *
 generalize natL x.natAbs=kx at *
 generalize natL y.natAbs=ky at *
 go_enter Tryz.func49, Tryz.ntmps49
 go_wp2_with (first | (go_at_call 48; with_reducible refine (ca _).mono ?_;rintro e w1 ⟨rfl,hm⟩;have hb1:=drawn_below hm;clear hm) | (go_at_call 48; with_reducible refine (cb _).mono ?_;rintro e w2 ⟨rfl,hm⟩;have hb2:=drawn_below hm;clear hm) | (go_at_call 100; with_reducible refine (dx _).mono ?_;rintro e w3 ⟨v3,rfl,hv3,hb3⟩) | (go_at_call 100; with_reducible refine (dy _).mono ?_;rintro e w4 ⟨v4,rfl,hv4,hb4⟩;have hv5:=hv3.below hb4 (Nat.le_refl _)) | (go_at_call 103; refine (co v3 v4 w4 hv5 hv4).mono ?_;rintro e w5 ⟨rfl,hm⟩;have hb5:=drawn_below hm;clear hm))
 go_ret
 have q1:=hb1
 have q2:=q1.trans (hb2.mono q1.size)
 have q3:=q2.trans (hb3.mono q2.size)
 have q4:=q3.trans (hb4.mono q3.size)
 exact ⟨rfl,q4.trans (hb5.mono q4.size)⟩
theorem Compare_ref (x y:Int) (hx:Fits x) (hy:Fits y) (w:World) :
  Calls Tryz.prog 49 #[Z (txt x),Z (txt y)] w fun e w'=>e = .returned (.int .i64 (cmpZ x y))∧Below w.heap.size w w':=by
 by_cases h1:x<0 <;> by_cases h2:y<0
 ·exact Compare_nn x y hx hy h1 h2 w
 ·exact Compare_np x y hx hy h1 (by omega) w
 ·exact Compare_pn x y hx hy (by omega) h2 w
 ·exact Compare_pp x y hx hy (by omega) (by omega) w
theorem Add_ref (x y:Int) (hx:Fits x) (hy:Fits y) (w:World) :
  Calls Tryz.prog 133 #[Z (txt x),Z (txt y)] w fun e w'=>e = .returned (calcR (x+y))∧Below w.heap.size w w':=by
 have lx:=fitsL hx
 have ly:=fitsL hy
 have ca:=fun W=>Valid_yes x hx W
 have cb:=fun W=>Valid_yes y hy W
 have dx:=fun W=>digits_ref x (by omega) W
 have dy:=fun W=>digits_ref y (by omega) W
 have cs:∀ (va vb:Value) (W:World),NI W va (natL x.natAbs)→NI W vb (natL y.natAbs)→Calls Tryz.prog 101 #[.bool (decide (x<0)),va,.bool (decide (y<0)),vb] W fun e w'=>e = .returned (calcR (x+y))∧Below W.heap.size W w':=fun va vb W ha hb=>by
  have h:=sum_ref (decide (x<0)) (decide (y<0)) x.natAbs y.natAbs va vb W ha hb (by omega) (by omega)
  rw [sg_of,sg_of] at h
  exact h
 generalize x+y=z at *
 obtain ⟨r,c,hr⟩:=calcR_two z
 rw [hr] at cs ⊢
 clear hr hx hy lx ly
 generalize txt x=s at *
 generalize txt y=t at *
 generalize decide (x<0)=sx at *
 generalize decide (y<0)=sy at *
 generalize natL x.natAbs=kx at *
 generalize natL y.natAbs=ky at *
 go_enter Tryz.func133, Tryz.ntmps133
 go_wp2_with (first | (go_at_call 48; with_reducible refine (ca _).mono ?_;rintro e w1 ⟨rfl,hm⟩;have hb1:=drawn_below hm;clear hm) | (go_at_call 48; with_reducible refine (cb _).mono ?_;rintro e w2 ⟨rfl,hm⟩;have hb2:=drawn_below hm;clear hm) | (go_at_call 100; with_reducible refine (dx _).mono ?_;rintro e w3 ⟨v3,rfl,hv3,hb3⟩) | (go_at_call 100; with_reducible refine (dy _).mono ?_;rintro e w4 ⟨v4,rfl,hv4,hb4⟩;have hv5:=hv3.below hb4 (Nat.le_refl _)) | (go_at_call 101; refine (cs v3 v4 w4 hv5 hv4).mono ?_;rintro e w5 ⟨rfl,hb5⟩))
 go_ret2
 have q1:=hb1
 have q2:=q1.trans (hb2.mono q1.size)
 have q3:=q2.trans (hb3.mono q2.size)
 have q4:=q3.trans (hb4.mono q3.size)
 exact ⟨rfl,q4.trans (hb5.mono q4.size)⟩
theorem Sub_ref (x y:Int) (hx:Fits x) (hy:Fits y) (w:World) :
  Calls Tryz.prog 46 #[Z (txt x),Z (txt y)] w fun e w'=>e = .returned (calcR (x-y))∧Below w.heap.size w w':=by
 have lx:=fitsL hx
 have ly:=fitsL hy
 have ca:=fun W=>Valid_yes x hx W
 have cb:=fun W=>Valid_yes y hy W
 have dx:=fun W=>digits_ref x (by omega) W
 have dy:=fun W=>digits_ref y (by omega) W
 have cs:∀ (va vb:Value) (W:World),NI W va (natL x.natAbs)→NI W vb (natL y.natAbs)→Calls Tryz.prog 101 #[.bool (decide (x<0)),va,.bool (!decide (y<0)),vb] W fun e w'=>e = .returned (calcR (x-y))∧Below W.heap.size W w':=fun va vb W ha hb=>by
  have h:=sum_ref (decide (x<0)) (!decide (y<0)) x.natAbs y.natAbs va vb W ha hb (by omega) (by omega)
  rw [sg_not,sg_of,sg_of,←Int.sub_eq_add_neg] at h
  exact h
 generalize x-y=z at *
 obtain ⟨r,c,hr⟩:=calcR_two z
 rw [hr] at cs ⊢
 clear hr hx hy lx ly
 generalize txt x=s at *
 generalize txt y=t at *
 generalize decide (x<0)=sx at *
 generalize decide (y<0)=sy at *
 generalize natL x.natAbs=kx at *
 generalize natL y.natAbs=ky at *
 go_enter Tryz.func46, Tryz.ntmps46
 go_wp2_with (first | (go_at_call 48; with_reducible refine (ca _).mono ?_;rintro e w1 ⟨rfl,hm⟩;have hb1:=drawn_below hm;clear hm) | (go_at_call 48; with_reducible refine (cb _).mono ?_;rintro e w2 ⟨rfl,hm⟩;have hb2:=drawn_below hm;clear hm) | (go_at_call 100; with_reducible refine (dx _).mono ?_;rintro e w3 ⟨v3,rfl,hv3,hb3⟩) | (go_at_call 100; with_reducible refine (dy _).mono ?_;rintro e w4 ⟨v4,rfl,hv4,hb4⟩;have hv5:=hv3.below hb4 (Nat.le_refl _)) | (go_at_call 101; refine (cs v3 v4 w4 hv5 hv4).mono ?_;rintro e w5 ⟨rfl,hb5⟩))
 go_ret2
 have q1:=hb1
 have q2:=q1.trans (hb2.mono q1.size)
 have q3:=q2.trans (hb3.mono q2.size)
 have q4:=q3.trans (hb4.mono q3.size)
 exact ⟨rfl,q4.trans (hb5.mono q4.size)⟩
theorem Mul_ref (x y:Int) (hx:Fits x) (hy:Fits y) (w:World) :
  Calls Tryz.prog 99 #[Z (txt x),Z (txt y)] w fun e w'=>e = .returned (calcR (x*y))∧Below w.heap.size w w':=by
 have lx:=fitsL hx
 have ly:=fitsL hy
 have ca:=fun W=>Valid_yes x hx W
 have cb:=fun W=>Valid_yes y hy W
 have dx:=fun W=>digits_ref x (by omega) W
 have dy:=fun W=>digits_ref y (by omega) W
 have ct:=fun (va vb:Value) (W:World) (ha:NI W va (natL x.natAbs)) (hb:NI W vb (natL y.natAbs))=>times_ref x.natAbs y.natAbs va vb W ha hb (by omega) (by omega)
 have hlen:=mul_len lx ly
 have cs:∀ (v:Value) (W:World),NI W v (natL (x.natAbs*y.natAbs))→Calls Tryz.prog 105 #[.bool (decide (x<0) != decide (y<0)),v] W fun e w'=>e = .returned (calcR (x*y))∧Below W.heap.size W w':=fun v W h=>by
  have hc:=checked_ref (decide (x<0) != decide (y<0)) (x.natAbs*y.natAbs) v W h hlen
  rw [sg_mul,sg_of,sg_of] at hc
  exact hc
 clear hlen
 generalize natL (x.natAbs*y.natAbs)=kz at *
 generalize x*y=z at *
 obtain ⟨r,c,hr⟩:=calcR_two z
 rw [hr] at cs ⊢
 clear hr hx hy lx ly
 generalize txt x=s at *
 generalize txt y=t at *
 generalize decide (x<0)=sx at *
 generalize decide (y<0)=sy at *
 generalize natL x.natAbs=kx at *
 generalize natL y.natAbs=ky at *
 go_enter Tryz.func99, Tryz.ntmps99
 go_wp2_with (first | (go_at_call 48; with_reducible refine (ca _).mono ?_;rintro e w1 ⟨rfl,hm⟩;have hb1:=drawn_below hm;clear hm) | (go_at_call 48; with_reducible refine (cb _).mono ?_;rintro e w2 ⟨rfl,hm⟩;have hb2:=drawn_below hm;clear hm) | (go_at_call 100; with_reducible refine (dx _).mono ?_;rintro e w3 ⟨v3,rfl,hv3,hb3⟩) | (go_at_call 100; with_reducible refine (dy _).mono ?_;rintro e w4 ⟨v4,rfl,hv4,hb4⟩;have hv5:=hv3.below hb4 (Nat.le_refl _)) | (go_at_call 150; refine (ct v3 v4 w4 hv5 hv4).mono ?_;rintro e w5 ⟨v5,rfl,hw5,hb5⟩) | (go_at_call 105; refine (cs v5 w5 hw5).mono ?_;rintro e w6 ⟨rfl,hb6⟩))
 go_ret2
 have q1:=hb1
 have q2:=q1.trans (hb2.mono q1.size)
 have q3:=q2.trans (hb3.mono q2.size)
 have q4:=q3.trans (hb4.mono q3.size)
 have q5:=q4.trans (hb5.mono q4.size)
 exact ⟨rfl,q5.trans (hb6.mono q5.size)⟩
/-! ### what is not valid -/
theorem Compare_bad (s t:ByteArray) (hs:s.size≤1000000) (ht:t.size≤1000000) (h:validB s=false∨validB t=false) (w:World) :
  Calls Tryz.prog 49 #[Z s,Z t] w fun e w'=>e = .returned (.int .i64 0)∧Below w.heap.size w w':=by
 have ca:=fun W=>Valid_ref s hs W
 have cb:=fun W=>Valid_ref t ht W
 clear hs ht
 generalize validB s=bs at *
 generalize validB t=bt at *
 go_enter Tryz.func49, Tryz.ntmps49
 cases bs
 ·clear h
  go_wp2_with (go_at_call 48; with_reducible refine (ca _).mono ?_;rintro e w1 ⟨rfl,hm⟩;have hb1:=drawn_below hm;clear hm)
  go_ret
  exact ⟨rfl,hb1⟩
 ·obtain rfl:bt=false:=by simpa using h
  clear h
  go_wp2_with (first | (go_at_call 48; with_reducible refine (ca _).mono ?_;rintro e w1 ⟨rfl,hm⟩;have hb1:=drawn_below hm;clear hm) | (go_at_call 48; with_reducible refine (cb _).mono ?_;rintro e w2 ⟨rfl,hm⟩;have hb2:=drawn_below hm;clear hm))
  go_ret
  exact ⟨rfl,hb1.trans (hb2.mono hb1.size)⟩
theorem Add_bad (s t:ByteArray) (hs:s.size≤1000000) (ht:t.size≤1000000) (h:validB s=false∨validB t=false) (w:World) :
  Calls Tryz.prog 133 #[Z s,Z t] w fun e w'=>e = .returned (.tuple #[Z ⟨#[]⟩,.int .i64 30])∧Below w.heap.size w w':=by
 have ca:=fun W=>Valid_ref s hs W
 have cb:=fun W=>Valid_ref t ht W
 clear hs ht
 generalize validB s=bs at *
 generalize validB t=bt at *
 go_enter Tryz.func133, Tryz.ntmps133
 cases bs
 ·clear h
  go_wp2_with (go_at_call 48; with_reducible refine (ca _).mono ?_;rintro e w1 ⟨rfl,hm⟩;have hb1:=drawn_below hm;clear hm)
  go_ret2
  exact ⟨rfl,hb1⟩
 ·obtain rfl:bt=false:=by simpa using h
  clear h
  go_wp2_with (first | (go_at_call 48; with_reducible refine (ca _).mono ?_;rintro e w1 ⟨rfl,hm⟩;have hb1:=drawn_below hm;clear hm) | (go_at_call 48; with_reducible refine (cb _).mono ?_;rintro e w2 ⟨rfl,hm⟩;have hb2:=drawn_below hm;clear hm))
  go_ret2
  exact ⟨rfl,hb1.trans (hb2.mono hb1.size)⟩
theorem Sub_bad (s t:ByteArray) (hs:s.size≤1000000) (ht:t.size≤1000000) (h:validB s=false∨validB t=false) (w:World) :
  Calls Tryz.prog 46 #[Z s,Z t] w fun e w'=>e = .returned (.tuple #[Z ⟨#[]⟩,.int .i64 30])∧Below w.heap.size w w':=by
 have ca:=fun W=>Valid_ref s hs W
 have cb:=fun W=>Valid_ref t ht W
 clear hs ht
 generalize validB s=bs at *
 generalize validB t=bt at *
 go_enter Tryz.func46, Tryz.ntmps46
 cases bs
 ·clear h
  go_wp2_with (go_at_call 48; with_reducible refine (ca _).mono ?_;rintro e w1 ⟨rfl,hm⟩;have hb1:=drawn_below hm;clear hm)
  go_ret2
  exact ⟨rfl,hb1⟩
 ·obtain rfl:bt=false:=by simpa using h
  clear h
  go_wp2_with (first | (go_at_call 48; with_reducible refine (ca _).mono ?_;rintro e w1 ⟨rfl,hm⟩;have hb1:=drawn_below hm;clear hm) | (go_at_call 48; with_reducible refine (cb _).mono ?_;rintro e w2 ⟨rfl,hm⟩;have hb2:=drawn_below hm;clear hm))
  go_ret2
  exact ⟨rfl,hb1.trans (hb2.mono hb1.size)⟩
theorem Mul_bad (s t:ByteArray) (hs:s.size≤1000000) (ht:t.size≤1000000) (h:validB s=false∨validB t=false) (w:World) :
  Calls Tryz.prog 99 #[Z s,Z t] w fun e w'=>e = .returned (.tuple #[Z ⟨#[]⟩,.int .i64 30])∧Below w.heap.size w w':=by
 have ca:=fun W=>Valid_ref s hs W
 have cb:=fun W=>Valid_ref t ht W
 clear hs ht
 generalize validB s=bs at *
 generalize validB t=bt at *
 go_enter Tryz.func99, Tryz.ntmps99
 cases bs
 ·clear h
  go_wp2_with (go_at_call 48; with_reducible refine (ca _).mono ?_;rintro e w1 ⟨rfl,hm⟩;have hb1:=drawn_below hm;clear hm)
  go_ret2
  exact ⟨rfl,hb1⟩
 ·obtain rfl:bt=false:=by simpa using h
  clear h
  go_wp2_with (first | (go_at_call 48; with_reducible refine (ca _).mono ?_;rintro e w1 ⟨rfl,hm⟩;have hb1:=drawn_below hm;clear hm) | (go_at_call 48; with_reducible refine (cb _).mono ?_;rintro e w2 ⟨rfl,hm⟩;have hb2:=drawn_below hm;clear hm))
  go_ret2
  exact ⟨rfl,hb1.trans (hb2.mono hb1.size)⟩
end N10
end
end Go.Proofs.YtbfonkabmehlmaaGreatDoor
