/-
  The reference: Div.
  The reference: Div, the third case.
  The reference: Div, all of it.
  The reference: Gcd.
-/
import Derived.Test.YtbfonkabmehlmaaGreatDoorY6B2
import Derived.Test.YtbfonkabmehlmaaGreatDoorY6A5
import Derived.Test.YtbfonkabmehlmaaGreatDoorY6A3
set_option maxRecDepth 1000000
set_option maxHeartbeats 40000000
open Go.Value renaming string→Z
open Go.Obj renaming cells→O
namespace Go.Proofs.YtbfonkabmehlmaaGreatDoor
section
namespace N10
open Go.RowKit

theorem quot_fits {x y:Int} (hx:Fits x) (hy:y≠0):Fits (x / y):=by
 have h0:(x / y).natAbs≤x.natAbs:=by
  by_cases hc:x<0∧0<x.natAbs % y.natAbs
  ·obtain ⟨_,h2,_,_⟩:=div_built x y hy _ _ (.inr ⟨hc.1,hc.2,rfl,rfl⟩)
   have hy2:2≤y.natAbs:=by
    rcases Nat.lt_or_ge y.natAbs 2 with h | h
    ·have h1:y.natAbs=1:=by omega
     rw [h1,Nat.mod_one] at hc;omega
    ·exact h
   have h3:x.natAbs / y.natAbs≤x.natAbs / 2:=Nat.div_le_div_left hy2 (by decide)
   omega
  ·obtain ⟨_,h2,_,_⟩:=div_built x y hy _ _ (.inl ⟨hc,rfl,rfl⟩)
   have:=Nat.div_le_self x.natAbs y.natAbs
   omega
 unfold Fits
 rw [decN_len]
 exact Nat.le_trans (natL_len_mono h0) (fitsL hx)
theorem one_ni (W:World):NI (W.alloc (O #[.int .i64 1] 3)) (.slice (some ⟨W.heap.size,0,none⟩) 1 1) (natL 1):=by
 have h:natL 1 = [1]:=by decide +kernel
 rw [h]
 exact (OwnJ.one W 0 1 (Nat.zero_le _)).ni
theorem sg_quot (x y:Int) (hy:y≠0) (Q R:Nat) (h:(¬(x<0∧0<x.natAbs % y.natAbs)∧Q=x.natAbs / y.natAbs∧R=x.natAbs % y.natAbs)∨(x<0∧0<x.natAbs % y.natAbs∧Q=x.natAbs / y.natAbs+1∧R=y.natAbs-x.natAbs % y.natAbs)) :
  sg (decide (x<0) != decide (y<0)) Q=x / y∧sg false R=x % y:=by
 obtain ⟨h1,h2⟩:=div_form x y hy Q R h
 rw [h1,h2]
 cases decide (x<0) <;> cases decide (y<0) <;> exact ⟨rfl,rfl⟩
theorem Div_pos (x y:Int) (hx:Fits x) (hy:Fits y) (h0:y≠0) (hs:0≤x) (w:World) :
  Calls Tryz.prog 98 #[Z (txt x),Z (txt y)] w fun e w'=>e = .returned (.tuple #[Z (txt (x / y)),Z (txt (x % y)),.int .i64 0])∧Below w.heap.size w w':=by
 have lx:=fitsL hx
 have ly:=fitsL hy
 have ca:=fun W=>Valid_yes x hx W
 have cb:=fun W=>Valid_yes y hy W
 have dx:=fun W=>digits_ref x (by omega) W
 have dy:=fun W=>digits_ref y (by omega) W
 have hf:=quot_fits hx h0
 have hz:((txt y).toList == [48])=false:=by
  rw [zero_eq,decide_eq_false_iff_not]
  intro e
  exact h0 (txt_inj (e.trans txt_0.symm))
 have hn0:y.natAbs≠0:=by omega
 have hmod:=Nat.mod_lt x.natAbs (show 0<y.natAbs by omega)
 have cd:=fun (va vb:Value) (W:World) (ha:NI W va (natL x.natAbs)) (hb:NI W vb (natL y.natAbs))=>divided_ref x.natAbs y.natAbs hn0 va vb W ha hb (by omega) (by omega)
 have hQR:=sg_quot x y h0 (x.natAbs / y.natAbs) (x.natAbs % y.natAbs) (.inl ⟨by omega,rfl,rfl⟩)
 have hlQ:(natL (x.natAbs / y.natAbs)).length≤1000:=by have:=add_len (nx:=x.natAbs / y.natAbs) (ny:=1) (k:=200) (Nat.le_trans (natL_len_mono (Nat.div_le_self _ _)) lx) (by decide +kernel);have h2:=natL_len_mono (show x.natAbs / y.natAbs≤x.natAbs / y.natAbs+1 by omega);omega
 have hlR:(natL (x.natAbs % y.natAbs)).length≤1000:=by have h2:=natL_len_mono (show x.natAbs % y.natAbs≤y.natAbs by omega);omega
 have cs:∀ (v:Value) (W:World),NI W v (natL (x.natAbs / y.natAbs))→Calls Tryz.prog 105 #[.bool (decide (x<0) != decide (y<0)),v] W fun e w'=>e = .returned (.tuple #[Z (txt (x / y)),.int .i64 0])∧Below W.heap.size W w':=fun v W h=>by
  have hc:=checked_ref (decide (x<0) != decide (y<0)) (x.natAbs / y.natAbs) v W h hlQ
  rw [hQR.1,calcR_fit hf] at hc
  exact hc
 have cx:∀ (v:Value) (W:World),NI W v (natL (x.natAbs % y.natAbs))→Calls Tryz.prog 149 #[.bool false,v] W fun e w'=>e = .returned (.tuple #[Z (txt (x % y)),.bool (decide ((natL (x.natAbs % y.natAbs)).length≤200))])∧Below W.heap.size W w':=fun v W h=>by
  have hc:=text_ref2 (x.natAbs % y.natAbs) false v W h hlR
  rw [hQR.2] at hc
  exact hc
 rw [decide_eq_false (show ¬ x<0 by omega)] at dx cs
 clear hQR hf hx hy
 clear hn0 hmod hlQ hlR lx ly h0 hs
 generalize txt x=s at *
 generalize txt y=t at *
 generalize decide (y<0)=sy at *
 simp only [Bool.false_bne] at cs
 generalize txt (x / y)=tq at *
 generalize txt (x % y)=tr at *
 generalize decide ((natL (x.natAbs % y.natAbs)).length≤200)=fb at *
 generalize natL x.natAbs=kx at *
 generalize natL y.natAbs=ky at *
 generalize natL (x.natAbs / y.natAbs)=kq at *
 generalize natL (x.natAbs % y.natAbs)=kr at *
 go_enter Tryz.func98, Tryz.ntmps98
 go_wp2_with (first | (go_at_call 48; with_reducible refine (ca _).mono ?_;rintro e w1 ⟨rfl,hm⟩;have hb1:=drawn_below hm;clear hm) | (go_at_call 48; with_reducible refine (cb _).mono ?_;rintro e w2 ⟨rfl,hm⟩;have hb2:=drawn_below hm;clear hm) | (go_at_call 100; with_reducible refine (dx _).mono ?_;rintro e w3 ⟨v3,rfl,hv3,hb3⟩) | (go_at_call 100; with_reducible refine (dy _).mono ?_;rintro e w4 ⟨v4,rfl,hv4,hb4⟩;have hv5:=hv3.below hb4 (Nat.le_refl _)) | (go_at_call 104; with_reducible refine (cd v3 v4 w4 hv5 hv4).mono ?_;rintro e w5 ⟨vq,vr,rfl,hq,hr,hb5⟩;have hr0:=hr;obtain ⟨pr,cr,gr,og,rfl,_,_,_,_⟩:=hr.open;(try rw [hkr] at hr0)) | fail | (go_at_call 105; with_reducible refine (cs vq w5 hq).mono ?_;rintro e w7 ⟨rfl,hb7⟩) | (go_at_call 149; with_reducible refine (cx _ _ (hr0.below hb7 (Nat.le_refl _))).mono ?_;rintro e w8 ⟨rfl,hb8⟩))
 go_ret3
 have q1:=hb1
 have q2:=q1.trans (hb2.mono q1.size)
 have q3:=q2.trans (hb3.mono q2.size)
 have q4:=q3.trans (hb4.mono q3.size)
 have q5:=q4.trans (hb5.mono q4.size)
 have q7:=q5.trans (hb7.mono q5.size)
 exact ⟨rfl,q7.trans (hb8.mono q7.size)⟩
theorem Div_even (x y:Int) (hx:Fits x) (hy:Fits y) (h0:y≠0) (hs:x<0) (hr1:x.natAbs % y.natAbs=0) (w:World) :
  Calls Tryz.prog 98 #[Z (txt x),Z (txt y)] w fun e w'=>e = .returned (.tuple #[Z (txt (x / y)),Z (txt (x % y)),.int .i64 0])∧Below w.heap.size w w':=by
 have lx:=fitsL hx
 have ly:=fitsL hy
 have ca:=fun W=>Valid_yes x hx W
 have cb:=fun W=>Valid_yes y hy W
 have dx:=fun W=>digits_ref x (by omega) W
 have dy:=fun W=>digits_ref y (by omega) W
 have hf:=quot_fits hx h0
 have hz:((txt y).toList == [48])=false:=by
  rw [zero_eq,decide_eq_false_iff_not]
  intro e
  exact h0 (txt_inj (e.trans txt_0.symm))
 have hn0:y.natAbs≠0:=by omega
 have hmod:=Nat.mod_lt x.natAbs (show 0<y.natAbs by omega)
 have cd:=fun (va vb:Value) (W:World) (ha:NI W va (natL x.natAbs)) (hb:NI W vb (natL y.natAbs))=>divided_ref x.natAbs y.natAbs hn0 va vb W ha hb (by omega) (by omega)
 have hQR:=sg_quot x y h0 (x.natAbs / y.natAbs) (x.natAbs % y.natAbs) (.inl ⟨by omega,rfl,rfl⟩)
 have hlQ:(natL (x.natAbs / y.natAbs)).length≤1000:=by have:=add_len (nx:=x.natAbs / y.natAbs) (ny:=1) (k:=200) (Nat.le_trans (natL_len_mono (Nat.div_le_self _ _)) lx) (by decide +kernel);have h2:=natL_len_mono (show x.natAbs / y.natAbs≤x.natAbs / y.natAbs+1 by omega);omega
 have hlR:(natL (x.natAbs % y.natAbs)).length≤1000:=by have h2:=natL_len_mono (show x.natAbs % y.natAbs≤y.natAbs by omega);omega
 have cs:∀ (v:Value) (W:World),NI W v (natL (x.natAbs / y.natAbs))→Calls Tryz.prog 105 #[.bool (decide (x<0) != decide (y<0)),v] W fun e w'=>e = .returned (.tuple #[Z (txt (x / y)),.int .i64 0])∧Below W.heap.size W w':=fun v W h=>by
  have hc:=checked_ref (decide (x<0) != decide (y<0)) (x.natAbs / y.natAbs) v W h hlQ
  rw [hQR.1,calcR_fit hf] at hc
  exact hc
 have cx:∀ (v:Value) (W:World),NI W v (natL (x.natAbs % y.natAbs))→Calls Tryz.prog 149 #[.bool false,v] W fun e w'=>e = .returned (.tuple #[Z (txt (x % y)),.bool (decide ((natL (x.natAbs % y.natAbs)).length≤200))])∧Below W.heap.size W w':=fun v W h=>by
  have hc:=text_ref2 (x.natAbs % y.natAbs) false v W h hlR
  rw [hQR.2] at hc
  exact hc
 have hkr:(natL (x.natAbs % y.natAbs)).length=0:=natL_len0.2 hr1
 rw [decide_eq_true hs] at dx cs
 clear hQR hf hx hy
 clear hn0 hmod hlQ hlR lx ly h0 hs hr1
 generalize txt x=s at *
 generalize txt y=t at *
 generalize decide (y<0)=sy at *
 simp only [Bool.true_bne] at cs
 generalize txt (x / y)=tq at *
 generalize txt (x % y)=tr at *
 generalize decide ((natL (x.natAbs % y.natAbs)).length≤200)=fb at *
 generalize natL x.natAbs=kx at *
 generalize natL y.natAbs=ky at *
 generalize natL (x.natAbs / y.natAbs)=kq at *
 generalize natL (x.natAbs % y.natAbs)=kr at *
 go_enter Tryz.func98, Tryz.ntmps98
 go_wp2_with (first | (go_at_call 48; with_reducible refine (ca _).mono ?_;rintro e w1 ⟨rfl,hm⟩;have hb1:=drawn_below hm;clear hm) | (go_at_call 48; with_reducible refine (cb _).mono ?_;rintro e w2 ⟨rfl,hm⟩;have hb2:=drawn_below hm;clear hm) | (go_at_call 100; with_reducible refine (dx _).mono ?_;rintro e w3 ⟨v3,rfl,hv3,hb3⟩) | (go_at_call 100; with_reducible refine (dy _).mono ?_;rintro e w4 ⟨v4,rfl,hv4,hb4⟩;have hv5:=hv3.below hb4 (Nat.le_refl _)) | (go_at_call 104; with_reducible refine (cd v3 v4 w4 hv5 hv4).mono ?_;rintro e w5 ⟨vq,vr,rfl,hq,hr,hb5⟩;have hr0:=hr;obtain ⟨pr,cr,gr,og,rfl,_,_,_,_⟩:=hr.open;(try rw [hkr] at hr0)) | fail | (go_at_call 105; with_reducible refine (cs vq w5 hq).mono ?_;rintro e w7 ⟨rfl,hb7⟩) | (go_at_call 149; with_reducible refine (cx _ _ (hr0.below hb7 (Nat.le_refl _))).mono ?_;rintro e w8 ⟨rfl,hb8⟩))
 go_ret3
 have q1:=hb1
 have q2:=q1.trans (hb2.mono q1.size)
 have q3:=q2.trans (hb3.mono q2.size)
 have q4:=q3.trans (hb4.mono q3.size)
 have q5:=q4.trans (hb5.mono q4.size)
 have q7:=q5.trans (hb7.mono q5.size)
 exact ⟨rfl,q7.trans (hb8.mono q7.size)⟩
end N10
end
section
namespace N10
open Go.RowKit

theorem Div_odd (x y:Int) (hx:Fits x) (hy:Fits y) (h0:y≠0) (hs:x<0) (hr1:0<x.natAbs % y.natAbs) (w:World) :
  Calls Tryz.prog 98 #[Z (txt x),Z (txt y)] w fun e w'=>e = .returned (.tuple #[Z (txt (x / y)),Z (txt (x % y)),.int .i64 0])∧Below w.heap.size w w':=by
 have lx:=fitsL hx
 have ly:=fitsL hy
 have ca:=fun W=>Valid_yes x hx W
 have cb:=fun W=>Valid_yes y hy W
 have dx:=fun W=>digits_ref x (by omega) W
 have dy:=fun W=>digits_ref y (by omega) W
 have hf:=quot_fits hx h0
 have hz:((txt y).toList == [48])=false:=by
  rw [zero_eq,decide_eq_false_iff_not]
  intro e
  exact h0 (txt_inj (e.trans txt_0.symm))
 have hn0:y.natAbs≠0:=by omega
 have hmod:=Nat.mod_lt x.natAbs (show 0<y.natAbs by omega)
 have cd:=fun (va vb:Value) (W:World) (ha:NI W va (natL x.natAbs)) (hb:NI W vb (natL y.natAbs))=>divided_ref x.natAbs y.natAbs hn0 va vb W ha hb (by omega) (by omega)
 have hQR:=sg_quot x y h0 (x.natAbs / y.natAbs+1) (y.natAbs-x.natAbs % y.natAbs) (.inr ⟨hs,hr1,rfl,rfl⟩)
 have hlQ:(natL (x.natAbs / y.natAbs+1)).length≤1000:=by have:=add_len (nx:=x.natAbs / y.natAbs) (ny:=1) (k:=200) (Nat.le_trans (natL_len_mono (Nat.div_le_self _ _)) lx) (by decide +kernel);have h2:=natL_len_mono (show x.natAbs / y.natAbs+1≤x.natAbs / y.natAbs+1 by omega);omega
 have hlR:(natL (y.natAbs-x.natAbs % y.natAbs)).length≤1000:=by have h2:=natL_len_mono (show y.natAbs-x.natAbs % y.natAbs≤y.natAbs by omega);omega
 have cs:∀ (v:Value) (W:World),NI W v (natL (x.natAbs / y.natAbs+1))→Calls Tryz.prog 105 #[.bool (decide (x<0) != decide (y<0)),v] W fun e w'=>e = .returned (.tuple #[Z (txt (x / y)),.int .i64 0])∧Below W.heap.size W w':=fun v W h=>by
  have hc:=checked_ref (decide (x<0) != decide (y<0)) (x.natAbs / y.natAbs+1) v W h hlQ
  rw [hQR.1,calcR_fit hf] at hc
  exact hc
 have cx:∀ (v:Value) (W:World),NI W v (natL (y.natAbs-x.natAbs % y.natAbs))→Calls Tryz.prog 149 #[.bool false,v] W fun e w'=>e = .returned (.tuple #[Z (txt (x % y)),.bool (decide ((natL (y.natAbs-x.natAbs % y.natAbs)).length≤200))])∧Below W.heap.size W w':=fun v W h=>by
  have hc:=text_ref2 (y.natAbs-x.natAbs % y.natAbs) false v W h hlR
  rw [hQR.2] at hc
  exact hc
 have hkr:0<(natL (x.natAbs % y.natAbs)).length:=by
  rcases Nat.eq_zero_or_pos (natL (x.natAbs % y.natAbs)).length with h | h
  ·have:=natL_len0.1 h;omega
  ·exact h
 have hlq:(natL (x.natAbs / y.natAbs)).length≤1000:=by have:=natL_len_mono (Nat.div_le_self x.natAbs y.natAbs);omega
 have cp:=fun (va vb:Value) (W:World) (ha:NI W va (natL (x.natAbs / y.natAbs))) (hb:NI W vb (natL 1))=>plus_ref (x.natAbs / y.natAbs) 1 va vb W ha hb (by omega) (Nat.le_trans (show (natL 1).length≤1 by decide +kernel) (by decide))
 have cm:=fun (va vb:Value) (W:World) (ha:NI W va (natL y.natAbs)) (hb:NI W vb (natL (x.natAbs % y.natAbs)))=>minus_ref y.natAbs (x.natAbs % y.natAbs) (by omega) va vb W ha hb (by omega)
 clear hlq
 rw [decide_eq_true hs] at dx cs
 clear hQR hf hx hy
 clear hn0 hmod hlQ hlR lx ly h0 hs hr1
 generalize txt x=s at *
 generalize txt y=t at *
 generalize decide (y<0)=sy at *
 simp only [Bool.true_bne] at cs
 generalize txt (x / y)=tq at *
 generalize txt (x % y)=tr at *
 generalize decide ((natL (y.natAbs-x.natAbs % y.natAbs)).length≤200)=fb at *
 generalize natL (x.natAbs / y.natAbs+1)=kq1 at *
 generalize natL (y.natAbs-x.natAbs % y.natAbs)=kr1 at *
 generalize natL x.natAbs=kx at *
 generalize natL y.natAbs=ky at *
 generalize natL (x.natAbs / y.natAbs)=kq at *
 generalize natL (x.natAbs % y.natAbs)=kr at *
 have hki:(0:Int)<(kr.length:Int):=by omega
 go_enter Tryz.func98, Tryz.ntmps98
 go_wp2_with (first | (go_at_call 48; with_reducible refine (ca _).mono ?_;rintro e w1 ⟨rfl,hm⟩;have hb1:=drawn_below hm;clear hm) | (go_at_call 48; with_reducible refine (cb _).mono ?_;rintro e w2 ⟨rfl,hm⟩;have hb2:=drawn_below hm;clear hm) | (go_at_call 100; with_reducible refine (dx _).mono ?_;rintro e w3 ⟨v3,rfl,hv3,hb3⟩) | (go_at_call 100; with_reducible refine (dy _).mono ?_;rintro e w4 ⟨v4,rfl,hv4,hb4⟩;have hv5:=hv3.below hb4 (Nat.le_refl _)) | (go_at_call 104; with_reducible refine (cd v3 v4 w4 hv5 hv4).mono ?_;rintro e w5 ⟨vq,vr,rfl,hq,hr,hb5⟩;have hr0:=hr;obtain ⟨pr,cr,gr,og,rfl,_,_,_,_⟩:=hr.open;(try rw [hkr] at hr0)) | (go_at_call 147; with_reducible refine (cp vq _ _ (hq.below ((Below.refl _ w5).alloc (Nat.le_refl _) _) (Nat.le_refl _)) (one_ni w5)).mono ?_;rintro e w6 ⟨v6,rfl,hq6,hb6a⟩;have hA:=(Below.refl w5.heap.size w5).alloc (Nat.le_refl _) (O #[.int .i64 1] 3);have hb6:=hA.trans (hb6a.mono hA.size);clear hA hb6a;have hv6:=(hv4.below hb5 (Nat.le_refl _)).below hb6 (Nat.le_refl _);have hr6:=hr0.below hb6 (Nat.le_refl _)) | (go_at_call 148; with_reducible refine (cm v4 _ w6 hv6 hr6).mono ?_;rintro e w9 ⟨v9,rfl,hv9,_,hb9⟩;have hq9:=hq6.below hb9 (Nat.le_refl _)) | (go_at_call 105; with_reducible refine (cs v6 w9 hq9).mono ?_;rintro e w7 ⟨rfl,hb7⟩) | (go_at_call 149; with_reducible refine (cx v9 _ (hv9.below hb7 (Nat.le_refl _))).mono ?_;rintro e w8 ⟨rfl,hb8⟩))
 go_ret3
 have q1:=hb1
 have q2:=q1.trans (hb2.mono q1.size)
 have q3:=q2.trans (hb3.mono q2.size)
 have q4:=q3.trans (hb4.mono q3.size)
 have q5:=q4.trans (hb5.mono q4.size)
 have q6:=q5.trans (hb6.mono q5.size)
 have q9:=q6.trans (hb9.mono q6.size)
 have q7:=q9.trans (hb7.mono q9.size)
 exact ⟨rfl,q7.trans (hb8.mono q7.size)⟩
end N10
end
section
namespace N10
open Go.RowKit

theorem Div_ref (x y:Int) (hx:Fits x) (hy:Fits y) (h0:y≠0) (w:World) :
  Calls Tryz.prog 98 #[Z (txt x),Z (txt y)] w fun e w'=>e = .returned (.tuple #[Z (txt (x / y)),Z (txt (x % y)),.int .i64 0])∧Below w.heap.size w w':=by
 by_cases hs:x<0
 ·rcases Nat.eq_zero_or_pos (x.natAbs % y.natAbs) with h | h
  ·exact Div_even x y hx hy h0 hs h w
  ·exact Div_odd x y hx hy h0 hs h w
 ·exact Div_pos x y hx hy h0 (by omega) w
theorem Div_zeroR (x:Int) (hx:Fits x) (w:World) :
  Calls Tryz.prog 98 #[Z (txt x),Z (txt 0)] w fun e w'=>e = .returned (.tuple #[Z ⟨#[]⟩,Z ⟨#[]⟩,.int .i64 30])∧Below w.heap.size w w':=by
 have hy:Fits 0:=by unfold Fits;simp [Nm.decN]
 have ca:=fun W=>Valid_yes x hx W
 have cb:=fun W=>Valid_yes 0 hy W
 have hz:((txt 0).toList == [48])=true:=by
  rw [zero_eq]
  exact decide_eq_true txt_0
 generalize txt x=s at *
 generalize txt 0=t at *
 clear hx hy
 go_enter Tryz.func98, Tryz.ntmps98
 go_wp2_with (first | (go_at_call 48; with_reducible refine (ca _).mono ?_;rintro e w1 ⟨rfl,hm⟩;have hb1:=drawn_below hm;clear hm) | (go_at_call 48; with_reducible refine (cb _).mono ?_;rintro e w2 ⟨rfl,hm⟩;have hb2:=drawn_below hm;clear hm))
 go_ret3
 exact ⟨rfl,hb1.trans (hb2.mono hb1.size)⟩
theorem Div_badR (s t:ByteArray) (hs:s.size≤1000000) (ht:t.size≤1000000) (h:validB s=false∨validB t=false) (w:World) :
  Calls Tryz.prog 98 #[Z s,Z t] w fun e w'=>e = .returned (.tuple #[Z ⟨#[]⟩,Z ⟨#[]⟩,.int .i64 30])∧Below w.heap.size w w':=by
 have ca:=fun W=>Valid_ref s hs W
 have cb:=fun W=>Valid_ref t ht W
 clear hs ht
 generalize validB s=bs at *
 generalize validB t=bt at *
 go_enter Tryz.func98, Tryz.ntmps98
 cases bs
 ·clear h
  go_wp2_with (go_at_call 48; with_reducible refine (ca _).mono ?_;rintro e w1 ⟨rfl,hm⟩;have hb1:=drawn_below hm;clear hm)
  go_ret3
  exact ⟨rfl,hb1⟩
 ·obtain rfl:bt=false:=by simpa using h
  clear h
  go_wp2_with (first | (go_at_call 48; with_reducible refine (ca _).mono ?_;rintro e w1 ⟨rfl,hm⟩;have hb1:=drawn_below hm;clear hm) | (go_at_call 48; with_reducible refine (cb _).mono ?_;rintro e w2 ⟨rfl,hm⟩;have hb2:=drawn_below hm;clear hm))
  go_ret3
  exact ⟨rfl,hb1.trans (hb2.mono hb1.size)⟩
end N10
end
section
namespace N10
open Go.RowKit

def GR (w wr:World) (kv lv:Value) (a b G:Nat):Prop :=
 NI wr kv (natL a)∧NI wr lv (natL b)∧(natL a).length≤200∧(natL b).length≤200∧Nat.gcd a b=G∧Below w.heap.size w wr
theorem Gcd_ref (x y:Int) (hx:Fits x) (hy:Fits y) (w:World) :
  Calls Tryz.prog 50 #[Z (txt x),Z (txt y)] w fun e w'=>e = .returned (.tuple #[Z (txt (Nat.gcd x.natAbs y.natAbs:Nat)),.int .i64 0])∧Below w.heap.size w w':=by
 have lx:=fitsL hx
 have ly:=fitsL hy
 have ca:=fun W=>Valid_yes x hx W
 have cb:=fun W=>Valid_yes y hy W
 have dx:=fun W=>digits_ref x (by omega) W
 have dy:=fun W=>digits_ref y (by omega) W
 generalize txt x=s at *
 generalize txt y=t at *
 clear hx hy
 obtain ⟨G,hG⟩:∃ G,G=Nat.gcd x.natAbs y.natAbs:=⟨_,rfl⟩
 rw [←hG]
 obtain ⟨r,hr⟩:∃ r,r=txt (G:Int):=⟨_,rfl⟩
 rw [←hr]
 have HR:Shut _:=⟨hr⟩
 clear hr
 generalize decide (x<0)=sx at *
 generalize decide (y<0)=sy at *
 generalize x.natAbs=a0 at *
 generalize y.natAbs=b0 at *
 clear x y
 have HL:Shut _:=⟨And.intro lx (And.intro ly hG)⟩
 clear lx ly hG
 go_enter Tryz.func50, Tryz.ntmps50
 go_wp2_with (first | (go_at_call 48; with_reducible refine (ca _).mono ?_;rintro e w1 ⟨rfl,hm⟩;have hb1:=drawn_below hm;clear hm) | (go_at_call 48; with_reducible refine (cb _).mono ?_;rintro e w2 ⟨rfl,hm⟩;have hb2:=drawn_below hm;clear hm) | (go_at_call 100; with_reducible refine (dx _).mono ?_;rintro e w3 ⟨v3,rfl,hv3,hb3⟩) | (go_at_call 100; with_reducible refine (dy _).mono ?_;rintro e w4 ⟨v4,rfl,hv4,hb4⟩;have hv5:=hv3.below hb4 (Nat.le_refl _)))
 have q1:=hb1
 have q2:=q1.trans (hb2.mono q1.size)
 have q3:=q2.trans (hb3.mono q2.size)
 have q4:=q3.trans (hb4.mono q3.size)
 have HS:Shut (GR w w4 v3 v4 a0 b0 G):=⟨⟨hv5,hv4,HL.o.1,HL.o.2.1,HL.o.2.2.symm,q4⟩⟩
 clear hv3 hv4 hv5 hb1 hb2 hb3 hb4 q1 q2 q3 q4 HL ca cb dx dy
 go_loopw [7,9] (fun kv lv wr=>∃ a b:Nat,Shut (GR w wr kv lv a b G)) (fun _ lv wr=>numI wr lv)
 case atStart=>exact ⟨a0,b0,HS⟩
 case round =>
  rename World=>wo
  clear HS
  obtain ⟨a,b,hS⟩:=hrel
  obtain ⟨pl,cl,gl,ol,rfl,_,_,_,_⟩:=hS.o.2.1.open
  obtain ⟨nl,hnl⟩:∃ nl,nl=(natL b).length:=⟨_,rfl⟩
  have HNL:Shut _:=⟨hnl⟩
  rw [←hnl] at hS ⊢
  clear hnl
  by_cases hb0:b=0
  ·have hn0:nl=0:=by rw [HNL.o,hb0,natL_zero];rfl
   have hc:=checked_ref false G u7 wo (by have:=hS.o.1;have h2:=hS.o.2.2.2.2.1;rw [hb0,Nat.gcd_zero_right] at h2;rw [←h2];exact this) (by have h2:=hS.o.2.2.2.2.1;rw [hb0,Nat.gcd_zero_right] at h2;have:=hS.o.2.2.1;rw [←h2];omega)
   rw [show sg false G=(G:Int) from rfl,calcR_fit (by have h2:=hS.o.2.2.2.2.1;rw [hb0,Nat.gcd_zero_right] at h2;have h3:=hS.o.2.2.1;unfold Fits;rw [decN_len,Int.natAbs_natCast,←h2];exact h3)] at hc
   have HB:Shut _:=⟨hS.o.2.2.2.2.2⟩
   have hli:¬(0:Int)<(nl:Int):=by omega
   clear hS HNL hb0 hn0
   rw [←HR.o] at hc
   go_wp2_with (go_at_call 105; with_reducible refine hc.mono ?_;rintro e w5 ⟨rfl,hb5⟩)
   go_ret2
   exact ⟨rfl,HB.o.trans (hb5.mono HB.o.size)⟩
  ·have hli:(0:Int)<(nl:Int):=by have:=mt natL_len0.1 hb0;have:=HNL.o;omega
   have cd:=divided_ref a b hb0 u7 (.slice pl nl cl) wo hS.o.1 hS.o.2.1 (by have:=hS.o.2.2.1;omega) (by have:=hS.o.2.2.2.1;omega)
   have hnum:=numI_eq hS.o.2.1
   have hmod:=Nat.mod_lt a (Nat.pos_of_ne_zero hb0)
   have HFIN:Shut (∀ (W:World) (u:Value),NI W u (natL (a % b))→Below wo.heap.size wo W→GR w W (.slice pl nl cl) u b (a % b) G∧numI W u<numI wo (.slice pl nl cl)):=⟨fun W u hu hB=>⟨⟨hS.o.2.1.below hB (Nat.le_refl _),hu,hS.o.2.2.2.1,Nat.le_trans (natL_len_mono (Nat.le_of_lt hmod)) hS.o.2.2.2.1,by rw [←hS.o.2.2.2.2.1,Nat.gcd_comm b,←Nat.gcd_rec,Nat.gcd_comm],hS.o.2.2.2.2.2.trans (hB.mono hS.o.2.2.2.2.2.size)⟩,by rw [numI_eq hu,hnum];exact hmod⟩⟩
   clear hS HNL hnum hmod
   go_wp2_with (go_at_call 104; with_reducible refine cd.mono ?_;rintro e w5 ⟨vq,vr,rfl,hq,hr,hb5⟩)
   exact ⟨⟨b,a % b,⟨(HFIN.o w5 vr hr hb5).1⟩⟩,(HFIN.o w5 vr hr hb5).2⟩
end N10
end
end Go.Proofs.YtbfonkabmehlmaaGreatDoor
