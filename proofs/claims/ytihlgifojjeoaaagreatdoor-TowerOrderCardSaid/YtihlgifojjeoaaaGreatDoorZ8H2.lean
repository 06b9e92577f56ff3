import Derived.Test.YtihlgifojjeoaaaGreatDoorZ8H1
import Derived.Test.YtihlgifojjeoaaaGreatDoorZ8G6
set_option maxRecDepth 1000000
set_option maxHeartbeats 40000000
open Go.Value renaming string→J
open Go.Obj renaming cells→Jc
namespace Go.Proofs.YtihlgifojjeoaaaGreatDoor
section
namespace Tw
open Go.RowKit Go.Extern.Stop Go.Stop Go.Extern
open En Go.Proofs.YtihlgifojjeoaaaGreatDoor.Nm Go.Proofs.YtihlgifojjeoaaaGreatDoor.Rt
structure AnsB (fb:Nat) (p:Option Addr) (rs:List (List Rat)) (Z:List (Option Rat)) (fl:Bool) (w:World) (e:Ending) (w':World):Prop where
 grown:w.grownBy w' (some fb)
 fbs:FB w' fb p rs fl
 good:∃ v,e = .returned v∧Eo w' v Z
def QdR (fl:Bool) (C:Nat→Int):Nat→Bool
 | 0=>fl
 | i+1=>QdR fl C i || decide (C i≠0)
theorem QbX {w w1 w2:World} {r:Option Nat} (h:w.grownBy w1 r) (u:Below w1.heap.size w1 w2):w.grownBy w2 r :=
 World.grownBy.trans h ⟨u.os,u.tape,u.output,u.size,fun k hk _=>u.block k hk⟩
theorem Qio {W:World} {base t:Nat} {v:Value} {R:Nat→P2} (h:OwnL W base v t R):∀ j,v.ownBlock=some j→base≤j:=by
 rcases h.2 with ⟨rfl,_⟩ | ⟨g,cap,cur,rfl,hg,_⟩
 ·intro j e;simp [Value.ownBlock] at e
 ·intro j e;simp [Value.ownBlock] at e;omega

theorem Qpa (n:Nat) (hn:n≤1000) (bx ox cx by_ oy cy fb:Nat) (sv:Value) (hsv:∃ p k c,sv = .slice p k c) (fl:Bool) (hcx:n≤cx) (hcy:n≤cy) (G H A:Nat→P2) (CA:Nat→Int)
  (hA:∀ j,j<n→Ret 241 #[frc (G j).1 (G j).2,frc (H j).1 (H j).2] (.tuple #[frc (A j).1 (A j).2,.int .i64 (CA j)])) (w:World) (hx:Cl w bx ox n G) (hy:Cl w by_ oy n H) (hf:w.heap[fb]? = some (Jc #[sv,.bool fl] 150 (0,0))) :
  Calls Tryz.prog 232 #[.pointer (some ⟨fb,0,none⟩),.slice (some ⟨bx,ox,none⟩) n cx,.slice (some ⟨by_,oy,none⟩) n cy,.bool false] w fun e w'=>(∃ v,e = .returned v∧OwnL w' w.heap.size v n A)∧w.grownBy w' (some fb)∧w'.heap[fb]? = some (Jc #[sv,.bool (QdR fl CA n)] 150 (0,0)):=by
 have hfc:FC w fb:=by
  obtain ⟨p,k,c,rfl⟩:=hsv;exact ⟨p,k,c,fl,hf⟩
 have CO:Sh _:=⟨hA⟩;have HX:Sh (∀ W,w.grownBy W (some fb)→Cl W bx ox n G):=⟨fun W g=>hx.fgrown hfc g⟩;have HY:Sh (∀ W,w.grownBy W (some fb)→Cl W by_ oy n H):=⟨fun W g=>hy.fgrown hfc g⟩;have hfl:=(Array.getElem?_eq_some_iff.1 hf).1;have HF:Sh (w.grownBy w (some fb)∧w.heap[fb]? = some (Jc #[sv,.bool (QdR fl CA 0)] 150 (0,0))∧w.heap.size≤w.heap.size):=⟨World.grownBy.refl _ _,hf,Nat.le_refl _⟩;clear hA hx hy hf hfc hsv;go_enter Tryz.func232, Tryz.ntmps232;go_wp2_with fail
 go_loopw [9,10] (fun vv iv wr=>∃ i:Nat,i≤n∧iv = .int .i64 (i:Int)∧Sh (OwnL wr w.heap.size vv i A)∧Sh (w.grownBy wr (some fb)∧wr.heap[fb]? = some (Jc #[sv,.bool (QdR fl CA i)] 150 (0,0))∧w.heap.size≤wr.heap.size)) (fun _ iv _=>n-(intOf iv).toNat)
 case atStart=>exact ⟨0,Nat.zero_le _,rfl,⟨OwnL.nil _ _ _⟩,HF⟩
 case round =>
  obtain ⟨i,hi,rfl,HO,HG⟩:=hrel;clear HF;have hO:=HO.o;obtain ⟨hg,hfb,hsz⟩:=HG.o;clear HG HO;by_cases hin:i=n
  ·subst hin;go_wp2_with fail;go_ret;exact ⟨⟨_,rfl,hO⟩,hg,hfb⟩
  ·have hil:i<n:=by omega
   have hi2:(i:Int)<(n:Int):=by omega
   have hi3:(0:Int)≤(i:Int):=by omega
   obtain ⟨x0,x1⟩:=(HX.o wr hg).at_ i hil;obtain ⟨y0,y1⟩:=(HY.o wr hg).at_ i hil;have cO:=CO.o i hil;have hw1:IntKind.i64.wrap ((i:Int)+1)=(i:Int)+1:=by simp [IntKind.wrap,IntKind.signed,IntKind.bits];omega
   have hK:QdR fl CA (i+1)=(QdR fl CA i || decide (CA i≠0)):=rfl;obtain ⟨kf,hkf⟩:∃ b,b=QdR fl CA i:=⟨_,rfl⟩;obtain ⟨ci,hci⟩:∃ b,b=CA i:=⟨_,rfl⟩;obtain ⟨ai,hai⟩:∃ b,b=A i:=⟨_,rfl⟩;obtain ⟨gi,hgi⟩:∃ b,b=G i:=⟨_,rfl⟩;obtain ⟨yi,hyi⟩:∃ b,b=H i:=⟨_,rfl⟩;rw [←hkf] at hK hfb;rw [←hgi] at x0 x1 cO;rw [←hyi] at y0 y1 cO;rw [←hai,←hci] at cO;rw [←hci] at hK;have cO:∀ W,_:=cO;have HA:Sh _:=⟨hai⟩;have HC:Sh _:=⟨hci⟩;have HK:Sh _:=⟨hK⟩;clear hkf hai hci hgi hyi hK;unfold frc at *
   go_wp2_with fail;have SS:Sh (∀ X,Below wr.heap.size wr X→X.cell? ⟨bx,ox+i*2,none⟩=some (J gi.1)∧X.cell? ⟨bx,ox+i*2+1,none⟩=some (J gi.2)∧X.cell? ⟨by_,oy+i*2,none⟩=some (J yi.1)∧X.cell? ⟨by_,oy+i*2+1,none⟩=some (J yi.2)):=⟨fun X hX=>⟨Qae x0 hX,Qae x1 hX,Qae y0 hX,Qae y1 hX⟩⟩
   go_cut [11,12] from 19 to 30 (fun s1 s2 wx=>∃ br,s1 = .pointer (some ⟨br,0,none⟩)∧s2 = .int .i64 ci∧wx.heap[br]? = some (Jc #[J ai.1,J ai.2] 42 (0,0))∧wr.heap.size≤br∧Below wr.heap.size wr wx)
   case first =>
    (go_region_held (fun X=>X.cell? ⟨bx,ox+i*2,none⟩=some (J gi.1)∧X.cell? ⟨bx,ox+i*2+1,none⟩=some (J gi.2)∧X.cell? ⟨by_,oy+i*2,none⟩=some (J yi.1)∧X.cell? ⟨by_,oy+i*2+1,none⟩=some (J yi.2)) (first | exact SS.o _ (QaS (Below.refl _ _)) | exact SS.o _ (QaS ((Below.refl _ _).alloc Lr _)) | exact SS.o _ k2 | exact SS.o _ (k2.alloc k2.size _) | exact SS.o _ (k2.setCell (by first | exact Nat.le_refl _ | exact k2.size | (simp;done)) _) | exact SS.o _ ((k2.setCell (by first | exact Nat.le_refl _ | exact k2.size | (simp;done)) _).setCell (by first | exact Nat.le_refl _ | exact k2.size | (simp;done)) _) | exact SS.o _ (((k2.alloc k2.size _).setCell (by first | exact Nat.le_refl _ | exact k2.size | (simp;done)) _).setCell (by first | exact Nat.le_refl _ | exact k2.size | (simp;done)) _) | fail)
     (first
      | (go_at_call 241; have hq:=cO wr.drew;(with_reducible refine hq.mono ?_);rintro e x2 ⟨rfl,g2⟩;have k2:Below wr.heap.size wr x2:=Qah g2;have n2:=World.alloc_heap_new x2 (Jc #[J ⟨#[]⟩,J ⟨#[]⟩] 42);have z0:=En.Qaa n2 0 (v:=J ⟨#[]⟩) rfl;have z1:=En.Qaa n2 1 (v:=J ⟨#[]⟩) rfl;have y0:=En.Qad n2 0;have y1:=En.Qad n2 1;clear hq g2)
      | (go_at_call 241; have hq:=cO (wr.alloc (Jc #[J ⟨#[]⟩,J ⟨#[]⟩] 42)).drew;(with_reducible refine hq.mono ?_);rintro e x2 ⟨rfl,g2⟩;have k2:Below wr.heap.size wr x2:=((Below.refl _ _).alloc Lr (Jc #[J ⟨#[]⟩,J ⟨#[]⟩] 42)).trans ((Qah g2).mono (by simp));have n2:=En.Qac (World.alloc_heap_new wr (Jc #[J ⟨#[]⟩,J ⟨#[]⟩] 42)) (Qah g2);have z0:=En.Qaa n2 0 (v:=J ⟨#[]⟩) rfl;have z1:=En.Qaa n2 1 (v:=J ⟨#[]⟩) rfl;have y0:=En.Qad n2 0;have y1:=En.Qad n2 1;clear hq g2)
      | fail);all_goals (try clear SS))
    all_goals
     go_wp2_with fail
     go_meet
     first
      | exact ⟨_,rfl,rfl,Qbc n2,Nat.le_refl _,(k2.setCell Lr _).setCell Lr _⟩
      | exact ⟨_,rfl,rfl,World.alloc_heap_new x2 _,k2.size,k2.alloc k2.size _⟩
   case rest =>
   obtain ⟨br,rfl,rfl,nr,hbr,ux⟩:=hcut;clear x0 x1 y0 y1 SS cO;replace hO:=hO.below ux;replace hfb:=En.Qac hfb ux;replace hg:=QbX hg ux;have hsz2:=Nat.le_trans hsz ux.size;have hbr2:w.heap.size≤br:=Nat.le_trans hsz hbr;have hbf:br≠fb:=by omega
   have hbf2:=hbf.symm;clear ux hsz hbr;have r0:=En.Qaa nr 0 (v:=J ai.1) rfl;have r1:=En.Qaa nr 1 (v:=J ai.2) rfl;have f1:=En.Qaa hfb 1 (v:=.bool kf) rfl;have ff:=En.Qad hfb 1;have HL:Sh (ai=A i):=HA;cases kf with
   | true =>
    have s_f:(wc.setCell ⟨fb,1,none⟩ (.bool true)).heap[fb]? = some (Jc #[sv,.bool true] 150 (0,0)):=QeZ hfb;have s_o:OwnL (wc.setCell ⟨fb,1,none⟩ (.bool true)) w.heap.size u9 i A:=World.ownsRow.kept hO (Qar 1 _) (.inr (hO.low fb hfl));have s_g:w.grownBy (wc.setCell ⟨fb,1,none⟩ (.bool true)) (some fb):=World.grownBy.trans hg (Qar 1 _)
    have n_n:((wc.setCell ⟨fb,1,none⟩ (.bool true)).alloc (Jc #[J ai.1,J ai.2] 42)).heap[wc.heap.size]? = some (Jc #[J (A i).1,J (A i).2] 42 (0,0)):=by
     have:=World.alloc_heap_new (wc.setCell ⟨fb,1,none⟩ (.bool true)) (Jc #[J ai.1,J ai.2] 42);rw [show (wc.setCell ⟨fb,1,none⟩ (.bool true)).heap.size=wc.heap.size by simp [World.setCell]] at this;rw [←HL.o];exact this
    have hsz3:w.heap.size≤((wc.setCell ⟨fb,1,none⟩ (.bool true)).alloc (Jc #[J ai.1,J ai.2] 42)).heap.size:=Nat.le_trans s_g.size (by simp);have a_o:=s_o.below ((Below.refl (wc.setCell ⟨fb,1,none⟩ (.bool true)).heap.size (wc.setCell ⟨fb,1,none⟩ (.bool true))).alloc Lr (Jc #[J ai.1,J ai.2] 42));have hij:i≤1000:=by omega
    clear hO hg;go_wp2_with (at_builtin;go_must (refine En.Qbt rfl _ _ rfl w.heap.size _ i A rfl a_o wc.heap.size _ rfl n_n hij hsz3 ?_);intro v' w' hO' hg2 hat);have e_f:w'.heap[fb]? = _:=QbK hg2 (En.lold s_f) (a_o.low fb hfl);have e_g:w.grownBy w' (some fb):=(World.grownBy.trans s_g (World.grownBy_alloc _ (Jc #[J ai.1,J ai.2] 42) _)).andThen hg2 (fun j e => .inl (Qio a_o j e));clear n_n hg2 hat s_f s_o s_g a_o hsz3 hfb
    go_roundw
    case rel=>exact ⟨i+1,by omega,by first | rfl | go_num | simp,⟨hO'⟩,⟨e_g,by rw [HK.o];simpa using e_f,e_g.size⟩⟩
    case measure=>simp [intOf];omega
   | false =>
    have s_f:(wc.setCell ⟨fb,1,none⟩ (.bool (ci != 0))).heap[fb]? = some (Jc #[sv,.bool (ci != 0)] 150 (0,0)):=QeZ hfb;have s_o:OwnL (wc.setCell ⟨fb,1,none⟩ (.bool (ci != 0))) w.heap.size u9 i A:=World.ownsRow.kept hO (Qar 1 _) (.inr (hO.low fb hfl));have s_g:w.grownBy (wc.setCell ⟨fb,1,none⟩ (.bool (ci != 0))) (some fb):=World.grownBy.trans hg (Qar 1 _)
    have n_n:((wc.setCell ⟨fb,1,none⟩ (.bool (ci != 0))).alloc (Jc #[J ai.1,J ai.2] 42)).heap[wc.heap.size]? = some (Jc #[J (A i).1,J (A i).2] 42 (0,0)):=by
     have:=World.alloc_heap_new (wc.setCell ⟨fb,1,none⟩ (.bool (ci != 0))) (Jc #[J ai.1,J ai.2] 42);rw [show (wc.setCell ⟨fb,1,none⟩ (.bool (ci != 0))).heap.size=wc.heap.size by simp [World.setCell]] at this;rw [←HL.o];exact this
    have hsz3:w.heap.size≤((wc.setCell ⟨fb,1,none⟩ (.bool (ci != 0))).alloc (Jc #[J ai.1,J ai.2] 42)).heap.size:=Nat.le_trans s_g.size (by simp);have a_o:=s_o.below ((Below.refl (wc.setCell ⟨fb,1,none⟩ (.bool (ci != 0))).heap.size (wc.setCell ⟨fb,1,none⟩ (.bool (ci != 0)))).alloc Lr (Jc #[J ai.1,J ai.2] 42));have hij:i≤1000:=by omega
    clear hO hg;go_wp2_with (at_builtin;go_must (refine En.Qbt rfl _ _ rfl w.heap.size _ i A rfl a_o wc.heap.size _ rfl n_n hij hsz3 ?_);intro v' w' hO' hg2 hat);have e_f:w'.heap[fb]? = _:=QbK hg2 (En.lold s_f) (a_o.low fb hfl);have e_g:w.grownBy w' (some fb):=(World.grownBy.trans s_g (World.grownBy_alloc _ (Jc #[J ai.1,J ai.2] 42) _)).andThen hg2 (fun j e => .inl (Qio a_o j e));clear n_n hg2 hat s_f s_o s_g a_o hsz3 hfb
    go_roundw
    case rel=>exact ⟨i+1,by omega,by first | rfl | go_num | simp,⟨hO'⟩,⟨e_g,by rw [HK.o,show (false || decide (ci≠0))=(ci != 0) by cases h:(ci != 0) <;> simp_all];exact e_f,e_g.size⟩⟩
    case measure=>simp [intOf];omega

theorem QmK (n:Nat) (hn:n≤1000) (bx ox cx by_ oy cy fb:Nat) (sv:Value) (hsv:∃ p k c,sv = .slice p k c) (fl:Bool) (hcx:n≤cx) (hcy:n≤cy) (G H A S:Nat→P2) (CA CS:Nat→Int)
  (hA:∀ j,j<n→Ret 241 #[frc (G j).1 (G j).2,frc (H j).1 (H j).2] (.tuple #[frc (A j).1 (A j).2,.int .i64 (CA j)]))
  (hS:∀ j,j<n→Ret 242 #[frc (G j).1 (G j).2,frc (H j).1 (H j).2] (.tuple #[frc (S j).1 (S j).2,.int .i64 (CS j)])) (w:World) (hx:Cl w bx ox n G) (hy:Cl w by_ oy n H) (hf:w.heap[fb]? = some (Jc #[sv,.bool fl] 150 (0,0))) :
  Calls Tryz.prog 232 #[.pointer (some ⟨fb,0,none⟩),.slice (some ⟨bx,ox,none⟩) n cx,.slice (some ⟨by_,oy,none⟩) n cy,.bool true] w fun e w'=>(∃ v,e = .returned v∧OwnL w' w.heap.size v n S)∧w.grownBy w' (some fb)∧w'.heap[fb]? = some (Jc #[sv,.bool (QdR fl CS n)] 150 (0,0)):=by
 have hfc:FC w fb:=by
  obtain ⟨p,k,c,rfl⟩:=hsv;exact ⟨p,k,c,fl,hf⟩
 have CO:Sh _:=⟨hA⟩;have CS_:Sh _:=⟨hS⟩;have HX:Sh (∀ W,w.grownBy W (some fb)→Cl W bx ox n G):=⟨fun W g=>hx.fgrown hfc g⟩;have HY:Sh (∀ W,w.grownBy W (some fb)→Cl W by_ oy n H):=⟨fun W g=>hy.fgrown hfc g⟩;have hfl:=(Array.getElem?_eq_some_iff.1 hf).1;have HF:Sh (w.grownBy w (some fb)∧w.heap[fb]? = some (Jc #[sv,.bool (QdR fl CS 0)] 150 (0,0))∧w.heap.size≤w.heap.size):=⟨World.grownBy.refl _ _,hf,Nat.le_refl _⟩;clear hA hS hx hy hf hfc hsv;go_enter Tryz.func232, Tryz.ntmps232;go_wp2_with fail
 go_loopw [9,10] (fun vv iv wr=>∃ i:Nat,i≤n∧iv = .int .i64 (i:Int)∧Sh (OwnL wr w.heap.size vv i S)∧Sh (w.grownBy wr (some fb)∧wr.heap[fb]? = some (Jc #[sv,.bool (QdR fl CS i)] 150 (0,0))∧w.heap.size≤wr.heap.size)) (fun _ iv _=>n-(intOf iv).toNat)
 case atStart=>exact ⟨0,Nat.zero_le _,rfl,⟨OwnL.nil _ _ _⟩,HF⟩
 case round =>
  obtain ⟨i,hi,rfl,HO,HG⟩:=hrel;clear HF;have hO:=HO.o;obtain ⟨hg,hfb,hsz⟩:=HG.o;clear HG HO;by_cases hin:i=n
  ·subst hin;go_wp2_with fail;go_ret;exact ⟨⟨_,rfl,hO⟩,hg,hfb⟩
  ·have hil:i<n:=by omega
   have hi2:(i:Int)<(n:Int):=by omega
   have hi3:(0:Int)≤(i:Int):=by omega
   obtain ⟨x0,x1⟩:=(HX.o wr hg).at_ i hil;obtain ⟨y0,y1⟩:=(HY.o wr hg).at_ i hil;have cO:=CO.o i hil;have cS:=CS_.o i hil;have hw1:IntKind.i64.wrap ((i:Int)+1)=(i:Int)+1:=by simp [IntKind.wrap,IntKind.signed,IntKind.bits];omega
   have hK:QdR fl CS (i+1)=(QdR fl CS i || decide (CS i≠0)):=rfl;obtain ⟨kf,hkf⟩:∃ b,b=QdR fl CS i:=⟨_,rfl⟩;obtain ⟨ci,hci⟩:∃ b,b=CA i:=⟨_,rfl⟩;obtain ⟨ai,hai⟩:∃ b,b=A i:=⟨_,rfl⟩;obtain ⟨gi,hgi⟩:∃ b,b=G i:=⟨_,rfl⟩;obtain ⟨yi,hyi⟩:∃ b,b=H i:=⟨_,rfl⟩;rw [←hkf] at hK hfb;rw [←hgi] at x0 x1 cO;rw [←hyi] at y0 y1 cO;rw [←hai,←hci] at cO;obtain ⟨di,hdi⟩:∃ b,b=CS i:=⟨_,rfl⟩;obtain ⟨si,hsi⟩:∃ b,b=S i:=⟨_,rfl⟩;rw [←hgi,←hyi,←hsi,←hdi] at cS;rw [←hdi] at hK;have cS:∀ W,_:=cS;have HS:Sh _:=⟨hsi⟩;clear hsi hdi;have cO:∀ W,_:=cO;have HA:Sh _:=⟨hai⟩;have HC:Sh _:=⟨hci⟩;have HK:Sh _:=⟨hK⟩;clear hkf hai hci hgi hyi hK;unfold frc at *
   go_wp2_with fail;have SS:Sh (∀ X,Below wr.heap.size wr X→X.cell? ⟨bx,ox+i*2,none⟩=some (J gi.1)∧X.cell? ⟨bx,ox+i*2+1,none⟩=some (J gi.2)∧X.cell? ⟨by_,oy+i*2,none⟩=some (J yi.1)∧X.cell? ⟨by_,oy+i*2+1,none⟩=some (J yi.2)):=⟨fun X hX=>⟨Qae x0 hX,Qae x1 hX,Qae y0 hX,Qae y1 hX⟩⟩
   go_cut [11,12] from 19 to 30 (fun s1 s2 wx=>∃ br,s1 = .pointer (some ⟨br,0,none⟩)∧s2 = .int .i64 ci∧wx.heap[br]? = some (Jc #[J ai.1,J ai.2] 42 (0,0))∧wr.heap.size≤br∧Below wr.heap.size wr wx)
   case first =>
    (go_region_held (fun X=>X.cell? ⟨bx,ox+i*2,none⟩=some (J gi.1)∧X.cell? ⟨bx,ox+i*2+1,none⟩=some (J gi.2)∧X.cell? ⟨by_,oy+i*2,none⟩=some (J yi.1)∧X.cell? ⟨by_,oy+i*2+1,none⟩=some (J yi.2)) (first | exact SS.o _ (QaS (Below.refl _ _)) | exact SS.o _ (QaS ((Below.refl _ _).alloc Lr _)) | exact SS.o _ k2 | exact SS.o _ (k2.alloc k2.size _) | exact SS.o _ (k2.setCell (by first | exact Nat.le_refl _ | exact k2.size | (simp;done)) _) | exact SS.o _ ((k2.setCell (by first | exact Nat.le_refl _ | exact k2.size | (simp;done)) _).setCell (by first | exact Nat.le_refl _ | exact k2.size | (simp;done)) _) | exact SS.o _ (((k2.alloc k2.size _).setCell (by first | exact Nat.le_refl _ | exact k2.size | (simp;done)) _).setCell (by first | exact Nat.le_refl _ | exact k2.size | (simp;done)) _) | fail)
     (first
      | (go_at_call 241; have hq:=cO wr.drew;(with_reducible refine hq.mono ?_);rintro e x2 ⟨rfl,g2⟩;have k2:Below wr.heap.size wr x2:=Qah g2;have n2:=World.alloc_heap_new x2 (Jc #[J ⟨#[]⟩,J ⟨#[]⟩] 42);have z0:=En.Qaa n2 0 (v:=J ⟨#[]⟩) rfl;have z1:=En.Qaa n2 1 (v:=J ⟨#[]⟩) rfl;have y0:=En.Qad n2 0;have y1:=En.Qad n2 1;clear hq g2)
      | (go_at_call 241; have hq:=cO (wr.alloc (Jc #[J ⟨#[]⟩,J ⟨#[]⟩] 42)).drew;(with_reducible refine hq.mono ?_);rintro e x2 ⟨rfl,g2⟩;have k2:Below wr.heap.size wr x2:=((Below.refl _ _).alloc Lr (Jc #[J ⟨#[]⟩,J ⟨#[]⟩] 42)).trans ((Qah g2).mono (by simp));have n2:=En.Qac (World.alloc_heap_new wr (Jc #[J ⟨#[]⟩,J ⟨#[]⟩] 42)) (Qah g2);have z0:=En.Qaa n2 0 (v:=J ⟨#[]⟩) rfl;have z1:=En.Qaa n2 1 (v:=J ⟨#[]⟩) rfl;have y0:=En.Qad n2 0;have y1:=En.Qad n2 1;clear hq g2)
      | fail);all_goals (try clear SS))
    all_goals
     go_wp2_with fail
     go_meet
     first
      | exact ⟨_,rfl,rfl,Qbc n2,Nat.le_refl _,(k2.setCell Lr _).setCell Lr _⟩
      | exact ⟨_,rfl,rfl,World.alloc_heap_new x2 _,k2.size,k2.alloc k2.size _⟩
   case rest =>
   obtain ⟨br,rfl,rfl,nr,hbr,ux⟩:=hcut;clear SS cO
   have hbx:bx≠br:=fun e=>by
    have:=World.block_lt_of_cell? wr _ x0;simp at this;omega
   have hby:by_≠br:=fun e=>by
    have:=World.block_lt_of_cell? wr _ y0;simp at this;omega
   replace x0:=Qae x0 ux;replace x1:=Qae x1 ux;replace y0:=Qae y0 ux;replace y1:=Qae y1 ux;have hne:=hO.new br hbr;replace hO:=hO.below ux;replace hfb:=En.Qac hfb ux;replace hg:=QbX hg ux;have hsz2:=Nat.le_trans hsz ux.size;have hbr2:w.heap.size≤br:=Nat.le_trans hsz hbr;have hbf:br≠fb:=by omega
   have hbf2:=hbf.symm;clear ux hsz hbr HC HA
   rename World=>wa
   go_wp2_with fail;have SS:Sh (∀ X,wa.grownBy X (some br)→X.cell? ⟨bx,ox+i*2,none⟩=some (J gi.1)∧X.cell? ⟨bx,ox+i*2+1,none⟩=some (J gi.2)∧X.cell? ⟨by_,oy+i*2,none⟩=some (J yi.1)∧X.cell? ⟨by_,oy+i*2+1,none⟩=some (J yi.2)):=⟨fun X hX=>⟨Qba hX x0 (fun e=>hbx (by injection e with e;exact e.symm)),Qba hX x1 (fun e=>hbx (by injection e with e;exact e.symm)),Qba hX y0 (fun e=>hby (by injection e with e;exact e.symm)),Qba hX y1 (fun e=>hby (by injection e with e;exact e.symm))⟩⟩
   go_cut [12] from 32 to 43 (fun s1 wx=>s1 = .int .i64 di∧wx.heap[br]? = some (Jc #[J si.1,J si.2] 42 (0,0))∧wa.grownBy wx (some br))
   case first =>
    (go_region_held (fun X=>X.cell? ⟨bx,ox+i*2,none⟩=some (J gi.1)∧X.cell? ⟨bx,ox+i*2+1,none⟩=some (J gi.2)∧X.cell? ⟨by_,oy+i*2,none⟩=some (J yi.1)∧X.cell? ⟨by_,oy+i*2+1,none⟩=some (J yi.2)) (first | exact SS.o _ (QbX (World.grownBy.refl _ _) (QaS (Below.refl _ _))) | exact SS.o _ (QbX (World.grownBy.refl _ _) k2) | exact SS.o _ (World.grownBy.trans (QbX (World.grownBy.refl _ _) k2) (Qar 0 _)) | exact SS.o _ (World.grownBy.trans (World.grownBy.trans (QbX (World.grownBy.refl _ _) k2) (Qar 0 _)) (Qar 1 _)) | fail)
     (first
      | (go_at_call 242; have hq:=cS wa.drew;(with_reducible refine hq.mono ?_);rintro e x2 ⟨rfl,g2⟩;have k2:Below wa.heap.size wa x2:=Qah g2;have n2:=En.Qac nr k2;have z0:=En.Qaa n2 0 (v:=J ai.1) rfl;have z1:=En.Qaa n2 1 (v:=J ai.2) rfl;have y0:=En.Qad n2 0;have y1:=En.Qad n2 1;clear hq g2)
      | fail);all_goals (try clear SS))
    all_goals
     go_wp2_with fail
     go_meet
     exact ⟨rfl,Qbc n2,World.grownBy.trans (World.grownBy.trans (QbX (World.grownBy.refl _ _) k2) (Qar 0 _)) (Qar 1 _)⟩
   case rest =>
   obtain ⟨rfl,nr2,gx⟩:=hcut;clear SS x0 x1 y0 y1 cS nr hbx hby;have nr:wc.heap[br]? = _:=nr2;replace hO:OwnL wc w.heap.size u9 i S:=World.ownsRow.kept hO gx (.inr hne);replace hfb:=QbK gx hfb (by simp;omega);replace hg:=hg.andThen gx (fun j e => .inl (by injection e with e;omega));clear nr2 gx hne hsz2;have r0:=En.Qaa nr 0 (v:=J si.1) rfl;have r1:=En.Qaa nr 1 (v:=J si.2) rfl;have f1:=En.Qaa hfb 1 (v:=.bool kf) rfl;have ff:=En.Qad hfb 1;have HL:Sh (si=S i):=HS;cases kf with
   | true =>
    have s_f:(wc.setCell ⟨fb,1,none⟩ (.bool true)).heap[fb]? = some (Jc #[sv,.bool true] 150 (0,0)):=QeZ hfb;have s_o:OwnL (wc.setCell ⟨fb,1,none⟩ (.bool true)) w.heap.size u9 i S:=World.ownsRow.kept hO (Qar 1 _) (.inr (hO.low fb hfl));have s_g:w.grownBy (wc.setCell ⟨fb,1,none⟩ (.bool true)) (some fb):=World.grownBy.trans hg (Qar 1 _)
    have n_n:((wc.setCell ⟨fb,1,none⟩ (.bool true)).alloc (Jc #[J si.1,J si.2] 42)).heap[wc.heap.size]? = some (Jc #[J (S i).1,J (S i).2] 42 (0,0)):=by
     have:=World.alloc_heap_new (wc.setCell ⟨fb,1,none⟩ (.bool true)) (Jc #[J si.1,J si.2] 42);rw [show (wc.setCell ⟨fb,1,none⟩ (.bool true)).heap.size=wc.heap.size by simp [World.setCell]] at this;rw [←HL.o];exact this
    have hsz3:w.heap.size≤((wc.setCell ⟨fb,1,none⟩ (.bool true)).alloc (Jc #[J si.1,J si.2] 42)).heap.size:=Nat.le_trans s_g.size (by simp);have a_o:=s_o.below ((Below.refl (wc.setCell ⟨fb,1,none⟩ (.bool true)).heap.size (wc.setCell ⟨fb,1,none⟩ (.bool true))).alloc Lr (Jc #[J si.1,J si.2] 42));have hij:i≤1000:=by omega
    clear hO hg;go_wp2_with (at_builtin;go_must (refine En.Qbt rfl _ _ rfl w.heap.size _ i S rfl a_o wc.heap.size _ rfl n_n hij hsz3 ?_);intro v' w' hO' hg2 hat);have e_f:w'.heap[fb]? = _:=QbK hg2 (En.lold s_f) (a_o.low fb hfl);have e_g:w.grownBy w' (some fb):=(World.grownBy.trans s_g (World.grownBy_alloc _ (Jc #[J si.1,J si.2] 42) _)).andThen hg2 (fun j e => .inl (Qio a_o j e));clear n_n hg2 hat s_f s_o s_g a_o hsz3 hfb
    go_roundw
    case rel=>exact ⟨i+1,by omega,by first | rfl | go_num | simp,⟨hO'⟩,⟨e_g,by rw [HK.o];simpa using e_f,e_g.size⟩⟩
    case measure=>simp [intOf];omega
   | false =>
    have s_f:(wc.setCell ⟨fb,1,none⟩ (.bool (di != 0))).heap[fb]? = some (Jc #[sv,.bool (di != 0)] 150 (0,0)):=QeZ hfb;have s_o:OwnL (wc.setCell ⟨fb,1,none⟩ (.bool (di != 0))) w.heap.size u9 i S:=World.ownsRow.kept hO (Qar 1 _) (.inr (hO.low fb hfl));have s_g:w.grownBy (wc.setCell ⟨fb,1,none⟩ (.bool (di != 0))) (some fb):=World.grownBy.trans hg (Qar 1 _)
    have n_n:((wc.setCell ⟨fb,1,none⟩ (.bool (di != 0))).alloc (Jc #[J si.1,J si.2] 42)).heap[wc.heap.size]? = some (Jc #[J (S i).1,J (S i).2] 42 (0,0)):=by
     have:=World.alloc_heap_new (wc.setCell ⟨fb,1,none⟩ (.bool (di != 0))) (Jc #[J si.1,J si.2] 42);rw [show (wc.setCell ⟨fb,1,none⟩ (.bool (di != 0))).heap.size=wc.heap.size by simp [World.setCell]] at this;rw [←HL.o];exact this
    have hsz3:w.heap.size≤((wc.setCell ⟨fb,1,none⟩ (.bool (di != 0))).alloc (Jc #[J si.1,J si.2] 42)).heap.size:=Nat.le_trans s_g.size (by simp);have a_o:=s_o.below ((Below.refl (wc.setCell ⟨fb,1,none⟩ (.bool (di != 0))).heap.size (wc.setCell ⟨fb,1,none⟩ (.bool (di != 0)))).alloc Lr (Jc #[J si.1,J si.2] 42));have hij:i≤1000:=by omega
    clear hO hg;go_wp2_with (at_builtin;go_must (refine En.Qbt rfl _ _ rfl w.heap.size _ i S rfl a_o wc.heap.size _ rfl n_n hij hsz3 ?_);intro v' w' hO' hg2 hat);have e_f:w'.heap[fb]? = _:=QbK hg2 (En.lold s_f) (a_o.low fb hfl);have e_g:w.grownBy w' (some fb):=(World.grownBy.trans s_g (World.grownBy_alloc _ (Jc #[J si.1,J si.2] 42) _)).andThen hg2 (fun j e => .inl (Qio a_o j e));clear n_n hg2 hat s_f s_o s_g a_o hsz3 hfb
    go_roundw
    case rel=>exact ⟨i+1,by omega,by first | rfl | go_num | simp,⟨hO'⟩,⟨e_g,by rw [HK.o,show (false || decide (di≠0))=(di != 0) by cases h:(di != 0) <;> simp_all];exact e_f,e_g.size⟩⟩
    case measure=>simp [intOf];omega
theorem Qjs (fl:Bool) (Z:List (Option Rat)):∀ n,n≤Z.length→QdR fl (fun j=>cd (Z.getD j none)) n=(fl || (Z.take n).any (·.isNone))
 | 0,_=>by rw [QdR,List.take_zero];simp
 | n+1,h=>by
  rw [QdR,Qjs fl Z n (by omega),List.take_succ_eq_append_getElem (by omega),List.any_append,List.getD_eq_getElem?_getD,List.getElem?_eq_getElem (by omega),Bool.or_assoc];congr 2;rw [Option.getD_some];cases Z[n] <;> simp [cd]
theorem Qip {f:Rat→Rat→Option Rat} {X Y:List (Option Rat)} {j:Nat} (hx:j<X.length) (hy:j<Y.length):(List.zipWith (Qbk f) X Y).getD j none=Qbk f (X.getD j none) (Y.getD j none):=by
 rw [List.getD_eq_getElem?_getD,List.getD_eq_getElem?_getD,List.getD_eq_getElem?_getD,List.getElem?_zipWith,List.getElem?_eq_getElem hx,List.getElem?_eq_getElem hy];rfl
theorem Qpb {f:Rat→Rat→Option Rat} (hf:∀ p q r,f p q=some r→FitQ r) (X Y:List (Option Rat)):∀ q∈List.zipWith (Qbk f) X Y,FitO q:=by
 intro q hq;obtain ⟨i,hi,rfl⟩:=List.mem_iff_getElem.1 hq;rw [List.getElem_zipWith];exact FitO.lift hf _ _
theorem Qiq {f:Rat→Rat→Option Rat}:∀ {x y z:List Rat},Qaj f x y=some z→List.zipWith (Qbk f) (x.map some) (y.map some)=z.map some
 | [],y,z,h=>by cases h;rfl
 | x :: xs, [],z,h=>by cases h;rfl
 | x :: xs,y :: ys,z,h=>by
  rw [Qaj] at h;obtain ⟨r,hr,h⟩:=Option.bind_eq_some_iff.1 h;obtain ⟨t,ht,rfl⟩:=Option.map_eq_some_iff.1 h;rw [List.map_cons,List.map_cons,List.zipWith_cons_cons,Qiq ht,List.map_cons];congr 1
theorem Qlv {f:Rat→Rat→Option Rat}:∀ {x y:List Rat},Qaj f x y=none→(List.zipWith (Qbk f) (x.map some) (y.map some)).any (·.isNone)=true
 | [],y,h=>by cases h
 | x :: xs, [],h=>by cases h
 | x :: xs,y :: ys,h=>by
  rw [Qaj] at h;rw [List.map_cons,List.map_cons,List.zipWith_cons_cons,List.any_cons];cases hr:f x y with
  | none=>rw [show Qbk f (some x) (some y)=f x y from rfl,hr];rfl
  | some r =>
   rw [hr,Option.bind_some] at h;rw [Qlv (Option.map_eq_none_iff.1 h),Bool.or_true]
theorem QqS (z:List Rat):(z.map some).any (·.isNone)=false:=by
 induction z with
 | nil=>rfl
 | cons x z ih=>rw [List.map_cons,List.any_cons,ih];rfl
structure AnsW (fb:Nat) (p:Option Addr) (rs:List (List Rat)) (n:Nat) (fl:Bool) (o:Option (List Rat)) (w:World) (e:Ending) (w':World):Prop where
 grown:w.grownBy w' (some fb)
 ex:∃ v Z,e = .returned v∧Eo w' v Z∧Z.length=n∧FB w' fb p rs (fl || o.isNone)∧Val Z (fl || o.isNone) o
theorem AnsB.w {fb:Nat} {p:Option Addr} {rs:List (List Rat)} {f:Rat→Rat→Option Rat} {X Y:List (Option Rat)} {fl:Bool} {ox oy:Option (List Rat)} {w:World} {e:Ending} {w':World} {n:Nat} (hx:X.length=n) (hy:Y.length=n) (vx:Val X fl ox) (vy:Val Y fl oy)
  (h:AnsB fb p rs (List.zipWith (Qbk f) X Y) (fl || (List.zipWith (Qbk f) X Y).any (·.isNone)) w e w'):AnsW fb p rs n fl (ox.bind fun x=>oy.bind fun y=>Qaj f x y) w e w':=by
 obtain ⟨v,e1,e2⟩:=h.good;have hl:(List.zipWith (Qbk f) X Y).length=n:=by rw [List.length_zipWith,hx,hy,Nat.min_self]
 have hb:=h.fbs;cases hfl:fl with
 | true =>
  rw [hfl,Bool.true_or] at hb;exact ⟨h.grown,v,_,e1,e2,hl,by rw [Bool.true_or];exact hb,fun hc=>by rw [Bool.true_or] at hc;cases hc⟩
 | false =>
  obtain ⟨x,rfl,rfl⟩:=vx hfl;obtain ⟨y,rfl,rfl⟩:=vy hfl;rw [hfl,Bool.false_or] at hb;cases ho:Qaj f x y with
  | none =>
   rw [Qlv ho] at hb;refine ⟨h.grown,v,_,e1,e2,hl, ?_,fun hc => ?_⟩
   ·simp only [Option.bind_some,ho];exact hb
   ·simp only [Option.bind_some,ho] at hc;cases hc
  | some z =>
   rw [Qiq ho,QqS] at hb;refine ⟨h.grown,v,_,e1,e2,hl, ?_,fun _=>⟨z, ?_,Qiq ho⟩⟩
   ·simp only [Option.bind_some,ho];exact hb
   ·simp only [Option.bind_some,ho]
theorem Qlw {fb:Nat} {p:Option Addr} {rs:List (List Rat)} {fl:Bool} {Z:List (Option Rat)} (hz:1≤Z.length) (fz:∀ q∈Z,FitO q) {w w':World} {e:Ending} {cap:Nat} (hw:FB w fb p rs fl) (hc:rs.length≤cap)
  (h:(∃ v,e = .returned v∧OwnL w' w.heap.size v Z.length (pqo Z))∧w.grownBy w' (some fb)∧w'.heap[fb]? = some (Jc #[.slice p rs.length cap,.bool (QdR fl (fun j=>cd (Z.getD j none)) Z.length)] 150 (0,0))) :
  AnsB fb p rs Z (fl || Z.any (·.isNone)) w e w':=by
 obtain ⟨⟨v,rfl,hO⟩,hg,hf⟩:=h;obtain ⟨g,c2,rfl,_,k1,_,k3⟩:=Qdc hO hz;rw [Qjs fl Z _ Lr,List.take_length] at hf;exact ⟨hg,⟨⟨cap,hf,hc⟩,hw.low,hw.rl.grown hw.fc (fun a e=>Nat.ne_of_lt (hw.low a e)) hg,hw.rad,hw.fits⟩,_,rfl,⟨g,0,c2,rfl,k1,k3⟩,fz⟩
theorem Qvq {X Y:List (Option Rat)} {fb:Nat} {p:Option Addr} {rs:List (List Rat)} {fl:Bool} {vx vy:Value} (hl:Y.length=X.length) (hn:1≤X.length∧X.length≤1000) (w:World) (hf:FB w fb p rs fl) (hx:Eo w vx X) (hy:Eo w vy Y) :
  Calls Tryz.prog 234 #[.pointer (some ⟨fb,0,none⟩),vx,vy] w (AnsB fb p rs (List.zipWith (Qbk addQ) X Y) (fl || (List.zipWith (Qbk addQ) X Y).any (·.isNone)) w):=by
 obtain ⟨b,o,c,rfl,h1,h2⟩:=hx.ex;obtain ⟨b',o',c',rfl,h1',h2'⟩:=hy.ex;obtain ⟨cap,hb,hc⟩:=hf.box;have hl2:(List.zipWith (Qbk addQ) X Y).length=X.length:=by rw [List.length_zipWith,hl,Nat.min_self]
 rw [hl] at h1' h2' ⊢
 have hq:=Qpa X.length hn.2 b o c b' o' c' fb (.slice p rs.length cap) ⟨_,_,_,rfl⟩ fl h1 h1' (pqo X) (pqo Y) (pqo (List.zipWith (Qbk addQ) X Y)) (fun j=>cd ((List.zipWith (Qbk addQ) X Y).getD j none)) (fun j hj=>by
  have:=Qrs (hx.at_ j) (hy.at_ j);rw [←Qip hj (by rw [hl];exact hj)] at this;exact this) w h2 h2' hb
 have hA:=fun (e:Ending) (w':World) h=>Qlw (Z:=List.zipWith (Qbk addQ) X Y) (w:=w) (w':=w') (e:=e) (by rw [hl2];exact hn.1) (Qpb (fun _ _ _ h=>FitQ.addQ h) X Y) hf hc (by rw [hl2];exact h);generalize List.zipWith (Qbk addQ) X Y=Z at *
 clear hx hy h2 h2' hb hf;go_enter Tryz.func234, Tryz.ntmps234;go_wp2_with fail;refine hq.mono ?_;intro e w1 h;have h:=hA e w1 h;obtain ⟨v,rfl,_⟩:=h.good;clear hq hA;go_wp2_with fail;go_ret;exact h
theorem Qvr {X Y:List (Option Rat)} {fb:Nat} {p:Option Addr} {rs:List (List Rat)} {fl:Bool} {vx vy:Value} (hl:Y.length=X.length) (hn:1≤X.length∧X.length≤1000) (w:World) (hf:FB w fb p rs fl) (hx:Eo w vx X) (hy:Eo w vy Y) :
  Calls Tryz.prog 216 #[.pointer (some ⟨fb,0,none⟩),vx,vy] w (AnsB fb p rs (List.zipWith (Qbk subQ) X Y) (fl || (List.zipWith (Qbk subQ) X Y).any (·.isNone)) w):=by
 obtain ⟨b,o,c,rfl,h1,h2⟩:=hx.ex;obtain ⟨b',o',c',rfl,h1',h2'⟩:=hy.ex;obtain ⟨cap,hb,hc⟩:=hf.box;have hl2:(List.zipWith (Qbk subQ) X Y).length=X.length:=by rw [List.length_zipWith,hl,Nat.min_self]
 rw [hl] at h1' h2' ⊢
 have hq:=QmK X.length hn.2 b o c b' o' c' fb (.slice p rs.length cap) ⟨_,_,_,rfl⟩ fl h1 h1' (pqo X) (pqo Y) (pqo (List.zipWith (Qbk addQ) X Y)) (pqo (List.zipWith (Qbk subQ) X Y)) (fun j=>cd ((List.zipWith (Qbk addQ) X Y).getD j none)) (fun j=>cd ((List.zipWith (Qbk subQ) X Y).getD j none)) (fun j hj=>by
  have:=Qrs (hx.at_ j) (hy.at_ j);rw [←Qip hj (by rw [hl];exact hj)] at this;exact this) (fun j hj=>by
  have:=QuB (hx.at_ j) (hy.at_ j);rw [←Qip hj (by rw [hl];exact hj)] at this;exact this) w h2 h2' hb
 have hA:=fun (e:Ending) (w':World) h=>Qlw (Z:=List.zipWith (Qbk subQ) X Y) (w:=w) (w':=w') (e:=e) (by rw [hl2];exact hn.1) (Qpb (fun _ _ _ h=>FitQ.subQ h) X Y) hf hc (by rw [hl2];exact h);generalize List.zipWith (Qbk subQ) X Y=Z at *
 clear hx hy h2 h2' hb hf;go_enter Tryz.func216, Tryz.ntmps216;go_wp2_with fail;refine hq.mono ?_;intro e w1 h;have h:=hA e w1 h;obtain ⟨v,rfl,_⟩:=h.good;clear hq hA;go_wp2_with fail;go_ret;exact h
theorem QrH {X Y:List (Option Rat)} {fb:Nat} {p:Option Addr} {rs:List (List Rat)} {fl:Bool} {vx vy:Value} {n:Nat} {ox oy:Option (List Rat)} (hx:X.length=n) (hy:Y.length=n) (hn:1≤n∧n≤1000) (w:World) (hf:FB w fb p rs fl) (ex:Eo w vx X) (ey:Eo w vy Y) (kx:Val X fl ox) (ky:Val Y fl oy) :
  Calls Tryz.prog 234 #[.pointer (some ⟨fb,0,none⟩),vx,vy] w (AnsW fb p rs n fl (ox.bind fun x=>oy.bind fun y=>Qaj addQ x y) w) :=
 (Qvq (by omega) (by omega) w hf ex ey).mono fun _ _ h=>h.w hx hy kx ky
theorem Qvs {X Y:List (Option Rat)} {fb:Nat} {p:Option Addr} {rs:List (List Rat)} {fl:Bool} {vx vy:Value} {n:Nat} {ox oy:Option (List Rat)} (hx:X.length=n) (hy:Y.length=n) (hn:1≤n∧n≤1000) (w:World) (hf:FB w fb p rs fl) (ex:Eo w vx X) (ey:Eo w vy Y) (kx:Val X fl ox) (ky:Val Y fl oy) :
  Calls Tryz.prog 216 #[.pointer (some ⟨fb,0,none⟩),vx,vy] w (AnsW fb p rs n fl (ox.bind fun x=>oy.bind fun y=>Qaj subQ x y) w) :=
 (Qvr (by omega) (by omega) w hf ex ey).mono fun _ _ h=>h.w hx hy kx ky
structure KG (gb:Nat) where
 P:World→Prop
 keep:∀ W W',FC W gb→W.grownBy W' (some gb)→P W→P W'
structure Kg (gb:Nat) (l:List (KG gb)) (W:World):Prop where
 fc:FC W gb
 all:∀ k∈l,k.P W
theorem Kg.step {gb:Nat} {l:List (KG gb)} {W W':World} (h:Kg gb l W) (hg:W.grownBy W' (some gb)) (hf:FC W' gb):Kg gb l W':=⟨hf,fun k hk=>k.keep W W' h.fc hg (h.all k hk)⟩
theorem of_below {W W':World} (u:Below W.heap.size W W') (r:Option Nat):W.grownBy W' r:=⟨u.os,u.tape,u.output,u.size,fun k hk _=>u.block k hk⟩
theorem FC.keep {W W':World} {gb:Nat} (h:FC W gb) (u:Below W.heap.size W W'):FC W' gb:=by
 obtain ⟨p,n,cap,b,hf⟩:=h;exact ⟨p,n,cap,b,En.Qac hf u⟩
theorem Kg.keep {gb:Nat} {l:List (KG gb)} {W W':World} (h:Kg gb l W) (u:Below W.heap.size W W'):Kg gb l W':=h.step (of_below u _) (h.fc.keep u)
theorem Kg.add {gb:Nat} {l:List (KG gb)} {W:World} (h:Kg gb l W) (k:KG gb) (hk:k.P W):Kg gb (k :: l) W:=⟨h.fc,fun x hx=>by
 rcases List.mem_cons.1 hx with rfl | hx
 ·exact hk
 ·exact h.all x hx⟩
def gEo (gb:Nat) (v:Value) (X:List (Option Rat)):KG gb:=⟨fun W=>Eo W v X,fun _ _ hf hg h=>h.grown hf hg⟩
def gFB (gb fb:Nat) (p:Option Addr) (rs:List (List Rat)) (fl:Bool) (hne:fb<gb):KG gb:=⟨fun W=>FB W fb p rs fl,fun _ _ hf hg h=>h.grown hf (Nat.ne_of_lt hne) (fun a e=>Nat.ne_of_lt (Nat.lt_trans (h.low a e) hne)) hg⟩
noncomputable def mulR:List (List Rat)→List Rat→List Rat→Option (List Rat)
 | [],x,y=>Qaj mulQ x y
 | d :: rs,x,y=>((mulR rs (hl x) (hl y)).bind fun ac=>((mulR rs (hr x) (hr y)).bind fun be=>mulR rs be d).bind fun bed=>Qaj addQ ac bed).bind fun p =>
  ((mulR rs (hl x) (hr y)).bind fun ae=>(mulR rs (hr x) (hl y)).bind fun bc=>Qaj addQ ae bc).map fun q=>p++q
theorem Qpc (o1 o2 o5 o6:Option (List Rat)) (g:List Rat→Option (List Rat)) (f:List Rat→List Rat→Option (List Rat)) {fl:Bool} {o:Option (List Rat)}
  (hf:fl=(((((((o1.isNone || o2.isNone) || (o2.bind g).isNone) || (o1.bind fun x=>(o2.bind g).bind fun y=>f x y).isNone) || o5.isNone) || o6.isNone) || (o5.bind fun x=>o6.bind fun y=>f x y).isNone)))
  (ho:o=((o1.bind fun x=>(o2.bind g).bind fun y=>f x y).bind fun p=>(o5.bind fun x=>o6.bind fun y=>f x y).map fun q=>p++q)):fl=o.isNone:=by
 subst hf ho;cases o1 with
 | none=>cases o2 <;> simp
 | some a =>
  cases o2 with
  | none=>simp
  | some b =>
   cases h3:g b with
   | none=>simp [h3]
   | some c =>
    cases h4:f a c with
    | none=>simp [h3,h4]
    | some e =>
     cases o5 with
     | none=>simp [h3,h4]
     | some x =>
      cases o6 with
      | none=>simp [h3,h4]
      | some y=>simp [h3,h4]
def MulC (rs:List (List Rat)):Prop:=∀ {X Y:List (Option Rat)} {fb:Nat} {p:Option Addr} {fl:Bool} {ox oy:Option (List Rat)} {vx vy:Value},X.length=2^rs.length→Y.length=2^rs.length→Val X fl ox→Val Y fl oy→∀ w,FB w fb p rs fl→Eo w vx X→Eo w vy Y →
 Calls Tryz.prog 217 #[.pointer (some ⟨fb,0,none⟩),vx,vy] w (AnsW fb p rs (2^rs.length) fl (ox.bind fun x=>oy.bind fun y=>mulR rs x y) w)
theorem QhG {rs:List (List Rat)} (hk:rs.length≤4) {X:List (Option Rat)} {fb:Nat} {p:Option Addr} {vx vy:Value} (o:Option (List Rat)) (hX:X.length=2^rs.length) (w:World) (hf:FB w fb p rs true) (ex:Eo w vx X) :
  Calls Tryz.prog 217 #[.pointer (some ⟨fb,0,none⟩),vx,vy] w (AnsW fb p rs (2^rs.length) true o w):=by
 have hp:=QbG hk;rw [←hX] at hp ⊢;obtain ⟨cap,hb,hc⟩:=hf.box;have x1:=En.Qaa hb 1 (v:=.bool true) rfl;have hq:=QtD X.length (by omega) w;obtain ⟨b,o1,c,rfl,h1,h2⟩:=ex.ex;have HF:Sh (∀ W',Below w.heap.size w W'→FB W' fb p rs true):=⟨fun W' u=>hf.keep u⟩;have HL:Sh (((zeros X.length).map some).length=X.length):=⟨by rw [List.length_map,QaR]⟩;clear hf ex h2 hb hX hk;generalize X.length=n at *
 generalize (zeros n).map some=Z at *
 go_enter Tryz.func217, Tryz.ntmps217;go_wp2_with fail;refine hq.mono ?_;intro e w1 h;obtain ⟨v,rfl,hv⟩:=h.good;have u:=h.below;clear hq h;go_wp2_with fail;go_ret;exact ⟨of_below u _,v,Z,rfl,hv,HL.o,by rw [Bool.true_or];exact HF.o _ u,fun hc=>by rw [Bool.true_or] at hc;cases hc⟩
theorem Qvt {f:Rat→Rat→Option Rat} (x y:Rat):Qaj f [x] [y]=(f x y).map fun z => [z]:=by
 cases h:f x y <;> simp [Qaj,h]
theorem QtE:MulC []:=by
 intro X Y fb p fl ox oy vx vy hX hY kx ky w hf ex ey;cases fl with
 | true=>exact QhG (rs := []) (by decide) _ hX w hf ex
 | false =>
  obtain ⟨x,rfl,rfl⟩:=kx rfl;obtain ⟨y,rfl,rfl⟩:=ky rfl;obtain ⟨x,rfl⟩:∃ a,x = [a]:=List.length_eq_one_iff.1 (by simpa using hX);obtain ⟨y,rfl⟩:∃ a,y = [a]:=List.length_eq_one_iff.1 (by simpa using hY);obtain ⟨cap,hb,hc⟩:=hf.box;have x1:=En.Qaa hb 1 (v:=.bool false) rfl;have x0:=En.Qaa hb 0 (v:=.slice p 0 cap) rfl;have ff:=En.Qad hb 1;obtain ⟨b,o,c,rfl,h1,h2⟩:=ex.ex;obtain ⟨b',o',c',rfl,h1',h2'⟩:=ey.ex;have cM:=QuC (ex.at_ 0) (ey.at_ 0);have p0:pqo ([x].map some) 0=pq x:=rfl;have q0:pqo ([y].map some) 0=pq y:=rfl;obtain ⟨k0,k1⟩:=h2.at_ 0 (by simp);obtain ⟨k2,k3⟩:=h2'.at_ 0 (by simp);rw [p0] at k0 k1;rw [q0] at k2 k3;rw [Nat.zero_mul,Nat.add_zero] at k0 k1 k2 k3;have cM:∀ W:World,Calls Tryz.prog 233 #[.agg #[J (pq x).1,J (pq x).2],.agg #[J (pq y).1,J (pq y).2]] W _:=cM;have HF:Sh _:=⟨hf⟩;have hfit:Sh (FitO (mulQ x y)):=⟨⟨fun q h=>FitQ.mulQ h⟩⟩;have hlt:=(Array.getElem?_eq_some_iff.1 hb).1
  have e1:Sh ((Qaj mulQ [x] [y]).isNone=(mulQ x y).isNone∧∀ fl,Val [mulQ x y] (fl || (Qaj mulQ [x] [y]).isNone) (Qaj mulQ [x] [y])):=by
   refine ⟨?_,fun fl hc => ?_⟩
   ·rw [Qvt];cases mulQ x y <;> rfl
   ·rw [Qvt] at hc ⊢;cases hm:mulQ x y with
    | none=>rw [hm] at hc;simp at hc
    | some z=>exact ⟨[z],rfl,rfl⟩
  have hres:Qbk mulQ (([x].map some).getD 0 none) (([y].map some).getD 0 none)=mulQ x y:=rfl;rw [hres] at cM;rw [show ((some [x]).bind fun x=>(some [y]).bind fun y=>mulR [] x y)=Qaj mulQ [x] [y] from rfl];have hcd:Sh ((cd (mulQ x y) != 0)=(mulQ x y).isNone):=⟨by cases mulQ x y <;> rfl⟩;have hst:Sh ((sn (mulQ x y),sd (mulQ x y))=pqo [mulQ x y] 0):=⟨rfl⟩;clear hX hY kx ky ex ey h2 h2' hres p0 q0 hf h1 h1';unfold resO at cM;generalize Qaj mulQ [x] [y]=O at *
  generalize mulQ x y=r at *
  generalize pq x=gx at *
  generalize pq y=gy at *
  generalize hs:sn r=rn at *
  generalize hd:sd r=rd at *
  generalize hcc:cd r=rc at *
  have hs:Sh _:=⟨hs⟩;have hd:Sh _:=⟨hd⟩;clear hcc;show Calls Tryz.prog 217 #[.pointer (some ⟨fb,0,none⟩),.slice (some ⟨b,o,none⟩) 1 c,.slice (some ⟨b',o',none⟩) 1 c'] w _;go_enter Tryz.func217, Tryz.ntmps217;go_wp2_with fail;have SS:Sh (∀ X,Below w.heap.size w X→X.cell? ⟨b,o,none⟩=some (J gx.1)∧X.cell? ⟨b,o+1,none⟩=some (J gx.2)∧X.cell? ⟨b',o',none⟩=some (J gy.1)∧X.cell? ⟨b',o'+1,none⟩=some (J gy.2)):=⟨fun X hX=>⟨Qae k0 hX,Qae k1 hX,Qae k2 hX,Qae k3 hX⟩⟩
  go_cut [7,8] from 29 to 38 (fun s1 s2 wx=>∃ br,s1 = .pointer (some ⟨br,0,none⟩)∧s2 = .int .i64 rc∧wx.heap[br]? = some (Jc #[J rn,J rd] 42 (0,0))∧w.heap.size≤br∧Below w.heap.size w wx)
  case first =>
   (go_region_held (fun X=>X.cell? ⟨b,o,none⟩=some (J gx.1)∧X.cell? ⟨b,o+1,none⟩=some (J gx.2)∧X.cell? ⟨b',o',none⟩=some (J gy.1)∧X.cell? ⟨b',o'+1,none⟩=some (J gy.2)) (first | exact SS.o _ (QaS (Below.refl _ _)) | exact SS.o _ (QaS ((Below.refl _ _).alloc Lr _)) | exact SS.o _ u2 | exact SS.o _ (u2.alloc u2.size _) | exact SS.o _ (u2.setCell (by first | exact Nat.le_refl _ | exact u2.size | (simp;done)) _) | exact SS.o _ ((u2.setCell (by first | exact Nat.le_refl _ | exact u2.size | (simp;done)) _).setCell (by first | exact Nat.le_refl _ | exact u2.size | (simp;done)) _) | exact SS.o _ (((u2.alloc u2.size _).setCell (by first | exact Nat.le_refl _ | exact u2.size | (simp;done)) _).setCell (by first | exact Nat.le_refl _ | exact u2.size | (simp;done)) _) | fail)
    (first
     | (go_at_call 233; have hq:=cM w.drew;(with_reducible refine hq.mono ?_);rintro e x2 ⟨rfl,g2⟩;have u2:Below w.heap.size w x2:=Qah g2;have n2:=World.alloc_heap_new x2 (Jc #[J ⟨#[]⟩,J ⟨#[]⟩] 42);have z0:=En.Qaa n2 0 (v:=J ⟨#[]⟩) rfl;have z1:=En.Qaa n2 1 (v:=J ⟨#[]⟩) rfl;have y0:=En.Qad n2 0;have y1:=En.Qad n2 1;clear hq g2)
     | (go_at_call 233; have hq:=cM (w.alloc (Jc #[J ⟨#[]⟩,J ⟨#[]⟩] 42)).drew;(with_reducible refine hq.mono ?_);rintro e x2 ⟨rfl,g2⟩;have u2:Below w.heap.size w x2:=((Below.refl _ _).alloc Lr (Jc #[J ⟨#[]⟩,J ⟨#[]⟩] 42)).trans ((Qah g2).mono (by simp));have n2:=En.Qac (World.alloc_heap_new w (Jc #[J ⟨#[]⟩,J ⟨#[]⟩] 42)) (Qah g2);have z0:=En.Qaa n2 0 (v:=J ⟨#[]⟩) rfl;have z1:=En.Qaa n2 1 (v:=J ⟨#[]⟩) rfl;have y0:=En.Qad n2 0;have y1:=En.Qad n2 1;clear hq g2)
     | fail);all_goals (try clear SS))
   all_goals
    go_wp2_with fail
    go_meet
    first
     | exact ⟨_,rfl,rfl,Qbc n2,Nat.le_refl _,(u2.setCell Lr _).setCell Lr _⟩
     | exact ⟨_,rfl,rfl,World.alloc_heap_new x2 _,u2.size,u2.alloc u2.size _⟩
  case rest =>
  obtain ⟨br,rfl,rfl,nr,hbr,ux⟩:=hcut;clear k0 k1 k2 k3 SS cM;have HF2:Sh _:=⟨(HF.o.keep ux).set (rc != 0)⟩;have nf:=En.Qac hb ux;have f1:=En.Qaa nf 1 (v:=.bool false) rfl;have ff2:=En.Qad nf 1;have hbf:br≠fb:=by omega
  have hbf2:=hbf.symm;have r0:=En.Qaa nr 0 (v:=J rn) rfl;have r1:=En.Qaa nr 1 (v:=J rd) rfl;have hg:=World.grownBy.trans (of_below ux (some fb)) (Qar (W:=wc) (fb:=fb) 1 (.bool (rc != 0)));have u9:=(Below.refl (wc.setCell ⟨fb,1,none⟩ (.bool (rc != 0))).heap.size (wc.setCell ⟨fb,1,none⟩ (.bool (rc != 0)))).alloc Lr (Jc #[J rn,J rd] 42);have n9:=World.alloc_heap_new (wc.setCell ⟨fb,1,none⟩ (.bool (rc != 0))) (Jc #[J rn,J rd] 42);have hfl:Sh ((rc != 0)=O.isNone):=⟨hcd.o.trans e1.o.1.symm⟩;clear ux HF hb x1 x0 ff nf;go_wp2_with fail;go_ret;have hz:(wc.setCell ⟨fb,1,none⟩ (.bool (rc != 0))).heap.size=wc.heap.size:=by simp [World.setCell]
  rw [hz] at n9;refine ⟨World.grownBy.trans hg (World.grownBy_alloc _ _ _),_, [r],rfl,⟨⟨wc.heap.size,0,1,rfl,Nat.le_refl _,⟨fun i hi => ?_⟩⟩,fun q hq => ?_⟩,rfl, ?_,e1.o.2 _⟩
  ·obtain rfl:i=0:=by simpa using hi
   rw [←hst.o];exact ⟨En.Qaa n9 0 rfl,En.Qaa n9 1 rfl⟩
  ·rw [List.mem_singleton.1 hq];exact hfit.o
  ·rw [Bool.false_or,←hfl.o];exact HF2.o.keep u9
end Tw
end
section
namespace Tw
open Go.Proofs.YtihlgifojjeoaaaGreatDoor.Nm Go.Proofs.YtihlgifojjeoaaaGreatDoor.Rt
theorem QtF {q:Rat} (h:FitQ q):mulQ 0 q=some 0:=by
 rw [mulQ,if_pos ⟨by rw [show (0:Rat).num=0 from rfl,Int.zero_mul];exact Qas (by decide),by rw [show ((0:Rat).den:Int)=1 from rfl,Int.one_mul];exact h.2⟩,Rat.zero_mul]
theorem QtG {q:Rat} (h:FitQ q):mulQ q 0=some 0:=by
 rw [mulQ,if_pos ⟨by rw [show (0:Rat).num=0 from rfl,Int.mul_zero];exact Qas (by decide),by rw [show ((0:Rat).den:Int)=1 from rfl,Int.mul_one];exact h.2⟩,Rat.mul_zero]
theorem QtH:addQ 0 0=some 0:=by
 rw [Qlm];decide +kernel
theorem Qpd (n:Nat):Qaj addQ (zeros n) (zeros n)=some (zeros n):=by
 induction n with
 | zero=>rfl
 | succ n ih =>
  rw [zeros,List.replicate_succ,Qaj,QtH,Option.bind_some];rw [zeros] at ih;rw [ih];rfl
theorem QgT (k:Nat):zeros (2^(k+1))=zeros (2^k)++zeros (2^k):=by
 rw [zeros,zeros,Nat.pow_succ,Nat.mul_two,←List.replicate_append_replicate]
theorem QfS {rs:List (List Rat)} {d a b c g:List Rat} (h1:a.length=b.length) (h2:c.length=g.length) :
  mulR (d :: rs) (a++b) (c++g)=((mulR rs a c).bind fun ac=>((mulR rs b g).bind fun be=>mulR rs be d).bind fun bed=>Qaj addQ ac bed).bind fun p =>
  ((mulR rs a g).bind fun ae=>(mulR rs b c).bind fun bc=>Qaj addQ ae bc).map fun q=>p++q:=by
 rw [mulR,(QaB h1).1,(QaB h1).2,(QaB h2).1,(QaB h2).2]
theorem zl (n:Nat):(zeros n).length=n:=by rw [zeros,List.length_replicate]
theorem Qir:∀ {rs:List (List Rat)} {y:List Rat},Qdz rs→(∀ d∈rs,FitL d)→y.length=2^rs.length→FitL y→mulR rs (zeros (2^rs.length)) y=some (zeros (2^rs.length))
 | [],y,_,_,hy,fy=>by
  obtain ⟨q,rfl⟩:∃ q,y = [q]:=List.length_eq_one_iff.1 hy;show Qaj mulQ [0] [q]=some [0];rw [Qaj,QtF (fy q (by simp))];rfl
 | d :: rs,y,hr,hd,hy,fy=>by
  obtain ⟨c,g,rfl,lc,lg⟩:=QcB hy;have fc:=fy.app;have ih:=fun {y:List Rat}=>Qir (rs:=rs) (y:=y) hr.2 (fun x hx=>hd x (by simp [hx]));rw [List.length_cons,QgT,QfS rfl (by rw [lc,lg]),ih lc fc.1,ih lg fc.2,Option.bind_some,Option.bind_some,ih hr.1 (hd d (by simp)),Option.bind_some,Option.bind_some,Option.bind_some,Qpd,Option.bind_some];rfl
theorem Qkp:∀ {rs:List (List Rat)} {x:List Rat},Qdz rs→(∀ d∈rs,FitL d)→x.length=2^rs.length→FitL x→mulR rs x (zeros (2^rs.length))=some (zeros (2^rs.length))
 | [],x,_,_,hx,fx=>by
  obtain ⟨q,rfl⟩:∃ q,x = [q]:=List.length_eq_one_iff.1 hx;show Qaj mulQ [q] [0]=some [0];rw [Qaj,QtG (fx q (by simp))];rfl
 | d :: rs,x,hr,hd,hx,fx=>by
  obtain ⟨a,b,rfl,la,lb⟩:=QcB hx;have fa:=fx.app;have ih:=fun {x:List Rat}=>Qkp (rs:=rs) (x:=x) hr.2 (fun x hx=>hd x (by simp [hx]));have il:=fun {y:List Rat}=>Qir (rs:=rs) (y:=y) hr.2 (fun x hx=>hd x (by simp [hx]));rw [List.length_cons,QgT,QfS (by rw [la,lb]) rfl,ih la fa.1,ih lb fa.2,Option.bind_some,Option.bind_some,il hr.1 (hd d (by simp)),Option.bind_some,Option.bind_some,Option.bind_some,Qpd,Option.bind_some];rfl
theorem Qis:∀ {rs:List (List Rat)} {x y:List Rat},Qdz rs→(∀ d∈rs,FitL d)→x.length=2^rs.length→y.length=2^rs.length→FitL x→FitL y→mulR rs x y=mulO rs x y
 | [],x,y,hr,hd,hx,hy,fx,fy=>by
  by_cases hz:(QbQ x || QbQ y)=true
  ·rw [mulO,if_pos hz,hx];rcases Bool.or_eq_true_iff.1 hz with h | h
   ·have e:=Qee h;rw [hx] at e;rw [e];exact Qir (rs := []) hr hd hy fy
   ·have e:=Qee h;rw [hy] at e;rw [e];exact Qkp (rs := []) hr hd hx fx
  ·rw [mulO,if_neg hz,mulR]
 | d :: rs,x,y,hr,hd,hx,hy,fx,fy=>by
  by_cases hz:(QbQ x || QbQ y)=true
  ·rw [mulO,if_pos hz,hx];rcases Bool.or_eq_true_iff.1 hz with h | h
   ·have e:=Qee h;rw [hx] at e;rw [e];exact Qir hr hd hy fy
   ·have e:=Qee h;rw [hy] at e;rw [e];exact Qkp hr hd hx fx
  ·obtain ⟨a,b,rfl,la,lb⟩:=QcB hx;obtain ⟨c,g,rfl,lc,lg⟩:=QcB hy;have fa:=fx.app;have fc:=fy.app;have ih:=fun {x y:List Rat}=>Qis (rs:=rs) (x:=x) (y:=y) hr.2 (fun x hx=>hd x (by simp [hx]));rw [Qlg (by rw [la,lb]) (by rw [lc,lg]) hz,QfS (by rw [la,lb]) (by rw [lc,lg]),ih la lc fa.1 fc.1,ih lb lg fa.2 fc.2,ih la lg fa.1 fc.2,ih lb lc fa.2 fc.1]
   have e:((mulO rs b g).bind fun be=>mulR rs be d)=((mulO rs b g).bind fun be=>mulO rs be d):=by
    cases ho:mulO rs b g with
    | none=>rfl
    | some be =>
     rw [Option.bind_some,Option.bind_some];exact ih (QaN hr.2 lb lg ho) hr.1 (QbL ho) (hd d (by simp))
   rw [e];rcases mulO rs a c with _ | ac
   ·rfl
   ·rcases ((mulO rs b g).bind fun be=>mulO rs be d) with _ | bed
    ·rfl
    ·simp only [Option.bind_some];rcases Qaj addQ ac bed with _ | p
     ·rfl
     ·rcases mulO rs a g with _ | ae
      ·rfl
      ·rcases mulO rs b c with _ | bc <;> rfl
noncomputable def nrmR (rs:List (List Rat)) (d x:List Rat):Option (List Rat) :=
 (mulR rs (hl x) (hl x)).bind fun aa=>((mulR rs (hr x) (hr x)).bind fun bb=>mulR rs bb d).bind fun bbd=>Qaj subQ aa bbd
theorem QtI {rs:List (List Rat)} {d a b:List Rat} (hr:Qdz rs) (hd:∀ d∈rs,FitL d) (ld:d.length=2^rs.length) (fd:FitL d) (la:a.length=2^rs.length) (lb:b.length=2^rs.length) (fa:FitL a) (fb:FitL b) :
  ((mulR rs a a).bind fun aa=>((mulR rs b b).bind fun bb=>mulR rs bb d).bind fun bbd=>Qaj subQ aa bbd)=nrmO rs d (a++b):=by
 rw [nrmO,(QaB (by rw [la,lb])).1,(QaB (by rw [la,lb])).2,Qis hr hd la la fa fa,Qis hr hd lb lb fb fb]
 have e:((mulO rs b b).bind fun be=>mulR rs be d)=((mulO rs b b).bind fun be=>mulO rs be d):=by
  cases ho:mulO rs b b with
  | none=>rfl
  | some be =>
   rw [Option.bind_some,Option.bind_some];exact Qis hr hd (QaN hr lb lb ho) ld (QbL ho) fd
 rw [e];rcases mulO rs a a with _ | ac
 ·rfl
 ·rcases mulO rs b b with _ | bed <;> rfl
theorem Qpe (o1 o2:Option (List Rat)) (g:List Rat→Option (List Rat)) (f:List Rat→List Rat→Option (List Rat)) {fl:Bool} {o:Option (List Rat)}
  (hf:fl=((((o1.isNone || o2.isNone) || (o2.bind g).isNone) || (o1.bind fun x=>(o2.bind g).bind fun y=>f x y).isNone)))
  (ho:o=(o1.bind fun x=>(o2.bind g).bind fun y=>f x y)):fl=o.isNone:=by
 subst hf ho;cases o1 with
 | none=>cases o2 <;> simp
 | some a =>
  cases o2 with
  | none=>simp
  | some b =>
   cases h3:g b with
   | none=>simp [h3]
   | some c =>
    cases h4:f a c with
    | none=>simp [h3,h4]
    | some e=>simp [h3,h4]
end Tw
end
end Go.Proofs.YtihlgifojjeoaaaGreatDoor
