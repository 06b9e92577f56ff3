import Derived.Test.YtihlgifojjeoaaaGreatDoorZ6A3
set_option maxRecDepth 1000000
set_option maxHeartbeats 40000000
open Go.Value renaming string→Z
open Go.Obj renaming cells→O
namespace Go.Proofs.YtihlgifojjeoaaaGreatDoor
section
namespace En
open Go.RowKit Go.Extern.Stop Go.Stop Go.Extern
theorem QvH (w:World) (a b c:Obj):(((w.alloc a).alloc b).alloc c).heap[w.heap.size]? = some a∧(((w.alloc a).alloc b).alloc c).heap[w.heap.size+1]? = some b∧(((w.alloc a).alloc b).alloc c).heap[w.heap.size+1+1]? = some c:=new3 w a b c
theorem QtS (w:World) (a b c:Obj):Below w.heap.size w (((w.alloc a).alloc b).alloc c):=(((Below.refl w.heap.size w).alloc Lr a).alloc (by simp) b).alloc (by simp;omega) c
def QdB (A:P2→P2→Bool) (L:Nat→P2) (n:Nat):P2:=QaG A (L 0) (fun i=>L (i+1)) (n-1)
theorem Qfq (a:Addr) (k:Nat) (hk:Enters Tryz.prog k) (x0 x1 x2 x3 y0 y1 y2 y3:ByteArray) (n m:Nat) (hn:1≤n∧n≤2) (hm:1≤m∧m≤2) (E D:Nat→P2) (hE:QmU (ivl x0 x1 x2 x3) n E) (hD:QmU (ivl y0 y1 y2 y3) m D)
  (R:Nat→Nat→P2) (C:Nat→Nat→Int) (hO:∀ i j,i<n→j<m→Ret k #[frc (E i).1 (E i).2,frc (D j).1 (D j).2] (.tuple #[frc (R i j).1 (R i j).2,.int .i64 (C i j)]))
  (P:P2→Prop) (A B:P2→P2→Bool) (hA:∀ p q,P p→P q→Ret 82 #[frc p.1 p.2,frc q.1 q.2] (.bool (A p q))) (hB:∀ p q,P p→P q→Ret 133 #[frc p.1 p.2,frc q.1 q.2] (.bool (B p q)))
  (hR:∀ i j,i<n→j<m→C i j=0→P (R i j)) (L:Nat→P2) (hLR:∀ i j,j<m→L (i*m+j)=R i j) (bad:Bool) (hbad:bad=false↔∀ i j,i<n→j<m→C i j=0) (w:World) (hv:Ref a w) :
  Calls Tryz.prog 163 #[.func (.func k) #[] #[],ivl x0 x1 x2 x3,ivl y0 y1 y2 y3] w fun e w'=>e=(if bad=false then .returned (ivl (QdB A L (n*m)).1 (QdB A L (n*m)).2 (QdB B L (n*m)).1 (QdB B L (n*m)).2) else .panicked (refP a))∧Below w.heap.size w w':=by
 have CE:Shut _:=⟨hE⟩;have CD:Shut _:=⟨hD⟩;have CO:Shut _:=⟨hO⟩;have HR:Shut _:=⟨hR⟩;have HA:Shut _:=⟨hA⟩;have HB:Shut _:=⟨hB⟩;have HV:Shut _:=⟨hv⟩;clear hE hD hO hR hA hB hv;unfold ivl frc at *
 go_enter Tryz.func163, Tryz.ntmps163;have HBAD:Shut _:=⟨hbad⟩;clear hbad;obtain ⟨n_x,n_y,n_r⟩:=QvH w (O #[Z x0,Z x1,Z x2,Z x3] 55) (O #[Z y0,Z y1,Z y2,Z y3] 55) (O #[Z ⟨#[]⟩,Z ⟨#[]⟩,Z ⟨#[]⟩,Z ⟨#[]⟩] 55);have u:=QtS w (O #[Z x0,Z x1,Z x2,Z x3] 55) (O #[Z y0,Z y1,Z y2,Z y3] 55) (O #[Z ⟨#[]⟩,Z ⟨#[]⟩,Z ⟨#[]⟩,Z ⟨#[]⟩] 55);have c0:=Qaa n_x 0 (v:=Z x0) rfl;have c1:=Qaa n_x 1 (v:=Z x1) rfl;have c2:=Qaa n_x 2 (v:=Z x2) rfl;have c3:=Qaa n_x 3 (v:=Z x3) rfl;go_wp2_with fail;clear c0 c1 c2 c3;generalize (((w.alloc (O #[Z x0,Z x1,Z x2,Z x3] 55)).alloc (O #[Z y0,Z y1,Z y2,Z y3] 55)).alloc (O #[Z ⟨#[]⟩,Z ⟨#[]⟩,Z ⟨#[]⟩,Z ⟨#[]⟩] 55))=W0 at *
 refine (CE.o W0).mono ?_;rintro e W1 ⟨bE,cE,rfl,hbE,n_E,hcE,g⟩;replace u:=u.trans (g.mono u.size);replace n_x:=Qac n_x g;replace n_y:=Qac n_y g;replace n_r:=Qac n_r g;have HCE:Shut _:=⟨hcE⟩;clear g hbE hcE;go_wp2_with fail;have NY:Shut _:=⟨n_y⟩;have NR:Shut _:=⟨n_r⟩;have NE:Shut _:=⟨n_E⟩;have U:Shut _:=⟨u⟩;clear n_x n_y n_r n_E u;have HL:Shut _:=⟨hLR⟩;clear hLR;have S0:Shut (OwnL W1 W1.heap.size (.slice none 0 0) (0*m) L∧Below W1.heap.size W1 W1):=⟨by rw [Nat.zero_mul];exact OwnL.nil _ _ _,Below.refl _ _⟩
 go_loopw [7,15] (fun v iv wr=>∃ i:Nat,i≤n∧iv = .int .i64 (i:Int)∧Shut (OwnL wr W1.heap.size v (i*m) L∧Below W1.heap.size W1 wr)∧Shut (∀ i' j,i'<i→j<m→C i' j=0)) (fun _ iv _=>n-(intOf iv).toNat)
 case atStart=>exact ⟨0,Nat.zero_le _,rfl,S0,⟨fun i' j h=>by omega⟩⟩
 case round =>
  obtain ⟨i,hi,rfl,H,HZ⟩:=hrel;clear S0;by_cases hin:i=n
  ·subst hin;obtain ⟨hO,u1⟩:=H.o;clear H
   have hP:∀ t,t<i*m→P (L t):=fun t ht=>by
    have h1:=Nat.div_add_mod t m;have h2:t / m<i:=Nat.div_lt_of_lt_mul (by rw [Nat.mul_comm];exact ht);have h3:=Nat.mod_lt t (show m > 0 by omega);have h4:=HL.o (t / m) (t % m) h3;rw [Nat.mul_comm,h1] at h4;rw [h4];exact HR.o _ _ h2 h3 (HZ.o _ _ h2 h3)
   have hbf:bad=false:=HBAD.o.2 (fun i' j' h1 h2=>HZ.o i' j' h1 h2);have hnm:i*m≤4:=Nat.mul_le_mul hn.2 hm.2;have hnm1:1≤i*m:=Nat.mul_le_mul hn.1 hm.1;generalize hnn:i*m=nn at *
   obtain ⟨t,rfl⟩:∃ t,nn=t+1:=⟨nn-1,by omega⟩;obtain ⟨g,cap,rfl,hcap,hmax,cur,n_g,hcur⟩:=hO.shape;have hcapb:cap≤9223372036854775807:=by unfold maxLen at hmax;omega
   have n_r:=Qac NR.o u1;have u:=U.o.trans (u1.mono U.o.size);have cLe:=QmT P A HA.o L (t+1) g cap (by omega) (by omega) hcap hP wr (fun W hW j hj=>⟨Qaa (Qac n_g hW) (j*2) (hcur j hj).1,Qaa (Qac n_g hW) (j*2+1) (hcur j hj).2⟩);unfold frc at cLe;have HG:Shut _:=⟨hcur⟩;obtain ⟨lo,hlo⟩:∃ p,QdB A L (t+1)=p:=⟨_,rfl⟩;rw [show QaG A (L 0) (fun i=>L (i+1)) (t+1-1)=lo from hlo] at cLe;clear hcur hO u1 hmax;go_wp2_with fail;refine cLe.mono ?_;rintro e v1 ⟨rfl,gg⟩;replace u:=u.trans (gg.mono u.size);replace n_r:=Qac n_r gg;replace n_g:=Qac n_g gg;clear gg cLe;have cGr:=Qiz P B HB.o L (t+1) g cap (by omega) (by omega) hcap hP v1 (fun W hW j hj=>⟨Qaa (Qac n_g hW) (j*2) (HG.o j hj).1,Qaa (Qac n_g hW) (j*2+1) (HG.o j hj).2⟩);unfold frc at cGr;obtain ⟨hi',hhi⟩:∃ p,QdB B L (t+1)=p:=⟨_,rfl⟩;rw [show QaG B (L 0) (fun i=>L (i+1)) (t+1-1)=hi' from hhi] at cGr;go_wp2_with fail;refine cGr.mono ?_;rintro e v2 ⟨rfl,gg⟩;replace u:=u.trans (gg.mono u.size);replace n_r:=Qac n_r gg;clear gg cGr n_g;have d0:=Qaa n_r 0 (v:=Z ⟨#[]⟩) rfl;have d1:=Qaa n_r 1 (v:=Z ⟨#[]⟩) rfl;have d2:=Qaa n_r 2 (v:=Z ⟨#[]⟩) rfl;have d3:=Qaa n_r 3 (v:=Z ⟨#[]⟩) rfl;have h0:=Qad n_r 0;have h1:=Qad n_r 1;have h2:=Qad n_r 2;have h3:=Qad n_r 3;have hb:∀ i,w.heap.size≤(⟨w.heap.size+1+1,i,none⟩:Addr).block:=fun _=>Nat.le_trans (Nat.le_succ _) (Nat.le_succ _);have s_r:=QaL (x:=Z lo.1) (y:=Z lo.2) (z:=Z hi'.1) (t:=Z hi'.2) n_r;have z0:=Qaa s_r 0 (v:=Z lo.1) rfl;have z1:=Qaa s_r 1 (v:=Z lo.2) rfl;have z2:=Qaa s_r 2 (v:=Z hi'.1) rfl;have z3:=Qaa s_r 3 (v:=Z hi'.2) rfl;dsimp only
   go_wp
   exact bodyPost_ret (v:=.agg #[Z lo.1,Z lo.2,Z hi'.1,Z hi'.2]) (by simp [results,Tryz.results163, go_sem,z0,z1,z2,z3]) rfl ⟨by rw [if_pos hbf,hnn,hlo,hhi],(((u.setCell (hb 0) _).setCell (hb 1) _).setCell (hb 2) _).setCell (hb 3) _⟩
  ·obtain ⟨hO,u1⟩:=H.o;clear H;have n_y:=Qac NY.o u1;have n_E:=Qac NE.o u1;have hi2:(i:Int)<(n:Int):=by omega
   have hi3:(0:Int)≤(i:Int):=by omega
   obtain ⟨z0,z1⟩:=HCE.o i (by omega);have cOi:=fun j hj=>CO.o i j (by omega) hj;generalize hEi:E i=ei at *
   have q0:=Qaa n_E (i*2) z0;have q1:=Qaa n_E (i*2+1) z1;have m_y:(wr.alloc (O #[Z ei.1,Z ei.2] 42)).heap[w.heap.size+1]? = _:=(Below.heap_alloc wr _ _ (Array.getElem?_eq_some_iff.1 n_y).1).trans n_y;have m_o:(wr.alloc (O #[Z ei.1,Z ei.2] 42)).heap[wr.heap.size]? = _:=World.alloc_heap_new wr _;have c0:=Qaa m_y 0 (v:=Z y0) rfl;have c1:=Qaa m_y 1 (v:=Z y1) rfl;have c2:=Qaa m_y 2 (v:=Z y2) rfl;have c3:=Qaa m_y 3 (v:=Z y3) rfl;have CI:Shut _:=⟨cOi⟩;have hb9:=hO.new wr.heap.size Lr;have ha:=((Below.refl wr.heap.size wr).alloc Lr (O #[Z ei.1,Z ei.2] 42));replace hO:=hO.below ha;replace u1:=u1.trans (ha.mono u1.size);clear cOi ha;go_wp2_with fail;refine (CD.o _).mono ?_;rintro e W3 ⟨bD,cD,rfl,hbD,n_D,hcD,g⟩;have l9:=(Lv.mk m_o hb9).below g;have lD:Lv W3 u7 bD _:=⟨n_D,hO.new bD hbD⟩;replace hO:=hO.below g;replace u1:=u1.trans (g.mono u1.size);have HCD:Shut _:=⟨hcD⟩;clear g hcD hbD n_D m_y m_o c0 c1 c2 c3 q0 q1 z0 z1 n_y n_E hb9;go_wp2_with fail;generalize hb9:wr.heap.size=b9 at *
   have S1:Shut (OwnL W3 W1.heap.size u7 (i*m+0) L∧Below W1.heap.size W1 W3∧Lv W3 u7 b9 (O #[Z ei.1,Z ei.2] 42 (0,0))∧Lv W3 u7 bD (.cells cD 42 (0,0))):=⟨by rw [Nat.add_zero];exact hO,u1,l9,lD⟩;clear hO u1 l9 lD
   go_loopw [7,22] (fun v jv w2=>∃ j:Nat,j≤m∧jv = .int .i64 (j:Int)∧Shut (OwnL w2 W1.heap.size v (i*m+j) L∧Below W1.heap.size W1 w2∧Lv w2 v b9 (O #[Z ei.1,Z ei.2] 42 (0,0))∧Lv w2 v bD (.cells cD 42 (0,0)))∧Shut (∀ j',j'<j→C i j'=0)) (fun _ jv _=>m-(intOf jv).toNat)
   case atStart=>exact ⟨0,Nat.zero_le _,rfl,S1,⟨fun j h=>by omega⟩⟩
   case round =>
    obtain ⟨j,hj,rfl,H,HZ2⟩:=hrel;clear S1;by_cases hjm:j=m
    ·subst hjm;obtain ⟨hO,u1,l9,lD⟩:=H.o;clear H l9 lD;have hw1:IntKind.i64.wrap ((i:Int)+1)=(i:Int)+1:=by simp [IntKind.wrap,IntKind.signed,IntKind.bits];omega
     go_wp2_with fail
     go_roundw
     case rel=>exact ⟨i+1,by omega,by first | rfl | go_num | simp,⟨by rw [Nat.succ_mul];exact hO,u1⟩,⟨fun i' j' h hj'=>by
      rcases Nat.lt_or_ge i' i with h1 | h1
      ·exact HZ.o i' j' h1 hj'
      ·obtain rfl:i'=i:=by omega
       exact HZ2.o j' hj'⟩⟩
     case measure=>simp [intOf];omega
    ·obtain ⟨hO,u1,l9,lD⟩:=H.o;clear H;have hj2:(j:Int)<(m:Int):=by omega
     have hj3:(0:Int)≤(j:Int):=by omega
     obtain ⟨z0,z1⟩:=HCD.o j (by omega);have cO:=CI.o j (by omega);generalize hDj:D j=dj at *
     have q0:=Qaa lD.at_ (j*2) z0;have q1:=Qaa lD.at_ (j*2+1) z1;have k0:=Qaa l9.at_ 0 (v:=Z ei.1) rfl;have k1:=Qaa l9.at_ 1 (v:=Z ei.2) rfl;have r9:(wr.alloc (O #[Z dj.1,Z dj.2] 42)).heap[b9]? = _:=(Below.heap_alloc wr _ _ (Array.getElem?_eq_some_iff.1 l9.at_).1).trans l9.at_;have t0:=Qaa r9 0 (v:=Z ei.1) rfl;have t1:=Qaa r9 1 (v:=Z ei.2) rfl;have ha:=((Below.refl wr.heap.size wr).alloc Lr (O #[Z dj.1,Z dj.2] 42));replace hO:=hO.below ha;replace l9:=l9.below ha;replace lD:=lD.below ha;replace u1:=u1.trans (ha.mono u1.size);have hen:=fun a w=>hk a w;clear ha;go_wp2_with fail;refine (cO _).mono ?_;rintro e v1 ⟨rfl,g⟩;replace hO:=hO.below g;replace l9:=l9.below g;replace lD:=lD.below g;replace u1:=u1.trans (g.mono u1.size);clear g k0 k1 r9 t0 t1 q0 q1 z0 z1 cO hen;have cM:=Qdo a (R i j).1 (R i j).2 (C i j) v1 (HV.o.keep (U.o.trans (u1.mono U.o.size)));go_wp2_with fail;refine cM.mono ?_;rintro e v2 ⟨rfl,g⟩;replace hO:=hO.below g;replace l9:=l9.below g;replace lD:=lD.below g;replace u1:=u1.trans (g.mono u1.size);clear g cM;by_cases hc:C i j=0
     ·rw [if_pos hc];dsimp only;have e_ij:=HL.o i j (by omega);have hij:i*m+j≤1000:=by have:=Nat.mul_le_mul (show i≤2 by omega) hm.2;omega
      have n_n:(v2.alloc (O #[Z (R i j).1,Z (R i j).2] 42)).heap[v2.heap.size]? = some (O #[Z (L (i*m+j)).1,Z (L (i*m+j)).2] 42 (0,0)):=by rw [e_ij];exact World.alloc_heap_new v2 _
      have ha:=((Below.refl v2.heap.size v2).alloc Lr (O #[Z (R i j).1,Z (R i j).2] 42));replace hO:=hO.below ha;replace l9:=l9.below ha;replace lD:=lD.below ha;replace u1:=u1.trans (ha.mono u1.size);have hw1:IntKind.i64.wrap ((j:Int)+1)=(j:Int)+1:=by simp [IntKind.wrap,IntKind.signed,IntKind.bits];omega
      clear ha;generalize R i j=rij at *
      go_wp2_with (at_builtin;refine Qbt rfl _ _ rfl W1.heap.size _ (i*m+j) L rfl hO v2.heap.size _ rfl n_n hij u1.size ?_;intro v' w' hO' hg hat);have u2:=QbA u1 Lr Lr hO hg;replace l9:=l9.app hg hat;replace lD:=lD.app hg hat;clear hO hg hat u1 n_n
      go_roundw
      case rel=>exact ⟨j+1,by omega,by first | rfl | go_num | simp,⟨hO',u2,l9,lD⟩,⟨fun j' h=>by
       rcases Nat.lt_or_ge j' j with h1 | h1
       ·exact HZ2.o j' h1
       ·obtain rfl:j'=j:=by omega
        exact hc⟩⟩
      case measure=>simp [intOf];omega
     ·rw [if_neg hc];dsimp +zetaDelta only [Exit.then,Exit.inBlock];exact ⟨rfl,by rw [if_neg (fun h=>hc (HBAD.o.1 h i j (by omega) (by omega)))],U.o.trans (u1.mono U.o.size)⟩
structure Hu (w W:World) (Bx By:Nat) (X Y:Array Value):Prop where
 x:W.heap[Bx]? = some (.cells X 55 (0,0))
 y:W.heap[By]? = some (.cells Y 55 (0,0))
 r:W.heap[w.heap.size]? = some (O #[Z ⟨#[]⟩,Z ⟨#[]⟩,Z ⟨#[]⟩,Z ⟨#[]⟩] 55 (0,0))
 u:Below w.heap.size w W
theorem Hu.below {w W W':World} {Bx By:Nat} {X Y:Array Value} (h:Hu w W Bx By X Y) (g:Below W.heap.size W W'):Hu w W' Bx By X Y:=⟨Qac h.x g,Qac h.y g,Qac h.r g,h.u.trans (g.mono h.u.size)⟩
theorem lold {W:World} {b:Nat} {o o':Obj} (h:W.heap[b]? = some o):(W.alloc o').heap[b]? = some o:=(Below.heap_alloc W _ _ (Array.getElem?_eq_some_iff.1 h).1).trans h
end En
end
end Go.Proofs.YtihlgifojjeoaaaGreatDoor
