/-
  Towers: nested square roots.
-/
import Derived.Test.YtihlgifojjeoaaaGreatDoorZ3H1
import Derived.Test.YtihlgifojjeoaaaGreatDoorZ3G1
import Derived.Test.YtihlgifojjeoaaaGreatDoorZ3G6
import Derived.Test.YtihlgifojjeoaaaGreatDoorZ3G7
set_option maxRecDepth 1000000
set_option maxHeartbeats 40000000
open Go.Value renaming string→J
open Go.Obj renaming cells→Jc
namespace Go.Proofs.YtihlgifojjeoaaaGreatDoor
section
namespace Tw
open SR Go.Proofs.YtihlgifojjeoaaaGreatDoor.Rt
theorem root_near {U:SR} {r X:U.T} (hr:U.sgn r=1) (hX:U.sgn X=1) (e:U.mul r r=U.mul X X):U.sgn (U.add r (U.neg X))=0:=by
 have f:U.mul (U.add r X) (U.add r (U.neg X))=U.add (U.mul r r) (U.neg (U.mul X X)):=SR.diff_sq r X
 rw [e,U.add_neg'] at f
 have g:=congrArg U.sgn f
 have h:U.sgn (U.add r X)=1:=U.sgn_pos' r X hr (by rw [hX];decide)
 rw [U.sgn_mul',h,Int.one_mul] at g
 rw [g];exact SR.sgn_zer
theorem sg2_right {S:SR} {d:S.T} {x:S.T×S.T} (h:S.sgn x.2=0):sg2 d x=S.sgn x.1:=by rw [sg2,if_pos h]
theorem sg2_left {S:SR} {d:S.T} {x:S.T×S.T} (h:S.sgn x.2≠0) (h1:S.sgn x.1=0∨S.sgn x.1=S.sgn x.2):sg2 d x=S.sgn x.2:=by rw [sg2,if_neg h,if_pos h1]
theorem nested_gen {rs:List (List Rat)} {S:SR} {R:List Rat→S.T→Prop} (h:IsT rs S R) {sum sq root d extra moved:List Rat} {x:S.T} {s r:Int} {q:Rat} (hx:R sum x) (sx:S.sgn x=1) (hsq:R sq (x*x))
  (e1:rootO (sq :: rs)=some root) (e2:pairO subQ root (sum++zeros sq.length)=some d) (s2:signO (sq :: rs) d=some s) (e3:embO (sq :: rs) [q]=some extra) (e4:pairO addQ d extra=some moved) (s4:signO (sq :: rs) moved=some r):s=0∧r=sgR q:=by
 have hd:S.sgn (x*x)=1:=by rw [SR.sgn_mul,sx];rfl
 have hT:=IsT.cons h (x*x) hsq hd
 obtain ⟨a,b,rfl,ha,hb⟩:=root_R h hsq e1
 have hz:R (zeros sq.length) S.zer:=by rw [h.len hsq];exact h.zero
 have rD:=hT.sub (x:=(S.zer,S.one)) (y:=(x,S.zer)) ⟨_,_,rfl,ha,hb⟩ ⟨_,_,rfl,hx,hz⟩ e2
 obtain ⟨i,hi⟩:=hT.iota
 obtain ⟨l,k1,r1⟩:=hi.emb q
 obtain rfl:extra=l:=by rw [e3] at k1;exact Option.some.inj k1
 have rM:=hT.add rD r1 e4
 have g2:=hT.sign rD s2
 have g4:=hT.sign rM s4
 have sr:(ext S (x*x) hd).sgn (S.zer,S.one)=1:=by
  show sg2 (x*x) (S.zer,S.one)=1
  rw [sg2,if_neg (by rw [S.sgn_one];decide),if_pos (.inl SR.sgn_zer),S.sgn_one]
 have sX:(ext S (x*x) hd).sgn (x,S.zer)=1:=by
  show sg2 (x*x) (x,S.zer)=1
  rw [sg2,if_pos SR.sgn_zer];exact sx
 have key:(ext S (x*x) hd).sgn ((ext S (x*x) hd).add (S.zer,S.one) ((ext S (x*x) hd).neg (x,S.zer)))=0:=by
  have e:(ext S (x*x) hd).mul (S.zer,S.one) (S.zer,S.one)=(ext S (x*x) hd).mul (x,S.zer) (x,S.zer):=by
   refine Prod.ext ?_ ?_
   ·show S.zer*S.zer+S.one*S.one*(x*x)=x*x+S.zer*S.zer*(x*x)
    rw [SR.zer_mul,SR.zer_add,SR.one_mul,SR.one_mul,SR.zer_mul,SR.add_zer]
   ·show S.zer*S.one+S.one*S.zer=x*S.zer+S.zer*x
    rw [SR.zer_mul,SR.mul_zer,SR.mul_zer,SR.zer_mul]
  exact root_near sr sX e
 have k2:s=0:=by rw [←g2];exact key
 refine ⟨k2, ?_⟩
 rw [←g4]
 exact (SR.sgn_add_nil (S:=ext S (x*x) hd) key).trans (hi.sgn q)
theorem nested_base {n m:Rat} (hn:0<n) (hm:0<m):∃ S R,IsT [[m,0], [n]] S R∧∃ x:S.T,R [0,1,1,0] x∧S.sgn x=1∧R [n+m,0,0,2] (x*x):=by
 have h1:=IsT.cons (d := [n]) .nil n rfl (sgR_pos hn)
 have s1:sgR 1=1:=sgR_pos (by decide)
 have s0:sgR 0=0:=sgR_zero
 have sm:(ext ratS n (sgR_pos hn)).sgn (m,(0:Rat))=1:=(sg2_right (S:=ratS) (d:=n) (x:=(m,(0:Rat))) s0).trans (sgR_pos hm)
 have h2:=IsT.cons (d := [m,0]) h1 (m,(0:Rat)) ⟨[m], [0],rfl,rfl,rfl⟩ sm
 have t1:sg2 (S:=ratS) n ((0:Rat),(1:Rat))=1:=(sg2_left (S:=ratS) (d:=n) (x:=((0:Rat),(1:Rat))) (show ¬ sgR 1=0 by rw [s1];decide) (.inl s0)).trans s1
 have t2:sg2 (S:=ratS) n ((1:Rat),(0:Rat))=1:=(sg2_right (S:=ratS) (d:=n) (x:=((1:Rat),(0:Rat))) s0).trans s1
 refine ⟨_,_,h2,(((0:Rat),(1:Rat)),((1:Rat),(0:Rat))),⟨[0,1], [1,0],rfl,⟨[0], [1],rfl,rfl,rfl⟩,⟨[1], [0],rfl,rfl,rfl⟩⟩, ?_, ?_⟩
 ·exact (sg2_left (S:=ext ratS n (sgR_pos hn)) (d:=(m,(0:Rat))) (x:=(((0:Rat),(1:Rat)),((1:Rat),(0:Rat)))) (show ¬ sg2 (S:=ratS) n ((1:Rat),(0:Rat))=0 by rw [t2];decide) (.inr (show sg2 (S:=ratS) n ((0:Rat),(1:Rat))=sg2 (S:=ratS) n ((1:Rat),(0:Rat)) by rw [t1,t2]))).trans t2
 ·refine ⟨[n+m,0], [0,2],rfl,⟨[n+m], [0],rfl, ?_, ?_⟩,⟨[0], [2],rfl, ?_, ?_⟩⟩
  ·show [n+m] = [((0:Rat)*0+1*1*n)+((1*1+0*0*n)*m+(1*0+0*1)*0*n)]
   congr 1;grind
  ·show [(0:Rat)] = [((0:Rat)*1+1*0)+((1*1+0*0*n)*0+(1*0+0*1)*m)]
   congr 1;grind
  ·show [(0:Rat)] = [((0:Rat)*1+1*0*n)+(1*0+0*1*n)]
   congr 1;grind
  ·show [(2:Rat)] = [((0:Rat)*0+1*1)+(1*1+0*0)]
   congr 1;grind
end Tw
end
section
namespace Tw
open SR Go.Proofs.YtihlgifojjeoaaaGreatDoor.Nm Go.Proofs.YtihlgifojjeoaaaGreatDoor.Rt
theorem Lat.int {B:Nat} (n:Int) (h:n.natAbs≤B):Lat 1 B (Rat.divInt n 1):=⟨by decide,n,rfl,h⟩
theorem Lat.fit {L B:Nat} {q:Rat} (h:Lat L B q) (hB:B<10^200) (hL:L<10^200):FitQ q:=h.bq.fit hB hL
theorem AllL.fit {L B:Nat} {l:List Rat} (h:AllL L B l) (hb:(decide (B<10^200) && decide (L<10^200))=true):FitL l:=fun q hq=>by
 rw [Bool.and_eq_true] at hb
 exact (h q hq).fit (of_decide_eq_true hb.1) (of_decide_eq_true hb.2)
theorem AllL.cons {L B:Nat} {q:Rat} {l:List Rat} (h:Lat L B q) (hl:AllL L B l):AllL L B (q :: l):=fun p hp=>by
 rcases List.mem_cons.1 hp with rfl | hp
 ·exact h
 ·exact hl p hp
theorem AllL.nil (L B:Nat):AllL L B []:=fun p hp=>by cases hp
theorem lat1 (q:Rat) (n:Int) (hq:q=Rat.divInt n 1) {B:Nat} (h:n.natAbs≤B):Lat 1 B q:=by rw [hq];exact .int n h
theorem divInt_one_pos {n:Int} (h:0<n):(0:Rat)<Rat.divInt n 1:=by
 have:=En.lt_of_cmpZ (n:=0) (m:=n) (d:=1) (c:=1) (by decide) (by decide) (by omega)
 rwa [Rat.zero_divInt] at this
theorem cmp_pos {q:Rat} (h:0<q):cmpQ q 0=1:=by rw [cmpQ_sgn];exact sgR_pos h
theorem chk_of {T:Type} {rs:List (List Rat)} {x:List Rat} {o:Option T} (h:x.length=2^rs.length):chk rs x o=o:=by rw [chk,if_pos h]
theorem chk2_of {T:Type} {rs:List (List Rat)} {x y:List Rat} {o:Option T} (h:x.length=2^rs.length) (h':y.length=2^rs.length):chk2 rs x y o=o:=by rw [chk2,if_pos ⟨h,h'⟩]
structure Nested (N M q:Rat) (sq root d extra moved:List Rat):Prop where
 mul:ovr [[N], [M,0]] (fun rs=>chk2 rs [0,1,1,0] [0,1,1,0] (mulO rs [0,1,1,0] [0,1,1,0]))=some sq
 ext:ovr [[N], [M,0]] (fun rs=>extO rs sq)=some [[N], [M,0],sq]
 hroot:ovr [[N], [M,0],sq] rootO=some root
 emb:ovr [[N], [M,0],sq] (fun rs=>embO rs [0,1,1,0])=some [0,1,1,0,0,0,0,0]
 sub:ovr [[N], [M,0],sq] (fun rs=>chk2 rs root [0,1,1,0,0,0,0,0] (pairO subQ root [0,1,1,0,0,0,0,0]))=some d
 sgn:ovr [[N], [M,0],sq] (fun rs=>chk rs d (signO rs d))=some 0
 fr:ovr [[N], [M,0],sq] (fun rs=>embO rs [q])=some extra
 add:ovr [[N], [M,0],sq] (fun rs=>chk2 rs d extra (pairO addQ d extra))=some moved
 sgn2:ovr [[N], [M,0],sq] (fun rs=>chk rs moved (signO rs moved))=some (cmpQ q 0)
 f0:FitT [[N], [M,0]]
 f1:FitT [[N], [M,0],sq]
 fs:FitL sq∧sq.length≤1000
 fr_:FitL root∧root.length≤1000
 fd:FitL d∧d.length≤1000
 fe:FitL extra∧extra.length≤1000
 fm:FitL moved∧moved.length≤1000
theorem nested_bounds:(mfit 1 30 2 1 1 1 1 && (sfit 1 60 2 1 60 && (sfit 1 60 3 1 2 && sfit 1 60 3 100000 200100)))=true:=by decide +kernel
theorem nested_facts (n m p:Int) (hn:1≤n∧n≤30) (hm:1≤m∧m≤30) (hp:p.natAbs≤100):∃ sq root d extra moved,Nested (Rat.divInt n 1) (Rat.divInt m 1) (Rat.divInt p 100000) sq root d extra moved:=by
 obtain ⟨N,hN⟩:∃ N,N=Rat.divInt n 1:=⟨_,rfl⟩
 obtain ⟨M,hM⟩:∃ M,M=Rat.divInt m 1:=⟨_,rfl⟩
 obtain ⟨q,hq⟩:∃ q,q=Rat.divInt p 100000:=⟨_,rfl⟩
 have N0:0<N:=by rw [hN];exact divInt_one_pos (by omega)
 have M0:0<M:=by rw [hM];exact divInt_one_pos (by omega)
 have LN:Lat 1 30 N:=lat1 N n hN (by omega)
 have LM:Lat 1 30 M:=lat1 M m hM (by omega)
 have L0:∀ B,Lat 1 B 0:=fun B => .zero B (by decide)
 have L1:Lat 1 1 1:=⟨by decide,1,by decide +kernel,by decide⟩
 have Lq:Lat 100000 100 q:=⟨by decide,p,hq,hp⟩
 rw [←hN,←hM,←hq]
 have nb:=nested_bounds
 rw [Bool.and_eq_true,Bool.and_eq_true,Bool.and_eq_true] at nb
 obtain ⟨b1,b2,b3,b4⟩:=nb
 obtain ⟨S,R,hT,x,hx,sx,hsq⟩:=nested_base N0 M0
 have hrad30:RadT 1 30 [[M,0], [N]]:=⟨rfl,.cons LM (.cons (L0 _) (.nil _ _)),rfl,.cons LN (.nil _ _),trivial⟩
 have asum:AllL 1 1 [0,1,1,0]:=.cons (L0 _) (.cons L1 (.cons L1 (.cons (L0 _) (.nil _ _))))
 have s1:signO [] [N]=some 1:=by
  show some (cmpQ N 0)=some 1
  rw [cmp_pos N0]
 have s2:signO [[N]] [M,0]=some 1:=by
  have e1:signO [] [M]=some 1:=by
   show some (cmpQ M 0)=some 1
   rw [cmp_pos M0]
  have e2:signO [] [(0:Rat)]=some 0:=by
   show some (cmpQ 0 0)=some 0
   rw [cmpQ_same]
  rw [show ([M,0]:List Rat) = [M] ++ [0] from rfl,signO_app (rs := []) (d := [N]) (a := [M]) (b := [0]) rfl,e1,e2];rfl
 have hF0:fieldO [] [[N], [M,0]]=some [[M,0], [N]]:=by
  have a1:Adj [] [N]:=⟨by decide,rfl,s1⟩
  have a2:Adj [[N]] [M,0]:=⟨by simp,rfl,s2⟩
  rw [fieldO,if_pos a1,fieldO,if_pos a2];rfl
 obtain ⟨sq,e1,l1,a1⟩:=mul_fit1 hrad30 (x := [0,1,1,0]) (y := [0,1,1,0]) rfl rfl (by decide) (by decide) asum asum b1
 have hval:sq = [N+M,0,0,2]:=hT.inj (hT.mul hx hx e1) hsq
 have L2:Lat 1 2 2:=⟨by decide,2,by decide +kernel,by decide⟩
 have asq:AllL 1 60 sq:=by
  rw [hval]
  exact .cons (LN.add LM) (.cons (L0 _) (.cons (L0 _) (.cons (L2.mono (by decide)) (.nil _ _))))
 have hrad60:RadT 1 60 [[M,0], [N]]:=⟨rfl,.cons (LM.mono (by decide)) (.cons (L0 _) (.nil _ _)),rfl,.cons (LN.mono (by decide)) (.nil _ _),trivial⟩
 obtain ⟨s,e2⟩:=sign_lat (K:=1) (by decide) hrad60 (x:=sq) l1 (by decide) asq b2
 have hsg:s=1:=by
  have:=hT.sign (hT.mul hx hx e1) e2
  rw [←this]
  show S.sgn (x*x)=1
  rw [SR.sgn_mul,sx];rfl
 rw [hsg] at e2
 have hadj:Adj [[M,0], [N]] sq:=⟨by simp,l1,e2⟩
 have hF1:fieldO [] [[N], [M,0],sq]=some [sq, [M,0], [N]]:=by
  have:=fieldO_app [] [[N], [M,0]] [sq]
  rw [show ([[N], [M,0]] ++ [sq]:List (List Rat)) = [[N], [M,0],sq] from rfl] at this
  rw [this,hF0,Option.bind_some,fieldO,if_pos hadj];rfl
 have hrad:RadT 1 60 [sq, [M,0], [N]]:=⟨l1,asq,hrad60⟩
 have lsq:sq.length=4:=l1
 have hroot:rootO [sq, [M,0], [N]]=some (zeros sq.length ++ [1,0,0,0]):=rfl
 obtain ⟨root,hr⟩:∃ root,root=zeros sq.length ++ [1,0,0,0]:=⟨_,rfl⟩
 rw [←hr] at hroot
 have lroot:root.length=8:=by rw [hr,List.length_append,zeros,List.length_replicate,lsq];rfl
 have aroot:AllL 1 1 root:=by
  rw [hr]
  exact (AllL.zeros _ _ (by decide)).app (.cons L1 (.cons (L0 _) (.cons (L0 _) (.cons (L0 _) (.nil _ _)))))
 have hemb:embO [sq, [M,0], [N]] [0,1,1,0]=some ([0,1,1,0]++zeros sq.length):=embO_up rfl
 have hz:([0,1,1,0]++zeros sq.length:List Rat) = [0,1,1,0,0,0,0,0]:=by rw [lsq];rfl
 have aemb:AllL 1 1 [0,1,1,0,0,0,0,0]:=by
  rw [←hz];exact asum.app (.zeros _ _ (by decide))
 obtain ⟨d,e3,l3,a3⟩:=sub_fit (n:=8) lroot (y := [0,1,1,0,0,0,0,0]) rfl aroot aemb (by decide +kernel)
 obtain ⟨s',e4⟩:=sign_lat (K:=1) (by decide) hrad (x:=d) l3 (by decide) a3 b3
 have hfr:embO [sq, [M,0], [N]] [q]=some (q :: zeros 7):=by
  have h1:embO [[M,0], [N]] [q]=some [q,0,0,0]:=rfl
  rw [embO_low (by simp) h1,lsq];rfl
 have aex:AllL 100000 100 (q :: zeros 7):=.cons Lq (.zeros _ _ (by decide))
 have a3':AllL 100000 200000 d:=a3.lift (M:=100000) (by decide)
 obtain ⟨moved,e5,l5,a5⟩:=add_fit (n:=8) l3 (y:=q :: zeros 7) rfl a3' aex (by decide +kernel)
 obtain ⟨r,e6⟩:=sign_lat (K:=1) (by decide) hrad (x:=moved) l5 (by decide) a5 b4
 have hg:=nested_gen hT hx sx (hT.mul hx hx e1) hroot (by rw [hz];exact e3) e4 hfr e5 e6
 refine ⟨sq,root,d,q :: zeros 7,moved,⟨?_, ?_, ?_, ?_, ?_, ?_, ?_, ?_, ?_, ?_, ?_, ?_, ?_, ?_, ?_, ?_⟩⟩
 ·rw [ovr_some hF0,chk2_of rfl rfl,e1]
 ·rw [ovr_some hF0,extO,if_pos hadj];rfl
 ·rw [ovr_some hF1,hroot]
 ·rw [ovr_some hF1,hemb,hz]
 ·rw [ovr_some hF1,chk2_of lroot rfl,e3]
 ·rw [ovr_some hF1,chk_of l3,e4,hg.1]
 ·rw [ovr_some hF1,hfr]
 ·rw [ovr_some hF1,chk2_of l3 rfl,e5]
 ·rw [ovr_some hF1,chk_of l5,e6,hg.2,cmpQ_sgn];rfl
 ·intro y hy
  rcases List.mem_cons.1 hy with rfl | hy
  ·exact ⟨AllL.fit (.cons LN (.nil _ _)) (by decide +kernel),by simp⟩
  ·rw [List.mem_singleton.1 hy]
   exact ⟨AllL.fit (.cons LM (.cons (L0 _) (.nil _ _))) (by decide +kernel),by simp⟩
 ·intro y hy
  rcases List.mem_cons.1 hy with rfl | hy
  ·exact ⟨AllL.fit (.cons LN (.nil _ _)) (by decide +kernel),by simp⟩
  ·rcases List.mem_cons.1 hy with rfl | hy
   ·exact ⟨AllL.fit (.cons LM (.cons (L0 _) (.nil _ _))) (by decide +kernel),by simp⟩
   ·rw [List.mem_singleton.1 hy]
    exact ⟨asq.fit (by decide +kernel),by omega⟩
 ·exact ⟨asq.fit (by decide +kernel),by omega⟩
 ·exact ⟨aroot.fit (by decide +kernel),by omega⟩
 ·exact ⟨a3.fit (by decide +kernel),by omega⟩
 ·exact ⟨aex.fit (by decide +kernel),by simp [zeros]⟩
 ·exact ⟨a5.fit (by decide +kernel),by omega⟩
end Tw
end
section
namespace Tw
open Go.RowKit Go.Extern.Stop Go.Stop Go.Extern
open En Go.Proofs.YtihlgifojjeoaaaGreatDoor.Nm Go.Proofs.YtihlgifojjeoaaaGreatDoor.Rt
theorem pick_any (c n:Int) (h1 : -9223372036854775808≤c) (h2:c≤9223372036854775807) (n1:1≤n) (n2:n≤9223372036854775807):∃ k:Nat,(k:Int)<n∧∀ w:World,Say 22 #[.int .i64 c,.int .i64 n] (.int .i64 (k:Int)) w:=by
 have hw:∀ x:Int, -9223372036854775808≤x→x≤9223372036854775807→IntKind.i64.wrap x=x:=fun x a b=>by simp [IntKind.wrap,IntKind.signed,IntKind.bits];omega
 have hn0:¬ n=0:=by omega
 obtain ⟨m,rfl⟩:=Int.eq_ofNat_of_zero_le (show 0≤n by omega)
 by_cases hc:c<0
 ·have e1:=hw (c+1) (by omega) (by omega)
  have e2:=hw (-(c+1)) (by omega) (by omega)
  obtain ⟨k,hk⟩:∃ k:Nat, -(c+1)=(k:Int):=⟨(-(c+1)).toNat,by omega⟩
  have hm:k % m<m:=Nat.mod_lt _ (by omega)
  refine ⟨k % m,by omega,fun w => ?_⟩
  show Calls _ _ _ _ _
  have hd:decide (c<0)=true:=decide_eq_true hc
  go_enter Tryz.func22, Tryz.ntmps22
  go_wp2
  go_ret
  exact ⟨by first | rfl | simp,Below.refl _ _⟩
 ·obtain ⟨k,rfl⟩:=Int.eq_ofNat_of_zero_le (show 0≤c by omega)
  have hm:k % m<m:=Nat.mod_lt _ (by omega)
  refine ⟨k % m,by omega,fun w => ?_⟩
  show Calls _ _ _ _ _
  have hd:decide ((k:Int)<0)=false:=decide_eq_false hc
  go_enter Tryz.func22, Tryz.ntmps22
  go_wp2
  go_ret
  exact ⟨by first | rfl | simp,Below.refl _ _⟩
theorem of_l (n d:Int) (hn:n.natAbs≤1000000000000000) (hd:d.natAbs≤1000000000000000) (d0:d≠0):∃ s t,pq (Rat.divInt n d)=(s,t)∧∀ W,Say 19 #[.int .i64 n,.int .i64 d] (frc s t) W :=
 ⟨(pq (Rat.divInt n d)).1,(pq (Rat.divInt n d)).2,(Prod.eta _).symm,fun W=>of_q n d hn hd d0 W⟩
theorem cmp_say {p q:Rat} (hp:FitQ p) (hq:FitQ q) {s t s' t':ByteArray} (e:pq p=(s,t)) (e':pq q=(s',t')) (W:World):Say 27 #[frc s t,frc s' t'] (.int .i64 (cmpQ p q)) W:=by
 obtain rfl:s=(pq p).1:=by rw [e]
 obtain rfl:t=(pq p).2:=by rw [e]
 obtain rfl:s'=(pq q).1:=by rw [e']
 obtain rfl:t'=(pq q).2:=by rw [e']
 exact Compare_q hp hq W
end Tw
end
end Go.Proofs.YtihlgifojjeoaaaGreatDoor
