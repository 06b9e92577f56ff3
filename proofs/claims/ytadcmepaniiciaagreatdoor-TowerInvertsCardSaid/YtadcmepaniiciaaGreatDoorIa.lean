import Derived.Test.YtadcmepaniiciaaGreatDoorZq
import Derived.Deep.RegionHeld
set_option maxRecDepth 1000000
set_option maxHeartbeats 40000000
open Go.Value renaming string→J
open Go.Obj renaming cells→Jc
namespace Go.Proofs.YtadcmepaniiciaaGreatDoor
section
namespace Tw
open Go.Proofs.YtadcmepaniiciaaGreatDoor.Rt Go.Proofs.YtadcmepaniiciaaGreatDoor.En
theorem Qpk {K D:Nat} (hK:0<K) {rs:List (List Rat)} {d:List Rat} (h:RadT K D (d :: rs)) {L B:Nat} {x:List Rat} (hx:x.length=2^(rs.length+1)) (hL:0<L) (ax:AllL L B x)
  (h1:2*(gr K D (rs.length+1)*(B*B))*(L*L*K^ee (rs.length+1))<10^200) (h2:(L*L*K^ee (rs.length+1))*(L*L*K^ee (rs.length+1))<10^200) :
  ∃ z,nrmO rs d x=some z∧z.length=2^rs.length∧AllL (L*L*K^ee (rs.length+1)) (gr K D (rs.length+1)*(B*B)) z:=by
 obtain ⟨hd,ad,hrs⟩:=h;obtain ⟨xa,xb⟩:=Qdv hx;have ih:=fun {L M B C:Nat} {x y:List Rat}=>Qkd hK hrs (L:=L) (M:=M) (B:=B) (C:=C) (x:=x) (y:=y);rw [nrmO];simp only [ee,gr] at *
 generalize hk:rs.length=k at *
 generalize hE:K^ee k=E at *
 have e0:0<E:=by rw [←hE];exact Nat.pow_pos hK
 have eP:K^(ee k+(1+ee k))=E*(K*E):=by rw [Nat.pow_add,Nat.pow_add,Nat.pow_one,hE]
 rw [eP] at h1 h2 ⊢;generalize hG:gr K D k=G at *
 have hLM:=Nat.mul_pos hL hL;have hP:L*L*E*(K*E)=L*L*(E*(K*E)):=Nat.mul_assoc _ _ _;have p1:L*L*E≤L*L*(E*(K*E)):=by rw [←hP];exact Nat.le_mul_of_pos_right _ (Nat.mul_pos hK e0)
 have s1:G*(B*B)≤(2*(G*(K*E))+G*G*D)*(B*B):=by
  refine Nat.mul_le_mul_right _ ?_;have:G≤G*(K*E):=Nat.le_mul_of_pos_right _ (Nat.mul_pos hK e0);omega
 have s2:G*(G*(B*B)*D)=G*G*D*(B*B):=by
  simp only [Nat.mul_comm,Nat.mul_left_comm]
 have s3:G*(G*(B*B)*D)≤(2*(G*(K*E))+G*G*D)*(B*B):=by rw [s2];exact Nat.mul_le_mul_right _ (by omega)
 have t1:2*(G*(B*B))*(L*L*E)<10^200:=Nat.lt_of_le_of_lt (Nat.mul_le_mul (Nat.mul_le_mul_left _ s1) p1) h1;have t2:(L*L*E)*(L*L*E)<10^200:=Nat.lt_of_le_of_lt (Nat.mul_le_mul p1 p1) h2;obtain ⟨aa,e1,l1,a1⟩:=ih xa xa hL hL ax.hl ax.hl t1 t2;obtain ⟨bb,e2,l2,a2⟩:=ih xb xb hL hL ax.hr ax.hr t1 t2;have hP3:L*L*E*K*E=L*L*(E*(K*E)):=by simp only [Nat.mul_comm,Nat.mul_left_comm]
 obtain ⟨bbd,e3,l3,a3⟩:=ih l2 hd (Nat.mul_pos hLM e0) hK a2 ad
  (by rw [hP3];exact Nat.lt_of_le_of_lt (Nat.mul_le_mul_right _ (Nat.mul_le_mul_left _ s3)) h1) (by rw [hP3];exact h2)
 rw [hP3] at a3
 have a1':AllL (L*L*(E*(K*E))) (G*(B*B)*(K*E)) aa:=by
  have:=a1.lift (M:=K*E) (Nat.mul_pos hK e0)
  rwa [hP] at this
 have v1:G*(B*B)*(K*E)+G*(G*(B*B)*D)≤(2*(G*(K*E))+G*G*D)*(B*B):=by
  rw [s2,Nat.add_mul,show G*(B*B)*(K*E)=G*(K*E)*(B*B) by simp only [Nat.mul_comm,Nat.mul_left_comm],Nat.mul_assoc 2];omega
 obtain ⟨p,e4,l4,a4⟩:=Qig (by rw [l1,l3]) a1' a3 (Nat.lt_of_le_of_lt (Nat.mul_le_mul_right _ (Nat.le_trans v1 (by omega))) h1) h2;refine ⟨p, ?_,by rw [l4,l1],a4.mono v1⟩;rw [e1,Option.bind_some,e2,Option.bind_some,e3,Option.bind_some,e4]
theorem Qcq {K D:Nat} (hK:0<K):∀ {rs:List (List Rat)},RadT K D rs→∀ {L B:Nat} {x:List Rat},x.length=2^rs.length→0<L→AllL L B x→sfit K D rs.length L B=true→∃ s,Qaw rs x=some s
 | [],_,L,B,x,hx,hL,ax,hs=>⟨_,rfl⟩
 | d :: rs,h,L,B,x,hx,hL,ax,hs=>by
  rw [List.length_cons,sfit,Bool.and_eq_true,Bool.and_eq_true,Bool.and_eq_true] at hs;obtain ⟨h1,h2,h3,h4⟩:=hs;obtain ⟨xa,xb⟩:=Qdv hx;obtain ⟨s,e1⟩:=Qcq hK h.2.2 xa hL ax.hl h4;obtain ⟨t,e2⟩:=Qcq hK h.2.2 xb hL ax.hr h4;obtain ⟨n,e3,l3,a3⟩:=Qpk hK h hx hL ax (of_decide_eq_true h1) (of_decide_eq_true h2);obtain ⟨u,e4⟩:=Qcq hK h.2.2 l3 (Nat.mul_pos (Nat.mul_pos hL hL) (Nat.pow_pos hK)) a3 h3;rw [Qaw,e1,Option.bind_some,e2,Option.bind_some];split
  ·exact ⟨_,rfl⟩
  ·split
   ·exact ⟨_,rfl⟩
   ·rw [e3,Option.bind_some,e4];exact ⟨_,rfl⟩
end Tw
end
section
namespace Rt
theorem QsH {p q r:Rat} (h:divQ p q=some r):r=p / q∧q≠0:=by
 rw [divQ] at h;split at h
 ·rename_i hc;injection h with h;exact ⟨h.symm,hc.2.2⟩
 ·cases h
end Rt
end
section
namespace Tw
open Go.Proofs.YtadcmepaniiciaaGreatDoor.Rt SR
theorem Qpm {S:SR} {x y:S.T} (h:S.sgn (x+y)=0):S.sgn x = - S.sgn y:=by
 have:x=(x+y) + -y:=by rw [add_assoc,Qby,Qbh]
 rw [this,QbW h,QaE]
theorem Qlz {S:SR} {x y:S.T} (h:S.sgn (x + -y)=0):S.sgn x=S.sgn y:=by
 have:=Qpm h;rw [QaE] at this;omega
theorem IsT.inv {rs:List (List Rat)} {S:SR} {R:List Rat→S.T→Prop} (h:IsT rs S R):∀ {l u x},R l x→S.sgn x≠0→invO rs l=some u→∃ y,R u y∧S.sgn (S.add (S.mul x y) (S.neg S.one))=0:=by
 induction h with
 | nil =>
  rintro l u x rfl h0 e;obtain ⟨r,hr,e⟩:=Option.bind_eq_some_iff.1 e;cases e;obtain ⟨rfl,hx⟩:=QsH hr
  have key:∀ q:Rat,q≠0→ratS.sgn ((q*(1 / q) + -1:Rat))=0:=fun q hq=>by
   have:q*(1 / q)=1:=by rw [Rat.div_def,Rat.one_mul,Rat.mul_inv_cancel q hq]
   rw [this,Rat.add_neg_cancel];exact QcZ
  exact ⟨_,rfl,key x hx⟩
 | @cons rs S R d h δ hR hd ih =>
  rintro l u x ⟨a,b,rfl,ha,hb⟩ hne k;obtain ⟨x1,x2⟩:=x;replace ha:R a x1:=ha;replace hb:R b x2:=hb;replace hne:sg2 δ (x1,x2)≠0:=hne;rw [invO,(QaB (by rw [h.len ha,h.len hb])).1,(QaB (by rw [h.len ha,h.len hb])).2] at k;obtain ⟨n,h1,k⟩:=Option.bind_eq_some_iff.1 k;obtain ⟨s,h2,k⟩:=Option.bind_eq_some_iff.1 k;have hn:=h.norm hR ha hb h1;have hs:=h.sign hn h2;split at k
  ·rename_i hs0;rw [hs0] at hs;obtain ⟨aa,h3,k⟩:=Option.bind_eq_some_iff.1 k;obtain ⟨v,h4,rfl⟩:=Option.map_eq_some_iff.1 k;rcases QsZ hd hs with ⟨e1,e2⟩ | ⟨_,_,e2⟩
   ·have h10:S.sgn x1≠0:=by rw [←e2];exact hne
    obtain ⟨y,hy,hy1⟩:=ih (h.add ha ha h3) (by show S.sgn (x1+x1)≠0;rw [QbS rfl];exact h10) h4;replace hy1:S.sgn ((x1+x1)*y + -S.one)=0:=hy1;refine ⟨(y,S.zer),⟨_,_,rfl,hy,by rw [h.len hR];exact h.zero⟩, ?_⟩;show sg2 δ ((x1*y+x2*S.zer * δ) + -S.one,(x1*S.zer+x2*y) + -S.zer)=0;rw [Qdt,QcR,Qbh,Qdt,Qcy,Qkb,Qbh]
    have f1:S.sgn (x1*y)=1:=by
     have:=Qlz hy1;rw [add_mul,QbS rfl] at this;rw [this];exact S.sgn_one
    have f2:S.sgn (x1*y + -S.one) = -1:=by
     rw [Qpm (y:=x1*y),f1];rw [add_mul] at hy1;rw [add_assoc,add_comm (-S.one),←add_assoc];exact hy1
    have f3:S.sgn (x2*y)=1:=by rw [SR.Qak,←e1,←SR.Qak,f1]
    have f4:S.sgn (nrm δ (x1*y + -S.one) (x2*y))=0:=by
     have:nrm δ (x1*y + -S.one) (x2*y)=y*y*nrm δ x1 x2 + -((x1+x1)*y + -S.one):=by
      simp only [nrm,mul_add,mul_neg,Qbz,neg_neg,mul_one,mul_comm,mul_left_comm,add_comm,Qaz,add_assoc]
     rw [this];exact Qcz (by rw [SR.Qak,hs,Int.mul_zero]) (by rw [QaE,hy1];rfl)
    rw [Qec hd,f4,f2,f3];rfl
   ·exact absurd e2 hne
  ·rename_i hs0;obtain ⟨m,h3,k⟩:=Option.bind_eq_some_iff.1 k;obtain ⟨p,h4,k⟩:=Option.bind_eq_some_iff.1 k;obtain ⟨nb,h5,k⟩:=Option.bind_eq_some_iff.1 k;obtain ⟨q,h6,rfl⟩:=Option.map_eq_some_iff.1 k;obtain ⟨μ,hμ,hμ1⟩:=ih hn (by rw [hs];exact hs0) h3;have r1:=h.mul ha hμ h4;have r2:=h.sub (by rw [h.len hb];exact h.zero) hb h5;have r3:=h.mul r2 hμ h6;refine ⟨(x1 * μ,(S.zer + -x2) * μ),⟨_,_,rfl,r1,r3⟩, ?_⟩;show sg2 δ ((x1*(x1 * μ)+x2*((S.zer + -x2) * μ) * δ) + -S.one,(x1*((S.zer + -x2) * μ)+x2*(x1 * μ)) + -S.zer)=0;rw [Qcy,Qkb,Qbh,neg_mul,mul_neg x2,mul_neg x1,mul_left_comm x2 x1,Qct];rw [sg2,if_pos QdN]
   have:x1*(x1 * μ) + -(x2*(x2 * μ)) * δ + -S.one=nrm δ x1 x2 * μ + -S.one:=by
    simp only [nrm,mul_add,mul_neg,mul_comm,mul_left_comm,add_comm,Qaz]
   show S.sgn (x1*(x1 * μ) + -(x2*(x2 * μ)) * δ + -S.one)=0;rw [this];exact hμ1
end Tw
end
section
namespace Tw
open SR Go.Proofs.YtadcmepaniiciaaGreatDoor.Rt
theorem Qtn {K D:Nat} (hK:0<K) {rs:List (List Rat)} (h:RadT K D rs) {L M B C:Nat} {x y:List Rat} (hx:x.length=2^rs.length) (hy:y.length=2^rs.length) (hL:0<L) (hM:0<M) (ax:AllL L B x) (ay:AllL M C y) (hf:mfit K D rs.length L M B C=true) :
  ∃ z,mulO rs x y=some z∧z.length=2^rs.length∧AllL (L*M*K^ee rs.length) (gr K D rs.length*(B*C)) z:=by
 rw [mfit,Bool.and_eq_true] at hf;exact Qkd hK h hx hy hL hM ax ay (of_decide_eq_true hf.1) (of_decide_eq_true hf.2)
theorem Qcp {D:Nat} {rs:List (List Rat)} (h:RadT 1 D rs) {L M B C:Nat} {x y:List Rat} (hx:x.length=2^rs.length) (hy:y.length=2^rs.length) (hL:0<L) (hM:0<M) (ax:AllL L B x) (ay:AllL M C y) (hf:mfit 1 D rs.length L M B C=true) :
  ∃ z,mulO rs x y=some z∧z.length=2^rs.length∧AllL (L*M) (gr 1 D rs.length*(B*C)) z:=by
 have:=Qtn (by decide) h hx hy hL hM ax ay hf
 rwa [Nat.one_pow,Nat.mul_one] at this
structure Qa0 (rs:List (List Rat)) (S:SR) (R:List Rat→S.T→Prop) (i:Rat→S.T):Prop where
 emb:∀ q,∃ l,embO rs [q]=some l∧R l (i q)
 sgn:∀ q,S.sgn (i q)=sgR q
 add:∀ p q,i (p+q)=i p+i q
 mul:∀ p q,i (p*q)=i p*i q
 one:i 1=S.one
 zer:i 0=S.zer
theorem QqX {rs:List (List Rat)} {d x l:List Rat} (h:x.length≠2^(rs.length+1)) (e:embO rs x=some l):embO (d :: rs) x=some (l++zeros d.length):=by
 rw [embO,if_neg h,e];rfl
theorem IsT.iota {rs:List (List Rat)} {S:SR} {R:List Rat→S.T→Prop} (h:IsT rs S R):∃ i,Qa0 rs S R i:=by
 induction h with
 | nil=>exact ⟨fun q=>q,⟨fun q=>⟨[q],rfl,rfl⟩,fun q=>rfl,fun _ _=>rfl,fun _ _=>rfl,rfl,rfl⟩⟩
 | @cons rs S R d h δ hR hd ih =>
  obtain ⟨i,hi⟩:=ih;refine ⟨fun q=>(i q,S.zer),⟨fun q => ?_,fun q => ?_,fun p q => ?_,fun p q => ?_, ?_, ?_⟩⟩
  ·obtain ⟨l,hl,hr⟩:=hi.emb q;refine ⟨l++zeros d.length,QqX ?_ hl,_,_,rfl,hr,by rw [h.len hR];exact h.zero⟩;have:=Nat.two_pow_pos rs.length;rw [Nat.pow_succ];simp;omega
  ·show sg2 δ (i q,S.zer)=_;rw [sg2,if_pos SR.QdN];exact hi.sgn q
  ·refine Prod.ext (hi.add p q) ?_;exact (SR.Qbh S.zer).symm
  ·refine Prod.ext ?_ ?_
   ·show i (p*q)=i p*i q+S.zer*S.zer * δ;rw [SR.QcR,SR.QcR,SR.Qbh,hi.mul]
   ·show S.zer=i p*S.zer+S.zer*i q;rw [SR.Qdt,SR.QcR,SR.Qbh]
  ·exact Prod.ext hi.one rfl
  ·exact Prod.ext hi.zer rfl
theorem Qpo {K D k L M M' B C C':Nat} (h:mfit K D k L M B C=true) (hM:M'≤M) (hC:C'≤C):mfit K D k L M' B C'=true:=by
 rw [mfit,Bool.and_eq_true] at h ⊢;have e:L*M'*K^ee k≤L*M*K^ee k:=Nat.mul_le_mul_right _ (Nat.mul_le_mul_left _ hM);have e2:2*(gr K D k*(B*C'))≤2*(gr K D k*(B*C)):=Nat.mul_le_mul_left _ (Nat.mul_le_mul_left _ (Nat.mul_le_mul_left _ hC));exact ⟨decide_eq_true (Nat.lt_of_le_of_lt (Nat.mul_le_mul e2 e) (of_decide_eq_true h.1)),decide_eq_true (Nat.lt_of_le_of_lt (Nat.mul_le_mul e e) (of_decide_eq_true h.2))⟩
theorem QjA {K D:Nat}:∀ {k L B L' B':Nat},sfit K D k L B=true→L'≤L→B'≤B→sfit K D k L' B'=true
 | 0,_,_,_,_,_,_,_=>rfl
 | k+1,L,B,L',B',h,hL,hB=>by
  rw [sfit,Bool.and_eq_true,Bool.and_eq_true,Bool.and_eq_true] at h ⊢;have e:L'*L'*K^ee (k+1)≤L*L*K^ee (k+1):=Nat.mul_le_mul_right _ (Nat.mul_le_mul hL hL);have e2:gr K D (k+1)*(B'*B')≤gr K D (k+1)*(B*B):=Nat.mul_le_mul_left _ (Nat.mul_le_mul hB hB);exact ⟨decide_eq_true (Nat.lt_of_le_of_lt (Nat.mul_le_mul (Nat.mul_le_mul_left _ e2) e) (of_decide_eq_true h.1)),decide_eq_true (Nat.lt_of_le_of_lt (Nat.mul_le_mul e e) (of_decide_eq_true h.2.1)),QjA h.2.2.1 e e2,QjA h.2.2.2 hL hB⟩
def iSz (D:Nat):Nat→Nat→Nat→Nat×Nat
 | 0,L,B=>(B,L)
 | k+1,L,B =>
  let m:=iSz D k (L*L) (gr 1 D (k+1)*(B*B));let p:=iSz D k L (B+B)
  (max p.1 (L*m.1),max p.2 (gr 1 D k*(B*m.2)))
def Qa1 (D:Nat):Nat→Nat→Nat→Bool
 | 0,L,B=>decide (B<10^200) && decide (L<10^200)
 | k+1,L,B =>
  decide (2*(gr 1 D (k+1)*(B*B))*(L*L)<10^200) && (decide ((L*L)*(L*L)<10^200) && (sfit 1 D k (L*L) (gr 1 D (k+1)*(B*B)) && (decide ((B+B)*L<10^200) && (decide (L*L<10^200) && (Qa1 D k L (B+B) && (Qa1 D k (L*L) (gr 1 D (k+1)*(B*B)) && mfit 1 D k L (iSz D k (L*L) (gr 1 D (k+1)*(B*B))).1 B (iSz D k (L*L) (gr 1 D (k+1)*(B*B))).2))))))
def Qa2 (A B:Nat) (l:List Rat):Prop:=∃ L,0<L∧L≤A∧AllL L B l
theorem Lat.inv {L B:Nat} {q:Rat} (h:Lat L B q) (hq:q≠0) (hB:B<10^200) (hL:L<10^200):∃ M,0<M∧M≤B∧divQ 1 q=some (1 / q)∧Lat M L (1 / q):=by
 obtain ⟨n,e,hn⟩:=h.ex;have n0:n≠0:=fun h0=>hq (by rw [e,h0,Rat.zero_divInt]);have b:=h.bq;have f1:Fits ((1:Rat).num*(q.den:Int)):=Qas (by rw [show (1:Rat).num=1 from rfl,Int.one_mul,Int.natAbs_natCast];exact Nat.lt_of_le_of_lt b.den hL);have f2:Fits (((1:Rat).den:Int)*q.num):=Qas (by rw [show ((1:Rat).den:Int)=1 from rfl,Int.one_mul];exact Nat.lt_of_le_of_lt b.num hB);refine ⟨n.natAbs,by omega,hn,by rw [divQ,if_pos ⟨f1,f2,hq⟩],by omega, ?_⟩
 have key:1 / q=Rat.divInt (L:Int) n:=by
  rw [Rat.div_def,Rat.one_mul,e,Rat.inv_divInt]
 rcases Int.natAbs_eq n with hn' | hn'
 ·exact ⟨(L:Int),by rw [key];congr 1,by simp⟩
 ·refine ⟨-(L:Int), ?_,by simp⟩;rw [key,hn',Rat.divInt_neg',Int.natAbs_neg,Int.natAbs_natCast]
theorem Qa3 {D L B:Nat} {x:Rat} (hx:sgR x≠0) (al:AllL L B [x]) (hf:Qa1 D 0 L B=true):∃ z,invO [] [x]=some z∧z.length=1∧Qa2 B L z:=by
 rw [Qa1,Bool.and_eq_true] at hf;have x0:x≠0:=fun e=>hx (by rw [e];exact QcZ);obtain ⟨M,h1,h2,h3,h4⟩:=(al x (List.mem_singleton.2 rfl)).inv x0 (of_decide_eq_true hf.1) (of_decide_eq_true hf.2);refine ⟨[1 / x],by rw [invO,Qaj,h3];rfl,rfl,M,h1,h2,fun q hq => ?_⟩;rw [List.mem_singleton.1 hq];exact h4
theorem QvX {D:Nat} {rs:List (List Rat)} {S:SR} {R:List Rat→S.T→Prop} (h:IsT rs S R):∀ (_:RadT 1 D rs) {L B:Nat} {l:List Rat} {x:S.T},R l x→S.sgn x≠0→0<L→AllL L B l→Qa1 D rs.length L B=true →
  ∃ z,invO rs l=some z∧z.length=2^rs.length∧Qa2 (iSz D rs.length L B).1 (iSz D rs.length L B).2 z:=by
 induction h with
 | nil =>
  rintro _ L B l x rfl hx hL al hf;exact Qa3 (D:=D) (x:=x) (show ¬ sgR x=0 from hx) al hf
 | @cons rs S R d h δ hR hd ih =>
  rintro hrad L B l ⟨x1,x2⟩ ⟨a,b,rfl,ha,hb⟩ hne hL al hf;replace ha:R a x1:=ha;replace hb:R b x2:=hb;replace hne:sg2 δ (x1,x2)≠0:=hne;have la:=h.len ha;have lb:=h.len hb;have hlen:(a++b).length=2^(rs.length+1):=by rw [List.length_append,la,lb,Nat.pow_succ];omega
  have aa:AllL L B a:=fun q hq=>al q (List.mem_append_left _ hq);have ab:AllL L B b:=fun q hq=>al q (List.mem_append_right _ hq);rw [List.length_cons,Qa1] at hf;simp only [Bool.and_eq_true] at hf;obtain ⟨f1,f2,f3,f4,f5,f6,f7,f8⟩:=hf;have k1:∀ m:Nat,1^m=1:=fun m=>Nat.one_pow m;obtain ⟨n,e1,l1,a1⟩:=Qpk (by decide) hrad hlen hL al (by rw [k1,Nat.mul_one];exact of_decide_eq_true f1) (by rw [k1,Nat.mul_one];exact of_decide_eq_true f2);rw [k1,Nat.mul_one] at a1;have LL:0<L*L:=Nat.mul_pos hL hL;obtain ⟨s,e2⟩:=Qcq (by decide) hrad.2.2 l1 LL a1 f3;have hn:=h.norm hR ha hb e1;have hs:=h.sign hn e2;rw [invO,e1,Option.bind_some,e2,Option.bind_some,(QaB (by rw [la,lb])).1,(QaB (by rw [la,lb])).2];by_cases hs0:s=0
  ·rw [if_pos hs0];rw [hs0] at hs;obtain ⟨u,e3,l3,a3⟩:=QfN rfl aa aa (of_decide_eq_true f4) (of_decide_eq_true f5);rcases QsZ hd hs with ⟨g1,g2⟩ | ⟨_,_,g2⟩
   ·obtain ⟨m,e4,l4,a4⟩:=ih hrad.2.2 (h.add ha ha e3) (by show S.sgn (x1+x1)≠0;rw [SR.QbS rfl,←g2];exact hne) hL a3 f6;refine ⟨m++zeros d.length,by rw [e3,Option.bind_some,e4];rfl,by rw [List.length_append,l4,zeros,List.length_replicate,hrad.1,List.length_cons,Nat.pow_succ];omega, ?_⟩;obtain ⟨M,m1,m2,m3⟩:=a4;exact ⟨M,m1,Nat.le_trans m2 (Nat.le_max_left _ _),(m3.mono (Nat.le_max_left _ _)).app (.zeros _ _ m1)⟩
   ·exact absurd g2 hne
  ·rw [if_neg hs0];obtain ⟨m,e3,l3,M,m1,m2,m3⟩:=ih hrad.2.2 hn (by rw [hs];exact hs0) LL a1 f7;have fm:=Qpo f8 m2 Lr;obtain ⟨p,e4,l4,a4⟩:=Qcp hrad.2.2 la l3 hL m1 aa m3 fm
   obtain ⟨nb,e5,l5,a5⟩:=Qig (x:=zeros b.length) (y:=b) (by rw [zeros,List.length_replicate]) (AllL.zeros 0 _ hL) ab (by
    rw [Nat.zero_add];exact Nat.lt_of_le_of_lt (Nat.mul_le_mul_right _ (by omega)) (of_decide_eq_true f4)) (of_decide_eq_true f5)
   rw [Nat.zero_add] at a5;obtain ⟨q,e6,l6,a6⟩:=Qcp hrad.2.2 (by rw [l5,zeros,List.length_replicate,lb]) l3 hL m1 a5 m3 fm;refine ⟨p++q,by rw [e3,Option.bind_some,e4,Option.bind_some,e5,Option.bind_some,e6];rfl,by rw [List.length_append,l4,l6,List.length_cons,Nat.pow_succ];omega, ?_⟩;refine ⟨L*M,Nat.mul_pos hL m1,Nat.le_trans (Nat.mul_le_mul_left _ m2) (Nat.le_max_right _ _),(a4.mono (Nat.le_max_right _ _)).app (a6.mono (Nat.le_max_right _ _))⟩
theorem QtO {rs:List (List Rat)} {S:SR} {R:List Rat→S.T→Prop} (h:IsT rs S R) {a inverse product one u:List Rat} {s v r:Int} (la:a.length=2^rs.length) (s1:Qaw rs a=some s) (s0:s≠0) (e1:invO rs a=some inverse) (e2:embO rs [1]=some one) (e3:mulO rs a inverse=some product) (e4:Qaj subQ product one=some u) (s4:Qaw rs u=some v) (s5:Qaw rs inverse=some r):v=0∧r=s:=by
 obtain ⟨x,hx⟩:=h.ex la;have g1:=h.sign hx s1;obtain ⟨y,hy,hy1⟩:=h.inv hx (by rw [g1];exact s0) e1;obtain ⟨i,hi⟩:=h.iota;obtain ⟨l,k1,r1⟩:=hi.emb 1;obtain rfl:one=l:=by rw [e2] at k1;exact Option.some.inj k1
 rw [hi.one] at r1;have g4:S.sgn (x*y + -S.one)=v:=h.sign (h.sub (h.mul hx hy e3) r1 e4) s4;have g5:=h.sign hy s5;have g6:S.sgn (x*y + -S.one)=0:=hy1;have g7:=Qlz g6;rw [S.sgn_one,SR.Qak] at g7;have:=SR.Qhs (S.sgn_way _) (S.sgn_way _) g7;exact ⟨by rw [←g4,g6],by rw [←g1,←g5];exact this.1.symm⟩
theorem QtP:∀ k,k<3→(Qa1 7 k 6 30 && (mfit 1 7 k 6 (iSz 7 k 6 30).1 30 (iSz 7 k 6 30).2 && (sfit 1 7 k (iSz 7 k 6 30).1 (iSz 7 k 6 30).2 && (sfit 1 7 k (6*(iSz 7 k 6 30).1) (gr 1 7 k*(30*(iSz 7 k 6 30).2)+6*(iSz 7 k 6 30).1) && (decide ((gr 1 7 k*(30*(iSz 7 k 6 30).2)+6*(iSz 7 k 6 30).1)*(6*(iSz 7 k 6 30).1)<10^200) && decide ((6*(iSz 7 k 6 30).1)*(6*(iSz 7 k 6 30).1)<10^200))))))=true:=by decide +kernel
end Tw
end
section
namespace Tw
open Go.RowKit Go.Extern.Stop Go.Stop Go.Extern
open En Go.Proofs.YtadcmepaniiciaaGreatDoor.Nm Go.Proofs.YtadcmepaniiciaaGreatDoor.Rt
theorem QvB {W:World} {b:Nat} {n d:ByteArray} {T:TypeId} {r:Rat} (hr:pq r=(n,d)) (h:W.heap[b]? = some (Jc #[J n,J d] T (0,0))):El W (.slice (some ⟨b,0,none⟩) 1 1) [r] :=
 ⟨b,0,1,rfl,Nat.le_refl _,⟨fun i hi=>by
  obtain rfl:i=0:=by simp at hi;exact hi
  have e:pqs [r] 0=(n,d):=hr;rw [e];exact ⟨En.Qaa h 0 rfl,En.Qaa h 1 rfl⟩⟩⟩
theorem QtN {rs:List (List Rat)} (hk:rs.length≤4) {r:Rat} (fr:FitQ r) {n d:ByteArray} (hr:pq r=(n,d)) {f:Value} (pa:Nat) (w:World) (hg:Gl w) (hf:Fd w f rs) (ha:w.heap[pa]? = some (Jc #[J n,J d] 42 (0,0))) :
  Calls Tryz.prog 51 #[f,.pointer (some ⟨pa,0,none⟩)] w (AnsC (embO rs [r]≠none) (IsE (embO rs [r])) w):=by
 have ua:=(Below.refl w.heap.size w).alloc Lr (Jc #[J n,J d] 42);have cC:=Qij (x := [r]) hk (by simp) (fun q hq=>by rw [List.mem_singleton.1 hq];exact fr) (w.alloc (Jc #[J n,J d] 42)) (hg.keep ua) (Fd.keep ua hf) (QvB hr (World.alloc_heap_new w _));have a0:=En.Qaa ha 0 (v:=J n) rfl;have a1:=En.Qaa ha 1 (v:=J d) rfl;clear hg hf hr fr;obtain ⟨O,hO⟩:∃ O,O=embO rs [r]:=⟨_,rfl⟩;rw [←hO] at cC ⊢;clear hO;go_enter Tryz.func51, Tryz.ntmps51;go_wp2_with fail;refine cC.mono ?_;intro e v1 h1;have u:=ua.trans (h1.below.mono ua.size);cases O with
 | none =>
  obtain rfl:=h1.bad rfl;exact ⟨rfl,u,fun h=>absurd rfl h,fun _=>rfl⟩
 | some s =>
  obtain ⟨v,rfl,ev⟩:=h1.good s rfl;clear h1 cC;go_wp2_with fail;go_ret;exact ⟨u,fun _=>⟨_,rfl,s,rfl,ev⟩,fun h=>absurd (fun q=>by cases q) h⟩
theorem Qkq {L:List (List Rat)} (hL:FitT L) (hn:L.length≤1000) {r:Rat} (fr:FitQ r) {n d:ByteArray} (hr:pq r=(n,d)) {t:Value} (w:World) (hg:Gl w) (ht:TwAt w t L) :
  Calls Tryz.prog 18 #[t,.agg #[J n,J d]] w (AnsA (ovr L (fun rs=>embO rs [r])≠none) (IsE (ovr L fun rs=>embO rs [r])) (.slice none 0 0) w):=by
 have hmf:=mkf;have HT:Sh _:=⟨ht⟩;obtain ⟨p,cap,rfl,h⟩:=ht.ex;clear h ht;have u:=((Below.refl w.heap.size w).alloc Lr (Jc #[.slice p L.length cap] 28)).alloc (by simp) (Jc #[J n,J d] 42);have n_t:((w.alloc (Jc #[.slice p L.length cap] 28)).alloc (Jc #[J n,J d] 42)).heap[w.heap.size]? = _:=(Below.heap_alloc (w.alloc (Jc #[.slice p L.length cap] 28)) _ w.heap.size (by simp)).trans (World.alloc_heap_new w _);have n_x:=En.QaP w (Jc #[.slice p L.length cap] 28) (Jc #[J n,J d] 42);have t0:=En.Qaa n_t 0 (v:=.slice p L.length cap) rfl;obtain ⟨O,hO⟩:∃ O,O=ovr L (fun rs=>embO rs [r]):=⟨_,rfl⟩;rw [←hO];have HO:Sh _:=⟨hO⟩;clear hO;go_enter Tryz.func18, Tryz.ntmps18;go_wp2_with fail;generalize ((w.alloc (Jc #[.slice p L.length cap] 28)).alloc (Jc #[J n,J d] 42))=W0 at *
 have cA:=Qcj 51 #[.pointer (some ⟨w.heap.size+1,0,none⟩)] (enters_of Tryz.func51 (by kernel_rfl) rfl) hL hn (O≠none) (IsE O) W0 (hg.keep u) (HT.o.keep u) (by rw [HO.o];exact Qco)
  (fun rs hrs W f hB hf=>by
   rw [HO.o,QaA hrs];exact QtN (QbB hrs) fr hr (w.heap.size+1) W ((hg.keep u).keep hB) hf (En.Qac n_x hB))
 refine cA.mono ?_;intro e v1 h1;replace u:=u.trans (h1.below.mono u.size);clear HT HO n_t n_x t0 cA;cases O with
 | none =>
  obtain rfl:=h1.bad (fun h=>h rfl);clear h1;go_wp2_with fail;exact bodyPost_ret (v:=.tuple #[.slice none 0 0,.int .i64 60]) (by simp [results,Tryz.results18, go_sem]) rfl ⟨u,fun h=>absurd rfl h,fun _=>rfl⟩
 | some s =>
  obtain ⟨v,rfl,hv⟩:=h1.good (fun q=>by cases q);clear h1;go_wp2_with fail;exact bodyPost_ret (v:=.tuple #[v,.int .i64 0]) (by simp [results,Tryz.results18, go_sem]) rfl ⟨u,fun _=>⟨v,rfl,hv⟩,fun h=>absurd (fun q=>by cases q) h⟩
theorem Qa4 {rs:List (List Rat)} (hk:rs.length≤4) {x y:List Rat} (hn:x.length≤1000) (hm:y.length≤1000) (fx:FitL x) (fy:FitL y) {f vx vy:Value} (pa pb:Addr) (w:World) (hg:Gl w) (hf:Fd w f rs) (fa:w.cell? pa=some vx) (fb:w.cell? pb=some vy) (ex:El w vx x) (ey:El w vy y) :
  Calls Tryz.prog 54 #[f,.pointer (some pa),.pointer (some pb)] w (AnsC (chk2 rs x y ((Qaj subQ x y).bind (Qaw rs))≠none) (IsI (chk2 rs x y ((Qaj subQ x y).bind (Qaw rs)))) w):=by
 obtain ⟨Q,hQ⟩:∃ Q,Q=chk2 rs x y ((Qaj subQ x y).bind (Qaw rs)):=⟨_,rfl⟩;rw [←hQ];have CX:Sh (∀ W,Below w.heap.size w W→Calls Tryz.prog 39 #[f,vx] W (AnsV (decide (x.length=2^rs.length)=true) vx W)):=⟨fun W u=>(Qbw hk hn fx W (Fd.keep u hf) (ex.keep u)).mono fun _ _ h=>⟨h.below,fun q=>h.good (of_decide_eq_true q),fun q=>h.bad (fun q'=>q (decide_eq_true q'))⟩⟩;have CY:Sh (∀ W,Below w.heap.size w W→Calls Tryz.prog 39 #[f,vy] W (AnsV (decide (y.length=2^rs.length)=true) vy W)):=⟨fun W u=>(Qbw hk hm fy W (Fd.keep u hf) (ey.keep u)).mono fun _ _ h=>⟨h.below,fun q=>h.good (of_decide_eq_true q),fun q=>h.bad (fun q'=>q (decide_eq_true q'))⟩⟩;have QX:Sh (decide (x.length=2^rs.length)=false→Q=none):=⟨fun q=>by rw [hQ,chk2,if_neg (fun h=>of_decide_eq_false q h.1)]⟩;have QY:Sh (decide (y.length=2^rs.length)=false→Q=none):=⟨fun q=>by rw [hQ,chk2,if_neg (fun h=>of_decide_eq_false q h.2)]⟩
 have CP:Sh (decide (x.length=2^rs.length)=true→decide (y.length=2^rs.length)=true→Q=(Qaj subQ x y).bind (Qaw rs)∧(∀ W,Below w.heap.size w W→Calls Tryz.prog 43 #[vx,vy] W (AnsO (Qaj subQ x y) W))∧∀ z,Qaj subQ x y=some z→∀ W v,Below w.heap.size w W→El W v z→Calls Tryz.prog 47 #[f,v] W (AnsS (Qaw rs z) W)):=⟨fun qx qy=>by
  have hx:=of_decide_eq_true qx;have hy:=of_decide_eq_true qy;exact ⟨by rw [hQ,chk2,if_pos ⟨hx,hy⟩],fun W u=>Qih (hx.trans hy.symm) hn fx fy W (ex.keep u) (ey.keep u),fun z hz W v u ev=>QeU hk ((Qht (hx.trans hy.symm) hz).1.trans hx) (.pair (fun _ _ _ h=>FitQ.subQ h) hz) W (hg.keep u) (Fd.keep u hf) ev⟩⟩
 clear hg hf ex ey fx fy hn hm hk hQ;generalize Qaj subQ x y=P at *
 generalize decide (x.length=2^rs.length)=bx at *
 generalize decide (y.length=2^rs.length)=by_ at *
 go_enter Tryz.func54, Tryz.ntmps54;go_wp2_with fail
 go_region_held (fun X=>X.cell? pa=some vx∧X.cell? pb=some vy) (go_keep) (first | (go_at_call 39; (with_reducible refine (CX.o _ (QaS (Below.refl _ _))).mono ?_);intro e v1 h1;have k1:Below w.heap.size w v1:=Qah h1.below;rcases bx with _ | _;(obtain rfl:=h1.bad (fun q=>by cases q);dsimp +zetaDelta only [Exit.then,Exit.inBlock];exact ⟨rfl,k1,fun h=>absurd (QX.o rfl) h,fun _=>rfl⟩);obtain rfl:=h1.good rfl;clear h1;have fa:=Qae fa k1;have fb:=Qae fb k1) | (go_at_call 39; (with_reducible refine (CY.o _ k1).mono ?_);intro e v2 h2;have k2:Below w.heap.size w v2:=k1.trans (h2.below.mono k1.size);rcases by_ with _ | _;(obtain rfl:=h2.bad (fun q=>by cases q);dsimp +zetaDelta only [Exit.then,Exit.inBlock];exact ⟨rfl,k2,fun h=>absurd (QY.o rfl) h,fun _=>rfl⟩);obtain rfl:=h2.good rfl;have fa:=Qae fa h2.below;have fb:=Qae fb h2.below;clear h2 k1) | (go_at_call 43; have hq:=CP.o (by trivial) (by trivial);have cp:=hq.2.1 _ k2;(with_reducible refine cp.mono ?_);clear cp;intro e v3 h3;have k3:Below w.heap.size w v3:=k2.trans (h3.below.mono k2.size);rcases P with _ | z;(obtain rfl:=h3.bad rfl;dsimp +zetaDelta only [Exit.then,Exit.inBlock];exact ⟨rfl,k3,fun h=>absurd (hq.1.trans rfl) h,fun _=>rfl⟩);obtain ⟨v,rfl,ev⟩:=h3.good z rfl;have fa:=Qae fa h3.below;have fb:=Qae fb h3.below;have cs:=hq.2.2 z rfl v3 v k3 ev;have hQz:Sh (Q=Qaw rs z):=⟨hq.1.trans rfl⟩;clear h3 hq k2 ev) | (go_at_call 47; (with_reducible refine cs.mono ?_);clear cs;intro e v4 h4;have k4:Below w.heap.size w v4:=k3.trans (h4.below.mono k3.size);have fa:=Qae fa h4.below;have fb:=Qae fb h4.below;rcases hS:Qaw rs z with _ | s;(obtain rfl:=h4.bad hS;dsimp +zetaDelta only [Exit.then,Exit.inBlock];exact ⟨rfl,k4,fun h=>absurd (hQz.o.trans hS) h,fun _=>rfl⟩);obtain rfl:=h4.good s hS;have hQs:Sh (Q=some s):=⟨hQz.o.trans hS⟩;clear h4 hQz hS k3))
 all_goals (go_wp2_with fail;go_ret;exact ⟨k4,fun _=>⟨_,rfl,s,hQs.o,rfl⟩,fun h=>absurd (fun q=>by rw [hQs.o] at q;cases q) h⟩)
theorem Qa5 {L:List (List Rat)} (hL:FitT L) (hn:L.length≤1000) {x y:List Rat} (hx:x.length≤1000) (hy:y.length≤1000) (fx:FitL x) (fy:FitL y) {t vx vy:Value} (w:World) (hg:Gl w) (ht:TwAt w t L) (ex:El w vx x) (ey:El w vy y) :
  Calls Tryz.prog 20 #[t,vx,vy] w (AnsA (ovr L (fun rs=>chk2 rs x y ((Qaj subQ x y).bind (Qaw rs)))≠none) (IsI (ovr L fun rs=>chk2 rs x y ((Qaj subQ x y).bind (Qaw rs)))) (.int .i64 0) w):=by
 have hmf:=mkf;have HT:Sh _:=⟨ht⟩;obtain ⟨p,cap,rfl,h⟩:=ht.ex;clear h ht;have HX:Sh _:=⟨ex⟩;obtain ⟨b,o,c,rfl,h1,h2⟩:=ex.ex;have HY:Sh _:=⟨ey⟩;obtain ⟨b2,o2,c2,rfl,h1',h2'⟩:=ey.ex;clear h1 h2 ex h1' h2' ey;have u:=(((Below.refl w.heap.size w).alloc Lr (Jc #[.slice p L.length cap] 28)).alloc (by simp) (Jc #[.slice (some ⟨b,o,none⟩) x.length c] 29)).alloc (by simp;omega) (Jc #[.slice (some ⟨b2,o2,none⟩) y.length c2] 29);obtain ⟨n_t,n_x,n_y⟩:=En.new3 w (Jc #[.slice p L.length cap] 28) (Jc #[.slice (some ⟨b,o,none⟩) x.length c] 29) (Jc #[.slice (some ⟨b2,o2,none⟩) y.length c2] 29);have t0:=En.Qaa n_t 0 (v:=.slice p L.length cap) rfl;obtain ⟨O,hO⟩:∃ O,O=ovr L (fun rs=>chk2 rs x y ((Qaj subQ x y).bind (Qaw rs))):=⟨_,rfl⟩;rw [←hO];have HO:Sh _:=⟨hO⟩;clear hO;go_enter Tryz.func20, Tryz.ntmps20;go_wp2_with fail;generalize (((w.alloc (Jc #[.slice p L.length cap] 28)).alloc (Jc #[.slice (some ⟨b,o,none⟩) x.length c] 29)).alloc (Jc #[.slice (some ⟨b2,o2,none⟩) y.length c2] 29))=W0 at *
 have cA:=Qki 54 #[.pointer (some ⟨w.heap.size+1,0,none⟩),.pointer (some ⟨w.heap.size+1+1,0,none⟩)] (enters_of Tryz.func54 (by kernel_rfl) rfl) hL hn (O≠none) (IsI O) W0 (hg.keep u) (HT.o.keep u) (by rw [HO.o];exact Qco)
  (fun rs hrs W f hB hf=>by
   rw [HO.o,QaA hrs];exact Qa4 (QbB hrs) hx hy fx fy ⟨w.heap.size+1,0,none⟩ ⟨w.heap.size+1+1,0,none⟩ W ((hg.keep u).keep hB) hf (En.Qaa (En.Qac n_x hB) 0 rfl) (En.Qaa (En.Qac n_y hB) 0 rfl) ((HX.o.keep u).keep hB) ((HY.o.keep u).keep hB))
 refine cA.mono ?_;intro e v1 h1;replace u:=u.trans (h1.below.mono u.size);clear HX HY HT HO n_t n_x n_y t0 cA;cases O with
 | none =>
  obtain rfl:=h1.bad (fun h=>h rfl);clear h1;go_wp2_with fail;exact bodyPost_ret (v:=.tuple #[.int .i64 0,.int .i64 60]) (by simp [results,Tryz.results20, go_sem]) rfl ⟨u,fun h=>absurd rfl h,fun _=>rfl⟩
 | some s =>
  obtain ⟨v,rfl,hv⟩:=h1.good (fun q=>by cases q);clear h1;go_wp2_with fail;exact bodyPost_ret (v:=.tuple #[v,.int .i64 0]) (by simp [results,Tryz.results20, go_sem]) rfl ⟨u,fun _=>⟨v,rfl,hv⟩,fun h=>absurd (fun q=>by cases q) h⟩
theorem Qa6 {rs:List (List Rat)} (hk:rs.length≤4) {f:Value} (w:World) (hf:Fd w f rs):Calls Tryz.prog 39 #[f,.slice none 0 0] w fun e w'=>e = .panicked twP∧Below w.heap.size w w':=by
 have cS:=QoK w hk hf;have hp:=Nat.two_pow_pos rs.length;generalize 2^rs.length=m at *
 have hr:=QaV w;have hb:((0:Int) != (m:Int))=true:=by simp;omega
 have hb2:(((0:Nat):Int) != (m:Int))=true:=by simp;omega
 clear hf;go_enter Tryz.func39, Tryz.ntmps39;go_wp2_with fail;refine cS.mono ?_;rintro e w1 ⟨rfl,hw⟩;rw [hw];clear hw cS;go_wp2_with fail;refine hr.mono ?_;rintro e w1 ⟨rfl,rfl⟩;exact ⟨rfl,rfl,Below.refl _ _⟩
theorem Qa7 {rs:List (List Rat)} (hk:rs.length≤4) {f:Value} {w:World} (hf:Fd w f rs):∃ b:Bool,Sh (b=false∧∀ W,Below w.heap.size w W→Calls Tryz.prog 39 #[f,.slice none 0 0] W (AnsV (b=true) (.slice none 0 0) W)) :=
 ⟨false,⟨rfl,fun W u=>(Qa6 hk W (Fd.keep u hf)).mono fun _ _ h=>⟨h.2,fun q=>(by cases q),fun _=>h.1⟩⟩⟩
theorem Qa8 (h:true=false):Sh (False∧∀ f args W,Calls Tryz.prog f args W fun e w'=>e = .returned (.slice none 0 0)∧w'=W):=by cases h
theorem Qa9 {rs:List (List Rat)} (hk:rs.length≤4) {f:Value} (pa:Addr) (w:World) (hf:Fd w f rs) (ha:w.cell? pa=some (.slice none 0 0)) :
  Calls Tryz.prog 46 #[f,.pointer (some pa)] w (AnsC False (fun _ _=>False) w):=by
 have cC:=Qa6 hk w hf;clear hf;go_enter Tryz.func46, Tryz.ntmps46;go_wp2_with fail;refine cC.mono ?_;rintro e v1 ⟨rfl,u⟩;exact ⟨rfl,u,fun h=>h.elim,fun _=>rfl⟩
theorem Qb0 {L:List (List Rat)} (hL:FitT L) (hn:L.length≤1000) {t:Value} (w:World) (hg:Gl w) (ht:TwAt w t L) :
  Say 16 #[t,.slice none 0 0] (.tuple #[.int .i64 0,.int .i64 60]) w:=by
 have hmf:=mkf;have HT:Sh _:=⟨ht⟩;obtain ⟨p,cap,rfl,h⟩:=ht.ex;clear h ht;have u:=((Below.refl w.heap.size w).alloc Lr (Jc #[.slice p L.length cap] 28)).alloc (by simp) (Jc #[.slice none 0 0] 29);have n_t:((w.alloc (Jc #[.slice p L.length cap] 28)).alloc (Jc #[.slice none 0 0] 29)).heap[w.heap.size]? = _:=(Below.heap_alloc (w.alloc (Jc #[.slice p L.length cap] 28)) _ w.heap.size (by simp)).trans (World.alloc_heap_new w _);have n_x:=En.QaP w (Jc #[.slice p L.length cap] 28) (Jc #[.slice none 0 0] 29);have t0:=En.Qaa n_t 0 (v:=.slice p L.length cap) rfl;show Calls _ _ _ _ _;go_enter Tryz.func16, Tryz.ntmps16;go_wp2_with fail;generalize ((w.alloc (Jc #[.slice p L.length cap] 28)).alloc (Jc #[.slice none 0 0] 29))=W0 at *
 have cA:=Qki 46 #[.pointer (some ⟨w.heap.size+1,0,none⟩)] (enters_of Tryz.func46 (by kernel_rfl) rfl) hL hn False (fun _ _=>False) W0 (hg.keep u) (HT.o.keep u) (fun _ h=>h)
  (fun rs hrs W f hB hf=>Qa9 (QbB hrs) ⟨w.heap.size+1,0,none⟩ W hf (En.Qaa (En.Qac n_x hB) 0 rfl))
 refine cA.mono ?_;intro e v1 h1;replace u:=u.trans (h1.below.mono u.size);clear HT n_t n_x t0 cA;obtain rfl:=h1.bad id;clear h1;go_wp2_with fail;exact bodyPost_ret (v:=.tuple #[.int .i64 0,.int .i64 60]) (by simp [results,Tryz.results16, go_sem]) rfl ⟨rfl,u⟩
theorem Qb1 {rs:List (List Rat)} (hk:rs.length≤4) {f vy:Value} (pa pb:Addr) (w:World) (hf:Fd w f rs) (fa:w.cell? pa=some (.slice none 0 0)) (fb:w.cell? pb=some vy) :
  Calls Tryz.prog 54 #[f,.pointer (some pa),.pointer (some pb)] w (AnsC False (fun _ _=>False) w):=by
 obtain ⟨by_,CN⟩:=Qa7 hk hf;clear hf hk;go_enter Tryz.func54, Tryz.ntmps54;go_wp2_with fail
 go_region_held (fun X=>X.cell? pa=some (.slice none 0 0)∧X.cell? pb=some vy) (go_keep) (first | (go_at_call 39; (with_reducible refine (CN.o.2 _ (QaS (Below.refl _ _))).mono ?_);intro e v2 h2;have k2:Below w.heap.size w v2:=Qah h2.below;rcases by_ with _ | _;(obtain rfl:=h2.bad (fun q=>by cases q);dsimp +zetaDelta only [Exit.then,Exit.inBlock];exact ⟨rfl,k2,fun h=>h.elim,fun _=>rfl⟩);have HF:=Qa8 CN.o.1;obtain rfl:=h2.good rfl;have fa:=Qae fa k2;have fb:=Qae fb k2;clear h2 CN) | ((with_reducible refine (HF.o.2 _ _ _).mono ?_);rintro e v3 ⟨rfl,rfl⟩))
 all_goals exact HF.o.1.elim
theorem Qb2 {L:List (List Rat)} (hL:FitT L) (hn:L.length≤1000) {x:List Rat} {t vx:Value} (w:World) (hg:Gl w) (ht:TwAt w t L) (ex:El w vx x) :
  Say 20 #[t,.slice none 0 0,vx] (.tuple #[.int .i64 0,.int .i64 60]) w:=by
 have hmf:=mkf;have HT:Sh _:=⟨ht⟩;obtain ⟨p,cap,rfl,h⟩:=ht.ex;clear h ht;have HX:Sh _:=⟨ex⟩;obtain ⟨b,o,c,rfl,h1,h2⟩:=ex.ex;clear h1 h2 ex;have u:=(((Below.refl w.heap.size w).alloc Lr (Jc #[.slice p L.length cap] 28)).alloc (by simp) (Jc #[.slice none 0 0] 29)).alloc (by simp;omega) (Jc #[.slice (some ⟨b,o,none⟩) x.length c] 29);obtain ⟨n_t,n_x,n_y⟩:=En.new3 w (Jc #[.slice p L.length cap] 28) (Jc #[.slice none 0 0] 29) (Jc #[.slice (some ⟨b,o,none⟩) x.length c] 29);have t0:=En.Qaa n_t 0 (v:=.slice p L.length cap) rfl;show Calls _ _ _ _ _;go_enter Tryz.func20, Tryz.ntmps20;go_wp2_with fail;generalize (((w.alloc (Jc #[.slice p L.length cap] 28)).alloc (Jc #[.slice none 0 0] 29)).alloc (Jc #[.slice (some ⟨b,o,none⟩) x.length c] 29))=W0 at *
 have cA:=Qki 54 #[.pointer (some ⟨w.heap.size+1,0,none⟩),.pointer (some ⟨w.heap.size+1+1,0,none⟩)] (enters_of Tryz.func54 (by kernel_rfl) rfl) hL hn False (fun _ _=>False) W0 (hg.keep u) (HT.o.keep u) (fun _ h=>h)
  (fun rs hrs W f hB hf=>Qb1 (QbB hrs) ⟨w.heap.size+1,0,none⟩ ⟨w.heap.size+1+1,0,none⟩ W hf (En.Qaa (En.Qac n_x hB) 0 rfl) (En.Qaa (En.Qac n_y hB) 0 rfl))
 refine cA.mono ?_;intro e v1 h1;replace u:=u.trans (h1.below.mono u.size);clear HT n_t n_x n_y t0 cA;obtain rfl:=h1.bad id;clear h1;go_wp2_with fail;exact bodyPost_ret (v:=.tuple #[.int .i64 0,.int .i64 60]) (by simp [results,Tryz.results20, go_sem]) rfl ⟨rfl,u⟩
theorem Qb3 {rs:List (List Rat)} (hk:rs.length≤4) {x:List Rat} (hn:x.length≤1000) (fx:FitL x) {f vx:Value} (pa pb:Addr) (w:World) (hf:Fd w f rs) (fa:w.cell? pa=some vx) (fb:w.cell? pb=some (.slice none 0 0)) (ex:El w vx x) :
  Calls Tryz.prog 37 #[f,.pointer (some pa),.pointer (some pb)] w (AnsC False (fun _ _=>False) w):=by
 have CX:Sh (∀ W,Below w.heap.size w W→Calls Tryz.prog 39 #[f,vx] W (AnsV (decide (x.length=2^rs.length)=true) vx W)):=⟨fun W u=>(Qbw hk hn fx W (Fd.keep u hf) (ex.keep u)).mono fun _ _ h=>⟨h.below,fun q=>h.good (of_decide_eq_true q),fun q=>h.bad (fun q'=>q (decide_eq_true q'))⟩⟩;obtain ⟨by_,CN⟩:=Qa7 hk hf;clear hf ex fx hn hk;generalize decide (x.length=2^rs.length)=bx at *
 go_enter Tryz.func37, Tryz.ntmps37;go_wp2_with fail
 go_region_held (fun X=>X.cell? pa=some vx∧X.cell? pb=some (.slice none 0 0)) (go_keep) (first | (go_at_call 39; (with_reducible refine (CX.o _ (QaS (Below.refl _ _))).mono ?_);intro e v1 h1;have k1:Below w.heap.size w v1:=Qah h1.below;rcases bx with _ | _;(obtain rfl:=h1.bad (fun q=>by cases q);dsimp +zetaDelta only [Exit.then,Exit.inBlock];exact ⟨rfl,k1,fun h=>h.elim,fun _=>rfl⟩);obtain rfl:=h1.good rfl;clear h1;have fa:=Qae fa k1;have fb:=Qae fb k1) | (go_at_call 39; (with_reducible refine (CN.o.2 _ k1).mono ?_);intro e v2 h2;have k2:Below w.heap.size w v2:=k1.trans (h2.below.mono k1.size);rcases by_ with _ | _;(obtain rfl:=h2.bad (fun q=>by cases q);dsimp +zetaDelta only [Exit.then,Exit.inBlock];exact ⟨rfl,k2,fun h=>h.elim,fun _=>rfl⟩);have HF:=Qa8 CN.o.1;obtain rfl:=h2.good rfl;have fa:=Qae fa h2.below;have fb:=Qae fb h2.below;clear h2 CN) | ((with_reducible refine (HF.o.2 _ _ _).mono ?_);rintro e v3 ⟨rfl,rfl⟩))
 all_goals exact HF.o.1.elim
theorem Qb4 {L:List (List Rat)} (hL:FitT L) (hn:L.length≤1000) {x:List Rat} (hx:x.length≤1000) (fx:FitL x) {t vx:Value} (w:World) (hg:Gl w) (ht:TwAt w t L) (ex:El w vx x) :
  Say 12 #[t,vx,.slice none 0 0] (.tuple #[.slice none 0 0,.int .i64 60]) w:=by
 have hmf:=mkf;have HT:Sh _:=⟨ht⟩;obtain ⟨p,cap,rfl,h⟩:=ht.ex;clear h ht;have HX:Sh _:=⟨ex⟩;obtain ⟨b,o,c,rfl,h1,h2⟩:=ex.ex;clear h1 h2 ex;have u:=(((Below.refl w.heap.size w).alloc Lr (Jc #[.slice p L.length cap] 28)).alloc (by simp) (Jc #[.slice (some ⟨b,o,none⟩) x.length c] 29)).alloc (by simp;omega) (Jc #[.slice none 0 0] 29);obtain ⟨n_t,n_x,n_y⟩:=En.new3 w (Jc #[.slice p L.length cap] 28) (Jc #[.slice (some ⟨b,o,none⟩) x.length c] 29) (Jc #[.slice none 0 0] 29);have t0:=En.Qaa n_t 0 (v:=.slice p L.length cap) rfl;show Calls _ _ _ _ _;go_enter Tryz.func12, Tryz.ntmps12;go_wp2_with fail;generalize (((w.alloc (Jc #[.slice p L.length cap] 28)).alloc (Jc #[.slice (some ⟨b,o,none⟩) x.length c] 29)).alloc (Jc #[.slice none 0 0] 29))=W0 at *
 have cA:=Qcj 37 #[.pointer (some ⟨w.heap.size+1,0,none⟩),.pointer (some ⟨w.heap.size+1+1,0,none⟩)] (enters_of Tryz.func37 (by kernel_rfl) rfl) hL hn False (fun _ _=>False) W0 (hg.keep u) (HT.o.keep u) (fun _ h=>h)
  (fun rs hrs W f hB hf=>Qb3 (QbB hrs) hx fx ⟨w.heap.size+1,0,none⟩ ⟨w.heap.size+1+1,0,none⟩ W hf (En.Qaa (En.Qac n_x hB) 0 rfl) (En.Qaa (En.Qac n_y hB) 0 rfl) ((HX.o.keep u).keep hB))
 refine cA.mono ?_;intro e v1 h1;replace u:=u.trans (h1.below.mono u.size);clear HT n_t n_x n_y t0 cA;obtain rfl:=h1.bad id;clear h1;go_wp2_with fail;exact bodyPost_ret (v:=.tuple #[.slice none 0 0,.int .i64 60]) (by simp [results,Tryz.results12, go_sem]) rfl ⟨rfl,u⟩
def ElO (o:Option (List Rat)) (W:World) (v:Value):Prop:=match o with
 | none=>v = .slice none 0 0
 | some l=>El W v l
def cO {T:Type}:Option T→Int
 | none=>60
 | some _=>0
def kEO (v:Value) (o:Option (List Rat)):KP:=⟨fun W=>ElO o W v,fun W W' h hB=>by
 cases o with
 | none=>exact h
 | some l =>
  have h1:El W v l:=h;exact h1.keep hB⟩
def SayO (f:Nat) (args:Array Value) (o:Option (List Rat)) (W:World):Prop:=Calls Tryz.prog f args W fun e W'=>(∃ v,e = .returned (.tuple #[v,.int .i64 (cO o)])∧ElO o W' v)∧Below W.heap.size W W'
theorem SayO.run {f:Nat} {args:Array Value} {o:Option (List Rat)} {W:World} (h:SayO f args o W):Calls Tryz.prog f args W fun e W'=>(∃ v,e = .returned (.tuple #[v,.int .i64 (cO o)])∧ElO o W' v)∧Below W.heap.size W W':=h
theorem SayO.of {f:Nat} {args:Array Value} {o o':Option (List Rat)} {W:World} (h:SayO f args o W) (e:o=o'):SayO f args o' W:=e▸h
theorem AnsA.sayO {O:Option (List Rat)} {f:Nat} {args:Array Value} {W:World} (h:Calls Tryz.prog f args W (AnsA (O≠none) (IsE O) (.slice none 0 0) W)):SayO f args O W:=h.mono fun e W' h=>by
 cases O with
 | none=>exact ⟨⟨_,h.bad (fun k=>k rfl),rfl⟩,h.below⟩
 | some l =>
  obtain ⟨v,h1,l',h2,h3⟩:=h.good (fun k=>by cases k);cases h2;exact ⟨⟨v,h1,h3⟩,h.below⟩
theorem AnsA.sayJ {O:Option Int} {f:Nat} {args:Array Value} {W:World} (h:Calls Tryz.prog f args W (AnsA (O≠none) (IsI O) (.int .i64 0) W)):Say f args (.tuple #[.int .i64 (O.getD 0),.int .i64 (cO O)]) W:=h.mono fun e W' h=>by
 cases O with
 | none=>exact ⟨h.bad (fun k=>k rfl),h.below⟩
 | some s =>
  obtain ⟨v,h1,s',h2,h3⟩:=h.good (fun k=>by cases k);cases h2;exact ⟨by rw [h1,h3];rfl,h.below⟩
noncomputable def Qb5 (L:List (List Rat)) (a:List Rat) (o:Option (List Rat)):Option (List Rat):=o.bind fun l=>ovr L (fun rs=>chk2 rs a l (mulO rs a l))
noncomputable def Qb6 (L:List (List Rat)) (o:Option (List Rat)) (b:List Rat):Option Int:=o.bind fun l=>ovr L (fun rs=>chk2 rs l b ((Qaj subQ l b).bind (Qaw rs)))
noncomputable def Qb7 (L:List (List Rat)) (o:Option (List Rat)):Option Int:=o.bind fun l=>ovr L (fun rs=>chk rs l (Qaw rs l))
theorem Qb8 {L:List (List Rat)} (hL:FitT L) (hn:L.length≤1000) {x:List Rat} {o:Option (List Rat)} (hx:x.length≤1000) (fx:FitL x) (ho:∀ l,o=some l→FitL l∧l.length≤1000) {t vx vo:Value} (w:World) (hg:Gl w) (ht:TwAt w t L) (ex:El w vx x) (eo:ElO o w vo) {O:Option (List Rat)} (he:Qb5 L x o=O):SayO 12 #[t,vx,vo] O w:=by
 subst he;cases o with
 | none =>
  obtain rfl:vo = .slice none 0 0:=eo;exact (Qb4 hL hn hx fx w hg ht ex).mono fun e W' h=>⟨⟨_,h.1,rfl⟩,h.2⟩
 | some l=>exact AnsA.sayO (Qin hL hn hx (ho l rfl).2 fx (ho l rfl).1 w hg ht ex eo)
theorem Qb9 {L:List (List Rat)} (hL:FitT L) (hn:L.length≤1000) {x:List Rat} {o:Option (List Rat)} (hx:x.length≤1000) (fx:FitL x) (ho:∀ l,o=some l→FitL l∧l.length≤1000) {t vx vo:Value} (w:World) (hg:Gl w) (ht:TwAt w t L) (eo:ElO o w vo) (ex:El w vx x) {O:Option Int} (he:Qb6 L o x=O):Say 20 #[t,vo,vx] (.tuple #[.int .i64 (O.getD 0),.int .i64 (cO O)]) w:=by
 subst he;cases o with
 | none =>
  obtain rfl:vo = .slice none 0 0:=eo;exact Qb2 hL hn w hg ht ex
 | some l=>exact AnsA.sayJ (Qa5 hL hn (ho l rfl).2 hx (ho l rfl).1 fx w hg ht eo ex)
theorem Qc0 {L:List (List Rat)} (hL:FitT L) (hn:L.length≤1000) {o:Option (List Rat)} (ho:∀ l,o=some l→FitL l∧l.length≤1000) {t vo:Value} (w:World) (hg:Gl w) (ht:TwAt w t L) (eo:ElO o w vo) {O:Option Int} (he:Qb7 L o=O):Say 16 #[t,vo] (.tuple #[.int .i64 (O.getD 0),.int .i64 (cO O)]) w:=by
 subst he;cases o with
 | none =>
  obtain rfl:vo = .slice none 0 0:=eo;exact Qb0 hL hn w hg ht
 | some l=>exact AnsA.sayJ (QeV hL hn (ho l rfl).2 (ho l rfl).1 w hg ht eo)
end Tw
end
section
namespace Tw
open SR Go.Proofs.YtadcmepaniiciaaGreatDoor.Nm Go.Proofs.YtadcmepaniiciaaGreatDoor.Rt
theorem Qc1:∀ {rs:List (List Rat)},Qdz rs→∀ q,embO rs [q]=some (q :: zeros (2^rs.length-1))
 | [],_,_=>rfl
 | d :: rs,h,q=>by
  have ih:=Qc1 h.2 q;have h2:=Nat.two_pow_pos rs.length;rw [embO,if_neg (by rw [List.length_singleton,Nat.pow_succ];omega),ih];show some (q :: (zeros (2^rs.length-1)++zeros d.length))=some (q :: zeros (2^(rs.length+1)-1));rw [h.1,zeros,zeros,List.replicate_append_replicate,zeros,show 2^rs.length-1+2^rs.length=2^(rs.length+1)-1 by rw [Nat.pow_succ];omega]
structure Qc2 (L:List (List Rat)) (a one:List Rat) (OI OP:Option (List Rat)) (OV OR:Option Int) (s:Int):Prop where
 t:FitT L
 n:L.length≤1000
 e0:ovr L (fun rs=>embO rs [1])=some one
 e1:ovr L (fun rs=>chk rs a (Qaw rs a))=some s
 e2:ovr L (fun rs=>chk rs a (invS rs a))=OI
 e3:Qb5 L a OI=OP
 e4:Qb6 L OP one=OV
 e5:Qb7 L OI=OR
 fI:∀ l,OI=some l→FitL l∧l.length≤1000
 fP:∀ l,OP=some l→FitL l∧l.length≤1000
 ga:Fs a
 gone:Fs one
 ws:s = -1∨s=0∨s=1
 z:s=0→OI=none
 lev:s≠0→(OI=none∨OP=none∨OV=none∨OR=none)→L.length=3
 fin:s≠0→∀ v r,OV=some v→OR=some r→v=0∧r=s
theorem Qc3 {L:List (List Rat)} {k:Nat} (hM:MadeT L k) (hk:k<4) {a:List Rat} (la:a.length=2^L.length) (aa:AllL 6 30 a):∃ one OI OP OV OR s,Qc2 L a one OI OP OV OR s:=by
 obtain ⟨rs,S,R,hF,hT,hR,hrk,h0⟩:=Qjz hM;have hLk:=hM.len;rw [hM.len,←hrk] at la;have bs:=QoT rs.length (by omega);simp only [Bool.and_eq_true,decide_eq_true_iff] at bs;obtain ⟨b1,b2,b3,b4,b5,b6,c1,c2,c3,_⟩:=bs;have hp:=QbG (show rs.length≤4 by omega);have h4:rs.length≤4:=by omega
 obtain ⟨s,s1⟩:=Qcq (by decide) hR la (by decide) aa c1;have e1:=Qc1 h0 1;have l1:=Qlh h0 e1;obtain ⟨one,hone⟩:∃ l,l=(1:Rat) :: zeros (2^rs.length-1):=⟨_,rfl⟩;rw [←hone] at e1 l1
 have a1:AllL 1 1 one:=by
  rw [hone];intro q hq;rcases List.mem_cons.1 hq with rfl | hq
  ·exact ⟨by decide,1,by decide +kernel,by decide⟩
  ·rw [List.eq_of_mem_replicate hq];exact .zero 1 (by decide)
 have gone:Fs one:=⟨fun q hq=>(a1 q hq).bq.fit (by decide +kernel) (by decide +kernel),by omega⟩
 have eI:ovr L (fun rs=>chk rs a (invS rs a))=if s=0 then none else invO rs a:=by
  rw [QaA hF,QhF la,invS,s1,Option.bind_some]
 have fI:∀ l,(if s=0 then none else invO rs a)=some l→invO rs a=some l∧FitL l∧l.length=2^rs.length:=fun l h=>by
  split at h
  ·cases h
  ·exact ⟨h,Qkg h0 la h⟩
 have eM:∀ l,l.length=2^rs.length→ovr L (fun rs=>chk2 rs a l (mulO rs a l))=mulO rs a l:=fun l hl=>by rw [QaA hF,Qcd la hl]
 have eC:∀ l,l.length=2^rs.length→ovr L (fun rs=>chk2 rs l one ((Qaj subQ l one).bind (Qaw rs)))=(Qaj subQ l one).bind (Qaw rs):=fun l hl=>by rw [QaA hF,Qcd hl l1]
 have eS:∀ l,l.length=2^rs.length→ovr L (fun rs=>chk rs l (Qaw rs l))=Qaw rs l:=fun l hl=>by rw [QaA hF,QhF hl]
 have fP:∀ l,Qb5 L a (if s=0 then none else invO rs a)=some l→∃ i,invO rs a=some i∧s≠0∧i.length=2^rs.length∧mulO rs a i=some l∧FitL l∧l.length=2^rs.length:=fun l h=>by
  rw [Qb5] at h;obtain ⟨i,h1,h2⟩:=Option.bind_eq_some_iff.1 h;obtain ⟨k1,k2,k3⟩:=fI i h1;rw [eM i k3] at h2;refine ⟨i,k1,fun h => ?_,k3,h2,QbL h2,QaN h0 la k3 h2⟩;rw [if_pos h] at h1;cases h1
 refine ⟨one,_,_,_,_,s,⟨hM.fit,by rw [hM.len];omega,by rw [QaA hF,e1],by rw [QaA hF,QhF la,s1],eI,rfl,rfl,rfl,fun l h=>⟨(fI l h).2.1,by rw [(fI l h).2.2];omega⟩,fun l h => ?_,.el aa la h4,gone,Qcu s1,fun h=>if_pos h, ?_, ?_⟩⟩
 ·obtain ⟨i,_,_,_,_,k1,k2⟩:=fP l h;exact ⟨k1,by omega⟩
 ·intro hs h;refine Decidable.byContradiction fun hc => ?_;obtain ⟨α,hα⟩:=hT.ex la;have hs2:S.sgn α≠0:=by rw [hT.sign hα s1];exact hs
  have ib:=QtP rs.length (by omega);simp only [Bool.and_eq_true] at ib;obtain ⟨i1,i2,i3,i4,i5,i6⟩:=ib;obtain ⟨inv,f1,f2,M,m1,m2,m3⟩:=QvX hT hR hα hs2 (by decide) aa i1;obtain ⟨pr,g1,g2,g3⟩:=Qcp hR la f2 (by decide) m1 aa m3 (Qpo i2 m2 Lr);obtain ⟨r,s5⟩:=Qcq (by decide) hR f2 m1 m3 (QjA i3 m2 Lr)
  have one6:AllL (6*M) (6*M) one:=by
   have:=a1.lift (M:=6*M) (by omega)
   rwa [Nat.one_mul] at this
  have le6:6*M≤6*(iSz 7 rs.length 6 30).1:=Nat.mul_le_mul_left _ m2;have leB:gr 1 7 rs.length*(30*(iSz 7 rs.length 6 30).2)+6*M≤gr 1 7 rs.length*(30*(iSz 7 rs.length 6 30).2)+6*(iSz 7 rs.length 6 30).1:=Nat.add_le_add_left le6 _;obtain ⟨u,u1,u2,u3⟩:=Qig (by rw [g2,l1]) g3 one6 (Nat.lt_of_le_of_lt (Nat.mul_le_mul leB le6) (of_decide_eq_true i5)) (Nat.lt_of_le_of_lt (Nat.mul_le_mul le6 le6) (of_decide_eq_true i6));obtain ⟨v,s4⟩:=Qcq (by decide) hR (u2.trans g2) (by omega) u3 (QjA i4 le6 leB);have h1:(if s=0 then none else invO rs a)=some inv:=by rw [if_neg hs,f1]
  have h2:Qb5 L a (some inv)=some pr:=by rw [Qb5,Option.bind_some,eM inv f2,g1]
  have h3:Qb6 L (some pr) one=some v:=by rw [Qb6,Option.bind_some,eC pr g2,u1,Option.bind_some,s4]
  have h5:Qb7 L (some inv)=some r:=by rw [Qb7,Option.bind_some,eS inv f2,s5]
  rw [h1,h2,h3,h5] at h;rcases h with h | h | h | h <;> cases h
 ·intro hs v r hv hr;rw [Qb6] at hv;obtain ⟨l,h1,h2⟩:=Option.bind_eq_some_iff.1 hv;obtain ⟨i,k1,k2,k3,k4,k5,k6⟩:=fP l h1;rw [eC l k6] at h2;obtain ⟨u,u1,u2⟩:=Option.bind_eq_some_iff.1 h2;rw [if_neg hs,k1,Qb7,Option.bind_some,eS i k3] at hr;exact QtO hT la s1 hs k1 e1 k4 u1 u2 hr
end Tw
end
section
namespace Tw
open Go.RowKit Go.Extern.Stop Go.Stop Go.Extern
open En Go.Proofs.YtadcmepaniiciaaGreatDoor.Nm Go.Proofs.YtadcmepaniiciaaGreatDoor.Rt
theorem inv_walk (a:Addr) {cs:Array Value} {c:Nat→Int} (hC:C65 cs c) (w:World) (hg:Gl w) (hv:Ref a w) (hs:∀ W,Gl W→Ref a W→Calls Tryz.prog 10 #[] W fun e W'=>e = .returned (.bool true)∧Below W.heap.size W W'):Calls Tryz.prog 4 #[.agg cs] w fun e w'=>e = .returned (.bool true)∧Below w.heap.size w w':=by
 have u_:=(Below.refl w.heap.size w).alloc Lr (.cells cs 24);have n_bC:(w.alloc (.cells cs 24)).heap[w.heap.size]? = some (.cells cs 24 (0,0)):=World.alloc_heap_new w _;have hK:Sh (Ks [kBx w.heap.size (.cells cs 24 (0,0)),kGl,kRef a] (w.alloc (.cells cs 24))):=⟨((((Ks.nil w).add (kRef a) hv).add kGl hg).keep u_).add (kBx w.heap.size (.cells cs 24 (0,0))) n_bC⟩;have hB:Sh (Below w.heap.size w (w.alloc (.cells cs 24))):=⟨u_⟩;have hq:=hs _ (hK.o _ Mm1) (hK.o _ Mm2);have HC:Sh _:=⟨hC⟩;clear hv hg hs hC u_ n_bC;go_enter Tryz.func4, Tryz.ntmps4;go_wp2_with fail;generalize w.alloc (.cells cs 24)=W at *
 refine hq.mono ?_;rintro e V ⟨rfl,g⟩;have hK:=hK.kp g;have hB:=hB.tr g;clear hq g
 rename World=>W
 go_upto_region 2 with fail
 have hrg:W.rangeAt w.heap.size 0 cs.toList:=fun j v hv=>by
  have hb:=((hK.o _ Mm0):W.heap[w.heap.size]? = some (.cells cs 24 (0,0)));rw [Nat.zero_add];exact En.Qaa hb j (by rw [←Array.getElem?_toList];exact hv)
 refine wp_region_lit ?_;refine wpList_load_mid rfl _ _ rfl _ _ rfl cs.toList _ hrg Tryz.underlying24 rfl (HC.o.size24) ?_;rw [Array.toArray_toList];clear hrg;go_wp2_with fail;have hq:=QrJ HC.o W;refine hq.mono ?_;rintro e V ⟨⟨L,vt,va,vb,vd,rfl,hT,hM,ea,eb,ed⟩,g⟩;clear hq;obtain ⟨p,cap,rfl,_⟩:=hT.parts;have HM:Sh _:=⟨hM⟩;obtain ⟨n,hn⟩:∃ n,n=L.length:=⟨_,rfl⟩;rw [←hn] at hT ⊢;have HN:Sh (n=L.length):=⟨hn⟩;have hL4:L.length≤4:=by rw [hM.len];have:=QbM (c 0) (n:=4) (by decide);omega
 obtain ⟨la,hla⟩:∃ l,l=elL (fun i=>c (17+i)) (2^L.length):=⟨_,rfl⟩;obtain ⟨lb,hlb⟩:∃ l,l=elL (fun i=>c (33+i)) (2^L.length):=⟨_,rfl⟩;obtain ⟨ld,hld⟩:∃ l,l=elL (fun i=>c (49+i)) (2^L.length):=⟨_,rfl⟩;rw [←hla] at ea;rw [←hlb] at eb;rw [←hld] at ed;have hK:=((((hK.kp g).ad (kTw (.agg #[.slice p n cap]) L) hT.at_).ad (kEl vd ld) ed).ad (kEl vb lb) eb).ad (kEl va la) ea;have hB:=hB.tr g;have qa:la.length=2^L.length∧AllL 6 30 la:=⟨by rw [hla,Qdx],by rw [hla];exact Qfo _ _⟩;have qb:lb.length=2^L.length∧AllL 6 30 lb:=⟨by rw [hlb,Qdx],by rw [hlb];exact Qfo _ _⟩;have qd:ld.length=2^L.length∧AllL 6 30 ld:=⟨by rw [hld,Qdx],by rw [hld];exact Qfo _ _⟩;clear hT ea eb ed g hn hla hlb hld HC
 rename World=>W
 obtain ⟨one,OI,OP,OV,OR,s,NF⟩:=Qc3 HM.o (QbM (c 0) (by decide)) qa.1 qa.2;replace NF:Sh _:=⟨NF⟩;clear qa qb qd hL4;go_wp2_with fail;have n_bT:(W.alloc (Jc #[.slice p n cap] 28)).heap[W.heap.size]? = some (Jc #[.slice p n cap] 28 (0,0)):=by first | exact World.alloc_heap_new W (Jc #[.slice p n cap] 28) | (have:=World.alloc_heap_new W (Jc #[.slice p n cap] 28);simpa using this)
 have u_:Below W.heap.size W (W.alloc (Jc #[.slice p n cap] 28)):=((Below.refl W.heap.size W).alloc (by first | exact Nat.le_refl _ | (simp;done) | (simp;omega)) (Jc #[.slice p n cap] 28));have hK:=hK.kp u_;have hB:=hB.tr u_;clear u_;generalize (W.alloc (Jc #[.slice p n cap] 28))=Wn at *
 generalize W.heap.size=bT at *
 rename World=>W
 have hK:=hK.ad (kBx bT (Jc #[.slice p n cap] 28 (0,0))) (n_bT);clear n_bT;have cx0:=En.Qaa (hK.o _ Mm0) 0 rfl;have hq:=AnsA.sayI (QeV NF.o.t NF.o.n NF.o.ga.n NF.o.ga.f W (hK.o _ Mm6) (hK.o _ Mm4) (hK.o _ Mm1)) NF.o.e1;refine hq.run.mono ?_;rintro e V ⟨rfl,g⟩;have hK:=hK.kp g;have hB:=hB.tr g;clear hq g
 rename World=>W
 skip
 clear cx0;have cx0:=En.Qaa (hK.o _ Mm0) 0 rfl;go_wp2_with fail;have hq:=SayO.of (AnsA.sayO (Qjn NF.o.t NF.o.n NF.o.ga.n NF.o.ga.f W (hK.o _ Mm6) (hK.o _ Mm4) (hK.o _ Mm1))) NF.o.e2;refine hq.run.mono ?_;rintro e V ⟨⟨vI,rfl,ev⟩,g⟩;have hK:=(hK.kp g).ad (kEO vI OI) (ev);have hB:=hB.tr g;clear hq g
 rename World=>W
 clear ev cx0;have cx0:=En.Qaa (hK.o _ Mm1) 0 rfl;go_wp2_with fail;clear cx0
 skip
 have SS:Sh (∀ X,Below W.heap.size W X→X.cell? ⟨bT,0,none⟩=some (.slice p n cap)):=⟨fun X hX=>En.Qaa ((hK.o.keep hX) _ Mm1) 0 rfl⟩
 go_region_held (fun X=>X.cell? ⟨bT,0,none⟩=some (.slice p n cap)) (first | exact SS.o _ (QaS (Below.refl _ _)) | exact SS.o _ k2 | exact SS.o _ k1 | fail) (first | (go_at_call 19; have hq:=Qfw 1 1 ⟨#[49]⟩ ⟨#[49]⟩ (by decide +kernel) (by decide) (by decide) (by decide) W.drew;(with_reducible refine hq.run.mono ?_);rintro e x1 ⟨rfl,g⟩;have k1:Below W.heap.size W x1:=Qah g;clear hq g) | (go_at_call 18; have hq:=AnsA.sayE (Qkq NF.o.t NF.o.n (r:=1) fit1 (n:=⟨#[49]⟩) (d:=⟨#[49]⟩) (by decide +kernel) x1 ((hK.o.keep k1) _ Mm7) ((hK.o.keep k1) _ Mm5)) NF.o.e0;(with_reducible refine hq.run.mono ?_);rintro e x2 ⟨⟨v0,rfl,ev⟩,g⟩;have k2:=k1.trans (g.mono k1.size);clear hq g) | fail)
 all_goals (try clear SS)
 have hK:=(hK.kp k2).ad (kEl v0 one) (ev);have hB:=hB.tr k2;clear k1 k2 ev
 rename World=>W
 by_cases hs0:s=0
 ·skip
  have hO:=NF.o.z hs0;subst hs0;have ev:ElO OI W vI:=(hK.o _ Mm1);rw [hO] at ev ⊢;obtain rfl:vI = .slice none 0 0:=ev;rw [show cO (none:Option (List Rat))=60 from rfl];have HB:=hB.o;clear NF hK hB hO;go_wp2_with fail;go_ret;exact ⟨rfl,HB⟩
 have hb:(s == (0:Int))=false:=by simp [hs0]
 have HS:Sh (s≠0):=⟨hs0⟩;clear hs0;have cx0:=En.Qaa (hK.o _ Mm2) 0 rfl;go_wp2_with fail;have hq:=Qb8 NF.o.t NF.o.n NF.o.ga.n NF.o.ga.f NF.o.fI W (hK.o _ Mm8) (hK.o _ Mm6) (hK.o _ Mm3) (hK.o _ Mm1) NF.o.e3;refine hq.run.mono ?_;rintro e V ⟨⟨vP,rfl,ev⟩,g⟩;have hK:=(hK.kp g).ad (kEO vP OP) (ev);have hB:=hB.tr g;clear hq g
 rename World=>W
 clear ev cx0 hb;have cx0:=En.Qaa (hK.o _ Mm3) 0 rfl;go_wp2_with fail;have hq:=Qb9 NF.o.t NF.o.n NF.o.gone.n NF.o.gone.f NF.o.fP W (hK.o _ Mm9) (hK.o _ Mm7) (hK.o _ Mm0) (hK.o _ Mm1) NF.o.e4;refine hq.run.mono ?_;rintro e V ⟨rfl,g⟩;have hK:=hK.kp g;have hB:=hB.tr g;clear hq g
 rename World=>W
 clear cx0;have cx0:=En.Qaa (hK.o _ Mm3) 0 rfl;go_wp2_with fail;have hq:=Qc0 NF.o.t NF.o.n NF.o.fI W (hK.o _ Mm9) (hK.o _ Mm7) (hK.o _ Mm2) NF.o.e5;refine hq.run.mono ?_;rintro e V ⟨rfl,g⟩;have hK:=hK.kp g;have hB:=hB.tr g;clear hq g
 rename World=>W
 clear cx0;go_upto_region 13 with fail
 rcases OI with _ | lI
 ·rw [show cO (none:Option (List Rat))=60 from rfl];have hl:L.length=3:=NF.o.lev HS.o (.inl rfl);have hd:((n:Int) == (3:Int))=true:=by rw [show n=3 from HN.o.trans hl];rfl
  clear hl;have cx0:=En.Qaa (hK.o _ Mm3) 0 rfl;go_wp2_with fail;have hq:=QoY p n cap W;refine hq.run.mono ?_;rintro e V ⟨rfl,g⟩;have hK:=hK.kp g;have hB:=hB.tr g;clear hq g
  rename World=>W
  go_wp2_with fail;go_ret;exact ⟨rfl,hB.o⟩
 rw [show cO (some lI)=0 from rfl];rcases OP with _ | lP
 ·rw [show cO (none:Option (List Rat))=60 from rfl];have hl:L.length=3:=NF.o.lev HS.o (.inr (.inl rfl));have hd:((n:Int) == (3:Int))=true:=by rw [show n=3 from HN.o.trans hl];rfl
  clear hl;have cx0:=En.Qaa (hK.o _ Mm3) 0 rfl;go_wp2_with fail;have hq:=QoY p n cap W;refine hq.run.mono ?_;rintro e V ⟨rfl,g⟩;have hK:=hK.kp g;have hB:=hB.tr g;clear hq g
  rename World=>W
  go_wp2_with fail;go_ret;exact ⟨rfl,hB.o⟩
 rw [show cO (some lP)=0 from rfl];rcases OV with _ | v
 ·rw [show cO (none:Option (Int))=60 from rfl];have hl:L.length=3:=NF.o.lev HS.o (.inr (.inr (.inl rfl)));have hd:((n:Int) == (3:Int))=true:=by rw [show n=3 from HN.o.trans hl];rfl
  clear hl;have cx0:=En.Qaa (hK.o _ Mm3) 0 rfl;go_wp2_with fail;have hq:=QoY p n cap W;refine hq.run.mono ?_;rintro e V ⟨rfl,g⟩;have hK:=hK.kp g;have hB:=hB.tr g;clear hq g
  rename World=>W
  go_wp2_with fail;go_ret;exact ⟨rfl,hB.o⟩
 rw [show cO (some v)=0 from rfl];rcases OR with _ | r
 ·rw [show cO (none:Option (Int))=60 from rfl];have hl:L.length=3:=NF.o.lev HS.o (.inr (.inr (.inr rfl)));have hd:((n:Int) == (3:Int))=true:=by rw [show n=3 from HN.o.trans hl];rfl
  clear hl;have cx0:=En.Qaa (hK.o _ Mm3) 0 rfl;go_wp2_with fail;have hq:=QoY p n cap W;refine hq.run.mono ?_;rintro e V ⟨rfl,g⟩;have hK:=hK.kp g;have hB:=hB.tr g;clear hq g
  rename World=>W
  go_wp2_with fail;go_ret;exact ⟨rfl,hB.o⟩
 rw [show cO (some r)=0 from rfl];obtain ⟨rfl,rfl⟩:=NF.o.fin HS.o v r rfl rfl;rw [show (some (0:Int)).getD 0=0 from rfl,show (some r).getD 0=r from rfl];have hb:(r == r)=true:=by simp
 have HB:=hB.o;clear NF hK hB;go_wp2_with fail;go_ret;exact ⟨rfl,HB⟩
end Tw
end
end Go.Proofs.YtadcmepaniiciaaGreatDoor
