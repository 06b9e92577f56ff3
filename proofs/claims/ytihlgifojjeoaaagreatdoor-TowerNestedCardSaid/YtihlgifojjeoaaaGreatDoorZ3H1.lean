/-
  Towers: what the laws say of signs, order and roots.
-/
import Derived.Test.YtihlgifojjeoaaaGreatDoorZ3G5
set_option maxRecDepth 1000000
set_option maxHeartbeats 40000000
open Go.Value renaming string→J
open Go.Obj renaming cells→Jc
namespace Go.Proofs.YtihlgifojjeoaaaGreatDoor
namespace Tw
open SR Go.Proofs.YtihlgifojjeoaaaGreatDoor.Rt
theorem sgn_of {S:SR} {x y:S.T} (h:x=y):S.sgn x=S.sgn y:=by rw [h]
theorem signs_all {rs:List (List Rat)} {S:SR} {R:List Rat→S.T→Prop} (h:IsT rs S R) {a b product sum negative:List Rat} {s r p q n z:Int} (la:a.length=2^rs.length) (lb:b.length=2^rs.length)
  (e1:mulO rs a b=some product) (e2:pairO addQ a b=some sum) (e3:pairO subQ (zeros (2^rs.length)) a=some negative)
  (s1:signO rs a=some s) (s2:signO rs b=some r) (s3:signO rs product=some p) (s4:signO rs sum=some q) (s5:signO rs negative=some n) (s6:signO rs (zeros (2^rs.length))=some z) :
  z=0∧p=s*r∧n = -s∧(s≠r∨q=s)∧(s≠0∨q=r)∧(r≠0∨q=s):=by
 obtain ⟨x,hx⟩:=h.ex la
 obtain ⟨y,hy⟩:=h.ex lb
 have f1:R product (x*y):=h.mul hx hy e1
 have f2:R sum (x+y):=h.add hx hy e2
 have f3:R negative (S.zer + -x):=h.sub h.zero hx e3
 rw [SR.zer_add] at f3
 have g1:=h.sign hx s1
 have g2:=h.sign hy s2
 have g3:=h.sign f1 s3
 have g4:=h.sign f2 s4
 have g5:=h.sign f3 s5
 have g6:=h.sign h.zero s6
 rw [SR.sgn_zer] at g6
 rw [SR.sgn_mul,g1,g2] at g3
 rw [SR.sgn_neg,g1] at g5
 refine ⟨g6.symm,g3.symm,g5.symm, ?_, ?_, ?_⟩
 ·by_cases e:s=r
  ·right;rw [←g4,SR.sgn_same (by rw [g1,g2,e]),g1]
  ·exact .inl e
 ·by_cases e:s=0
  ·right;rw [←g4,SR.sgn_add_nil (by rw [g1,e]),g2]
  ·exact .inl e
 ·by_cases e:r=0
  ·right;rw [←g4,SR.sgn_nil_add (by rw [g2,e]),g1]
  ·exact .inl e
theorem order_all {rs:List (List Rat)} {S:SR} {R:List Rat→S.T→Prop} (h:IsT rs S R) {a b d x y p q u1 u2 u3 u4 u5 u6:List Rat} {ab ba bd ad s v w:Int} (la:a.length=2^rs.length) (lb:b.length=2^rs.length) (ld:d.length=2^rs.length)
  (e1:pairO subQ a b=some u1) (s1:signO rs u1=some ab) (e2:pairO subQ b a=some u2) (s2:signO rs u2=some ba) (e3:pairO subQ b d=some u3) (s3:signO rs u3=some bd) (e4:pairO subQ a d=some u4) (s4:signO rs u4=some ad) (s5:signO rs d=some s)
  (e6:pairO addQ a d=some x) (e7:pairO addQ b d=some y) (e8:mulO rs a d=some p) (e9:mulO rs b d=some q) (e10:pairO subQ x y=some u5) (s10:signO rs u5=some v) (e11:pairO subQ p q=some u6) (s11:signO rs u6=some w) :
  ab = -ba∧v=ab∧w=ab*s∧(ab<0∨bd<0∨0≤ad)∧(0<ab∨0<bd∨ad≤0):=by
 obtain ⟨A,ha⟩:=h.ex la
 obtain ⟨B,hb⟩:=h.ex lb
 obtain ⟨D,hd⟩:=h.ex ld
 have g1:S.sgn (A + -B)=ab:=h.sign (h.sub ha hb e1) s1
 have g2:S.sgn (B + -A)=ba:=h.sign (h.sub hb ha e2) s2
 have g3:S.sgn (B + -D)=bd:=h.sign (h.sub hb hd e3) s3
 have g4:S.sgn (A + -D)=ad:=h.sign (h.sub ha hd e4) s4
 have g5:S.sgn D=s:=h.sign hd s5
 have g10:S.sgn (A+D + -(B+D))=v:=h.sign (h.sub (h.add ha hd e6) (h.add hb hd e7) e10) s10
 have g11:S.sgn (A*D + -(B*D))=w:=h.sign (h.sub (h.mul ha hd e8) (h.mul hb hd e9) e11) s11
 rw [SR.neg_add,show A+D+(-B + -D)=A + -B by rw [SR.add_assoc,SR.add_left_comm D,SR.add_neg,SR.add_zer],g1] at g10
 rw [←SR.neg_mul,←SR.add_mul,SR.sgn_mul,g1,g5] at g11
 have k1:S.sgn (B + -A) = - S.sgn (A + -B):=by rw [←SR.sgn_neg,SR.neg_add,SR.neg_neg,SR.add_comm]
 rw [g1,g2] at k1
 have k2:0≤ab→0≤bd→0≤ad:=fun h1 h2=>by
  rw [←g4,←SR.grp1 A B D]
  exact SR.sgn_nneg (by rw [g1];exact h1) (by rw [g3];exact h2)
 have k3:ab≤0→bd≤0→ad≤0:=fun h1 h2=>by
  have:=SR.sgn_nneg (S:=S) (x := -(A + -B)) (y := -(B + -D)) (by rw [SR.sgn_neg,g1];omega) (by rw [SR.sgn_neg,g3];omega)
  rw [←SR.neg_add,SR.grp1,SR.sgn_neg,g4] at this
  omega
 refine ⟨by omega,g10.symm,g11.symm, ?_, ?_⟩
 ·by_cases h1:ab<0
  ·exact .inl h1
  ·by_cases h2:bd<0
   ·exact .inr (.inl h2)
   ·exact .inr (.inr (k2 (by omega) (by omega)))
 ·by_cases h1:0<ab
  ·exact .inl h1
  ·by_cases h2:0<bd
   ·exact .inr (.inl h2)
   ·exact .inr (.inr (k3 (by omega) (by omega)))
structure Iota (rs:List (List Rat)) (S:SR) (R:List Rat→S.T→Prop) (i:Rat→S.T):Prop where
 emb:∀ q,∃ l,embO rs [q]=some l∧R l (i q)
 sgn:∀ q,S.sgn (i q)=sgR q
 add:∀ p q,i (p+q)=i p+i q
 mul:∀ p q,i (p*q)=i p*i q
 one:i 1=S.one
 zer:i 0=S.zer
theorem embO_full:∀ {rs:List (List Rat)} {x:List Rat},x.length=2^rs.length→embO rs x=some x
 | [],x,h=>by rw [embO,if_pos (by simpa using h)]
 | d :: rs,x,h=>by rw [embO,if_pos (by simpa using h)]
theorem embO_up {rs:List (List Rat)} {d x:List Rat} (h:x.length=2^rs.length):embO (d :: rs) x=some (x++zeros d.length):=by
 rw [embO,if_neg (by rw [h,Nat.pow_succ];have:=Nat.two_pow_pos rs.length;omega),embO_full h];rfl
theorem embO_low {rs:List (List Rat)} {d x l:List Rat} (h:x.length≠2^(rs.length+1)) (e:embO rs x=some l):embO (d :: rs) x=some (l++zeros d.length):=by
 rw [embO,if_neg h,e];rfl
theorem IsT.iota {rs:List (List Rat)} {S:SR} {R:List Rat→S.T→Prop} (h:IsT rs S R):∃ i,Iota rs S R i:=by
 induction h with
 | nil=>exact ⟨fun q=>q,⟨fun q=>⟨[q],rfl,rfl⟩,fun q=>rfl,fun _ _=>rfl,fun _ _=>rfl,rfl,rfl⟩⟩
 | @cons rs S R d h δ hR hd ih =>
  obtain ⟨i,hi⟩:=ih
  refine ⟨fun q=>(i q,S.zer),⟨fun q => ?_,fun q => ?_,fun p q => ?_,fun p q => ?_, ?_, ?_⟩⟩
  ·obtain ⟨l,hl,hr⟩:=hi.emb q
   refine ⟨l++zeros d.length,embO_low ?_ hl,_,_,rfl,hr,by rw [h.len hR];exact h.zero⟩
   have:=Nat.two_pow_pos rs.length
   rw [Nat.pow_succ];simp;omega
  ·show sg2 δ (i q,S.zer)=_
   rw [sg2,if_pos SR.sgn_zer];exact hi.sgn q
  ·refine Prod.ext (hi.add p q) ?_
   exact (SR.add_zer S.zer).symm
  ·refine Prod.ext ?_ ?_
   ·show i (p*q)=i p*i q+S.zer*S.zer * δ
    rw [SR.zer_mul,SR.zer_mul,SR.add_zer,hi.mul]
   ·show S.zer=i p*S.zer+S.zer*i q
    rw [SR.mul_zer,SR.zer_mul,SR.add_zer]
  ·exact Prod.ext hi.one rfl
  ·exact Prod.ext hi.zer rfl
theorem Iota.neg {rs:List (List Rat)} {S:SR} {R:List Rat→S.T→Prop} {i:Rat→S.T} (h:Iota rs S R i) (q:Rat):i (-q) = -(i q):=by
 refine (SR.neg_unique ?_).symm
 rw [←h.add,Rat.add_neg_cancel,h.zer]
theorem Iota.sub {rs:List (List Rat)} {S:SR} {R:List Rat→S.T→Prop} {i:Rat→S.T} (h:Iota rs S R i) (p q:Rat):i p + -(i q)=i (p-q):=by
 rw [←h.neg,←h.add,Rat.sub_eq_add_neg]
theorem plain_all {rs:List (List Rat)} {S:SR} {R:List Rat→S.T→Prop} (h:IsT rs S R) {p q:Rat} {l m u:List Rat} {s:Int} (e1:embO rs [p]=some l) (e2:embO rs [q]=some m) (e3:pairO subQ l m=some u) (e4:signO rs u=some s):s=sgR (p-q):=by
 obtain ⟨i,hi⟩:=h.iota
 obtain ⟨l',k1,r1⟩:=hi.emb p
 obtain ⟨m',k2,r2⟩:=hi.emb q
 obtain rfl:l=l':=by rw [e1] at k1;exact Option.some.inj k1
 obtain rfl:m=m':=by rw [e2] at k2;exact Option.some.inj k2
 have:S.sgn (i p + -(i q))=s:=h.sign (h.sub r1 r2 e3) e4
 rw [hi.sub,hi.sgn] at this
 exact this.symm
theorem root_R {rs:List (List Rat)} {S:SR} {R:List Rat→S.T→Prop} (h:IsT rs S R) {d:List Rat} {δ:S.T} (hR:R d δ) {l:List Rat} (e:rootO (d :: rs)=some l):∃ a b,l=a++b∧R a S.zer∧R b S.one:=by
 obtain ⟨i,hi⟩:=h.iota
 obtain ⟨m,k1,r1⟩:=hi.emb 1
 rw [rootO,k1] at e
 cases e
 exact ⟨_,_,rfl,by rw [h.len hR];exact h.zero,by rw [←hi.one];exact r1⟩
theorem roots_all {rs:List (List Rat)} {S:SR} {R:List Rat→S.T→Prop} (h:IsT rs S R) {d:List Rat} (ld:d.length=2^rs.length) (sd:signO rs d=some 1) {root square:List Rat} {w:Int}
  (e1:rootO (d :: rs)=some root) (e2:mulO (d :: rs) root root=some square) (s2:signO (d :: rs) root=some w):square=d++zeros d.length∧w=1:=by
 obtain ⟨δ,hR⟩:=h.ex ld
 have hd:=h.sign hR sd
 have hT:=IsT.cons h δ hR hd
 obtain ⟨a,b,rfl,ha,hb⟩:=root_R h hR e1
 have r1:=hT.mul (x:=(S.zer,S.one)) (y:=(S.zer,S.one)) ⟨_,_,rfl,ha,hb⟩ ⟨_,_,rfl,ha,hb⟩ e2
 have e:(ext S δ hd).mul (S.zer,S.one) (S.zer,S.one)=(δ,S.zer):=by
  refine Prod.ext ?_ ?_
  ·show S.zer*S.zer+S.one*S.one * δ=δ
   rw [SR.zer_mul,SR.zer_add,SR.one_mul,SR.one_mul]
  ·show S.zer*S.one+S.one*S.zer=S.zer
   rw [SR.zer_mul,SR.mul_zer,SR.add_zer]
 rw [e] at r1
 have r2:=hT.sign (x:=(S.zer,S.one)) ⟨_,_,rfl,ha,hb⟩ s2
 refine ⟨hT.inj r1 ⟨_,_,rfl,hR,by rw [h.len hR];exact h.zero⟩, ?_⟩
 rw [←r2]
 show sg2 δ (S.zer,S.one)=1
 rw [sg2,if_neg (by rw [S.sgn_one];decide),if_pos (.inl SR.sgn_zer),S.sgn_one]
theorem embed_all {rs:List (List Rat)} {S:SR} {R:List Rat→S.T→Prop} (h:IsT rs S R) {d:List Rat} (ld:d.length=2^rs.length) (sd:signO rs d=some 1) {a b ab xy:List Rat} {r z:Int} (la:a.length=2^rs.length) (lb:b.length=2^rs.length)
  (e1:mulO rs a b=some ab) (e2:mulO (d :: rs) (a++zeros d.length) (b++zeros d.length)=some xy) (s1:signO rs a=some r) (s2:signO (d :: rs) (a++zeros d.length)=some z):xy=ab++zeros d.length∧r=z:=by
 obtain ⟨δ,hR⟩:=h.ex ld
 have hd:=h.sign hR sd
 have hT:=IsT.cons h δ hR hd
 obtain ⟨x,hx⟩:=h.ex la
 obtain ⟨y,hy⟩:=h.ex lb
 have hz:R (zeros d.length) S.zer:=by rw [h.len hR];exact h.zero
 have r1:=hT.mul (x:=(x,S.zer)) (y:=(y,S.zer)) ⟨_,_,rfl,hx,hz⟩ ⟨_,_,rfl,hy,hz⟩ e2
 have e:(ext S δ hd).mul (x,S.zer) (y,S.zer)=(x*y,S.zer):=by
  refine Prod.ext ?_ ?_
  ·show x*y+S.zer*S.zer * δ=x*y
   rw [SR.zer_mul,SR.zer_mul,SR.add_zer]
  ·show x*S.zer+S.zer*y=S.zer
   rw [SR.zer_mul,SR.mul_zer,SR.add_zer]
 rw [e] at r1
 refine ⟨hT.inj r1 ⟨_,_,rfl,h.mul hx hy e1,hz⟩, ?_⟩
 have g1:=h.sign hx s1
 have g2:=hT.sign (x:=(x,S.zer)) ⟨_,_,rfl,hx,hz⟩ s2
 rw [←g1,←g2]
 show _=sg2 δ (x,S.zer)
 rw [sg2,if_pos SR.sgn_zer]
theorem sub_self_sign {rs:List (List Rat)} {S:SR} {R:List Rat→S.T→Prop} (h:IsT rs S R) {a u:List Rat} {v:Int} (la:a.length=2^rs.length) (e:pairO subQ a a=some u) (s:signO rs u=some v):v=0:=by
 obtain ⟨x,hx⟩:=h.ex la
 have:S.sgn (x + -x)=v:=h.sign (h.sub hx hx e) s
 rw [SR.add_neg,SR.sgn_zer] at this
 exact this.symm
end Tw
end Go.Proofs.YtihlgifojjeoaaaGreatDoor
