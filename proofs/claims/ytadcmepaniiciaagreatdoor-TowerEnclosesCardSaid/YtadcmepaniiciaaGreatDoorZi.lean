
set_option maxRecDepth 1000000
set_option maxHeartbeats 40000000
namespace Go.Proofs.YtadcmepaniiciaaGreatDoor
namespace Tw
structure SR where
 T:Type
 add:T→T→T
 mul:T→T→T
 neg:T→T
 zer:T
 one:T
 sgn:T→Int
 add_comm':∀ x y,add x y=add y x
 add_assoc':∀ x y z,add (add x y) z=add x (add y z)
 add_zer':∀ x,add x zer=x
 add_neg':∀ x,add x (neg x)=zer
 mul_comm':∀ x y,mul x y=mul y x
 mul_assoc':∀ x y z,mul (mul x y) z=mul x (mul y z)
 mul_one':∀ x,mul x one=x
 mul_add':∀ x y z,mul x (add y z)=add (mul x y) (mul x z)
 sgn_way:∀ x,sgn x = -1∨sgn x=0∨sgn x=1
 sgn_mul':∀ x y,sgn (mul x y)=sgn x*sgn y
 sgn_neg':∀ x,sgn (neg x) = - sgn x
 sgn_pos':∀ x y,sgn x=1→0≤sgn y→sgn (add x y)=1
 sgn_nil':∀ x y,sgn x=0→sgn y=0→sgn (add x y)=0
 sgn_one:sgn one=1
namespace SR
variable {S:SR}
instance:Add S.T:=⟨S.add⟩
instance:Mul S.T:=⟨S.mul⟩
instance:Neg S.T:=⟨S.neg⟩
instance:Sub S.T:=⟨fun x y=>x + -y⟩
theorem add_comm (x y:S.T):x+y=y+x:=S.add_comm' x y
theorem add_assoc (x y z:S.T):x+y+z=x+(y+z):=S.add_assoc' x y z
theorem Qaz (x y z:S.T):x+(y+z)=y+(x+z):=by rw [←add_assoc,add_comm x y,add_assoc]
theorem Qbh (x:S.T):x+S.zer=x:=S.add_zer' x
theorem Qcy (x:S.T):S.zer+x=x:=by rw [add_comm,Qbh]
theorem Qby (x:S.T):x + -x=S.zer:=S.add_neg' x
theorem Qct (x:S.T) : -x+x=S.zer:=by rw [add_comm,Qby]
theorem mul_comm (x y:S.T):x*y=y*x:=S.mul_comm' x y
theorem mul_assoc (x y z:S.T):x*y*z=x*(y*z):=S.mul_assoc' x y z
theorem mul_left_comm (x y z:S.T):x*(y*z)=y*(x*z):=by rw [←mul_assoc,mul_comm x y,mul_assoc]
theorem mul_one (x:S.T):x*S.one=x:=S.mul_one' x
theorem one_mul (x:S.T):S.one*x=x:=by rw [mul_comm,mul_one]
theorem mul_add (x y z:S.T):x*(y+z)=x*y+x*z:=S.mul_add' x y z
theorem add_mul (x y z:S.T):(x+y)*z=x*z+y*z:=by rw [mul_comm,mul_add,mul_comm z x,mul_comm z y]
theorem Qhr {x y z:S.T} (h:x+z=y+z):x=y:=by
 have:=congrArg (· + -z) h;simpa only [add_assoc,Qby,Qbh] using this
theorem Qdk {x y:S.T} (h:x+y=S.zer) : -x=y:=by
 refine Qhr (z:=x) ?_;rw [Qct,add_comm y x,h]
theorem neg_neg (x:S.T) : - -x=x:=Qdk (Qct x)
theorem Qkb : -(S.zer)=S.zer:=Qdk (Qbh _)
theorem Qbz (x y:S.T) : -(x+y) = -x + -y:=by
 refine Qdk ?_;rw [add_assoc,Qaz y,←add_assoc,Qby,Qby,Qbh]
theorem Qdt (x:S.T):x*S.zer=S.zer:=by
 refine Qhr (z:=x*S.zer) ?_;rw [←mul_add,Qbh,Qcy]
theorem QcR (x:S.T):S.zer*x=S.zer:=by rw [mul_comm,Qdt]
theorem mul_neg (x y:S.T):x * -y = -(x*y):=by
 refine (Qdk ?_).symm;rw [←mul_add,Qby,Qdt]
theorem neg_mul (x y:S.T) : -x*y = -(x*y):=by rw [mul_comm,mul_neg,mul_comm]
theorem Qak (x y:S.T):S.sgn (x*y)=S.sgn x*S.sgn y:=S.sgn_mul' x y
theorem QaE (x:S.T):S.sgn (-x) = - S.sgn x:=S.sgn_neg' x
theorem Qbp {x y:S.T} (h:S.sgn x=1) (h':0≤S.sgn y):S.sgn (x+y)=1:=S.sgn_pos' x y h h'
theorem Qcz {x y:S.T} (h:S.sgn x=0) (h':S.sgn y=0):S.sgn (x+y)=0:=S.sgn_nil' x y h h'
theorem QdN:S.sgn S.zer=0:=by
 have:=QaE (S.zer);rw [Qkb] at this;omega
theorem QfM {x y:S.T} (h:0≤S.sgn x) (h':0≤S.sgn y):0≤S.sgn (x+y):=by
 rcases S.sgn_way x with e | e | e
 ·omega
 ·rcases S.sgn_way y with f | f | f
  ·omega
  ·rw [Qcz e f];decide
  ·rw [add_comm,Qbp f (by omega)];decide
 ·rw [Qbp e h'];decide
theorem QbW {x y:S.T} (h:S.sgn x=0):S.sgn (x+y)=S.sgn y:=by
 rcases S.sgn_way y with f | f | f
 ·have:=Qbp (S:=S) (x := -y) (y := -x) (by rw [QaE,f];decide) (by rw [QaE,h];decide);rw [←Qbz,QaE,add_comm y x] at this;omega
 ·rw [Qcz h f,f]
 ·rw [add_comm,Qbp f (by omega),f]
theorem QcS {x y:S.T} (h:S.sgn y=0):S.sgn (x+y)=S.sgn x:=by rw [add_comm,QbW h]
theorem QbS {x y:S.T} (h:S.sgn x=S.sgn y):S.sgn (x+y)=S.sgn x:=by
 rcases S.sgn_way x with f | f | f
 ·have:=Qbp (S:=S) (x := -x) (y := -y) (by rw [QaE,f];decide) (by rw [QaE,←h,f];decide);rw [←Qbz,QaE] at this;omega
 ·rw [Qcz f (by omega),f]
 ·rw [Qbp f (by omega),f]
theorem Qhs {s t:Int} (hs:s = -1∨s=0∨s=1) (ht:t = -1∨t=0∨t=1) (h:s*t=1):s=t∧s≠0:=by
 rcases hs with rfl | rfl | rfl <;> rcases ht with rfl | rfl | rfl <;> simp at h ⊢
theorem Qif (u v:S.T):(u+v)*(u + -v)=u*u + -(v*v):=by
 rw [mul_add,add_mul,add_mul,mul_neg,mul_neg,mul_comm v u,add_assoc,←add_assoc (u*v),Qby,Qcy]
theorem grp1 (p q r:S.T):p + -q+(q + -r)=p + -r:=by rw [add_assoc,←add_assoc (-q),Qct,Qcy]
theorem dom {u v:S.T} (h:S.sgn (u*u + -(v*v))=1):S.sgn (u+v)=S.sgn u∧S.sgn u≠0:=by
 rw [←Qif,Qak] at h;obtain ⟨e,hn⟩:=Qhs (S.sgn_way _) (S.sgn_way _) h;have e2:u+v+(u + -v)=u+u:=by rw [add_assoc,Qaz v,Qby,Qbh]
 have e3:=QbS e;rw [e2] at e3;have e4:S.sgn (u+u)=S.sgn u:=QbS rfl;exact ⟨by omega,by omega⟩
theorem dom' {u v:S.T} (h:S.sgn (v*v + -(u*u))=1):S.sgn (u+v)=S.sgn v∧S.sgn v≠0:=by
 rw [add_comm];exact dom h
theorem eqz {u v:S.T} (h:S.sgn (u*u + -(v*v))=0) (hs:S.sgn u = - S.sgn v):S.sgn (u+v)=0:=by
 rw [←Qif,Qak] at h;rcases Int.mul_eq_zero.1 h with h1 | h1
 ·exact h1
 ·have h2:S.sgn u=S.sgn (-v):=by rw [QaE];exact hs
  have:=QbS h2;exact Qcz (by omega) (by omega)
def nrm (d a b:S.T):S.T:=a*a + -(b*b*d)
def sg2 (d:S.T) (x:S.T×S.T):Int:=if S.sgn x.2=0 then S.sgn x.1 else if S.sgn x.1=0∨S.sgn x.1=S.sgn x.2 then S.sgn x.2 else S.sgn x.1*S.sgn (nrm d x.1 x.2)
theorem Qfj {d:S.T} (hd:S.sgn d=1) (b:S.T):S.sgn (b*b*d)=S.sgn b*S.sgn b:=by rw [Qak,Qak,hd,Int.mul_one]
theorem Qqt {d:S.T} (hd:S.sgn d=1) {a b:S.T} (h:S.sgn a=0):S.sgn (nrm d a b) = -(S.sgn b*S.sgn b):=by
 rw [nrm,QbW (by rw [Qak,h];rfl),QaE,Qfj hd]
theorem QoF {d:S.T} (hd:S.sgn d=1) {a b:S.T} (h:S.sgn b=0):S.sgn (nrm d a b)=S.sgn a*S.sgn a:=by
 rw [nrm,QcS (by rw [QaE,Qfj hd,h];rfl),Qak]
theorem Qec {d:S.T} (hd:S.sgn d=1) (a b:S.T):sg2 d (a,b)=if S.sgn (nrm d a b)=1 then S.sgn a else if S.sgn (nrm d a b) = -1 then S.sgn b else if S.sgn a=S.sgn b then S.sgn a else 0:=by
 have hA:=fun h=>Qqt hd (a:=a) (b:=b) h;have hB:=fun h=>QoF hd (a:=a) (b:=b) h;have h1:=S.sgn_way a;have h2:=S.sgn_way b;have h3:=S.sgn_way (nrm d a b);show (if S.sgn b=0 then S.sgn a else if S.sgn a=0∨S.sgn a=S.sgn b then S.sgn b else S.sgn a*S.sgn (nrm d a b))=_;generalize S.sgn a=s at *
 generalize S.sgn b=t at *
 generalize S.sgn (nrm d a b)=n at *
 rcases h1 with rfl | rfl | rfl <;> rcases h2 with rfl | rfl | rfl <;> rcases h3 with rfl | rfl | rfl <;> simp at hA hB ⊢
theorem Qfk {d:S.T} (hd:S.sgn d=1) {a b:S.T} (h:S.sgn (nrm d a b)=1):sg2 d (a,b)=S.sgn a∧S.sgn a≠0:=by
 refine ⟨by rw [Qec hd,if_pos h],fun e => ?_⟩;have:=Qqt hd (b:=b) e;rcases S.sgn_way b with f | f | f <;> rw [h,f] at this <;> simp at this
theorem Qes {d:S.T} (hd:S.sgn d=1) {a b:S.T} (h:S.sgn (nrm d a b) = -1):sg2 d (a,b)=S.sgn b∧S.sgn b≠0:=by
 refine ⟨by rw [Qec hd,if_neg (by omega),if_pos h],fun e => ?_⟩;have:=QoF hd (a:=a) e;rcases S.sgn_way a with f | f | f <;> rw [h,f] at this <;> simp at this
theorem QsZ {d:S.T} (hd:S.sgn d=1) {a b:S.T} (h:S.sgn (nrm d a b)=0):(S.sgn a=S.sgn b∧sg2 d (a,b)=S.sgn a)∨(S.sgn a = - S.sgn b∧S.sgn a≠0∧sg2 d (a,b)=0):=by
 have e:=Qec hd a b;rw [if_neg (by omega),if_neg (by omega)] at e;by_cases hs:S.sgn a=S.sgn b
 ·exact .inl ⟨hs,by rw [e,if_pos hs]⟩
 ·rw [if_neg hs] at e;have hA:=fun h=>Qqt hd (a:=a) (b:=b) h;have hB:=fun h=>QoF hd (a:=a) (b:=b) h;rw [h] at hA hB;have h1:=S.sgn_way a;have h2:=S.sgn_way b;refine .inr ⟨?_, ?_,e⟩ <;> clear e <;> generalize S.sgn a=s at * <;> generalize S.sgn b=t at * <;> rcases h1 with rfl | rfl | rfl <;> rcases h2 with rfl | rfl | rfl <;> simp at hs hA hB ⊢
theorem Qkc (d a b c e:S.T):nrm d (a+c) (b+e)=nrm d a b+nrm d c e+((a*c + -(b*e*d))+(a*c + -(b*e*d))):=by
 simp only [nrm,mul_add,Qbz,mul_comm,add_comm,Qaz,add_assoc]
theorem Qqu (d a b c e:S.T):(a*c)*(a*c) + -(-(b*e*d) * -(b*e*d))=(a*a)*nrm d c e+(e*e*d)*nrm d a b:=by
 rw [nrm,nrm,mul_add,mul_add,mul_neg (a*a),mul_neg (e*e*d),mul_comm (e*e*d) (a*a),grp1,neg_mul,mul_neg,neg_neg];simp only [mul_comm,mul_left_comm]
theorem Qfl (d a b:S.T):nrm d (-a) (-b)=nrm d a b:=by
 rw [nrm,nrm,neg_mul,mul_neg,neg_neg,neg_mul b,mul_neg,neg_neg]
theorem AA {d:S.T} (hd:S.sgn d=1) {a b c e:S.T} (h1:S.sgn a=1) (h2:S.sgn (nrm d a b)=1) (h3:S.sgn c=1) (h4:S.sgn (nrm d c e)=1):S.sgn (nrm d (a+c) (b+e))=1:=by
 have hT:S.sgn (a*c + -(b*e*d))=1:=by
  rw [(dom (u:=a*c) (v := -(b*e*d)) ?_).1,Qak,h1,h3];rfl;rw [Qqu];refine Qbp (by rw [Qak,Qak,h1,h4];rfl) ?_;rw [Qak,h2,Int.mul_one,Qfj hd];rcases S.sgn_way e with f | f | f <;> rw [f] <;> decide
 rw [Qkc];exact Qbp (Qbp h2 (by omega)) (by rw [QbS rfl,hT];decide)
theorem BB {d:S.T} (hd:S.sgn d=1) {a b c e:S.T} (h1:S.sgn b=1) (h2:S.sgn (nrm d a b) = -1) (h3:S.sgn e=1) (h4:S.sgn (nrm d c e) = -1):S.sgn (nrm d (a+c) (b+e)) = -1:=by
 have hT:S.sgn (a*c + -(b*e*d)) = -1:=by
  rw [(dom' (u:=a*c) (v := -(b*e*d)) ?_).1,QaE,Qak,Qak,h1,h3,hd];rfl;rw [show -(b*e*d) * -(b*e*d) + -(a*c*(a*c)) = -((a*c)*(a*c) + -(-(b*e*d) * -(b*e*d))) by rw [Qbz,neg_neg,add_comm],Qqu,Qbz];rw [add_comm];refine Qbp (by rw [QaE,Qak,h2,Qfj hd,h3];rfl) ?_;rw [QaE,Qak,h4,Qak];rcases S.sgn_way a with f | f | f <;> rw [f] <;> decide
 have e1:S.sgn (nrm d a b+nrm d c e) = -1:=by rw [QbS (by omega),h2]
 rw [Qkc,QbS (by rw [e1,QbS rfl,hT]),e1]
theorem Z0 {d:S.T} (hd:S.sgn d=1) {a b:S.T} (c e:S.T) (h1:S.sgn a=0) (h2:S.sgn b=0):S.sgn (nrm d (a+c) (b+e))=S.sgn (nrm d c e):=by
 have hT:S.sgn (a*c + -(b*e*d))=0:=Qcz (by rw [Qak,h1,Int.zero_mul]) (by rw [QaE,Qak,Qak,h2];simp);rw [Qkc,QcS (Qcz hT hT),QbW (by rw [QoF hd h2,h1];rfl)]
theorem lin {d:S.T} (hd:S.sgn d=1) {c e:S.T} (hc:S.sgn c=1) (he:S.sgn e=1) (hn:S.sgn (nrm d c e)=0) (a b:S.T):sg2 d (a,b)=S.sgn (e*a+c*b):=by
 have key:(e*a)*(e*a) + -((c*b)*(c*b))=(e*e)*nrm d a b + -((b*b)*nrm d c e):=by
  rw [nrm,nrm,mul_add,mul_neg,mul_add,mul_neg,Qbz,neg_neg,show (b*b)*(e*e*d)=(e*e)*(b*b*d) by simp only [mul_comm,mul_left_comm],add_comm (-(b*b*(c*c))),grp1];simp only [mul_comm,mul_left_comm]
 have ks:S.sgn ((e*a)*(e*a) + -((c*b)*(c*b)))=S.sgn (nrm d a b):=by
  rw [key,QcS (by rw [QaE,Qak,hn];simp),Qak,Qak,he];simp
 have su:S.sgn (e*a)=S.sgn a:=by rw [Qak,he,Int.one_mul]
 have sv:S.sgn (c*b)=S.sgn b:=by rw [Qak,hc,Int.one_mul]
 rcases S.sgn_way (nrm d a b) with h | h | h
 ·rw [(Qes hd h).1,(dom' ?_).1,sv];rw [show (c*b)*(c*b) + -((e*a)*(e*a)) = -((e*a)*(e*a) + -((c*b)*(c*b))) by rw [Qbz,neg_neg,add_comm],QaE,ks,h];rfl
 ·rcases QsZ hd h with ⟨h1,h2⟩ | ⟨h1,_,h2⟩
  ·rw [h2,QbS (by omega),su]
  ·rw [h2,eqz (by rw [ks,h]) (by omega)]
 ·rw [(Qfk hd h).1,(dom (by rw [ks,h])).1,su]
theorem Qed {d:S.T} (hd:S.sgn d=1) (hF:¬ ∃ c e:S.T,S.sgn c=1∧S.sgn e=1∧S.sgn (nrm d c e)=0) {a b:S.T} (h:S.sgn (nrm d a b)=0):S.sgn a=0∧S.sgn b=0:=by
 have hsa:∀ x:S.T,(-x)*(-x)=x*x:=fun x=>by rw [neg_mul,mul_neg,neg_neg]
 have hab:∀ x y:S.T,nrm d (-x) y=nrm d x y:=fun x y=>by rw [nrm,nrm,hsa]
 have hba:∀ x y:S.T,nrm d x (-y)=nrm d x y:=fun x y=>by rw [nrm,nrm,hsa]
 have hA:=fun h=>Qqt hd (a:=a) (b:=b) h;have hB:=fun h=>QoF hd (a:=a) (b:=b) h;rw [h] at hA hB;rcases S.sgn_way a with f | f | f <;> rcases S.sgn_way b with g | g | g
 ·exact absurd ⟨-a, -b,by rw [QaE,f];rfl,by rw [QaE,g];rfl,by rw [hab,hba,h]⟩ hF
 ·have:=hB g;rw [f] at this;simp at this
 ·exact absurd ⟨-a,b,by rw [QaE,f];rfl,g,by rw [hab,h]⟩ hF
 ·have:=hA f;rw [g] at this;simp at this
 ·exact ⟨f,g⟩
 ·have:=hA f;rw [g] at this;simp at this
 ·exact absurd ⟨a, -b,f,by rw [QaE,g];rfl,by rw [hba,h]⟩ hF
 ·have:=hB g;rw [f] at this;simp at this
 ·exact absurd ⟨a,b,f,g,h⟩ hF
theorem Qta (d:S.T) (x:S.T×S.T):sg2 d x = -1∨sg2 d x=0∨sg2 d x=1:=by
 rw [sg2];have h1:=S.sgn_way x.1;have h2:=S.sgn_way x.2;have h3:=S.sgn_way (nrm d x.1 x.2);generalize S.sgn x.1=s at *
 generalize S.sgn x.2=t at *
 generalize S.sgn (nrm d x.1 x.2)=n at *
 rcases h1 with rfl | rfl | rfl <;> rcases h2 with rfl | rfl | rfl <;> rcases h3 with rfl | rfl | rfl <;> simp
theorem Qtb {d:S.T} (hd:S.sgn d=1) (a b:S.T):sg2 d (-a, -b) = - sg2 d (a,b):=by
 rw [Qec hd,Qec hd,Qfl,QaE,QaE];have h1:=S.sgn_way a;have h2:=S.sgn_way b;have h3:=S.sgn_way (nrm d a b);generalize S.sgn a=s at *
 generalize S.sgn b=t at *
 generalize S.sgn (nrm d a b)=n at *
 rcases h1 with rfl | rfl | rfl <;> rcases h2 with rfl | rfl | rfl <;> rcases h3 with rfl | rfl | rfl <;> simp
theorem Qtc {d:S.T} (hd:S.sgn d=1) {a b c e:S.T} (h1:sg2 d (a,b)=0) (h2:sg2 d (c,e)=0):sg2 d (a+c,b+e)=0:=by
 by_cases hZ:∃ p q:S.T,S.sgn p=1∧S.sgn q=1∧S.sgn (nrm d p q)=0
 ·obtain ⟨p,q,hp,hq,hn⟩:=hZ;rw [lin hd hp hq hn] at h1 h2 ⊢;rw [show q*(a+c)+p*(b+e)=(q*a+p*b)+(q*c+p*e) by simp only [mul_add,add_comm,Qaz,add_assoc]];exact Qcz h1 h2
 ·have zz:∀ x y:S.T,sg2 d (x,y)=0→S.sgn x=0∧S.sgn y=0:=fun x y h=>by
   rcases S.sgn_way (nrm d x y) with f | f | f
   ·have:=Qes hd f;omega
   ·exact Qed hd hZ f
   ·have:=Qfk hd f;omega
  obtain ⟨a0,b0⟩:=zz a b h1;obtain ⟨c0,e0⟩:=zz c e h2;rw [sg2];rw [if_pos (Qcz b0 e0)];exact Qcz a0 c0
theorem Qtd {d:S.T} (hd:S.sgn d=1) {a b c e:S.T} (h1:sg2 d (a,b)=1) (h2:0≤sg2 d (c,e)):sg2 d (a+c,b+e)=1:=by
 by_cases hZ:∃ p q:S.T,S.sgn p=1∧S.sgn q=1∧S.sgn (nrm d p q)=0
 ·obtain ⟨p,q,hp,hq,hn⟩:=hZ;rw [lin hd hp hq hn] at h1 h2 ⊢;rw [show q*(a+c)+p*(b+e)=(q*a+p*b)+(q*c+p*e) by simp only [mul_add,add_comm,Qaz,add_assoc]];exact Qbp h1 h2
 ·have way:∀ x y:S.T,0≤sg2 d (x,y)→(S.sgn x=1∧S.sgn (nrm d x y)=1)∨(S.sgn y=1∧S.sgn (nrm d x y) = -1)∨(S.sgn x=0∧S.sgn y=0∧sg2 d (x,y)=0):=fun x y h=>by
   rcases S.sgn_way (nrm d x y) with f | f | f
   ·have:=Qes hd f;have:=S.sgn_way y;exact .inr (.inl ⟨by omega,f⟩)
   ·obtain ⟨x0,y0⟩:=Qed hd hZ f;exact .inr (.inr ⟨x0,y0,by rw [sg2,if_pos y0];exact x0⟩)
   ·have:=Qfk hd f;have:=S.sgn_way x;exact .inl ⟨by omega,f⟩
  have mix:∀ a b c e:S.T,S.sgn a=1→S.sgn (nrm d a b)=1→S.sgn e=1→S.sgn (nrm d c e) = -1→sg2 d (a+c,b+e)=1:=fun a b c e ha hx he hy=>by
   have ga:∀ x y:S.T,x + -(x+y) = -y:=fun x y=>by rw [Qbz,←add_assoc,Qby,Qcy]
   have gb:∀ x y:S.T,y + -(x+y) = -x:=fun x y=>by rw [add_comm x y,ga]
   rcases S.sgn_way (nrm d (a+c) (b+e)) with f | f | f
   ·have k:=Qes hd f;rcases S.sgn_way (b+e) with g | g | g
    ·have:=BB hd he hy (b:=e) (a:=c) (c := -(a+c)) (e := -(b+e)) (by rw [QaE,g];rfl) (by rw [Qfl,f]);rw [gb,gb,Qfl] at this;omega
    ·omega
    ·omega
   ·obtain ⟨x0,y0⟩:=Qed hd hZ f;have:=Z0 hd (-c) (-e) x0 y0;rw [show a+c + -c=a by rw [add_assoc,Qby,Qbh],show b+e + -e=b by rw [add_assoc,Qby,Qbh],Qfl] at this;omega
   ·have k:=Qfk hd f;rcases S.sgn_way (a+c) with g | g | g
    ·have:=AA hd ha hx (c := -(a+c)) (e := -(b+e)) (by rw [QaE,g];rfl) (by rw [Qfl,f]);rw [ga,ga,Qfl] at this;omega
    ·omega
    ·omega
  rcases way a b (by omega) with ⟨ha,hx⟩ | ⟨hb,hx⟩ | ⟨_,_,hx⟩
  ·rcases way c e h2 with ⟨hc,hy⟩ | ⟨he,hy⟩ | ⟨hc,he,_⟩
   ·rw [(Qfk hd (AA hd ha hx hc hy)).1,Qbp ha (by omega)]
   ·exact mix a b c e ha hx he hy
   ·have:=Z0 hd a b hc he;rw [add_comm a c,add_comm b e,(Qfk hd (by rw [this,hx])).1,QbW hc,ha]
  ·rcases way c e h2 with ⟨hc,hy⟩ | ⟨he,hy⟩ | ⟨hc,he,_⟩
   ·rw [add_comm a c,add_comm b e];exact mix c e a b hc hy hb hx
   ·rw [(Qes hd (BB hd hb hx he hy)).1,Qbp hb (by omega)]
   ·have:=Z0 hd a b hc he;rw [add_comm a c,add_comm b e,(Qes hd (by rw [this,hx])).1,QbW he,hb]
  ·omega
theorem Qte (d a b c e:S.T):nrm d (a*c+b*e*d) (a*e+b*c)=nrm d a b*nrm d c e:=by
 have e1:(a*c+b*e*d)*(a*c+b*e*d)=a*a*(c*c)+b*b*d*(e*e*d)+(a*c*(b*e*d)+a*c*(b*e*d)):=by
  simp only [mul_add,mul_comm,mul_left_comm,add_comm,Qaz,add_assoc]
 have e2:(a*e+b*c)*(a*e+b*c)*d=a*a*(e*e*d)+b*b*d*(c*c)+(a*c*(b*e*d)+a*c*(b*e*d)):=by
  simp only [mul_add,mul_comm,mul_left_comm,add_comm,Qaz,add_assoc]
 have e3:nrm d a b*nrm d c e=a*a*(c*c)+b*b*d*(e*e*d) + -(a*a*(e*e*d)+b*b*d*(c*c)):=by
  rw [nrm,nrm,mul_add,add_mul,add_mul,neg_mul,neg_mul,mul_neg,mul_neg,neg_neg,Qbz];simp only [add_comm,Qaz,add_assoc]
 rw [nrm,e1,e2,e3];generalize a*a*(c*c)+b*b*d*(e*e*d)=X;generalize a*a*(e*e*d)+b*b*d*(c*c)=Y;generalize a*c*(b*e*d)+a*c*(b*e*d)=M;rw [add_comm Y M,Qbz,add_assoc,←add_assoc M,Qby,Qcy]
theorem Qtf {d:S.T} (hd:S.sgn d=1) (a b c e:S.T):sg2 d (a*c+b*e*d,a*e+b*c)=sg2 d (a,b)*sg2 d (c,e):=by
 by_cases hZ:∃ p q:S.T,S.sgn p=1∧S.sgn q=1∧S.sgn (nrm d p q)=0
 ·obtain ⟨p,q,hp,hq,hn⟩:=hZ;rw [lin hd hp hq hn,lin hd hp hq hn,lin hd hp hq hn,←Qak]
  have key:q*(q*(a*c+b*e*d)+p*(a*e+b*c))+b*e*nrm d p q=(q*a+p*b)*(q*c+p*e):=by
   have e1:b*e*nrm d p q=b*e*(p*p) + -(q*(q*(b*e*d))):=by
    rw [nrm,mul_add,mul_neg,show b*e*(q*q*d)=q*(q*(b*e*d)) by simp only [mul_comm,mul_left_comm]]
   have e2:(q*a+p*b)*(q*c+p*e)=q*(q*(a*c))+q*(p*(a*e+b*c))+b*e*(p*p):=by
    simp only [mul_add,mul_comm,mul_left_comm,add_comm,Qaz,add_assoc]
   rw [e1,e2,mul_add q,mul_add q (a*c),mul_add q (q*(a*c))];generalize q*(q*(a*c))=X;generalize q*(q*(b*e*d))=Y;generalize q*(p*(a*e+b*c))=Z;generalize b*e*(p*p)=V;rw [add_assoc X,add_assoc X,add_assoc X,add_comm Y Z,add_assoc Z,add_comm V,←add_assoc Y,Qby,Qcy]
  rw [←key,QcS (x:=q*(q*(a*c+b*e*d)+p*(a*e+b*c))) (y:=b*e*nrm d p q) (by rw [Qak,hn];simp),Qak q,hq,Int.one_mul]
 ·have hN:=Qte d a b c e
  have zero:∀ x y p q:S.T,S.sgn x=0→S.sgn y=0→S.sgn (x*p+y*q*d)=0∧S.sgn (x*q+y*p)=0:=fun x y p q hx hy =>
   ⟨Qcz (by rw [Qak,hx];simp) (by rw [Qak,Qak,hy];simp),Qcz (by rw [Qak,hx];simp) (by rw [Qak,hy];simp)⟩
  have nil2:∀ x y:S.T,S.sgn x=0→S.sgn y=0→sg2 d (x,y)=0:=fun x y hx hy=>by rw [sg2,if_pos hy];exact hx
  have hNs:=Qak (nrm d a b) (nrm d c e);rw [←hN] at hNs;rcases S.sgn_way (nrm d a b) with f | f | f
  ·rcases S.sgn_way (nrm d c e) with g | g | g
   ·rw [f,g] at hNs;rw [(Qfk hd hNs).1,(Qes hd f).1,(Qes hd g).1,(dom' ?_).1,Qak,Qak,hd,Int.mul_one];have:=Qqu d a b c e;rw [neg_mul,mul_neg,neg_neg] at this;rw [show b*e*d*(b*e*d) + -(a*c*(a*c)) = -(a*c*(a*c) + -(b*e*d*(b*e*d))) by rw [Qbz,neg_neg,add_comm],this,Qbz,add_comm];refine Qbp ?_ ?_
    ·rw [QaE,Qak,f,Qfj hd];have:=(Qes hd g).2;rcases S.sgn_way e with h | h | h <;> rw [h] <;> first | rfl | exact absurd h this
    ·rw [QaE,Qak,g,Qak];rcases S.sgn_way a with h | h | h <;> rw [h] <;> decide
   ·obtain ⟨c0,e0⟩:=Qed hd hZ g;have z:=zero c e a b c0 e0;rw [nil2 c e c0 e0,Int.mul_zero];refine nil2 _ _ ?_ ?_
    ·rw [mul_comm a c,mul_comm b e];exact z.1
    ·rw [mul_comm a e,mul_comm b c,add_comm];exact z.2
   ·rw [f,g] at hNs;rw [(Qes hd hNs).1,(Qes hd f).1,(Qfk hd g).1,(dom' ?_).1,Qak]
    rw [show b*c*(b*c) + -(a*e*(a*e))=(b*b)*nrm d c e + -(e*e*nrm d a b) by
     rw [nrm,nrm,mul_add,mul_neg,mul_add,mul_neg,Qbz,neg_neg,show e*e*(b*b*d)=b*b*(e*e*d) by simp only [mul_comm,mul_left_comm],add_comm (-(e*e*(a*a))),grp1];simp only [mul_comm,mul_left_comm]]
    refine Qbp ?_ ?_
    ·rw [Qak,g,Qak];have:=(Qes hd f).2;rcases S.sgn_way b with h | h | h <;> rw [h] <;> first | rfl | exact absurd h this
    ·rw [QaE,Qak,f,Qak];rcases S.sgn_way e with h | h | h <;> rw [h] <;> decide
  ·obtain ⟨a0,b0⟩:=Qed hd hZ f;have z:=zero a b c e a0 b0;rw [nil2 a b a0 b0,Int.zero_mul];exact nil2 _ _ z.1 z.2
  ·rcases S.sgn_way (nrm d c e) with g | g | g
   ·rw [f,g] at hNs;rw [(Qes hd hNs).1,(Qfk hd f).1,(Qes hd g).1,(dom ?_).1,Qak]
    rw [show a*e*(a*e) + -(b*c*(b*c))=(e*e)*nrm d a b + -(b*b*nrm d c e) by
     rw [nrm,nrm,mul_add,mul_neg,mul_add,mul_neg,Qbz,neg_neg,show b*b*(e*e*d)=e*e*(b*b*d) by simp only [mul_comm,mul_left_comm],add_comm (-(b*b*(c*c))),grp1];simp only [mul_comm,mul_left_comm]]
    refine Qbp ?_ ?_
    ·rw [Qak,f,Qak];have:=(Qes hd g).2;rcases S.sgn_way e with h | h | h <;> rw [h] <;> first | rfl | exact absurd h this
    ·rw [QaE,Qak,g,Qak];rcases S.sgn_way b with h | h | h <;> rw [h] <;> decide
   ·obtain ⟨c0,e0⟩:=Qed hd hZ g;have z:=zero c e a b c0 e0;rw [nil2 c e c0 e0,Int.mul_zero];refine nil2 _ _ ?_ ?_
    ·rw [mul_comm a c,mul_comm b e];exact z.1
    ·rw [mul_comm a e,mul_comm b c,add_comm];exact z.2
   ·rw [f,g] at hNs;rw [(Qfk hd hNs).1,(Qfk hd f).1,(Qfk hd g).1,(dom ?_).1,Qak];have:=Qqu d a b c e;rw [neg_mul,mul_neg,neg_neg] at this;rw [this];refine Qbp ?_ ?_
    ·rw [Qak,g,Qak];have:=(Qfk hd f).2;rcases S.sgn_way a with h | h | h <;> rw [h] <;> first | rfl | exact absurd h this
    ·rw [Qak,f,Qfj hd];rcases S.sgn_way e with h | h | h <;> rw [h] <;> decide
end SR
open SR in
def ext (S:SR) (d:S.T) (hd:S.sgn d=1):SR where
 T:=S.T×S.T
 add x y:=(x.1+y.1,x.2+y.2)
 mul x y:=(x.1*y.1+x.2*y.2*d,x.1*y.2+x.2*y.1)
 neg x:=(-x.1, -x.2)
 zer:=(S.zer,S.zer)
 one:=(S.one,S.zer)
 sgn:=sg2 d
 add_comm' x y:=by rw [add_comm x.1,add_comm x.2]
 add_assoc' x y z:=by simp only [add_assoc]
 add_zer' x:=by simp only [Qbh]
 add_neg' x:=by simp only [Qby]
 mul_comm' x y:=by rw [mul_comm x.1 y.1,mul_comm x.2 y.2,mul_comm x.1 y.2,mul_comm x.2 y.1,add_comm (y.2*x.1)]
 mul_assoc' x y z:=by simp only [mul_add,mul_comm,mul_left_comm,add_comm,Qaz,add_assoc]
 mul_one' x:=by simp only [mul_one,Qdt,QcR,Qbh,Qcy]
 mul_add' x y z:=by simp only [mul_add,add_mul,Qaz,add_assoc]
 sgn_way:=Qta d
 sgn_mul' x y:=Qtf hd x.1 x.2 y.1 y.2
 sgn_neg' x:=Qtb hd x.1 x.2
 sgn_pos' x y h h':=Qtd hd h h'
 sgn_nil' x y h h':=Qtc hd h h'
 sgn_one:=by show sg2 d (S.one,S.zer)=1;rw [sg2,if_pos QdN];exact S.sgn_one
def sgR (x:Rat):Int:=if x<0 then -1 else if x=0 then 0 else 1
theorem Qfm {x:Rat} (h:x<0):sgR x = -1:=by rw [sgR,if_pos h]
theorem Qdu {x:Rat} (h:0<x):sgR x=1:=by rw [sgR,if_neg (Rat.not_lt.2 (Rat.le_of_lt h)),if_neg (fun e=>by rw [e] at h;exact Rat.lt_irrefl h)]
theorem QcZ:sgR 0=0:=by rw [sgR,if_neg Rat.lt_irrefl,if_pos rfl]
theorem Qcn (x:Rat):(x<0∧sgR x = -1)∨(x=0∧sgR x=0)∨(0<x∧sgR x=1):=by
 by_cases h:x<0
 ·exact .inl ⟨h,Qfm h⟩
 ·by_cases h0:x=0
  ·exact .inr (.inl ⟨h0,by rw [h0,QcZ]⟩)
  ·have:0<x:=by grind
   exact .inr (.inr ⟨this,Qdu this⟩)
def ratS:SR where
 T:=Rat
 add x y:=x+y
 mul x y:=x*y
 neg x := -x
 zer:=0
 one:=1
 sgn x:=sgR x
 add_comm':=Rat.add_comm
 add_assoc':=Rat.add_assoc
 add_zer':=Rat.add_zero
 add_neg':=Rat.add_neg_cancel
 mul_comm':=Rat.mul_comm
 mul_assoc':=Rat.mul_assoc
 mul_one':=Rat.mul_one
 mul_add':=Rat.mul_add
 sgn_way x:=(Qcn x).elim (fun h => .inl h.2) (fun h=>h.elim (fun h => .inr (.inl h.2)) (fun h => .inr (.inr h.2)))
 sgn_mul' x y:=by
  rcases Qcn x with ⟨h,e⟩ | ⟨rfl,e⟩ | ⟨h,e⟩
  ·rcases Qcn y with ⟨k,f⟩ | ⟨rfl,f⟩ | ⟨k,f⟩
   ·have:=Rat.mul_pos (show 0 < -x by grind) (show 0 < -y by grind);rw [e,f,Qdu (by grind)];rfl
   ·rw [Rat.mul_zero,e,QcZ];rfl
   ·have:=Rat.mul_pos (show 0 < -x by grind) k;rw [e,f,Qfm (by grind)];rfl
  ·rw [Rat.zero_mul,QcZ,Int.zero_mul]
  ·rcases Qcn y with ⟨k,f⟩ | ⟨rfl,f⟩ | ⟨k,f⟩
   ·have:=Rat.mul_pos h (show 0 < -y by grind);rw [e,f,Qfm (by grind)];rfl
   ·rw [Rat.mul_zero,e,QcZ];rfl
   ·rw [e,f,Qdu (Rat.mul_pos h k)];rfl
 sgn_neg' x:=by
  rcases Qcn x with ⟨h,e⟩ | ⟨rfl,e⟩ | ⟨h,e⟩
  ·rw [e,Qdu (by grind)];rfl
  ·rw [Rat.neg_zero,QcZ];rfl
  ·rw [e,Qfm (by grind)]
 sgn_pos' x y h h':=by
  rcases Qcn x with ⟨_,e⟩ | ⟨_,e⟩ | ⟨k,_⟩
  ·rw [e] at h;cases h
  ·rw [e] at h;cases h
  ·rcases Qcn y with ⟨_,f⟩ | ⟨rfl,_⟩ | ⟨m,_⟩
   ·rw [f] at h';exact absurd h' (by decide)
   ·rw [Rat.add_zero];exact h
   ·exact Qdu (by grind)
 sgn_nil' x y h h':=by
  rcases Qcn x with ⟨_,e⟩ | ⟨rfl,_⟩ | ⟨_,e⟩
  ·rw [e] at h;cases h
  ·rw [Rat.zero_add];exact h'
  ·rw [e] at h;cases h
 sgn_one:=Qdu (by decide)
end Tw
end Go.Proofs.YtadcmepaniiciaaGreatDoor
