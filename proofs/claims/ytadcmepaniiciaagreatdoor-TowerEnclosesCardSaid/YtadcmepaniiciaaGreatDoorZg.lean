import Derived.Test.YtadcmepaniiciaaGreatDoorZa
import Derived.Test.YtadcmepaniiciaaGreatDoorZf
set_option maxRecDepth 1000000
set_option maxHeartbeats 40000000
open Go.Value renaming string→Z
open Go.Obj renaming cells→O
namespace Go.Proofs.YtadcmepaniiciaaGreatDoor
section
namespace En
open Go.RowKit Go.Extern.Stop Go.Stop Go.Extern
open Go.Proofs.YtadcmepaniiciaaGreatDoor.Nm Go.Proofs.YtadcmepaniiciaaGreatDoor.Rt
def pq (r:Rat):P2:=(txt r.num,txt (r.den:Int))
def iq (p q:Rat):Value:=.agg #[Z (txt p.num),Z (txt (p.den:Int)),Z (txt q.num),Z (txt (q.den:Int))]
theorem QsN {p q:Rat} (h:p≠q):((txt p.num).toList == (txt q.num).toList)=false∨(((txt p.num).toList == (txt q.num).toList)=true∧((txt (p.den:Int)).toList == (txt (q.den:Int)).toList)=false):=by
 rw [QcU,QcU];by_cases h1:txt p.num=txt q.num
 ·right;refine ⟨decide_eq_true h1,decide_eq_false (fun h2=>h (QfJ (Prod.ext h1 h2)))⟩
 ·exact .inl (decide_eq_false h1)
theorem Qrn (p q:Rat) (h:p≠q):decide (cmpQ p q<0)=decide (p≤q):=by
 rw [decide_eq_decide];rcases Qcs p q with ⟨e,h1⟩ | ⟨_,h1⟩ | ⟨e,h1⟩
 ·rw [e];exact ⟨fun _=>Rat.le_of_lt h1,fun _=>by decide⟩
 ·exact absurd h1 h
 ·rw [e];exact ⟨fun h2=>absurd h2 (by decide),fun h2=>absurd h2 (Rat.not_le.2 h1)⟩
theorem QkS {p q:Rat} (hp:FitQ p) (hq:FitQ q):Ret 82 #[frc (pq p).1 (pq p).2,frc (pq q).1 (pq q).2] (.bool (decide (p≤q))):=by
 by_cases h:p=q
 ·subst h;rw [decide_eq_true (Rat.le_refl)];exact QjE _ _
 ·rw [←Qrn p q h];exact Qix _ _ _ _ _ (fun W=>QgB hp hq W) (QsN h)
theorem Qqh {p q:Rat} (hp:FitQ p) (hq:FitQ q):Ret 133 #[frc (pq p).1 (pq p).2,frc (pq q).1 (pq q).2] (.bool (decide (q≤p))):=QlD _ _ _ _ _ (QkS hq hp)
theorem Qia {p:Rat} (hp:FitQ p):Ret 65 #[.agg #[Z (txt p.num),Z (txt (p.den:Int))]] (.bool true):=fun W=>by
 have:=Qgm (txt p.num) (txt (p.den:Int)) hp.size.1 hp.size.2 W;rw [QdG hp] at this;exact this
theorem QcE {p q:Rat} (hp:FitQ p) (hq:FitQ q):Ret 129 #[iq p q] (.bool (decide (p≤q))):=by
 by_cases h:p=q
 ·subst h;rw [decide_eq_true (Rat.le_refl)];exact fun W=>QlC _ _ true (Qia hp) W
 ·rw [←Qrn p q h];exact fun W=>QjD _ _ _ _ _ (fun W=>QgB hp hq W) (QsN h) W
theorem QsO {r:Rat} (hr:FitQ r):Ret 84 #[.agg #[Z (txt r.num),Z (txt (r.den:Int))]] (iq r r):=QmY _ _ true (Qia hr)
noncomputable def valP (s:P2):Rat:=(qOf s.1 s.2).getD 0
noncomputable def AL (s t:P2):Bool:=decide (valP s≤valP t)
noncomputable def AG (s t:P2):Bool:=decide (valP t≤valP s)
def PQ (s:P2):Prop:=∃ r,FitQ r∧s=pq r
theorem Qfr {r:Rat} (h:FitQ r):valP (pq r)=r:=by rw [valP,pq,QdG h];rfl
theorem Qro (p q:P2) (hp:PQ p) (hq:PQ q):Ret 82 #[frc p.1 p.2,frc q.1 q.2] (.bool (AL p q)):=by
 obtain ⟨r,hr,rfl⟩:=hp;obtain ⟨s,hs,rfl⟩:=hq;rw [AL,Qfr hr,Qfr hs];exact QkS hr hs
theorem Qrp (p q:P2) (hp:PQ p) (hq:PQ q):Ret 133 #[frc p.1 p.2,frc q.1 q.2] (.bool (AG p q)):=by
 obtain ⟨r,hr,rfl⟩:=hp;obtain ⟨s,hs,rfl⟩:=hq;rw [AG,Qfr hr,Qfr hs];exact Qqh hr hs
theorem QgD (A:P2→P2→Bool) (L:Nat→P2) (k:Nat):QdB A L (k+2)=if A (L (k+1)) (QdB A L (k+1)) then L (k+1) else QdB A L (k+1):=rfl
theorem QkT (L:Nat→P2) (ev:Nat→Rat):∀ k,(∀ t,t≤k→FitQ (ev t)∧L t=pq (ev t))→∃ i,i≤k∧QdB AL L (k+1)=pq (ev i)∧∀ j,j≤k→ev i≤ev j
 | 0,h=>⟨0,Nat.le_refl _,(h 0 Lr).2,fun j hj=>by obtain rfl:j=0:=(by omega);exact Rat.le_refl⟩
 | k+1,h=>by
  obtain ⟨i,hi,e,hall⟩:=QkT L ev k (fun t ht=>h t (by omega));rw [QgD,e,(h (k+1) Lr).2,AL,Qfr (h (k+1) Lr).1,Qfr (h i (by omega)).1];by_cases hc:ev (k+1)≤ev i
  ·rw [if_pos (decide_eq_true hc)];refine ⟨k+1,Nat.le_refl _,rfl,fun j hj => ?_⟩;rcases Nat.lt_or_ge j (k+1) with h1 | h1
   ·exact Rat.le_trans hc (hall j (by omega))
   ·obtain rfl:j=k+1:=by omega
    exact Rat.le_refl
  ·rw [if_neg (by simpa using hc)];refine ⟨i,by omega,rfl,fun j hj => ?_⟩;rcases Nat.lt_or_ge j (k+1) with h1 | h1
   ·exact hall j (by omega)
   ·obtain rfl:j=k+1:=by omega
    exact Rat.le_of_lt (Rat.not_le.1 hc)
theorem QgE (L:Nat→P2) (ev:Nat→Rat):∀ k,(∀ t,t≤k→FitQ (ev t)∧L t=pq (ev t))→∃ i,i≤k∧QdB AG L (k+1)=pq (ev i)∧∀ j,j≤k→ev j≤ev i
 | 0,h=>⟨0,Nat.le_refl _,(h 0 Lr).2,fun j hj=>by obtain rfl:j=0:=(by omega);exact Rat.le_refl⟩
 | k+1,h=>by
  obtain ⟨i,hi,e,hall⟩:=QgE L ev k (fun t ht=>h t (by omega));rw [QgD,e,(h (k+1) Lr).2,AG,Qfr (h (k+1) Lr).1,Qfr (h i (by omega)).1];by_cases hc:ev i≤ev (k+1)
  ·rw [if_pos (decide_eq_true hc)];refine ⟨k+1,Nat.le_refl _,rfl,fun j hj => ?_⟩;rcases Nat.lt_or_ge j (k+1) with h1 | h1
   ·exact Rat.le_trans (hall j (by omega)) hc
   ·obtain rfl:j=k+1:=by omega
    exact Rat.le_refl
  ·rw [if_neg (by simpa using hc)];refine ⟨i,by omega,rfl,fun j hj => ?_⟩;rcases Nat.lt_or_ge j (k+1) with h1 | h1
   ·exact hall j (by omega)
   ·obtain rfl:j=k+1:=by omega
    exact Rat.le_of_lt (Rat.not_le.1 hc)
def en (p q:Rat) (i:Nat):Rat:=if i=0 then p else q
noncomputable def ne_ (p q:Rat):Nat:=if p=q then 1 else 2
theorem QkU (p q:Rat):QmU (iq p q) (ne_ p q) (fun i=>pq (en p q i)):=by
 by_cases h:p=q
 ·subst h;rw [ne_,if_pos rfl];exact QmV _ _ _ rfl
 ·rw [ne_,if_neg h];exact QlE _ _ _ _ _ rfl rfl (QsN h)
theorem ne_b (p q:Rat):1≤ne_ p q∧ne_ p q≤2:=by rw [ne_];split <;> omega
theorem QfA (p q:Rat) (i:Nat):en p q i=p∨en p q i=q:=by rw [en];split <;> simp
theorem QkV {p q u:Rat} (h:u=p∨u=q):∃ i,i<ne_ p q∧en p q i=u:=by
 by_cases he:p=q
 ·subst he;refine ⟨0,by rw [ne_,if_pos rfl];omega, ?_⟩;rcases h with rfl | rfl <;> rfl
 ·rw [ne_,if_neg he];rcases h with rfl | rfl
  ·exact ⟨0,by omega,rfl⟩
  ·exact ⟨1,by omega,rfl⟩
theorem Qjb (i j m:Nat) (hj:j<m):(i*m+j) / m=i∧(i*m+j) % m=j:=by
 rw [Nat.mul_comm];exact ⟨by rw [Nat.mul_add_div (by omega),Nat.div_eq_of_lt hj,Nat.add_zero],by rw [Nat.mul_add_mod,Nat.mod_eq_of_lt hj]⟩
theorem Quw (a:Addr) (k:Nat) (hk:Enters Tryz.prog k) (p1 q1 p2 q2:Rat) (r:Rat→Rat→Rat)
  (hO:∀ u v,(u=p1∨u=q1)→(v=p2∨v=q2)→FitQ (r u v)∧Ret k #[frc (pq u).1 (pq u).2,frc (pq v).1 (pq v).2] (.tuple #[frc (pq (r u v)).1 (pq (r u v)).2,.int .i64 0])) :
  ∃ x y x' y',(x=p1∨x=q1)∧(y=p2∨y=q2)∧(x'=p1∨x'=q1)∧(y'=p2∨y'=q2)∧(∀ u v,(u=p1∨u=q1)→(v=p2∨v=q2)→r x y≤r u v∧r u v≤r x' y') ∧
   ∀ W:World,Ref a W→Calls Tryz.prog 163 #[.func (.func k) #[] #[],iq p1 q1,iq p2 q2] W fun e W'=>e = .returned (iq (r x y) (r x' y'))∧Below W.heap.size W W':=by
 obtain ⟨n,hn⟩:∃ n,n=ne_ p1 q1:=⟨_,rfl⟩;obtain ⟨m,hm⟩:∃ m,m=ne_ p2 q2:=⟨_,rfl⟩;have bn:=ne_b p1 q1;have bm:=ne_b p2 q2;rw [←hn] at bn;rw [←hm] at bm;have hE:=QkU p1 q1;have hD:=QkU p2 q2;rw [←hn] at hE;rw [←hm] at hD;have hnm1:1≤n*m:=Nat.mul_le_mul bn.1 bm.1;have hfit:=fun t:Nat=>(hO _ _ (QfA p1 q1 (t / m)) (QfA p2 q2 (t % m))).1;obtain ⟨i,hi,e1,h1⟩:=QkT (fun t=>pq (r (en p1 q1 (t / m)) (en p2 q2 (t % m)))) (fun t=>r (en p1 q1 (t / m)) (en p2 q2 (t % m))) (n*m-1) (fun t _=>⟨hfit t,rfl⟩);obtain ⟨j,hj,e2,h2⟩:=QgE (fun t=>pq (r (en p1 q1 (t / m)) (en p2 q2 (t % m)))) (fun t=>r (en p1 q1 (t / m)) (en p2 q2 (t % m))) (n*m-1) (fun t _=>⟨hfit t,rfl⟩);rw [show n*m-1+1=n*m by omega] at e1 e2;refine ⟨_,_,_,_,QfA p1 q1 (i / m),QfA p2 q2 (i % m),QfA p1 q1 (j / m),QfA p2 q2 (j % m), ?_, ?_⟩
 ·intro u v hu hv;obtain ⟨iu,hiu,rfl⟩:=QkV hu;obtain ⟨iv,hiv,rfl⟩:=QkV hv;rw [←hn] at hiu;rw [←hm] at hiv;have hd:=Qjb iu iv m hiv
  have hle:iu*m+iv≤n*m-1:=by
   have:=Nat.mul_le_mul_right m (show iu+1≤n by omega);rw [Nat.succ_mul] at this;omega
  have g1:=h1 _ hle;have g2:=h2 _ hle;rw [hd.1,hd.2] at g1 g2;exact ⟨g1,g2⟩
 ·intro W hW;have c:=Qfq a k hk _ _ _ _ _ _ _ _ n m bn bm _ _ hE hD (fun i j=>pq (r (en p1 q1 i) (en p2 q2 j))) (fun _ _=>0) (fun i j _ _=>(hO _ _ (QfA p1 q1 i) (QfA p2 q2 j)).2) PQ AL AG Qro Qrp (fun i j _ _ _=>⟨_,(hO _ _ (QfA p1 q1 i) (QfA p2 q2 j)).1,rfl⟩) (fun t=>pq (r (en p1 q1 (t / m)) (en p2 q2 (t % m)))) (fun i j hj=>by rw [(Qjb i j m hj).1,(Qjb i j m hj).2]) false ⟨fun _ _ _ _ _=>rfl,fun _=>rfl⟩ W hW;rw [if_pos rfl,e1,e2] at c;exact c
end En
end
section
namespace En
open Go.RowKit Go.Extern.Stop Go.Stop Go.Extern
open Go.Proofs.YtadcmepaniiciaaGreatDoor.Nm Go.Proofs.YtadcmepaniiciaaGreatDoor.Rt
open N10 (Two)
def resI:Option (Rat×Rat)→Value
 | some r => .tuple #[iq r.1 r.2,.int .i64 0]
 | none => .tuple #[ivl0,.int .i64 50]
def IC (a:Addr) (f:Nat) (args:Array Value) (o:Option (Rat×Rat)):Prop:=∀ W:World,Ref a W→Calls Tryz.prog f args W fun e W'=>e = .returned (resI o)∧Below W.heap.size W W'
def Qjc (o1 o2:Option Rat):Option (Rat×Rat):=o1.bind fun p=>o2.bind fun q=>some (p,q)
theorem Qqi (o1 o2:Option Rat):(if (true:Bool)=true∧(true:Bool)=true∧(!(decide (cd o1=0∧cd o2=0)))=false then Value.tuple #[ivl (sn o1) (sd o1) (sn o2) (sd o2),.int .i64 0] else .tuple #[ivl0,.int .i64 50])=resI (Qjc o1 o2):=by
 cases o1 <;> cases o2 <;> rfl
theorem Qom (o1 o2:Option Rat):(if (true:Bool)=true∧(!(decide (cd o1=0∧cd o2=0)))=false then Value.tuple #[ivl (sn o1) (sd o1) (sn o2) (sd o2),.int .i64 0] else .tuple #[ivl0,.int .i64 50])=resI (Qjc o1 o2):=by
 cases o1 <;> cases o2 <;> rfl
theorem Qon (a:Addr) (c1 c2:Int) (n1 d1 n2 d2:ByteArray):(if c1=0∧c2=0 then Ending.returned (.agg #[Z n1,Z d1,Z n2,Z d2]) else .panicked (refP a))=(if (!(decide (c1=0∧c2=0))) then .panicked (refP a) else .returned (ivl n1 d1 n2 d2)):=by
 by_cases h:c1=0∧c2=0
 ·rw [if_pos h,decide_eq_true h];rfl
 ·rw [if_neg h,decide_eq_false h];rfl
theorem QvM (a:Addr) {p1 q1 p2 q2:Rat} (h1:FitQ p1) (h2:FitQ q1) (h3:FitQ p2) (h4:FitQ q2) (o1:p1≤q1) (o2:p2≤q2):IC a 29 #[iq p1 q1,iq p2 q2] (Qjc (addQ p1 p2) (addQ q1 q2)):=by
 intro W hW;have v1:=QcE h1 h2;have v2:=QcE h3 h4;rw [decide_eq_true o1] at v1;rw [decide_eq_true o2] at v2;rw [←Qqi];exact QrO a _ _ _ _ _ _ _ _ _ _ _ _ true true _ (fun _ _ Bx By V hv hx hy=>(QrP a Bx By _ _ _ _ _ _ _ _ _ _ _ _ _ _ (addO (.some h1) (.some h3)) (addO (.some h2) (.some h4)) V hv hx hy).mono (fun e V' h=>⟨by rw [h.1];exact Qon _ _ _ _ _ _ _,h.2⟩)) v1 v2 W hW
theorem QvN (a:Addr) {p1 q1 p2 q2:Rat} (h1:FitQ p1) (h2:FitQ q1) (h3:FitQ p2) (h4:FitQ q2) (o1:p1≤q1) (o2:p2≤q2) (hm:∀ u v,(u=p1∨u=q1)→(v=p2∨v=q2)→mulQ u v=some (u*v)) :
  ∃ x y x' y',(x=p1∨x=q1)∧(y=p2∨y=q2)∧(x'=p1∨x'=q1)∧(y'=p2∨y'=q2)∧(∀ u v,(u=p1∨u=q1)→(v=p2∨v=q2)→x*y≤u*v∧u*v≤x'*y')∧IC a 123 #[iq p1 q1,iq p2 q2] (some (x*y,x'*y')):=by
 have hu:∀ u,(u=p1∨u=q1)→FitQ u:=fun u h=>by rcases h with rfl | rfl <;> assumption
 have hv:∀ v,(v=p2∨v=q2)→FitQ v:=fun u h=>by rcases h with rfl | rfl <;> assumption
 obtain ⟨x,y,x',y',hx,hy,hx',hy',hall,hc⟩:=Quw a 95 (enters_of Tryz.func95 (by kernel_rfl) rfl) p1 q1 p2 q2 (fun u v=>u*v) (fun u v h5 h6=>⟨FitQ.mulQ (hm u v h5 h6),fun W=>by
  have:=mulO (.some (hu u h5)) (.some (hv v h6)) W;rw [show Qbk mulQ (some u) (some v)=some (u*v) from hm u v h5 h6] at this;exact this⟩)
 refine ⟨x,y,x',y',hx,hy,hx',hy',hall,fun W hW => ?_⟩;have v1:=QcE h1 h2;have v2:=QcE h3 h4;rw [decide_eq_true o1] at v1;rw [decide_eq_true o2] at v2;exact QmR a _ _ _ _ _ _ _ _ _ _ _ _ true true false (fun _ _ Bx By V hv hx hy=>(QmX a Bx By _ _ _ _ _ _ _ _ _ _ _ _ false (fun V' hV'=>hc V' hV') V hv hx hy)) v1 v2 W hW
end En
end
section
namespace En
open Go.RowKit Go.Extern.Stop Go.Stop Go.Extern
open Go.Proofs.YtadcmepaniiciaaGreatDoor.Nm Go.Proofs.YtadcmepaniiciaaGreatDoor.Rt
theorem Qoo (c:Nat) (hc:c≤30):(⟨(Lib.repeatL [48] c).toArray⟩:ByteArray).size≤1000:=by
 have h:∀ c:Fin 31,(⟨(Lib.repeatL [48] c.val).toArray⟩:ByteArray).size≤1000:=by decide +kernel
 exact h ⟨c,by omega⟩
def sqN (r:Rat) (c:Nat):Int:=r.num*10^c*10^c / (r.den:Int)
def rtN (r:Rat) (c:Nat):Nat:=sqr (sqN r c).natAbs
def exN (r:Rat) (c:Nat):Bool:=decide (r.num*10^c*10^c % (r.den:Int)=0) && decide (((rtN r c:Nat):Int)*((rtN r c:Nat):Int)=sqN r c)
theorem QgF {x y:Int} (hx:Fits x) (h:y.natAbs≤x.natAbs):Fits y:=Qas (Nat.lt_of_le_of_lt h (QbU hx))
theorem QjY {r:Rat} {c:Nat} (h0:0≤r.num) (hf2:Fits (r.num*10^c*10^c)):Fits (sqN r c)∧0≤sqN r c:=by
 have hd:(0:Int)<(r.den:Int):=by have:=r.den_pos;omega
 have hn:0≤r.num*10^c*10^c:=Int.mul_nonneg (Int.mul_nonneg h0 (Int.le_of_lt (Int.pow_pos (by decide)))) (Int.le_of_lt (Int.pow_pos (by decide)));have h1:0≤sqN r c:=Int.ediv_nonneg hn (Int.le_of_lt hd);refine ⟨QgF hf2 ?_,h1⟩;have h2:sqN r c≤r.num*10^c*10^c:=Int.ediv_le_self _ hn;generalize sqN r c=a at *
 generalize r.num*10^c*10^c=b at *
 omega
theorem Qfi {r:Rat} {c:Nat} (h0:0≤r.num) (hf2:Fits (r.num*10^c*10^c)):Fits ((rtN r c:Nat):Int)∧Fits (((rtN r c:Nat):Int)*((rtN r c:Nat):Int)):=by
 obtain ⟨h1,h2⟩:=QjY h0 hf2;have h3:=(QbJ (sqN r c).natAbs).1;have e:(((rtN r c:Nat):Int)*((rtN r c:Nat):Int)).natAbs=rtN r c*rtN r c:=by rw [Int.natAbs_mul,Int.natAbs_natCast]
 refine ⟨QgF h1 ?_,QgF h1 (by rw [e];exact h3)⟩;rw [Int.natAbs_natCast];refine Nat.le_trans ?_ h3;exact Nat.le_mul_self _
theorem Qop (a:Addr) {r:Rat} (hr:FitQ r) (h0:0≤r.num) {c:Nat} (hc:Fits ((10:Int)^c)) (hf1:Fits (r.num*10^c)) (hf2:Fits (r.num*10^c*10^c)):QgX a (txt r.num) (txt (r.den:Int)) (txt (10^c)) (txt ((rtN r c:Nat):Int)) (exN r c) false:=by
 intro W hW;obtain ⟨h1,h2⟩:=QjY h0 hf2;obtain ⟨h3,h4⟩:=Qfi h0 hf2
 have c':=root_any a (txt r.num) (txt (r.den:Int)) (txt (10^c)) (txt (r.num*10^c)) (txt (r.num*10^c*10^c)) (txt (sqN r c)) (txt (r.num*10^c*10^c % (r.den:Int))) (txt ((rtN r c:Nat):Int)) (txt (((rtN r c:Nat):Int)*((rtN r c:Nat):Int))) 0 0 0 0 (decide (r.num*10^c*10^c % (r.den:Int)=0)) (decide (((rtN r c:Nat):Int)*((rtN r c:Nat):Int)=sqN r c))
  (fun V=>by have:=QdF r.num (10^c) hr.1 hc V;rw [Qav hf1] at this;exact this)
  (fun _ V=>by have:=QdF (r.num*10^c) (10^c) hf1 hc V;rw [Qav hf2] at this;exact this)
  (fun _ _ V=>QiI _ _ hf2 hr.2 (by have:=r.den_pos;omega) V)
  (fun _ _ V=>QsM (sqN r c) h1 h2 (Go.Proofs.YtadcmepaniiciaaGreatDoor.root_any _ (by have:=Qbx h1;omega)) V)
  (QbN _)
  (fun _ _ _ _ V=>by have:=QdF _ _ h3 h3 V;rw [Qav h4] at this;exact this)
  (by rw [QcU,decide_eq_decide];exact ⟨fun h=>Qcv h,fun h=>by rw [h]⟩) W hW
 rw [if_pos ⟨rfl,rfl,rfl⟩] at c';rw [if_pos rfl];exact c'
def upN (r:Rat) (c:Nat):Int:=if exN r c then ((rtN r c:Nat):Int) else ((rtN r c:Nat):Int)+1
theorem QjZ {r:Rat} {c:Nat} (h0:0≤r.num) (hf2:Fits (r.num*10^c*10^c)):Fits (((rtN r c:Nat):Int)+1):=by
 obtain ⟨h1,h2⟩:=QjY h0 hf2;have h3:=(QbJ (sqN r c).natAbs).1;have h4:=QbU h1;refine Qas ?_;have e:(((rtN r c:Nat):Int)+1).natAbs=rtN r c+1:=by omega
 rw [e];have h5:rtN r c*rtN r c<10^200:=Nat.lt_of_le_of_lt h3 h4;rcases Nat.lt_or_ge (rtN r c) 2 with h | h
 ·refine Nat.lt_of_lt_of_le (show rtN r c+1<10 by omega) ?_;exact Nat.le_trans (Nat.le_of_eq (Nat.pow_one 10).symm) (Nat.pow_le_pow_right (by decide) (by decide))
 ·have:=Nat.mul_le_mul_right (rtN r c) h;generalize (10:Nat)^200=P at *
  omega
theorem Qux (a:Addr) {p q:Rat} (h1:FitQ p) (h2:FitQ q) (o:p≤q) (hp0:0≤p.num) (hq0:0≤q.num) {c:Nat} (hc:c≤30) (hp1:Fits (p.num*10^c)) (hp2:Fits (p.num*10^c*10^c)) (hq1:Fits (q.num*10^c)) (hq2:Fits (q.num*10^c*10^c)) :
  IC a 121 #[iq p q,.int .i64 (c:Int)] (some (Rat.divInt ((rtN p c:Nat):Int) (10^c),Rat.divInt (upN q c) (10^c))):=by
 intro W hW;have v1:=QcE h1 h2;rw [decide_eq_true o] at v1;have hf:Fits ((10:Int)^c):=Qas (Nat.lt_of_le_of_lt (QgC c hc).1 (Nat.pow_lt_pow_right (by decide) (by decide)));have hne:((10:Int)^c)≠0:=Int.ne_of_gt (QgC c hc).2;have t1:txt 1=(⟨#[49]⟩:ByteArray):=by decide +kernel
 have hup:Fits (upN q c):=by
  rw [upN];split
  ·exact (Qfi hq0 hq2).1
  ·exact QjZ hq0 hq2
 exact QhJ a _ _ _ _ _ _ _ _ _ true false (fun _ Bx Bp V hv hx hp=>(QhK a Bp Bx _ _ _ _ ⟨(Lib.repeatL [48] c).toArray⟩ (txt (10^c)) (txt ((rtN p c:Nat):Int)) (txt ((rtN q c:Nat):Int)) (txt (((rtN q c:Nat):Int)+1)) (txt (upN q c)) _ _ _ _ (c:Int) true false false (exN p c) (exN q c) ⟨fun _=>by omega,fun _=>rfl⟩
  (fun _ V'=>Qfg c hc V') (Qoo c hc) (QhV c hc) (fun _=>Qop a h1 hp0 hf hp1 hp2) (fun _=>Qop a h2 hq0 hf hq1 hq2)
  (fun _ _ _ _ V'=>by have:=Qre _ 1 (Qfi hq0 hq2).1 (Qas (by decide)) V';rw [Qav (QjZ hq0 hq2),t1] at this;exact this)
  (by rw [upN];split <;> rfl)
  (fun _ _ _ V'=>Qoi (Qfi hp0 hp2).1 hf hne rfl V') (fun _ _ _ V'=>Qoi hup hf hne rfl V') V hv hx hp).mono (fun e V' h=>⟨by rw [h.1];rfl,h.2⟩)) v1 W hW
theorem QsP {r:Rat} {c:Nat} (h0:r.num<0) (hf2:Fits (r.num*10^c*10^c)):Fits (sqN r c)∧sqN r c<0:=by
 have hd:(0:Int)<(r.den:Int):=by have:=r.den_pos;omega
 have hP:(0:Int)<10^c:=Int.pow_pos (by decide);have hn:r.num*10^c*10^c<0:=Int.mul_neg_of_neg_of_pos (Int.mul_neg_of_neg_of_pos h0 hP) hP;have h1:sqN r c<0:=Int.ediv_neg_of_neg_of_pos hn hd;refine ⟨QgF hf2 ?_,h1⟩;have h2:=Int.natAbs_ediv_le_natAbs (r.num*10^c*10^c) (r.den:Int);exact h2
theorem Qmu (a:Addr) {r:Rat} (hr:FitQ r) (h0:r.num<0) {c:Nat} (hc:Fits ((10:Int)^c)) (hf1:Fits (r.num*10^c)) (hf2:Fits (r.num*10^c*10^c)) (o:ByteArray) (ex:Bool):QgX a (txt r.num) (txt (r.den:Int)) (txt (10^c)) o ex true:=by
 intro W hW;obtain ⟨h1,h2⟩:=QsP h0 hf2
 have c':=root_any a (txt r.num) (txt (r.den:Int)) (txt (10^c)) (txt (r.num*10^c)) (txt (r.num*10^c*10^c)) (txt (sqN r c)) (txt (r.num*10^c*10^c % (r.den:Int))) ⟨#[]⟩ ⟨#[]⟩ 0 0 0 30 (decide (r.num*10^c*10^c % (r.den:Int)=0)) ((⟨#[]⟩:ByteArray).toList == (txt (sqN r c)).toList)
  (fun V=>by have:=QdF r.num (10^c) hr.1 hc V;rw [Qav hf1] at this;exact this)
  (fun _ V=>by have:=QdF (r.num*10^c) (10^c) hf1 hc V;rw [Qav hf2] at this;exact this)
  (fun _ _ V=>QiI _ _ hf2 hr.2 (by have:=r.den_pos;omega) V)
  (fun _ _ V=>Qqg (sqN r c) h1 h2 V)
  (QbN _)
  (fun _ _ h=>absurd h (by decide))
  rfl W hW
 rw [if_neg (fun h=>absurd h.2.2 (by decide))] at c';rw [if_neg (by decide)];exact c'
end En
end
section
namespace Rt
open Go.RowKit Go.Proofs.YtadcmepaniiciaaGreatDoor.Nm
open N10 (Two)
theorem Qoq (s t:ByteArray) (x y:Bool) (w:World) (h:(x && y)=false) (cV1:Two 169 #[Z s] (.bool x)) (cV2:Two 169 #[Z t] (.bool y)) :
  Calls Tryz.prog 214 #[.agg #[Z s,Z t]] w fun e w'=>e = .returned (.bool false)∧Below w.heap.size w w':=by
 rcases (show x=false∨(x=true∧y=false) by revert h;cases x <;> cases y <;> simp) with rfl | ⟨rfl,rfl⟩
 all_goals
  clear h;go_enter Tryz.func214, Tryz.ntmps214;go_wp2_with (first | (go_at_call 169; with_reducible refine (cV1.run _).mono ?_;rintro e w1 ⟨rfl,hB1⟩;obtain ⟨u1,a1⟩:=QgZ hB1;obtain ⟨x10,x11,x12,x13⟩:=Qab a1) | (go_at_call 169; with_reducible refine (cV2.run _).mono ?_;rintro e w2 ⟨rfl,hB2⟩;have u2:=u1.trans (hB2.mono u1.size);have a2:=Qac a1 hB2;obtain ⟨x20,x21,x22,x23⟩:=Qab a2) | fail);go_ret;exact ⟨rfl,u2⟩
theorem Qmv (s t:ByteArray) (c:Int) (w:World) (hc:c≤0) (cV1:Two 169 #[Z s] (.bool true)) (cV2:Two 169 #[Z t] (.bool true)) (cC:Two 170 #[Z t,Z ⟨#[48]⟩] (.int .i64 c)) :
  Calls Tryz.prog 214 #[.agg #[Z s,Z t]] w fun e w'=>e = .returned (.bool false)∧Below w.heap.size w w':=by
 go_enter Tryz.func214, Tryz.ntmps214;go_wp2_with (first | (go_at_call 169; with_reducible refine (cV1.run _).mono ?_;rintro e w1 ⟨rfl,hB1⟩;obtain ⟨u1,a1⟩:=QgZ hB1;obtain ⟨x10,x11,x12,x13⟩:=Qab a1) | (go_at_call 169; with_reducible refine (cV2.run _).mono ?_;rintro e w2 ⟨rfl,hB2⟩;have u2:=u1.trans (hB2.mono u1.size);have a2:=Qac a1 hB2;obtain ⟨x20,x21,x22,x23⟩:=Qab a2) | (go_at_call 170; with_reducible refine (cC.run _).mono ?_;rintro e w3 ⟨rfl,hB3⟩;have u3:=u2.trans (hB3.mono u2.size);have a3:=Qac a2 hB3;obtain ⟨x30,x31,x32,x33⟩:=Qab a3) | fail);go_ret;exact ⟨rfl,u3⟩
theorem Qmw (s t g:ByteArray) (b:Bool) (w:World) (hg:(g.toList == [49])=b) (cV1:Two 169 #[Z s] (.bool true)) (cV2:Two 169 #[Z t] (.bool true)) (cC:Two 170 #[Z t,Z ⟨#[48]⟩] (.int .i64 1)) (cG:Two 172 #[Z s,Z t] (.tuple #[Z g,.int .i64 0])) :
  Calls Tryz.prog 214 #[.agg #[Z s,Z t]] w fun e w'=>e = .returned (.bool b)∧Below w.heap.size w w':=by
 go_enter Tryz.func214, Tryz.ntmps214;go_wp2_with (first | (go_at_call 169; with_reducible refine (cV1.run _).mono ?_;rintro e w1 ⟨rfl,hB1⟩;obtain ⟨u1,a1⟩:=QgZ hB1;obtain ⟨x10,x11,x12,x13⟩:=Qab a1) | (go_at_call 169; with_reducible refine (cV2.run _).mono ?_;rintro e w2 ⟨rfl,hB2⟩;have u2:=u1.trans (hB2.mono u1.size);have a2:=Qac a1 hB2;obtain ⟨x20,x21,x22,x23⟩:=Qab a2) | (go_at_call 170; with_reducible refine (cC.run _).mono ?_;rintro e w3 ⟨rfl,hB3⟩;have u3:=u2.trans (hB3.mono u2.size);have a3:=Qac a2 hB3;obtain ⟨x30,x31,x32,x33⟩:=Qab a3) | (go_at_call 172; with_reducible refine (cG.run _).mono ?_;rintro e w4 ⟨rfl,hB4⟩;have u4:=u3.trans (hB4.mono u3.size);have a4:=Qac a3 hB4;obtain ⟨x40,x41,x42,x43⟩:=Qab a4) | fail);go_ret;exact ⟨rfl,u4⟩
theorem QsQ (z:Int):((txt z).toList == [49])=decide (z=1):=by
 have:=QcU (txt z) (txt 1);rw [txt_1] at this;rw [show ([49]:List UInt8)=(⟨#[49]⟩:ByteArray).toList from by decide +kernel,this,←txt_1];by_cases h:z=1
 ·subst h;simp
 ·rw [decide_eq_false h,decide_eq_false fun e=>h (Qcv e)]
theorem Qmx (s t:ByteArray) (hs:s.size≤1000000) (ht:t.size≤1000000) (w:World):Calls Tryz.prog 214 #[.agg #[Z s,Z t]] w fun e w'=>e = .returned (.bool (qOf s t).isSome)∧Below w.heap.size w w':=by
 rcases N10.both s t with ⟨x,y,rfl,rfl,hx,hy⟩ | h
 ·have cC:=Qqf hy Qfy;rw [txt_0] at cC;rw [qOf,QbC hx,QbC hy,Option.bind_some,Option.bind_some];by_cases h0:0<y
  ·have cC':Two 170 #[Z (txt y),Z ⟨#[48]⟩] (.int .i64 1):=by rwa [cmpZ,if_neg (by omega),if_neg (by omega)] at cC
   refine Qmw _ _ _ _ w ?_ (Qek hx) (Qek hy) cC' (QsE hx hy);rw [QsQ];by_cases hg:Nat.gcd x.natAbs y.natAbs=1
   ·rw [if_pos ⟨h0,hg⟩,hg];rfl
   ·rw [if_neg (fun h=>hg h.2),decide_eq_false (by omega)];rfl
  ·rw [if_neg (fun h=>h0 h.1)];refine Qmv _ _ _ w ?_ (Qek hx) (Qek hy) cC;unfold cmpZ;split
   ·omega
   ·rw [if_pos (by omega)];omega
 ·have hn:qOf s t=none:=by
   rcases h with h | h
   ·rw [qOf,QjI h];rfl
   ·rw [qOf,QjI h];cases zOf s <;> rfl
  rw [hn];exact Qoq _ _ _ _ w (N10.nb h) (Qoh s hs) (Qoh t ht)
theorem QsR (s t u v:ByteArray) (x y:Bool) (w:World) (h:(x && y)=false) (cV1:Two 214 #[.agg #[Z s,Z t]] (.bool x)) (cV2:Two 214 #[.agg #[Z u,Z v]] (.bool y)) :
  Calls Tryz.prog 233 #[.agg #[Z s,Z t],.agg #[Z u,Z v]] w fun e w'=>e = .returned (.tuple #[.agg #[Z ⟨#[]⟩,Z ⟨#[]⟩],.int .i64 40])∧Below w.heap.size w w':=by
 rcases (show x=false∨(x=true∧y=false) by revert h;cases x <;> cases y <;> simp) with rfl | ⟨rfl,rfl⟩
 all_goals
  clear h;go_enter Tryz.func233, Tryz.ntmps233;go_wp2_with (first | (go_at_call 214; with_reducible refine (cV1.run _).mono ?_;rintro e w1 ⟨rfl,hB1⟩;obtain ⟨u1,a1,b1,r1⟩:=QeQ hB1;obtain ⟨x10,x11,x12,x13⟩:=Qab a1;obtain ⟨y10,y11,y12,y13⟩:=Qab b1;obtain ⟨z10,z11,z12,z13⟩:=Qab r1) | (go_at_call 214; with_reducible refine (cV2.run _).mono ?_;rintro e w2 ⟨rfl,hB2⟩;have u2:=u1.trans (hB2.mono u1.size);have a2:=Qac a1 hB2;have b2:=Qac b1 hB2;have r2:=Qac r1 hB2;obtain ⟨x20,x21,x22,x23⟩:=Qab a2;obtain ⟨y20,y21,y22,y23⟩:=Qab b2;obtain ⟨z20,z21,z22,z23⟩:=Qab r2) | fail);have k0:=QaM w2 (w.heap.size+1+1) (Z ⟨#[]⟩) (Z ⟨#[]⟩) _ _ z20 z21;refine bodyPost_ret (v:=.tuple #[.agg #[(Z ⟨#[]⟩),(Z ⟨#[]⟩)],.int .i64 40]) (by simp [results,Tryz.results233, go_sem,k0.1,k0.2]) rfl ⟨rfl,(u2.setCell (by simp;omega) _).setCell (by simp;omega) _⟩
theorem QkW (s t u v l r:ByteArray) (e1 e2:Int) (w:World) (he:e1=30∨(e1=0∧e2=30)) (cV1:Two 214 #[.agg #[Z s,Z t]] (.bool true)) (cV2:Two 214 #[.agg #[Z u,Z v]] (.bool true)) (cM1:Two 243 #[Z s,Z u] (.tuple #[Z l,.int .i64 e1])) (cM2:Two 243 #[Z t,Z v] (.tuple #[Z r,.int .i64 e2])) :
  Calls Tryz.prog 233 #[.agg #[Z s,Z t],.agg #[Z u,Z v]] w fun e w'=>e = .returned (.tuple #[.agg #[Z ⟨#[]⟩,Z ⟨#[]⟩],.int .i64 40])∧Below w.heap.size w w':=by
 rcases he with rfl | ⟨rfl,rfl⟩
 all_goals
  go_enter Tryz.func233, Tryz.ntmps233;go_wp2_with (first | (go_at_call 214; with_reducible refine (cV1.run _).mono ?_;rintro e w1 ⟨rfl,hB1⟩;obtain ⟨u1,a1,b1,r1⟩:=QeQ hB1;obtain ⟨x10,x11,x12,x13⟩:=Qab a1;obtain ⟨y10,y11,y12,y13⟩:=Qab b1;obtain ⟨z10,z11,z12,z13⟩:=Qab r1) | (go_at_call 214; with_reducible refine (cV2.run _).mono ?_;rintro e w2 ⟨rfl,hB2⟩;have u2:=u1.trans (hB2.mono u1.size);have a2:=Qac a1 hB2;have b2:=Qac b1 hB2;have r2:=Qac r1 hB2;obtain ⟨x20,x21,x22,x23⟩:=Qab a2;obtain ⟨y20,y21,y22,y23⟩:=Qab b2;obtain ⟨z20,z21,z22,z23⟩:=Qab r2) | (go_at_call 243; with_reducible refine (cM1.run _).mono ?_;rintro e w3 ⟨rfl,hB3⟩;have u3:=u2.trans (hB3.mono u2.size);have a3:=Qac a2 hB3;have b3:=Qac b2 hB3;have r3:=Qac r2 hB3;obtain ⟨x30,x31,x32,x33⟩:=Qab a3;obtain ⟨y30,y31,y32,y33⟩:=Qab b3;obtain ⟨z30,z31,z32,z33⟩:=Qab r3) | (go_at_call 243; with_reducible refine (cM2.run _).mono ?_;rintro e w4 ⟨rfl,hB4⟩;have u4:=u3.trans (hB4.mono u3.size);have a4:=Qac a3 hB4;have b4:=Qac b3 hB4;have r4:=Qac r3 hB4;obtain ⟨x40,x41,x42,x43⟩:=Qab a4;obtain ⟨y40,y41,y42,y43⟩:=Qab b4;obtain ⟨z40,z41,z42,z43⟩:=Qab r4) | fail);have k0:=QaM w4 (w.heap.size+1+1) (Z ⟨#[]⟩) (Z ⟨#[]⟩) _ _ z40 z41;refine bodyPost_ret (v:=.tuple #[.agg #[(Z ⟨#[]⟩),(Z ⟨#[]⟩)],.int .i64 40]) (by simp [results,Tryz.results233, go_sem,k0.1,k0.2]) rfl ⟨rfl,(u4.setCell (by simp;omega) _).setCell (by simp;omega) _⟩
theorem QsS (s t u v l r n d:ByteArray) (c:Int) (w:World) (cV1:Two 214 #[.agg #[Z s,Z t]] (.bool true)) (cV2:Two 214 #[.agg #[Z u,Z v]] (.bool true)) (cM1:Two 243 #[Z s,Z u] (.tuple #[Z l,.int .i64 0])) (cM2:Two 243 #[Z t,Z v] (.tuple #[Z r,.int .i64 0])) (cK:Two 135 #[Z l,Z r] (.tuple #[.agg #[Z n,Z d],.int .i64 c])) :
  Calls Tryz.prog 233 #[.agg #[Z s,Z t],.agg #[Z u,Z v]] w fun e w'=>e = .returned (.tuple #[.agg #[Z n,Z d],.int .i64 c])∧Below w.heap.size w w':=by
 go_enter Tryz.func233, Tryz.ntmps233;go_wp2_with (first | (go_at_call 214; with_reducible refine (cV1.run _).mono ?_;rintro e w1 ⟨rfl,hB1⟩;obtain ⟨u1,a1,b1,r1⟩:=QeQ hB1;obtain ⟨x10,x11,x12,x13⟩:=Qab a1;obtain ⟨y10,y11,y12,y13⟩:=Qab b1;obtain ⟨z10,z11,z12,z13⟩:=Qab r1) | (go_at_call 214; with_reducible refine (cV2.run _).mono ?_;rintro e w2 ⟨rfl,hB2⟩;have u2:=u1.trans (hB2.mono u1.size);have a2:=Qac a1 hB2;have b2:=Qac b1 hB2;have r2:=Qac r1 hB2;obtain ⟨x20,x21,x22,x23⟩:=Qab a2;obtain ⟨y20,y21,y22,y23⟩:=Qab b2;obtain ⟨z20,z21,z22,z23⟩:=Qab r2) | (go_at_call 243; with_reducible refine (cM1.run _).mono ?_;rintro e w3 ⟨rfl,hB3⟩;have u3:=u2.trans (hB3.mono u2.size);have a3:=Qac a2 hB3;have b3:=Qac b2 hB3;have r3:=Qac r2 hB3;obtain ⟨x30,x31,x32,x33⟩:=Qab a3;obtain ⟨y30,y31,y32,y33⟩:=Qab b3;obtain ⟨z30,z31,z32,z33⟩:=Qab r3) | (go_at_call 243; with_reducible refine (cM2.run _).mono ?_;rintro e w4 ⟨rfl,hB4⟩;have u4:=u3.trans (hB4.mono u3.size);have a4:=Qac a3 hB4;have b4:=Qac b3 hB4;have r4:=Qac r3 hB4;obtain ⟨x40,x41,x42,x43⟩:=Qab a4;obtain ⟨y40,y41,y42,y43⟩:=Qab b4;obtain ⟨z40,z41,z42,z43⟩:=Qab r4) | (go_at_call 135; with_reducible refine (cK.run _).mono ?_;rintro e w5 ⟨rfl,hB5⟩;have u5:=u4.trans (hB5.mono u4.size);have a5:=Qac a4 hB5;have b5:=Qac b4 hB5;have r5:=Qac r4 hB5;obtain ⟨x50,x51,x52,x53⟩:=Qab a5;obtain ⟨y50,y51,y52,y53⟩:=Qab b5;obtain ⟨z50,z51,z52,z53⟩:=Qab r5) | fail);have k0:=QaM w5 (w.heap.size+1+1) (Z n) (Z d) _ _ z50 z51;refine bodyPost_ret (v:=.tuple #[.agg #[(Z n),(Z d)],.int .i64 c]) (by simp [results,Tryz.results233, go_sem,k0.1,k0.2]) rfl ⟨rfl,(u5.setCell (by simp;omega) _).setCell (by simp;omega) _⟩
theorem Qjd (s t u v:ByteArray) (x y:Bool) (w:World) (h:(x && y)=false) (cV1:Two 214 #[.agg #[Z s,Z t]] (.bool x)) (cV2:Two 214 #[.agg #[Z u,Z v]] (.bool y)) :
  Calls Tryz.prog 244 #[.agg #[Z s,Z t],.agg #[Z u,Z v]] w fun e w'=>e = .returned (.tuple #[Z ⟨#[]⟩,Z ⟨#[]⟩,Z ⟨#[]⟩,.bool false])∧Below w.heap.size w w':=by
 rcases (show x=false∨(x=true∧y=false) by revert h;cases x <;> cases y <;> simp) with rfl | ⟨rfl,rfl⟩
 all_goals
  clear h;go_enter Tryz.func244, Tryz.ntmps244;go_wp2_with (first | (go_at_call 214; with_reducible refine (cV1.run _).mono ?_;rintro e w1 ⟨rfl,hB1⟩;obtain ⟨u1,a1,b1⟩:=QgA hB1;obtain ⟨x10,x11,x12,x13⟩:=Qab a1;obtain ⟨y10,y11,y12,y13⟩:=Qab b1) | (go_at_call 214; with_reducible refine (cV2.run _).mono ?_;rintro e w2 ⟨rfl,hB2⟩;have u2:=u1.trans (hB2.mono u1.size);have a2:=Qac a1 hB2;have b2:=Qac b1 hB2;obtain ⟨x20,x21,x22,x23⟩:=Qab a2;obtain ⟨y20,y21,y22,y23⟩:=Qab b2) | fail);refine bodyPost_ret (v:=.tuple #[Z ⟨#[]⟩,Z ⟨#[]⟩,Z ⟨#[]⟩,.bool false]) (by simp [results,Tryz.results244, go_sem]) rfl ⟨rfl,u2⟩
theorem Qea (s t u v l r m:ByteArray) (e1 e2 e3:Int) (b:Bool) (w:World) (he:(e1=30∧b=false)∨(e1=0∧e2=30∧b=false)∨(e1=0∧e2=0∧e3=30∧b=false)∨(e1=0∧e2=0∧e3=0∧b=true)) (cV1:Two 214 #[.agg #[Z s,Z t]] (.bool true)) (cV2:Two 214 #[.agg #[Z u,Z v]] (.bool true)) (cM1:Two 243 #[Z s,Z v] (.tuple #[Z l,.int .i64 e1])) (cM2:Two 243 #[Z u,Z t] (.tuple #[Z r,.int .i64 e2])) (cM3:Two 243 #[Z t,Z v] (.tuple #[Z m,.int .i64 e3])) :
  Calls Tryz.prog 244 #[.agg #[Z s,Z t],.agg #[Z u,Z v]] w fun e w'=>e = .returned (.tuple #[Z l,Z r,Z m,.bool b])∧Below w.heap.size w w':=by
 rcases he with ⟨rfl,rfl⟩ | ⟨rfl,rfl,rfl⟩ | ⟨rfl,rfl,rfl,rfl⟩ | ⟨rfl,rfl,rfl,rfl⟩
 ·go_enter Tryz.func244, Tryz.ntmps244;go_wp2_with (first | (go_at_call 214; with_reducible refine (cV1.run _).mono ?_;rintro e w1 ⟨rfl,hB1⟩;obtain ⟨u1,a1,b1⟩:=QgA hB1;obtain ⟨x10,x11,x12,x13⟩:=Qab a1;obtain ⟨y10,y11,y12,y13⟩:=Qab b1) | (go_at_call 214; with_reducible refine (cV2.run _).mono ?_;rintro e w2 ⟨rfl,hB2⟩;have u2:=u1.trans (hB2.mono u1.size);have a2:=Qac a1 hB2;have b2:=Qac b1 hB2;obtain ⟨x20,x21,x22,x23⟩:=Qab a2;obtain ⟨y20,y21,y22,y23⟩:=Qab b2) | (go_at_call 243; with_reducible refine (cM1.run _).mono ?_;rintro e w3 ⟨rfl,hB3⟩;have u3:=u2.trans (hB3.mono u2.size);have a3:=Qac a2 hB3;have b3:=Qac b2 hB3;obtain ⟨x30,x31,x32,x33⟩:=Qab a3;obtain ⟨y30,y31,y32,y33⟩:=Qab b3) | (go_at_call 243; with_reducible refine (cM2.run _).mono ?_;rintro e w4 ⟨rfl,hB4⟩;have u4:=u3.trans (hB4.mono u3.size);have a4:=Qac a3 hB4;have b4:=Qac b3 hB4;obtain ⟨x40,x41,x42,x43⟩:=Qab a4;obtain ⟨y40,y41,y42,y43⟩:=Qab b4) | (go_at_call 243; with_reducible refine (cM3.run _).mono ?_;rintro e w5 ⟨rfl,hB5⟩;have u5:=u4.trans (hB5.mono u4.size);have a5:=Qac a4 hB5;have b5:=Qac b4 hB5;obtain ⟨x50,x51,x52,x53⟩:=Qab a5;obtain ⟨y50,y51,y52,y53⟩:=Qab b5) | fail);refine bodyPost_ret (v:=.tuple #[Z l,Z r,Z m,.bool false]) (by simp [results,Tryz.results244, go_sem]) rfl ⟨rfl,u5⟩
 ·go_enter Tryz.func244, Tryz.ntmps244;go_wp2_with (first | (go_at_call 214; with_reducible refine (cV1.run _).mono ?_;rintro e w1 ⟨rfl,hB1⟩;obtain ⟨u1,a1,b1⟩:=QgA hB1;obtain ⟨x10,x11,x12,x13⟩:=Qab a1;obtain ⟨y10,y11,y12,y13⟩:=Qab b1) | (go_at_call 214; with_reducible refine (cV2.run _).mono ?_;rintro e w2 ⟨rfl,hB2⟩;have u2:=u1.trans (hB2.mono u1.size);have a2:=Qac a1 hB2;have b2:=Qac b1 hB2;obtain ⟨x20,x21,x22,x23⟩:=Qab a2;obtain ⟨y20,y21,y22,y23⟩:=Qab b2) | (go_at_call 243; with_reducible refine (cM1.run _).mono ?_;rintro e w3 ⟨rfl,hB3⟩;have u3:=u2.trans (hB3.mono u2.size);have a3:=Qac a2 hB3;have b3:=Qac b2 hB3;obtain ⟨x30,x31,x32,x33⟩:=Qab a3;obtain ⟨y30,y31,y32,y33⟩:=Qab b3) | (go_at_call 243; with_reducible refine (cM2.run _).mono ?_;rintro e w4 ⟨rfl,hB4⟩;have u4:=u3.trans (hB4.mono u3.size);have a4:=Qac a3 hB4;have b4:=Qac b3 hB4;obtain ⟨x40,x41,x42,x43⟩:=Qab a4;obtain ⟨y40,y41,y42,y43⟩:=Qab b4) | (go_at_call 243; with_reducible refine (cM3.run _).mono ?_;rintro e w5 ⟨rfl,hB5⟩;have u5:=u4.trans (hB5.mono u4.size);have a5:=Qac a4 hB5;have b5:=Qac b4 hB5;obtain ⟨x50,x51,x52,x53⟩:=Qab a5;obtain ⟨y50,y51,y52,y53⟩:=Qab b5) | fail);refine bodyPost_ret (v:=.tuple #[Z l,Z r,Z m,.bool false]) (by simp [results,Tryz.results244, go_sem]) rfl ⟨rfl,u5⟩
 ·go_enter Tryz.func244, Tryz.ntmps244;go_wp2_with (first | (go_at_call 214; with_reducible refine (cV1.run _).mono ?_;rintro e w1 ⟨rfl,hB1⟩;obtain ⟨u1,a1,b1⟩:=QgA hB1;obtain ⟨x10,x11,x12,x13⟩:=Qab a1;obtain ⟨y10,y11,y12,y13⟩:=Qab b1) | (go_at_call 214; with_reducible refine (cV2.run _).mono ?_;rintro e w2 ⟨rfl,hB2⟩;have u2:=u1.trans (hB2.mono u1.size);have a2:=Qac a1 hB2;have b2:=Qac b1 hB2;obtain ⟨x20,x21,x22,x23⟩:=Qab a2;obtain ⟨y20,y21,y22,y23⟩:=Qab b2) | (go_at_call 243; with_reducible refine (cM1.run _).mono ?_;rintro e w3 ⟨rfl,hB3⟩;have u3:=u2.trans (hB3.mono u2.size);have a3:=Qac a2 hB3;have b3:=Qac b2 hB3;obtain ⟨x30,x31,x32,x33⟩:=Qab a3;obtain ⟨y30,y31,y32,y33⟩:=Qab b3) | (go_at_call 243; with_reducible refine (cM2.run _).mono ?_;rintro e w4 ⟨rfl,hB4⟩;have u4:=u3.trans (hB4.mono u3.size);have a4:=Qac a3 hB4;have b4:=Qac b3 hB4;obtain ⟨x40,x41,x42,x43⟩:=Qab a4;obtain ⟨y40,y41,y42,y43⟩:=Qab b4) | (go_at_call 243; with_reducible refine (cM3.run _).mono ?_;rintro e w5 ⟨rfl,hB5⟩;have u5:=u4.trans (hB5.mono u4.size);have a5:=Qac a4 hB5;have b5:=Qac b4 hB5;obtain ⟨x50,x51,x52,x53⟩:=Qab a5;obtain ⟨y50,y51,y52,y53⟩:=Qab b5) | fail);refine bodyPost_ret (v:=.tuple #[Z l,Z r,Z m,.bool false]) (by simp [results,Tryz.results244, go_sem]) rfl ⟨rfl,u5⟩
 ·go_enter Tryz.func244, Tryz.ntmps244;go_wp2_with (first | (go_at_call 214; with_reducible refine (cV1.run _).mono ?_;rintro e w1 ⟨rfl,hB1⟩;obtain ⟨u1,a1,b1⟩:=QgA hB1;obtain ⟨x10,x11,x12,x13⟩:=Qab a1;obtain ⟨y10,y11,y12,y13⟩:=Qab b1) | (go_at_call 214; with_reducible refine (cV2.run _).mono ?_;rintro e w2 ⟨rfl,hB2⟩;have u2:=u1.trans (hB2.mono u1.size);have a2:=Qac a1 hB2;have b2:=Qac b1 hB2;obtain ⟨x20,x21,x22,x23⟩:=Qab a2;obtain ⟨y20,y21,y22,y23⟩:=Qab b2) | (go_at_call 243; with_reducible refine (cM1.run _).mono ?_;rintro e w3 ⟨rfl,hB3⟩;have u3:=u2.trans (hB3.mono u2.size);have a3:=Qac a2 hB3;have b3:=Qac b2 hB3;obtain ⟨x30,x31,x32,x33⟩:=Qab a3;obtain ⟨y30,y31,y32,y33⟩:=Qab b3) | (go_at_call 243; with_reducible refine (cM2.run _).mono ?_;rintro e w4 ⟨rfl,hB4⟩;have u4:=u3.trans (hB4.mono u3.size);have a4:=Qac a3 hB4;have b4:=Qac b3 hB4;obtain ⟨x40,x41,x42,x43⟩:=Qab a4;obtain ⟨y40,y41,y42,y43⟩:=Qab b4) | (go_at_call 243; with_reducible refine (cM3.run _).mono ?_;rintro e w5 ⟨rfl,hB5⟩;have u5:=u4.trans (hB5.mono u4.size);have a5:=Qac a4 hB5;have b5:=Qac b4 hB5;obtain ⟨x50,x51,x52,x53⟩:=Qab a5;obtain ⟨y50,y51,y52,y53⟩:=Qab b5) | fail);refine bodyPost_ret (v:=.tuple #[Z l,Z r,Z m,.bool true]) (by simp [results,Tryz.results244, go_sem]) rfl ⟨rfl,u5⟩
theorem QcX (x y:Int) (hx:Fits x) (hy:Fits y):∃ (l:ByteArray) (e:Int),Two 243 #[Z (txt x),Z (txt y)] (.tuple #[Z l,.int .i64 e])∧((Fits (x*y)∧l=txt (x*y)∧e=0)∨(¬ Fits (x*y)∧e=30)):=by
 by_cases h:Fits (x*y)
 ·exact ⟨_,_,fun W=>Qav h▸N10.Qog x y hx hy W,.inl ⟨h,rfl,rfl⟩⟩
 ·exact ⟨_,_,fun W=>QaJ h▸N10.Qog x y hx hy W,.inr ⟨h,rfl⟩⟩
theorem QgG (s t:ByteArray) (hs:s.size≤1000000) (ht:t.size≤1000000):Two 214 #[.agg #[Z s,Z t]] (.bool (qOf s t).isSome):=fun W=>Qmx s t hs ht W
theorem QbF {q:Rat} (h:FitQ q):Two 214 #[.agg #[Z (txt q.num),Z (txt (q.den:Int))]] (.bool true):=by
 have:=QgG _ _ h.size.1 h.size.2
 rwa [QdG h] at this
theorem Qor (x y:Int) (hx:Fits x) (hy:Fits y) (n d:ByteArray) (c:Int) (h:bR (redR (txt x) (txt y)) = .tuple #[.agg #[Z n,Z d],.int .i64 c]):Two 135 #[Z (txt x),Z (txt y)] (.tuple #[.agg #[Z n,Z d],.int .i64 c]):=fun W=>by
 have:=QiT (txt x) (txt y) (QaT hx) (QaT hy) W
 rwa [h] at this
theorem Qos (s t u v:ByteArray):(∃ p q:Rat,FitQ p∧FitQ q∧s=txt p.num∧t=txt (p.den:Int)∧u=txt q.num∧v=txt (q.den:Int))∨((qOf s t).isSome && (qOf u v).isSome)=false:=by
 cases h1:qOf s t with
 | none=>exact .inr rfl
 | some p =>
  cases h2:qOf u v with
  | none=>exact .inr rfl
  | some q =>
   obtain ⟨a,b,c⟩:=QhQ h1;obtain ⟨a',b',c'⟩:=QhQ h2;exact .inl ⟨p,q,c,c',a,b,a',b'⟩
theorem QsT {s t u v:ByteArray} (h:((qOf s t).isSome && (qOf u v).isSome)=false):qsOk [(s,t),(u,v)]=false:=by
 simpa [qsOk] using h
theorem Qot (s t u v l k m:ByteArray) (w:World) (cC:Two 244 #[.agg #[Z s,Z t],.agg #[Z u,Z v]] (.tuple #[Z l,Z k,Z m,.bool false])) :
  Calls Tryz.prog 241 #[.agg #[Z s,Z t],.agg #[Z u,Z v]] w fun e w'=>e = .returned (.tuple #[.agg #[Z ⟨#[]⟩,Z ⟨#[]⟩],.int .i64 40])∧Below w.heap.size w w':=by
 go_enter Tryz.func241, Tryz.ntmps241;go_wp2_with (first | (go_at_call 244; with_reducible refine (cC.run _).mono ?_;rintro e w1 ⟨rfl,hB1⟩;obtain ⟨u1,a1,b1,r1⟩:=QeQ hB1;obtain ⟨x10,x11,x12,x13⟩:=Qab a1;obtain ⟨y10,y11,y12,y13⟩:=Qab b1;obtain ⟨z10,z11,z12,z13⟩:=Qab r1) | fail);have k0:=QaM w1 (w.heap.size+1+1) (Z ⟨#[]⟩) (Z ⟨#[]⟩) _ _ z10 z11;refine bodyPost_ret (v:=.tuple #[.agg #[(Z ⟨#[]⟩),(Z ⟨#[]⟩)],.int .i64 40]) (by simp [results,Tryz.results241, go_sem,k0.1,k0.2]) rfl ⟨rfl,(u1.setCell (by simp;omega) _).setCell (by simp;omega) _⟩
theorem Qqj (s t u v l k m n:ByteArray) (w:World) (cC:Two 244 #[.agg #[Z s,Z t],.agg #[Z u,Z v]] (.tuple #[Z l,Z k,Z m,.bool true])) (cA:Two 245 #[Z l,Z k] (.tuple #[Z n,.int .i64 30])) :
  Calls Tryz.prog 241 #[.agg #[Z s,Z t],.agg #[Z u,Z v]] w fun e w'=>e = .returned (.tuple #[.agg #[Z ⟨#[]⟩,Z ⟨#[]⟩],.int .i64 40])∧Below w.heap.size w w':=by
 go_enter Tryz.func241, Tryz.ntmps241;go_wp2_with (first | (go_at_call 244; with_reducible refine (cC.run _).mono ?_;rintro e w1 ⟨rfl,hB1⟩;obtain ⟨u1,a1,b1,r1⟩:=QeQ hB1;obtain ⟨x10,x11,x12,x13⟩:=Qab a1;obtain ⟨y10,y11,y12,y13⟩:=Qab b1;obtain ⟨z10,z11,z12,z13⟩:=Qab r1) | (go_at_call 245; with_reducible refine (cA.run _).mono ?_;rintro e w2 ⟨rfl,hB2⟩;have u2:=u1.trans (hB2.mono u1.size);have a2:=Qac a1 hB2;have b2:=Qac b1 hB2;have r2:=Qac r1 hB2;obtain ⟨x20,x21,x22,x23⟩:=Qab a2;obtain ⟨y20,y21,y22,y23⟩:=Qab b2;obtain ⟨z20,z21,z22,z23⟩:=Qab r2) | fail);have k0:=QaM w2 (w.heap.size+1+1) (Z ⟨#[]⟩) (Z ⟨#[]⟩) _ _ z20 z21;refine bodyPost_ret (v:=.tuple #[.agg #[(Z ⟨#[]⟩),(Z ⟨#[]⟩)],.int .i64 40]) (by simp [results,Tryz.results241, go_sem,k0.1,k0.2]) rfl ⟨rfl,(u2.setCell (by simp;omega) _).setCell (by simp;omega) _⟩
theorem QsU (s t u v l k m n n' d':ByteArray) (c:Int) (w:World) (cC:Two 244 #[.agg #[Z s,Z t],.agg #[Z u,Z v]] (.tuple #[Z l,Z k,Z m,.bool true])) (cA:Two 245 #[Z l,Z k] (.tuple #[Z n,.int .i64 0])) (cK:Two 135 #[Z n,Z m] (.tuple #[.agg #[Z n',Z d'],.int .i64 c])) :
  Calls Tryz.prog 241 #[.agg #[Z s,Z t],.agg #[Z u,Z v]] w fun e w'=>e = .returned (.tuple #[.agg #[Z n',Z d'],.int .i64 c])∧Below w.heap.size w w':=by
 go_enter Tryz.func241, Tryz.ntmps241;go_wp2_with (first | (go_at_call 244; with_reducible refine (cC.run _).mono ?_;rintro e w1 ⟨rfl,hB1⟩;obtain ⟨u1,a1,b1,r1⟩:=QeQ hB1;obtain ⟨x10,x11,x12,x13⟩:=Qab a1;obtain ⟨y10,y11,y12,y13⟩:=Qab b1;obtain ⟨z10,z11,z12,z13⟩:=Qab r1) | (go_at_call 245; with_reducible refine (cA.run _).mono ?_;rintro e w2 ⟨rfl,hB2⟩;have u2:=u1.trans (hB2.mono u1.size);have a2:=Qac a1 hB2;have b2:=Qac b1 hB2;have r2:=Qac r1 hB2;obtain ⟨x20,x21,x22,x23⟩:=Qab a2;obtain ⟨y20,y21,y22,y23⟩:=Qab b2;obtain ⟨z20,z21,z22,z23⟩:=Qab r2) | (go_at_call 135; with_reducible refine (cK.run _).mono ?_;rintro e w3 ⟨rfl,hB3⟩;have u3:=u2.trans (hB3.mono u2.size);have a3:=Qac a2 hB3;have b3:=Qac b2 hB3;have r3:=Qac r2 hB3;obtain ⟨x30,x31,x32,x33⟩:=Qab a3;obtain ⟨y30,y31,y32,y33⟩:=Qab b3;obtain ⟨z30,z31,z32,z33⟩:=Qab r3) | fail);have k0:=QaM w3 (w.heap.size+1+1) (Z n') (Z d') _ _ z30 z31;refine bodyPost_ret (v:=.tuple #[.agg #[(Z n'),(Z d')],.int .i64 c]) (by simp [results,Tryz.results241, go_sem,k0.1,k0.2]) rfl ⟨rfl,(u3.setCell (by simp;omega) _).setCell (by simp;omega) _⟩
theorem Qqk (s t u v:ByteArray) (hs:s.size≤1000000) (ht:t.size≤1000000) (hu:u.size≤1000000) (hv:v.size≤1000000) (w:World) :
  Calls Tryz.prog 241 #[.agg #[Z s,Z t],.agg #[Z u,Z v]] w fun e w'=>e = .returned (bR (sumR Qfd s t u v))∧Below w.heap.size w w':=by
 rcases Qos s t u v with ⟨p,q,fp,fq,rfl,rfl,rfl,rfl⟩ | h
 ·obtain ⟨l,e1,m1,o1⟩:=QcX p.num q.den fp.1 fq.2;obtain ⟨k,e2,m2,o2⟩:=QcX q.num p.den fq.1 fp.2;obtain ⟨m,e3,m3,o3⟩:=QcX (p.den:Int) q.den fp.2 fq.2;rw [Qri fp fq,addQ];by_cases hA:Fits (p.num*q.den)∧Fits (q.num*p.den)∧Fits ((p.den:Int)*q.den)
  ·have e1':=o1.resolve_right (fun h=>h.1 hA.1);have e2':=o2.resolve_right (fun h=>h.1 hA.2.1);have e3':=o3.resolve_right (fun h=>h.1 hA.2.2);obtain ⟨-,rfl,rfl⟩:=e1';obtain ⟨-,rfl,rfl⟩:=e2';obtain ⟨-,rfl,rfl⟩:=e3';have cC:Two 244 _ _:=fun W=>Qea _ _ _ _ _ _ _ _ _ _ true W (.inr (.inr (.inr ⟨rfl,rfl,rfl,rfl⟩))) (QbF fp) (QbF fq) m1 m2 m3;by_cases hS:Fits (p.num*q.den+q.num*p.den)
   ·rw [if_pos ⟨hA.1,hA.2.1,hS,hA.2.2⟩];refine QsU _ _ _ _ _ _ _ _ _ _ _ w cC (fun W=>Qav hS▸N10.Qof _ _ hA.1 hA.2.1 W) (Qor _ _ hS hA.2.2 _ _ _ ?_);rw [Qfz hS hA.2.2 (QcV p q),QjN];rfl
   ·rw [if_neg (fun h=>hS h.2.2.1)];exact Qqj _ _ _ _ _ _ _ _ w cC (fun W=>QaJ hS▸N10.Qof _ _ hA.1 hA.2.1 W)
  ·rw [if_neg (fun h=>hA ⟨h.1,h.2.1,h.2.2.2⟩)]
   have he:(e1=30∧false=false)∨(e1=0∧e2=30∧false=false)∨(e1=0∧e2=0∧e3=30∧false=false)∨(e1=0∧e2=0∧e3=0∧false=true):=by
    rcases o1 with ⟨h1, -,rfl⟩ | ⟨h1,rfl⟩
    ·rcases o2 with ⟨h2, -,rfl⟩ | ⟨h2,rfl⟩
     ·rcases o3 with ⟨h3, -,rfl⟩ | ⟨h3,rfl⟩
      ·exact absurd ⟨h1,h2,h3⟩ hA
      ·exact .inr (.inr (.inl ⟨rfl,rfl,rfl,rfl⟩))
     ·exact .inr (.inl ⟨rfl,rfl,rfl⟩)
    ·exact .inl ⟨rfl,rfl⟩
   exact Qot _ _ _ _ _ _ _ w (fun W=>Qea _ _ _ _ _ _ _ _ _ _ false W he (QbF fp) (QbF fq) m1 m2 m3)
 ·rw [sumR,QsT h,if_neg (by decide)];exact Qot _ _ _ _ _ _ _ w (fun W=>Qjd _ _ _ _ _ _ W h (QgG s t hs ht) (QgG u v hu hv))
theorem Qou (s t u v l k m:ByteArray) (w:World) (cC:Two 244 #[.agg #[Z s,Z t],.agg #[Z u,Z v]] (.tuple #[Z l,Z k,Z m,.bool false])) :
  Calls Tryz.prog 242 #[.agg #[Z s,Z t],.agg #[Z u,Z v]] w fun e w'=>e = .returned (.tuple #[.agg #[Z ⟨#[]⟩,Z ⟨#[]⟩],.int .i64 40])∧Below w.heap.size w w':=by
 go_enter Tryz.func242, Tryz.ntmps242;go_wp2_with (first | (go_at_call 244; with_reducible refine (cC.run _).mono ?_;rintro e w1 ⟨rfl,hB1⟩;obtain ⟨u1,a1,b1,r1⟩:=QeQ hB1;obtain ⟨x10,x11,x12,x13⟩:=Qab a1;obtain ⟨y10,y11,y12,y13⟩:=Qab b1;obtain ⟨z10,z11,z12,z13⟩:=Qab r1) | fail);have k0:=QaM w1 (w.heap.size+1+1) (Z ⟨#[]⟩) (Z ⟨#[]⟩) _ _ z10 z11;refine bodyPost_ret (v:=.tuple #[.agg #[(Z ⟨#[]⟩),(Z ⟨#[]⟩)],.int .i64 40]) (by simp [results,Tryz.results242, go_sem,k0.1,k0.2]) rfl ⟨rfl,(u1.setCell (by simp;omega) _).setCell (by simp;omega) _⟩
theorem Qql (s t u v l k m n:ByteArray) (w:World) (cC:Two 244 #[.agg #[Z s,Z t],.agg #[Z u,Z v]] (.tuple #[Z l,Z k,Z m,.bool true])) (cA:Two 171 #[Z l,Z k] (.tuple #[Z n,.int .i64 30])) :
  Calls Tryz.prog 242 #[.agg #[Z s,Z t],.agg #[Z u,Z v]] w fun e w'=>e = .returned (.tuple #[.agg #[Z ⟨#[]⟩,Z ⟨#[]⟩],.int .i64 40])∧Below w.heap.size w w':=by
 go_enter Tryz.func242, Tryz.ntmps242;go_wp2_with (first | (go_at_call 244; with_reducible refine (cC.run _).mono ?_;rintro e w1 ⟨rfl,hB1⟩;obtain ⟨u1,a1,b1,r1⟩:=QeQ hB1;obtain ⟨x10,x11,x12,x13⟩:=Qab a1;obtain ⟨y10,y11,y12,y13⟩:=Qab b1;obtain ⟨z10,z11,z12,z13⟩:=Qab r1) | (go_at_call 171; with_reducible refine (cA.run _).mono ?_;rintro e w2 ⟨rfl,hB2⟩;have u2:=u1.trans (hB2.mono u1.size);have a2:=Qac a1 hB2;have b2:=Qac b1 hB2;have r2:=Qac r1 hB2;obtain ⟨x20,x21,x22,x23⟩:=Qab a2;obtain ⟨y20,y21,y22,y23⟩:=Qab b2;obtain ⟨z20,z21,z22,z23⟩:=Qab r2) | fail);have k0:=QaM w2 (w.heap.size+1+1) (Z ⟨#[]⟩) (Z ⟨#[]⟩) _ _ z20 z21;refine bodyPost_ret (v:=.tuple #[.agg #[(Z ⟨#[]⟩),(Z ⟨#[]⟩)],.int .i64 40]) (by simp [results,Tryz.results242, go_sem,k0.1,k0.2]) rfl ⟨rfl,(u2.setCell (by simp;omega) _).setCell (by simp;omega) _⟩
theorem QsV (s t u v l k m n n' d':ByteArray) (c:Int) (w:World) (cC:Two 244 #[.agg #[Z s,Z t],.agg #[Z u,Z v]] (.tuple #[Z l,Z k,Z m,.bool true])) (cA:Two 171 #[Z l,Z k] (.tuple #[Z n,.int .i64 0])) (cK:Two 135 #[Z n,Z m] (.tuple #[.agg #[Z n',Z d'],.int .i64 c])) :
  Calls Tryz.prog 242 #[.agg #[Z s,Z t],.agg #[Z u,Z v]] w fun e w'=>e = .returned (.tuple #[.agg #[Z n',Z d'],.int .i64 c])∧Below w.heap.size w w':=by
 go_enter Tryz.func242, Tryz.ntmps242;go_wp2_with (first | (go_at_call 244; with_reducible refine (cC.run _).mono ?_;rintro e w1 ⟨rfl,hB1⟩;obtain ⟨u1,a1,b1,r1⟩:=QeQ hB1;obtain ⟨x10,x11,x12,x13⟩:=Qab a1;obtain ⟨y10,y11,y12,y13⟩:=Qab b1;obtain ⟨z10,z11,z12,z13⟩:=Qab r1) | (go_at_call 171; with_reducible refine (cA.run _).mono ?_;rintro e w2 ⟨rfl,hB2⟩;have u2:=u1.trans (hB2.mono u1.size);have a2:=Qac a1 hB2;have b2:=Qac b1 hB2;have r2:=Qac r1 hB2;obtain ⟨x20,x21,x22,x23⟩:=Qab a2;obtain ⟨y20,y21,y22,y23⟩:=Qab b2;obtain ⟨z20,z21,z22,z23⟩:=Qab r2) | (go_at_call 135; with_reducible refine (cK.run _).mono ?_;rintro e w3 ⟨rfl,hB3⟩;have u3:=u2.trans (hB3.mono u2.size);have a3:=Qac a2 hB3;have b3:=Qac b2 hB3;have r3:=Qac r2 hB3;obtain ⟨x30,x31,x32,x33⟩:=Qab a3;obtain ⟨y30,y31,y32,y33⟩:=Qab b3;obtain ⟨z30,z31,z32,z33⟩:=Qab r3) | fail);have k0:=QaM w3 (w.heap.size+1+1) (Z n') (Z d') _ _ z30 z31;refine bodyPost_ret (v:=.tuple #[.agg #[(Z n'),(Z d')],.int .i64 c]) (by simp [results,Tryz.results242, go_sem,k0.1,k0.2]) rfl ⟨rfl,(u3.setCell (by simp;omega) _).setCell (by simp;omega) _⟩
theorem Qqm (s t u v:ByteArray) (hs:s.size≤1000000) (ht:t.size≤1000000) (hu:u.size≤1000000) (hv:v.size≤1000000) (w:World) :
  Calls Tryz.prog 242 #[.agg #[Z s,Z t],.agg #[Z u,Z v]] w fun e w'=>e = .returned (bR (sumR QeI s t u v))∧Below w.heap.size w w':=by
 rcases Qos s t u v with ⟨p,q,fp,fq,rfl,rfl,rfl,rfl⟩ | h
 ·obtain ⟨l,e1,m1,o1⟩:=QcX p.num q.den fp.1 fq.2;obtain ⟨k,e2,m2,o2⟩:=QcX q.num p.den fq.1 fp.2;obtain ⟨m,e3,m3,o3⟩:=QcX (p.den:Int) q.den fp.2 fq.2;rw [Qrj fp fq,subQ];by_cases hA:Fits (p.num*q.den)∧Fits (q.num*p.den)∧Fits ((p.den:Int)*q.den)
  ·have e1':=o1.resolve_right (fun h=>h.1 hA.1);have e2':=o2.resolve_right (fun h=>h.1 hA.2.1);have e3':=o3.resolve_right (fun h=>h.1 hA.2.2);obtain ⟨-,rfl,rfl⟩:=e1';obtain ⟨-,rfl,rfl⟩:=e2';obtain ⟨-,rfl,rfl⟩:=e3';have cC:Two 244 _ _:=fun W=>Qea _ _ _ _ _ _ _ _ _ _ true W (.inr (.inr (.inr ⟨rfl,rfl,rfl,rfl⟩))) (QbF fp) (QbF fq) m1 m2 m3;by_cases hS:Fits (p.num*q.den-q.num*p.den)
   ·rw [if_pos ⟨hA.1,hA.2.1,hS,hA.2.2⟩];refine QsV _ _ _ _ _ _ _ _ _ _ _ w cC (fun W=>Qav hS▸N10.QjU _ _ hA.1 hA.2.1 W) (Qor _ _ hS hA.2.2 _ _ _ ?_);rw [Qfz hS hA.2.2 (QcV p q),QjO];rfl
   ·rw [if_neg (fun h=>hS h.2.2.1)];exact Qql _ _ _ _ _ _ _ _ w cC (fun W=>QaJ hS▸N10.QjU _ _ hA.1 hA.2.1 W)
  ·rw [if_neg (fun h=>hA ⟨h.1,h.2.1,h.2.2.2⟩)]
   have he:(e1=30∧false=false)∨(e1=0∧e2=30∧false=false)∨(e1=0∧e2=0∧e3=30∧false=false)∨(e1=0∧e2=0∧e3=0∧false=true):=by
    rcases o1 with ⟨h1, -,rfl⟩ | ⟨h1,rfl⟩
    ·rcases o2 with ⟨h2, -,rfl⟩ | ⟨h2,rfl⟩
     ·rcases o3 with ⟨h3, -,rfl⟩ | ⟨h3,rfl⟩
      ·exact absurd ⟨h1,h2,h3⟩ hA
      ·exact .inr (.inr (.inl ⟨rfl,rfl,rfl,rfl⟩))
     ·exact .inr (.inl ⟨rfl,rfl,rfl⟩)
    ·exact .inl ⟨rfl,rfl⟩
   exact Qou _ _ _ _ _ _ _ w (fun W=>Qea _ _ _ _ _ _ _ _ _ _ false W he (QbF fp) (QbF fq) m1 m2 m3)
 ·rw [sumR,QsT h,if_neg (by decide)];exact Qou _ _ _ _ _ _ _ w (fun W=>Qjd _ _ _ _ _ _ W h (QgG s t hs ht) (QgG u v hu hv))
theorem Qqn (s t u v:ByteArray) (hs:s.size≤1000000) (ht:t.size≤1000000) (hu:u.size≤1000000) (hv:v.size≤1000000) (w:World) :
  Calls Tryz.prog 233 #[.agg #[Z s,Z t],.agg #[Z u,Z v]] w fun e w'=>e = .returned (bR (mulR s t u v))∧Below w.heap.size w w':=by
 rcases Qos s t u v with ⟨p,q,fp,fq,rfl,rfl,rfl,rfl⟩ | h
 ·obtain ⟨l,e1,m1,o1⟩:=QcX p.num q.num fp.1 fq.1;obtain ⟨r,e2,m2,o2⟩:=QcX (p.den:Int) q.den fp.2 fq.2;rw [mulR,QeM fp fq,if_pos rfl,Qbn fp.1 fq.1,Qbn fp.2 fq.2];by_cases h1:Fits (p.num*q.num)
  ·obtain ⟨-,rfl,rfl⟩:=o1.resolve_right (fun h=>h.1 h1);rw [Qay h1,Option.bind_some];by_cases h2:Fits ((p.den:Int)*q.den)
   ·obtain ⟨-,rfl,rfl⟩:=o2.resolve_right (fun h=>h.1 h2);rw [Qay h2,Option.bind_some];obtain ⟨n',d',e0,ho⟩:=Qcw (redR (txt (p.num*q.num)) (txt ((p.den:Int)*q.den)));rw [ho];exact QsS _ _ _ _ _ _ _ _ _ w (QbF fp) (QbF fq) m1 m2 (Qor _ _ h1 h2 _ _ _ ho)
   ·obtain ⟨-,rfl⟩:=o2.resolve_left (fun h=>h2 h.1);rw [Qbj h2];exact QkW _ _ _ _ _ _ _ _ w (.inr ⟨rfl,rfl⟩) (QbF fp) (QbF fq) m1 m2
  ·obtain ⟨-,rfl⟩:=o1.resolve_left (fun h=>h1 h.1);rw [Qbj h1];exact QkW _ _ _ _ _ _ _ _ w (.inl rfl) (QbF fp) (QbF fq) m1 m2
 ·rw [mulR,QsT h,if_neg (by decide)];exact QsR _ _ _ _ _ _ w h (QgG s t hs ht) (QgG u v hu hv)
theorem Qmy (s:ByteArray) (h:(s.toList == [48])=true):Two 215 #[Z s] (Z s):=fun w=>by
 go_enter Tryz.func215, Tryz.ntmps215;go_wp2;go_ret;exact ⟨rfl,Below.refl _ _⟩
theorem Qov (s:ByteArray) (h:(s.toList == [48])=false):Two 215 #[Z s] (Z ⟨#[49]⟩):=fun w=>by
 go_enter Tryz.func215, Tryz.ntmps215;go_wp2;go_ret;exact ⟨rfl,Below.refl _ _⟩
theorem Qqo (x y:Int):cmpZ x y = -1∨cmpZ x y=0∨cmpZ x y=1:=by
 unfold cmpZ;split
 ·exact .inl rfl
 ·split
  ·exact .inr (.inl rfl)
  ·exact .inr (.inr rfl)
theorem CmS.in3 {c:Int} {k:Nat} {s t u v:ByteArray} (h:CmS c k s t u v):c = -1∨c=0∨c=1:=by
 obtain ⟨n1,d1,n2,d2, -, -, -, -, -, -,hc, -⟩:=h.ex;rw [←hc];exact Qqo _ _
theorem CmS.meas {c:Int} {k:Nat} {s t u v:ByteArray} (h:CmS c k s t u v):QiW (some (Z t))+QiW (some (Z v))=k:=by
 obtain ⟨n1,d1,n2,d2, -, -, -, -,p1,p2, -,hk, -,rfl, -,rfl⟩:=h.ex;rw [QeR p1,QeR p2,hk]
theorem QkX {x y:Int}:cmpZ x y=0↔x=y:=by
 unfold cmpZ;constructor
 ·intro h;split at h
  ·cases h
  ·split at h
   ·assumption
   ·cases h
 ·intro h;rw [if_neg (by omega),if_pos h]
theorem Qow (x y:Int):cmpZ y x = -cmpZ x y:=by
 unfold cmpZ;rcases Int.lt_trichotomy x y with h | h | h
 ·rw [if_neg (by omega),if_neg (by omega),if_pos h];rfl
 ·rw [if_neg (by omega),if_pos h.symm,if_neg (by omega),if_pos h];rfl
 ·rw [if_pos h,if_neg (by omega),if_neg (by omega)]
def zO (z:Int):ByteArray:=if z=0 then ⟨#[48]⟩ else ⟨#[49]⟩
theorem Qrq (z:Int):zO z=txt (if z=0 then 0 else 1):=by
 rw [zO];split
 ·exact txt_0.symm
 ·exact txt_1.symm
theorem Qho (z:Int):Two 215 #[Z (txt z)] (Z (zO z)):=by
 by_cases h:z=0
 ·subst h;have:=Qmy (txt 0) (by rw [QbN];rfl);rw [zO,if_pos rfl]
  rwa [txt_0] at this ⊢
 ·rw [zO,if_neg h];exact Qov (txt z) (by rw [QbN];simpa using h)
theorem Qox {c : Int} {k : Nat} {s t u v : ByteArray} (h : CmS c k s t u v) : ∃ (q1 r1 q2 r2 : ByteArray) (x : Int),
    Two 173 #[Z s, Z t] (.tuple #[Z q1, Z r1, .int .i64 0]) ∧ Two 173 #[Z u, Z v] (.tuple #[Z q2, Z r2, .int .i64 0]) ∧
    Two 170 #[Z q1, Z q2] (.int .i64 x) ∧
    ((x ≠ 0 ∧ x = c) ∨
     (x = 0 ∧ ((r1.toList == [48]) = true ∨ ((r1.toList == [48]) = false ∧ (r2.toList == [48]) = true)) ∧ ∃ z1 z2 : ByteArray, Two 215 #[Z r1] (Z z1) ∧ Two 215 #[Z r2] (Z z2) ∧ Two 170 #[Z z1, Z z2] (.int .i64 c)) ∨
     (x = 0 ∧ (r1.toList == [48]) = false ∧ (r2.toList == [48]) = false ∧ ∃ k' : Nat, k' < k ∧ CmS (-c) k' t r1 v r2)) := by
  obtain ⟨n1, d1, n2, d2, f1, f2, f3, f4, p1, p2, hc, hk, rfl, rfl, rfl, rfl⟩ := h.ex;have g1 := Int.emod_nonneg n1 (show d1 ≠ 0 by omega);have g2 := Int.emod_nonneg n2 (show d2 ≠ 0 by omega);have l1 := Int.emod_lt_of_pos n1 p1;have l2 := Int.emod_lt_of_pos n2 p2;have fr1 : Fits (n1 % d1) := QbI f2 (by omega);have fr2 : Fits (n2 % d2) := QbI f4 (by omega);refine ⟨txt (n1 / d1), txt (n1 % d1), txt (n2 / d2), txt (n2 % d2), cmpZ (n1 / d1) (n2 / d2), Qmp f1 f2 (by omega), Qmp f3 f4 (by omega), Qqf (QaX f1) (QaX f3), ?_⟩;by_cases hq : n1 / d1 = n2 / d2
  · have hr := QiU hq
    have h0 : cmpZ (n1 / d1) (n2 / d2) = 0 := QkX.2 hq;by_cases hz : n1 % d1 = 0 ∨ n2 % d2 = 0
    · refine .inr (.inl ⟨h0, ?_, zO (n1 % d1), zO (n2 % d2), Qho _, Qho _, ?_⟩)
      · rw [QbN, QbN]
        by_cases h0 : n1 % d1 = 0
        · exact .inl (by simpa using h0)
        · exact .inr ⟨by simpa using h0, by simpa using hz.resolve_left h0⟩
      · have e : c = cmpZ (if n1 % d1 = 0 then 0 else 1) (if n2 % d2 = 0 then 0 else 1) := by
          rw [← hc, hr, QiV p1 p2 g1 g2 hz];generalize n1 % d1 = a at *
          generalize n2 % d2 = b at *
          unfold cmpZ;by_cases ha : a = 0
          · by_cases hb : b = 0
            · rw [if_pos ha, if_pos hb, if_neg (by omega), if_pos (by omega), if_neg (by omega), if_pos rfl]
            · rw [if_pos ha, if_neg hb, if_pos (by omega), if_pos (by omega)]
          · have hb : b = 0 := hz.resolve_left ha
            rw [if_neg ha, if_pos hb, if_neg (by omega), if_neg (by omega), if_neg (by omega), if_neg (by omega)]
        rw [Qrq, Qrq, e];exact Qqf (by split; exact Qfy; exact QnE) (by split; exact Qfy; exact QnE)
    · refine .inr (.inr ⟨h0, ?_, ?_, (n1 % d1).toNat + (n2 % d2).toNat, by omega, ⟨d1, n1 % d1, d2, n2 % d2, f2, fr1, f4, fr2, by omega, by omega, ?_, rfl, rfl, rfl, rfl, rfl⟩⟩)
      · rw [QbN]; simp; omega
      · rw [QbN]; simp; omega
      · rw [← hc, hr, Qow (d1 * (n2 % d2)), Int.neg_neg]
  · refine .inl ⟨fun h => hq (QkX.1 h), ?_⟩
    rw [← hc, Qhk p1 p2 hq]
theorem Qib (s0 t0 u0 v0:ByteArray) (C:Int) (k0:Nat) (w:World) (hs0:CmS C k0 s0 t0 u0 v0)
  (cV1:Two 214 #[.agg #[Z s0,Z t0]] (.bool true)) (cV2:Two 214 #[.agg #[Z u0,Z v0]] (.bool true)) :
  Calls Tryz.prog 177 #[.agg #[Z s0,Z t0],.agg #[Z u0,Z v0]] w fun e w'=>e = .returned (.int .i64 C)∧Below w.heap.size w w':=by
 have HS0:Shut _:=⟨hs0⟩;clear hs0;go_enter Tryz.func177, Tryz.ntmps177;go_wp2_with (first | (go_at_call 214; with_reducible refine (cV1.run _).mono ?_;rintro e w1 ⟨rfl,hB1⟩;obtain ⟨u1,a1,b1⟩:=QgA hB1;obtain ⟨x0,x1,x2,x3⟩:=Qab a1;obtain ⟨y0,y1,y2,y3⟩:=Qab b1) | (go_at_call 214; with_reducible refine (cV2.run _).mono ?_;rintro e w2 ⟨rfl,hB2⟩;have u2:=u1.trans (hB2.mono u1.size);have a2:=Qac a1 hB2;have b2:=Qac b1 hB2;obtain ⟨x0,x1,x2,x3⟩:=Qab a2;obtain ⟨y0,y1,y2,y3⟩:=Qab b2));have HU:Shut _:=⟨u2⟩;clear hB1 hB2 u1 u2 a1 b1 a2 b2 cV1 cV2
 go_loopw [7,8,9,10,11] (fun sv nv dv mv cv wr=>∃ (s t u v:ByteArray) (c sg:Int) (k:Nat),sv = .int .i64 sg∧nv=Z s∧dv=Z t∧mv=Z u∧cv=Z v∧Shut (sg=1∨sg = -1)∧Shut (sg*c=C)∧Shut (CmS c k s t u v)∧Shut (Below w.heap.size w wr)) (fun _ _ dv _ cv _=>QiW (some dv)+QiW (some cv))
 case atStart=>exact ⟨s0,t0,u0,v0,C,1,k0,rfl,rfl,rfl,rfl,rfl,⟨.inl rfl⟩,⟨Int.one_mul C⟩,HS0,HU⟩
 case round =>
  clear HU;obtain ⟨s,t,u,v,c,sg,k,rfl,rfl,rfl,rfl,rfl,HSg,HC,HS,HU⟩:=hrel;have h3:=HS.o.in3;have HM:Shut _:=⟨HS.o.meas⟩;obtain ⟨q1,r1,q2,r2,x,dv1,dv2,cx,hw⟩:=Qox HS.o;have bW:=HU.o;clear HS HU;rcases hw with ⟨hx0,rfl⟩ | ⟨rfl,hz,z1,z2,cz1,cz2,cc⟩ | ⟨rfl,hz1,hz2,k',hk,hn⟩
  ·have hx0b:(x == 0)=false:=by rw [beq_eq_false_iff_ne];exact hx0
   have hw1:IntKind.i64.wrap (sg*x)=C:=by rw [HC.o,←HC.o];rcases HSg.o with rfl | rfl <;> rcases h3 with rfl | rfl | rfl <;> rfl
   clear h3 hx0;go_wp2_with (first | (go_at_call 173; with_reducible refine (dv1.run _).mono ?_;rintro e w5 ⟨rfl,hB5⟩;have b5:=bW.trans (hB5.mono bW.size)) | (go_at_call 173; with_reducible refine (dv2.run _).mono ?_;rintro e w6 ⟨rfl,hB6⟩;have b6:=b5.trans (hB6.mono b5.size)) | (go_at_call 170; with_reducible refine (cx.run _).mono ?_;rintro e w7 ⟨rfl,hB7⟩;have b7:=b6.trans (hB7.mono b6.size)));go_ret;exact ⟨rfl,b7⟩
  ·have hw1:IntKind.i64.wrap (sg*c)=C:=by rw [HC.o,←HC.o];rcases HSg.o with rfl | rfl <;> rcases h3 with rfl | rfl | rfl <;> rfl
   clear h3;rcases hz with hz | ⟨hz,hz2⟩
   all_goals
    go_wp2_with (first | (go_at_call 173; with_reducible refine (dv1.run _).mono ?_;rintro e w5 ⟨rfl,hB5⟩;have b5:=bW.trans (hB5.mono bW.size)) | (go_at_call 173; with_reducible refine (dv2.run _).mono ?_;rintro e w6 ⟨rfl,hB6⟩;have b6:=b5.trans (hB6.mono b5.size)) | (go_at_call 170; with_reducible refine (cx.run _).mono ?_;rintro e w7 ⟨rfl,hB7⟩;have b7:=b6.trans (hB7.mono b6.size)) | (go_at_call 215; with_reducible refine (cz1.run _).mono ?_;rintro e w8 ⟨rfl,hB8⟩;have b8:=b7.trans (hB8.mono b7.size)) | (go_at_call 215; with_reducible refine (cz2.run _).mono ?_;rintro e w9 ⟨rfl,hB9⟩;have b9:=b8.trans (hB9.mono b8.size)) | (go_at_call 170; with_reducible refine (cc.run _).mono ?_;rintro e wx ⟨rfl,hBx⟩;have bx:=b9.trans (hBx.mono b9.size)));go_ret;exact ⟨rfl,bx⟩
  ·have HN:Shut _:=⟨hn⟩;have hsg:IntKind.i64.wrap (-sg) = -sg:=by rcases HSg.o with rfl | rfl <;> rfl
   have HSg2:Shut (-sg=1 ∨ -sg = -1):=⟨by rcases HSg.o with h | h <;> omega⟩;have HC2:Shut (-sg * -c=C):=⟨by rw [Int.neg_mul_neg];exact HC.o⟩;clear h3 hn HC HSg;go_wp2_with (first | (go_at_call 173; with_reducible refine (dv1.run _).mono ?_;rintro e w5 ⟨rfl,hB5⟩;have b5:=bW.trans (hB5.mono bW.size)) | (go_at_call 173; with_reducible refine (dv2.run _).mono ?_;rintro e w6 ⟨rfl,hB6⟩;have b6:=b5.trans (hB6.mono b5.size)) | (go_at_call 170; with_reducible refine (cx.run _).mono ?_;rintro e w7 ⟨rfl,hB7⟩;have b7:=b6.trans (hB7.mono b6.size)))
   go_roundw
   case rel=>exact ⟨_,_,_,_, -c, -sg,k',rfl,rfl,rfl,rfl,rfl,HSg2,HC2,HN,⟨b7⟩⟩
   case measure=>have m1:=HM.o;have m2:=HN.o.meas;simp;omega
end Rt
end
section
namespace En
open Go.RowKit Go.Extern.Stop Go.Stop Go.Extern
open Go.Proofs.YtadcmepaniiciaaGreatDoor.Nm Go.Proofs.YtadcmepaniiciaaGreatDoor.Rt
open N10 (Two)
theorem Qmz {p q:Rat} (fp:FitQ p) (fq:FitQ q):Ret 177 #[rq p,rq q] (.int .i64 (cmpQ p q)):=fun W=>by
 have d1:=p.den_pos;have d2:=q.den_pos;exact Qib _ _ _ _ (cmpQ p q) _ W ⟨p.num,p.den,q.num,q.den,fp.1,fp.2,fq.1,fq.2,by omega,by omega,rfl,rfl,rfl,rfl,rfl,rfl⟩ (QbF fp) (QbF fq)
theorem Qnw (p q:Rat):cmpQ p q≤0↔p≤q:=by
 rcases Qcs p q with ⟨e,h1⟩ | ⟨e,h1⟩ | ⟨e,h1⟩
 ·rw [e];exact ⟨fun _=>Rat.le_of_lt h1,fun _=>by decide⟩
 ·rw [e,h1];exact ⟨fun _=>Rat.le_refl,fun _=>by decide⟩
 ·rw [e];exact ⟨fun h2=>absurd h2 (by decide),fun h2=>absurd h2 (Rat.not_le.2 h1)⟩
structure BQ (n d:Nat) (q:Rat):Prop where
 num:q.num.natAbs≤n
 den:q.den≤d
theorem BQ.fit {n d:Nat} {q:Rat} (h:BQ n d q) (hn:n<10^200) (hd:d<10^200):FitQ q:=⟨Qas (Nat.lt_of_le_of_lt h.num hn),Qas (by rw [Int.natAbs_natCast];exact Nat.lt_of_le_of_lt h.den hd)⟩
theorem BQ.of_div {x y:Int} {n d:Nat} (h0:y≠0) (hx:x.natAbs≤n) (hy:y.natAbs≤d):BQ n d (Rat.divInt x y):=⟨Nat.le_trans (Qok h0).1 hx,Nat.le_trans (Qok h0).2 hy⟩
theorem Qrr (q:Rat):q=Rat.divInt q.num q.den:=(Rat.num_divInt_den q).symm
theorem Qbu {x y:Int} {m n:Nat} (hx:x.natAbs≤m) (hy:y.natAbs≤n):(x*y).natAbs≤m*n:=by rw [Int.natAbs_mul];exact Nat.mul_le_mul hx hy
theorem Qcb {n d:Nat} {q:Rat} (h:BQ n d q):(q.den:Int).natAbs≤d:=by rw [Int.natAbs_natCast];exact h.den
theorem BQ.add {n1 d1 n2 d2:Nat} {p q:Rat} (hp:BQ n1 d1 p) (hq:BQ n2 d2 q):BQ (n1*d2+n2*d1) (d1*d2) (p+q):=by
 have e1:=p.den_pos;have e2:=q.den_pos;rw [Qrr p,Qrr q,Rat.divInt_add_divInt _ _ (by omega) (by omega)];refine .of_div (Int.mul_ne_zero (by omega) (by omega)) ?_ (Qbu (Qcb hp) (Qcb hq));exact Nat.le_trans (Int.natAbs_add_le _ _) (Nat.add_le_add (Qbu hp.num (Qcb hq)) (Qbu hq.num (Qcb hp)))
theorem QbP {z:Int} {n:Nat} (h:z.natAbs≤n) (hn:n<10^200):Fits z:=Qas (Nat.lt_of_le_of_lt h hn)
theorem Quy {n1 d1 n2 d2:Nat} {p q:Rat} (hp:BQ n1 d1 p) (hq:BQ n2 d2 q) (h1:n1*d2+n2*d1<10^200) (h2:d1*d2<10^200):addQ p q=some (p+q):=by
 have a:=Qbu hp.num (Qcb hq);have b:=Qbu hq.num (Qcb hp);rw [addQ,if_pos];exact ⟨QbP a (by omega),QbP b (by omega),QbP (Nat.le_trans (Int.natAbs_add_le _ _) (Nat.add_le_add a b)) h1,QbP (Qbu (Qcb hp) (Qcb hq)) h2⟩
theorem Quz {n1 d1 n2 d2:Nat} {p q:Rat} (hp:BQ n1 d1 p) (hq:BQ n2 d2 q) (h1:n1*d2+n2*d1<10^200) (h2:d1*d2<10^200):subQ p q=some (p-q):=by
 have a:=Qbu hp.num (Qcb hq);have b:=Qbu hq.num (Qcb hp);rw [subQ,if_pos];exact ⟨QbP a (by omega),QbP b (by omega),QbP (Nat.le_trans (Int.natAbs_sub_le _ _) (Nat.add_le_add a b)) h1,QbP (Qbu (Qcb hp) (Qcb hq)) h2⟩
theorem QuA {n1 d1 n2 d2:Nat} {p q:Rat} (hp:BQ n1 d1 p) (hq:BQ n2 d2 q) (h1:n1*n2<10^200) (h2:d1*d2<10^200):mulQ p q=some (p*q):=by
 rw [mulQ,if_pos ⟨QbP (Qbu hp.num hq.num) h1,QbP (Qbu (Qcb hp) (Qcb hq)) h2⟩]
theorem Qrs {o1 o2:Option Rat} (h1:FitO o1) (h2:FitO o2):Ret 241 #[vO o1,vO o2] (resO (Qbk addQ o1 o2)):=fun W=>by
 have:=Qqk (sn o1) (sd o1) (sn o2) (sd o2) h1.sizes.1 h1.sizes.2 h2.sizes.1 h2.sizes.2 W;rw [addB h1 h2] at this;exact this
theorem QuB {o1 o2:Option Rat} (h1:FitO o1) (h2:FitO o2):Ret 242 #[vO o1,vO o2] (resO (Qbk subQ o1 o2)):=fun W=>by
 have:=Qqm (sn o1) (sd o1) (sn o2) (sd o2) h1.sizes.1 h1.sizes.2 h2.sizes.1 h2.sizes.2 W;rw [subB h1 h2] at this;exact this
theorem QuC {o1 o2:Option Rat} (h1:FitO o1) (h2:FitO o2):Ret 233 #[vO o1,vO o2] (resO (Qbk mulQ o1 o2)):=fun W=>by
 have:=Qqn (sn o1) (sd o1) (sn o2) (sd o2) h1.sizes.1 h1.sizes.2 h2.sizes.1 h2.sizes.2 W;rw [mulB h1 h2] at this;exact this
end En
end
end Go.Proofs.YtadcmepaniiciaaGreatDoor
