import Derived.Test.YtihlgifojjeoaaaGreatDoorZ6A5
import Derived.Test.YtihlgifojjeoaaaGreatDoorZ6C4
set_option maxRecDepth 1000000
set_option maxHeartbeats 40000000
open Go.Value renaming string→Z
open Go.Obj renaming cells→O
namespace Go.Proofs.YtihlgifojjeoaaaGreatDoor
section
namespace En
open Go.RowKit Go.Extern.Stop Go.Stop Go.Extern
open Go.Proofs.YtihlgifojjeoaaaGreatDoor.Nm Go.Proofs.YtihlgifojjeoaaaGreatDoor.Rt
def pq (r:Rat):P2:=(txt r.num,txt (r.den:Int))
def iq (p q:Rat):Value:=.agg #[Z (txt p.num),Z (txt (p.den:Int)),Z (txt q.num),Z (txt (q.den:Int))]
theorem QsN {p q:Rat} (h:p≠q):((txt p.num).toList == (txt q.num).toList)=false∨(((txt p.num).toList == (txt q.num).toList)=true∧((txt (p.den:Int)).toList == (txt (q.den:Int)).toList)=false):=by
 rw [QcU,QcU];by_cases h1:txt p.num=txt q.num
 ·right;refine ⟨decide_eq_true h1,decide_eq_false (fun h2=>h (QfJ (Prod.ext h1 h2)))⟩
 ·exact .inl (decide_eq_false h1)
theorem Qrn (p q:Rat) (h:p≠q):decide (cmpQ p q<0)=decide (p≤q):=by
 rw [decide_eq_decide];rcases Qcs p q with ⟨e,h1⟩ | ⟨_,h1⟩ | ⟨e,h1⟩
 ·rw [e];exact ⟨fun _=>Rat.le_of_lt h1,fun _=>by decide⟩
 ·exact absurd h1 h
 ·rw [e];exact ⟨fun h2=>absurd h2 (by decide),fun h2=>absurd h2 (Rat.not_le.2 h1)⟩
theorem QkS {p q:Rat} (hp:FitQ p) (hq:FitQ q):Ret 82 #[frc (pq p).1 (pq p).2,frc (pq q).1 (pq q).2] (.bool (decide (p≤q))):=by
 by_cases h:p=q
 ·subst h;rw [decide_eq_true (Rat.le_refl)];exact QjE _ _
 ·rw [←Qrn p q h];exact Qix _ _ _ _ _ (fun W=>QgB hp hq W) (QsN h)
theorem Qqh {p q:Rat} (hp:FitQ p) (hq:FitQ q):Ret 133 #[frc (pq p).1 (pq p).2,frc (pq q).1 (pq q).2] (.bool (decide (q≤p))):=QlD _ _ _ _ _ (QkS hq hp)
theorem Qia {p:Rat} (hp:FitQ p):Ret 65 #[.agg #[Z (txt p.num),Z (txt (p.den:Int))]] (.bool true):=fun W=>by
 have:=Qgm (txt p.num) (txt (p.den:Int)) hp.size.1 hp.size.2 W;rw [QdG hp] at this;exact this
theorem QcE {p q:Rat} (hp:FitQ p) (hq:FitQ q):Ret 129 #[iq p q] (.bool (decide (p≤q))):=by
 by_cases h:p=q
 ·subst h;rw [decide_eq_true (Rat.le_refl)];exact fun W=>QlC _ _ true (Qia hp) W
 ·rw [←Qrn p q h];exact fun W=>QjD _ _ _ _ _ (fun W=>QgB hp hq W) (QsN h) W
theorem QsO {r:Rat} (hr:FitQ r):Ret 84 #[.agg #[Z (txt r.num),Z (txt (r.den:Int))]] (iq r r):=QmY _ _ true (Qia hr)
noncomputable def valP (s:P2):Rat:=(qOf s.1 s.2).getD 0
noncomputable def AL (s t:P2):Bool:=decide (valP s≤valP t)
noncomputable def AG (s t:P2):Bool:=decide (valP t≤valP s)
def PQ (s:P2):Prop:=∃ r,FitQ r∧s=pq r
theorem Qfr {r:Rat} (h:FitQ r):valP (pq r)=r:=by rw [valP,pq,QdG h];rfl
theorem Qro (p q:P2) (hp:PQ p) (hq:PQ q):Ret 82 #[frc p.1 p.2,frc q.1 q.2] (.bool (AL p q)):=by
 obtain ⟨r,hr,rfl⟩:=hp;obtain ⟨s,hs,rfl⟩:=hq;rw [AL,Qfr hr,Qfr hs];exact QkS hr hs
theorem Qrp (p q:P2) (hp:PQ p) (hq:PQ q):Ret 133 #[frc p.1 p.2,frc q.1 q.2] (.bool (AG p q)):=by
 obtain ⟨r,hr,rfl⟩:=hp;obtain ⟨s,hs,rfl⟩:=hq;rw [AG,Qfr hr,Qfr hs];exact Qqh hr hs
theorem QgD (A:P2→P2→Bool) (L:Nat→P2) (k:Nat):QdB A L (k+2)=if A (L (k+1)) (QdB A L (k+1)) then L (k+1) else QdB A L (k+1):=rfl
theorem QkT (L:Nat→P2) (ev:Nat→Rat):∀ k,(∀ t,t≤k→FitQ (ev t)∧L t=pq (ev t))→∃ i,i≤k∧QdB AL L (k+1)=pq (ev i)∧∀ j,j≤k→ev i≤ev j
 | 0,h=>⟨0,Nat.le_refl _,(h 0 Lr).2,fun j hj=>by obtain rfl:j=0:=(by omega);exact Rat.le_refl⟩
 | k+1,h=>by
  obtain ⟨i,hi,e,hall⟩:=QkT L ev k (fun t ht=>h t (by omega));rw [QgD,e,(h (k+1) Lr).2,AL,Qfr (h (k+1) Lr).1,Qfr (h i (by omega)).1];by_cases hc:ev (k+1)≤ev i
  ·rw [if_pos (decide_eq_true hc)];refine ⟨k+1,Nat.le_refl _,rfl,fun j hj => ?_⟩;rcases Nat.lt_or_ge j (k+1) with h1 | h1
   ·exact Rat.le_trans hc (hall j (by omega))
   ·obtain rfl:j=k+1:=by omega
    exact Rat.le_refl
  ·rw [if_neg (by simpa using hc)];refine ⟨i,by omega,rfl,fun j hj => ?_⟩;rcases Nat.lt_or_ge j (k+1) with h1 | h1
   ·exact hall j (by omega)
   ·obtain rfl:j=k+1:=by omega
    exact Rat.le_of_lt (Rat.not_le.1 hc)
theorem QgE (L:Nat→P2) (ev:Nat→Rat):∀ k,(∀ t,t≤k→FitQ (ev t)∧L t=pq (ev t))→∃ i,i≤k∧QdB AG L (k+1)=pq (ev i)∧∀ j,j≤k→ev j≤ev i
 | 0,h=>⟨0,Nat.le_refl _,(h 0 Lr).2,fun j hj=>by obtain rfl:j=0:=(by omega);exact Rat.le_refl⟩
 | k+1,h=>by
  obtain ⟨i,hi,e,hall⟩:=QgE L ev k (fun t ht=>h t (by omega));rw [QgD,e,(h (k+1) Lr).2,AG,Qfr (h (k+1) Lr).1,Qfr (h i (by omega)).1];by_cases hc:ev i≤ev (k+1)
  ·rw [if_pos (decide_eq_true hc)];refine ⟨k+1,Nat.le_refl _,rfl,fun j hj => ?_⟩;rcases Nat.lt_or_ge j (k+1) with h1 | h1
   ·exact Rat.le_trans (hall j (by omega)) hc
   ·obtain rfl:j=k+1:=by omega
    exact Rat.le_refl
  ·rw [if_neg (by simpa using hc)];refine ⟨i,by omega,rfl,fun j hj => ?_⟩;rcases Nat.lt_or_ge j (k+1) with h1 | h1
   ·exact hall j (by omega)
   ·obtain rfl:j=k+1:=by omega
    exact Rat.le_of_lt (Rat.not_le.1 hc)
def en (p q:Rat) (i:Nat):Rat:=if i=0 then p else q
noncomputable def ne_ (p q:Rat):Nat:=if p=q then 1 else 2
theorem QkU (p q:Rat):QmU (iq p q) (ne_ p q) (fun i=>pq (en p q i)):=by
 by_cases h:p=q
 ·subst h;rw [ne_,if_pos rfl];exact QmV _ _ _ rfl
 ·rw [ne_,if_neg h];exact QlE _ _ _ _ _ rfl rfl (QsN h)
theorem ne_b (p q:Rat):1≤ne_ p q∧ne_ p q≤2:=by rw [ne_];split <;> omega
theorem QfA (p q:Rat) (i:Nat):en p q i=p∨en p q i=q:=by rw [en];split <;> simp
theorem QkV {p q u:Rat} (h:u=p∨u=q):∃ i,i<ne_ p q∧en p q i=u:=by
 by_cases he:p=q
 ·subst he;refine ⟨0,by rw [ne_,if_pos rfl];omega, ?_⟩;rcases h with rfl | rfl <;> rfl
 ·rw [ne_,if_neg he];rcases h with rfl | rfl
  ·exact ⟨0,by omega,rfl⟩
  ·exact ⟨1,by omega,rfl⟩
theorem Qjb (i j m:Nat) (hj:j<m):(i*m+j) / m=i∧(i*m+j) % m=j:=by
 rw [Nat.mul_comm];exact ⟨by rw [Nat.mul_add_div (by omega),Nat.div_eq_of_lt hj,Nat.add_zero],by rw [Nat.mul_add_mod,Nat.mod_eq_of_lt hj]⟩
theorem Quw (a:Addr) (k:Nat) (hk:Enters Tryz.prog k) (p1 q1 p2 q2:Rat) (r:Rat→Rat→Rat)
  (hO:∀ u v,(u=p1∨u=q1)→(v=p2∨v=q2)→FitQ (r u v)∧Ret k #[frc (pq u).1 (pq u).2,frc (pq v).1 (pq v).2] (.tuple #[frc (pq (r u v)).1 (pq (r u v)).2,.int .i64 0])) :
  ∃ x y x' y',(x=p1∨x=q1)∧(y=p2∨y=q2)∧(x'=p1∨x'=q1)∧(y'=p2∨y'=q2)∧(∀ u v,(u=p1∨u=q1)→(v=p2∨v=q2)→r x y≤r u v∧r u v≤r x' y') ∧
   ∀ W:World,Ref a W→Calls Tryz.prog 163 #[.func (.func k) #[] #[],iq p1 q1,iq p2 q2] W fun e W'=>e = .returned (iq (r x y) (r x' y'))∧Below W.heap.size W W':=by
 obtain ⟨n,hn⟩:∃ n,n=ne_ p1 q1:=⟨_,rfl⟩;obtain ⟨m,hm⟩:∃ m,m=ne_ p2 q2:=⟨_,rfl⟩;have bn:=ne_b p1 q1;have bm:=ne_b p2 q2;rw [←hn] at bn;rw [←hm] at bm;have hE:=QkU p1 q1;have hD:=QkU p2 q2;rw [←hn] at hE;rw [←hm] at hD;have hnm1:1≤n*m:=Nat.mul_le_mul bn.1 bm.1;have hfit:=fun t:Nat=>(hO _ _ (QfA p1 q1 (t / m)) (QfA p2 q2 (t % m))).1;obtain ⟨i,hi,e1,h1⟩:=QkT (fun t=>pq (r (en p1 q1 (t / m)) (en p2 q2 (t % m)))) (fun t=>r (en p1 q1 (t / m)) (en p2 q2 (t % m))) (n*m-1) (fun t _=>⟨hfit t,rfl⟩);obtain ⟨j,hj,e2,h2⟩:=QgE (fun t=>pq (r (en p1 q1 (t / m)) (en p2 q2 (t % m)))) (fun t=>r (en p1 q1 (t / m)) (en p2 q2 (t % m))) (n*m-1) (fun t _=>⟨hfit t,rfl⟩);rw [show n*m-1+1=n*m by omega] at e1 e2;refine ⟨_,_,_,_,QfA p1 q1 (i / m),QfA p2 q2 (i % m),QfA p1 q1 (j / m),QfA p2 q2 (j % m), ?_, ?_⟩
 ·intro u v hu hv;obtain ⟨iu,hiu,rfl⟩:=QkV hu;obtain ⟨iv,hiv,rfl⟩:=QkV hv;rw [←hn] at hiu;rw [←hm] at hiv;have hd:=Qjb iu iv m hiv
  have hle:iu*m+iv≤n*m-1:=by
   have:=Nat.mul_le_mul_right m (show iu+1≤n by omega);rw [Nat.succ_mul] at this;omega
  have g1:=h1 _ hle;have g2:=h2 _ hle;rw [hd.1,hd.2] at g1 g2;exact ⟨g1,g2⟩
 ·intro W hW;have c:=Qfq a k hk _ _ _ _ _ _ _ _ n m bn bm _ _ hE hD (fun i j=>pq (r (en p1 q1 i) (en p2 q2 j))) (fun _ _=>0) (fun i j _ _=>(hO _ _ (QfA p1 q1 i) (QfA p2 q2 j)).2) PQ AL AG Qro Qrp (fun i j _ _ _=>⟨_,(hO _ _ (QfA p1 q1 i) (QfA p2 q2 j)).1,rfl⟩) (fun t=>pq (r (en p1 q1 (t / m)) (en p2 q2 (t % m)))) (fun i j hj=>by rw [(Qjb i j m hj).1,(Qjb i j m hj).2]) false ⟨fun _ _ _ _ _=>rfl,fun _=>rfl⟩ W hW;rw [if_pos rfl,e1,e2] at c;exact c
end En
end
section
namespace En
open Go.RowKit Go.Extern.Stop Go.Stop Go.Extern
open Go.Proofs.YtihlgifojjeoaaaGreatDoor.Nm Go.Proofs.YtihlgifojjeoaaaGreatDoor.Rt
open N10 (Two)
def resI:Option (Rat×Rat)→Value
 | some r => .tuple #[iq r.1 r.2,.int .i64 0]
 | none => .tuple #[ivl0,.int .i64 50]
def IC (a:Addr) (f:Nat) (args:Array Value) (o:Option (Rat×Rat)):Prop:=∀ W:World,Ref a W→Calls Tryz.prog f args W fun e W'=>e = .returned (resI o)∧Below W.heap.size W W'
def Qjc (o1 o2:Option Rat):Option (Rat×Rat):=o1.bind fun p=>o2.bind fun q=>some (p,q)
theorem Qqi (o1 o2:Option Rat):(if (true:Bool)=true∧(true:Bool)=true∧(!(decide (cd o1=0∧cd o2=0)))=false then Value.tuple #[ivl (sn o1) (sd o1) (sn o2) (sd o2),.int .i64 0] else .tuple #[ivl0,.int .i64 50])=resI (Qjc o1 o2):=by
 cases o1 <;> cases o2 <;> rfl
theorem Qom (o1 o2:Option Rat):(if (true:Bool)=true∧(!(decide (cd o1=0∧cd o2=0)))=false then Value.tuple #[ivl (sn o1) (sd o1) (sn o2) (sd o2),.int .i64 0] else .tuple #[ivl0,.int .i64 50])=resI (Qjc o1 o2):=by
 cases o1 <;> cases o2 <;> rfl
theorem Qon (a:Addr) (c1 c2:Int) (n1 d1 n2 d2:ByteArray):(if c1=0∧c2=0 then Ending.returned (.agg #[Z n1,Z d1,Z n2,Z d2]) else .panicked (refP a))=(if (!(decide (c1=0∧c2=0))) then .panicked (refP a) else .returned (ivl n1 d1 n2 d2)):=by
 by_cases h:c1=0∧c2=0
 ·rw [if_pos h,decide_eq_true h];rfl
 ·rw [if_neg h,decide_eq_false h];rfl
theorem QvM (a:Addr) {p1 q1 p2 q2:Rat} (h1:FitQ p1) (h2:FitQ q1) (h3:FitQ p2) (h4:FitQ q2) (o1:p1≤q1) (o2:p2≤q2):IC a 29 #[iq p1 q1,iq p2 q2] (Qjc (addQ p1 p2) (addQ q1 q2)):=by
 intro W hW;have v1:=QcE h1 h2;have v2:=QcE h3 h4;rw [decide_eq_true o1] at v1;rw [decide_eq_true o2] at v2;rw [←Qqi];exact QrO a _ _ _ _ _ _ _ _ _ _ _ _ true true _ (fun _ _ Bx By V hv hx hy=>(QrP a Bx By _ _ _ _ _ _ _ _ _ _ _ _ _ _ (addO (.some h1) (.some h3)) (addO (.some h2) (.some h4)) V hv hx hy).mono (fun e V' h=>⟨by rw [h.1];exact Qon _ _ _ _ _ _ _,h.2⟩)) v1 v2 W hW
theorem QvN (a:Addr) {p1 q1 p2 q2:Rat} (h1:FitQ p1) (h2:FitQ q1) (h3:FitQ p2) (h4:FitQ q2) (o1:p1≤q1) (o2:p2≤q2) (hm:∀ u v,(u=p1∨u=q1)→(v=p2∨v=q2)→mulQ u v=some (u*v)) :
  ∃ x y x' y',(x=p1∨x=q1)∧(y=p2∨y=q2)∧(x'=p1∨x'=q1)∧(y'=p2∨y'=q2)∧(∀ u v,(u=p1∨u=q1)→(v=p2∨v=q2)→x*y≤u*v∧u*v≤x'*y')∧IC a 123 #[iq p1 q1,iq p2 q2] (some (x*y,x'*y')):=by
 have hu:∀ u,(u=p1∨u=q1)→FitQ u:=fun u h=>by rcases h with rfl | rfl <;> assumption
 have hv:∀ v,(v=p2∨v=q2)→FitQ v:=fun u h=>by rcases h with rfl | rfl <;> assumption
 obtain ⟨x,y,x',y',hx,hy,hx',hy',hall,hc⟩:=Quw a 95 (enters_of Tryz.func95 (by kernel_rfl) rfl) p1 q1 p2 q2 (fun u v=>u*v) (fun u v h5 h6=>⟨FitQ.mulQ (hm u v h5 h6),fun W=>by
  have:=mulO (.some (hu u h5)) (.some (hv v h6)) W;rw [show Qbk mulQ (some u) (some v)=some (u*v) from hm u v h5 h6] at this;exact this⟩)
 refine ⟨x,y,x',y',hx,hy,hx',hy',hall,fun W hW => ?_⟩;have v1:=QcE h1 h2;have v2:=QcE h3 h4;rw [decide_eq_true o1] at v1;rw [decide_eq_true o2] at v2;exact QmR a _ _ _ _ _ _ _ _ _ _ _ _ true true false (fun _ _ Bx By V hv hx hy=>(QmX a Bx By _ _ _ _ _ _ _ _ _ _ _ _ false (fun V' hV'=>hc V' hV') V hv hx hy)) v1 v2 W hW
end En
end
section
namespace En
open Go.RowKit Go.Extern.Stop Go.Stop Go.Extern
open Go.Proofs.YtihlgifojjeoaaaGreatDoor.Nm Go.Proofs.YtihlgifojjeoaaaGreatDoor.Rt
theorem Qoo (c:Nat) (hc:c≤30):(⟨(Lib.repeatL [48] c).toArray⟩:ByteArray).size≤1000:=by
 have h:∀ c:Fin 31,(⟨(Lib.repeatL [48] c.val).toArray⟩:ByteArray).size≤1000:=by decide +kernel
 exact h ⟨c,by omega⟩
def sqN (r:Rat) (c:Nat):Int:=r.num*10^c*10^c / (r.den:Int)
def rtN (r:Rat) (c:Nat):Nat:=sqr (sqN r c).natAbs
def exN (r:Rat) (c:Nat):Bool:=decide (r.num*10^c*10^c % (r.den:Int)=0) && decide (((rtN r c:Nat):Int)*((rtN r c:Nat):Int)=sqN r c)
theorem QgF {x y:Int} (hx:Fits x) (h:y.natAbs≤x.natAbs):Fits y:=Qas (Nat.lt_of_le_of_lt h (QbU hx))
theorem QjY {r:Rat} {c:Nat} (h0:0≤r.num) (hf2:Fits (r.num*10^c*10^c)):Fits (sqN r c)∧0≤sqN r c:=by
 have hd:(0:Int)<(r.den:Int):=by have:=r.den_pos;omega
 have hn:0≤r.num*10^c*10^c:=Int.mul_nonneg (Int.mul_nonneg h0 (Int.le_of_lt (Int.pow_pos (by decide)))) (Int.le_of_lt (Int.pow_pos (by decide)));have h1:0≤sqN r c:=Int.ediv_nonneg hn (Int.le_of_lt hd);refine ⟨QgF hf2 ?_,h1⟩;have h2:sqN r c≤r.num*10^c*10^c:=Int.ediv_le_self _ hn;generalize sqN r c=a at *
 generalize r.num*10^c*10^c=b at *
 omega
theorem Qfi {r:Rat} {c:Nat} (h0:0≤r.num) (hf2:Fits (r.num*10^c*10^c)):Fits ((rtN r c:Nat):Int)∧Fits (((rtN r c:Nat):Int)*((rtN r c:Nat):Int)):=by
 obtain ⟨h1,h2⟩:=QjY h0 hf2;have h3:=(QbJ (sqN r c).natAbs).1;have e:(((rtN r c:Nat):Int)*((rtN r c:Nat):Int)).natAbs=rtN r c*rtN r c:=by rw [Int.natAbs_mul,Int.natAbs_natCast]
 refine ⟨QgF h1 ?_,QgF h1 (by rw [e];exact h3)⟩;rw [Int.natAbs_natCast];refine Nat.le_trans ?_ h3;exact Nat.le_mul_self _
theorem Qop (a:Addr) {r:Rat} (hr:FitQ r) (h0:0≤r.num) {c:Nat} (hc:Fits ((10:Int)^c)) (hf1:Fits (r.num*10^c)) (hf2:Fits (r.num*10^c*10^c)):QgX a (txt r.num) (txt (r.den:Int)) (txt (10^c)) (txt ((rtN r c:Nat):Int)) (exN r c) false:=by
 intro W hW;obtain ⟨h1,h2⟩:=QjY h0 hf2;obtain ⟨h3,h4⟩:=Qfi h0 hf2
 have c':=root_any a (txt r.num) (txt (r.den:Int)) (txt (10^c)) (txt (r.num*10^c)) (txt (r.num*10^c*10^c)) (txt (sqN r c)) (txt (r.num*10^c*10^c % (r.den:Int))) (txt ((rtN r c:Nat):Int)) (txt (((rtN r c:Nat):Int)*((rtN r c:Nat):Int))) 0 0 0 0 (decide (r.num*10^c*10^c % (r.den:Int)=0)) (decide (((rtN r c:Nat):Int)*((rtN r c:Nat):Int)=sqN r c))
  (fun V=>by have:=QdF r.num (10^c) hr.1 hc V;rw [Qav hf1] at this;exact this)
  (fun _ V=>by have:=QdF (r.num*10^c) (10^c) hf1 hc V;rw [Qav hf2] at this;exact this)
  (fun _ _ V=>QiI _ _ hf2 hr.2 (by have:=r.den_pos;omega) V)
  (fun _ _ V=>QsM (sqN r c) h1 h2 (Go.Proofs.YtihlgifojjeoaaaGreatDoor.root_any _ (by have:=Qbx h1;omega)) V)
  (QbN _)
  (fun _ _ _ _ V=>by have:=QdF _ _ h3 h3 V;rw [Qav h4] at this;exact this)
  (by rw [QcU,decide_eq_decide];exact ⟨fun h=>Qcv h,fun h=>by rw [h]⟩) W hW
 rw [if_pos ⟨rfl,rfl,rfl⟩] at c';rw [if_pos rfl];exact c'
def upN (r:Rat) (c:Nat):Int:=if exN r c then ((rtN r c:Nat):Int) else ((rtN r c:Nat):Int)+1
theorem QjZ {r:Rat} {c:Nat} (h0:0≤r.num) (hf2:Fits (r.num*10^c*10^c)):Fits (((rtN r c:Nat):Int)+1):=by
 obtain ⟨h1,h2⟩:=QjY h0 hf2;have h3:=(QbJ (sqN r c).natAbs).1;have h4:=QbU h1;refine Qas ?_;have e:(((rtN r c:Nat):Int)+1).natAbs=rtN r c+1:=by omega
 rw [e];have h5:rtN r c*rtN r c<10^200:=Nat.lt_of_le_of_lt h3 h4;rcases Nat.lt_or_ge (rtN r c) 2 with h | h
 ·refine Nat.lt_of_lt_of_le (show rtN r c+1<10 by omega) ?_;exact Nat.le_trans (Nat.le_of_eq (Nat.pow_one 10).symm) (Nat.pow_le_pow_right (by decide) (by decide))
 ·have:=Nat.mul_le_mul_right (rtN r c) h;generalize (10:Nat)^200=P at *
  omega
theorem Qux (a:Addr) {p q:Rat} (h1:FitQ p) (h2:FitQ q) (o:p≤q) (hp0:0≤p.num) (hq0:0≤q.num) {c:Nat} (hc:c≤30) (hp1:Fits (p.num*10^c)) (hp2:Fits (p.num*10^c*10^c)) (hq1:Fits (q.num*10^c)) (hq2:Fits (q.num*10^c*10^c)) :
  IC a 121 #[iq p q,.int .i64 (c:Int)] (some (Rat.divInt ((rtN p c:Nat):Int) (10^c),Rat.divInt (upN q c) (10^c))):=by
 intro W hW;have v1:=QcE h1 h2;rw [decide_eq_true o] at v1;have hf:Fits ((10:Int)^c):=Qas (Nat.lt_of_le_of_lt (QgC c hc).1 (Nat.pow_lt_pow_right (by decide) (by decide)));have hne:((10:Int)^c)≠0:=Int.ne_of_gt (QgC c hc).2;have t1:txt 1=(⟨#[49]⟩:ByteArray):=by decide +kernel
 have hup:Fits (upN q c):=by
  rw [upN];split
  ·exact (Qfi hq0 hq2).1
  ·exact QjZ hq0 hq2
 exact QhJ a _ _ _ _ _ _ _ _ _ true false (fun _ Bx Bp V hv hx hp=>(QhK a Bp Bx _ _ _ _ ⟨(Lib.repeatL [48] c).toArray⟩ (txt (10^c)) (txt ((rtN p c:Nat):Int)) (txt ((rtN q c:Nat):Int)) (txt (((rtN q c:Nat):Int)+1)) (txt (upN q c)) _ _ _ _ (c:Int) true false false (exN p c) (exN q c) ⟨fun _=>by omega,fun _=>rfl⟩
  (fun _ V'=>Qfg c hc V') (Qoo c hc) (QhV c hc) (fun _=>Qop a h1 hp0 hf hp1 hp2) (fun _=>Qop a h2 hq0 hf hq1 hq2)
  (fun _ _ _ _ V'=>by have:=Qre _ 1 (Qfi hq0 hq2).1 (Qas (by decide)) V';rw [Qav (QjZ hq0 hq2),t1] at this;exact this)
  (by rw [upN];split <;> rfl)
  (fun _ _ _ V'=>Qoi (Qfi hp0 hp2).1 hf hne rfl V') (fun _ _ _ V'=>Qoi hup hf hne rfl V') V hv hx hp).mono (fun e V' h=>⟨by rw [h.1];rfl,h.2⟩)) v1 W hW
theorem QsP {r:Rat} {c:Nat} (h0:r.num<0) (hf2:Fits (r.num*10^c*10^c)):Fits (sqN r c)∧sqN r c<0:=by
 have hd:(0:Int)<(r.den:Int):=by have:=r.den_pos;omega
 have hP:(0:Int)<10^c:=Int.pow_pos (by decide);have hn:r.num*10^c*10^c<0:=Int.mul_neg_of_neg_of_pos (Int.mul_neg_of_neg_of_pos h0 hP) hP;have h1:sqN r c<0:=Int.ediv_neg_of_neg_of_pos hn hd;refine ⟨QgF hf2 ?_,h1⟩;have h2:=Int.natAbs_ediv_le_natAbs (r.num*10^c*10^c) (r.den:Int);exact h2
theorem Qmu (a:Addr) {r:Rat} (hr:FitQ r) (h0:r.num<0) {c:Nat} (hc:Fits ((10:Int)^c)) (hf1:Fits (r.num*10^c)) (hf2:Fits (r.num*10^c*10^c)) (o:ByteArray) (ex:Bool):QgX a (txt r.num) (txt (r.den:Int)) (txt (10^c)) o ex true:=by
 intro W hW;obtain ⟨h1,h2⟩:=QsP h0 hf2
 have c':=root_any a (txt r.num) (txt (r.den:Int)) (txt (10^c)) (txt (r.num*10^c)) (txt (r.num*10^c*10^c)) (txt (sqN r c)) (txt (r.num*10^c*10^c % (r.den:Int))) ⟨#[]⟩ ⟨#[]⟩ 0 0 0 30 (decide (r.num*10^c*10^c % (r.den:Int)=0)) ((⟨#[]⟩:ByteArray).toList == (txt (sqN r c)).toList)
  (fun V=>by have:=QdF r.num (10^c) hr.1 hc V;rw [Qav hf1] at this;exact this)
  (fun _ V=>by have:=QdF (r.num*10^c) (10^c) hf1 hc V;rw [Qav hf2] at this;exact this)
  (fun _ _ V=>QiI _ _ hf2 hr.2 (by have:=r.den_pos;omega) V)
  (fun _ _ V=>Qqg (sqN r c) h1 h2 V)
  (QbN _)
  (fun _ _ h=>absurd h (by decide))
  rfl W hW
 rw [if_neg (fun h=>absurd h.2.2 (by decide))] at c';rw [if_neg (by decide)];exact c'
end En
end
end Go.Proofs.YtihlgifojjeoaaaGreatDoor
