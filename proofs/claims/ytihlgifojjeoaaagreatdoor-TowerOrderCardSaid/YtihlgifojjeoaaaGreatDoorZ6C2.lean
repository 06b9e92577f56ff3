import Derived.Test.YtihlgifojjeoaaaGreatDoorZ6C1
import Derived.Deep.DeepCutAuto
set_option maxRecDepth 1000000
set_option maxHeartbeats 40000000
open Go.Value renaming string→Z
open Go.Obj renaming cells→O
namespace Go.Proofs.YtihlgifojjeoaaaGreatDoor
section
namespace Rt
open Go.RowKit Go.Proofs.YtihlgifojjeoaaaGreatDoor.Nm
open N10 (Two)

def sn:Option Rat→ByteArray
 | some q=>txt q.num
 | none=>⟨#[]⟩
def sd:Option Rat→ByteArray
 | some q=>txt (q.den:Int)
 | none=>⟨#[]⟩
def cd:Option Rat→Int
 | some _=>0
 | none=>40
def vO (o:Option Rat):Value:=.agg #[Z (sn o),Z (sd o)]
def resO (o:Option Rat):Value:=.tuple #[.agg #[Z (sn o),Z (sd o)],.int .i64 (cd o)]
def Qbk (f:Rat→Rat→Option Rat) (o1 o2:Option Rat):Option Rat:=o1.bind fun p=>o2.bind fun q=>f p q
structure FitO (o:Option Rat):Prop where
 fit:∀ q,o=some q→FitQ q
theorem bR_O (o:Option Rat):bR (o.map txtQ)=resO o:=by cases o <;> rfl
theorem FitO.some {q:Rat} (h:FitQ q):FitO (some q):=⟨fun p hp=>by injection hp with hp;exact hp▸h⟩
theorem FitO.sizes {o:Option Rat} (h:FitO o):(sn o).size≤1000000∧(sd o).size≤1000000:=by
 cases o with
 | none=>exact ⟨Nat.zero_le _,Nat.zero_le _⟩
 | some q=>exact (h.fit q rfl).size
theorem Qmq:Qap ⟨#[]⟩=false:=by decide +kernel
theorem QsF:qOf ⟨#[]⟩ ⟨#[]⟩=none:=by rw [qOf,QjI Qmq];rfl
theorem Quv {o:Option Rat} (h:FitO o):qOf (sn o) (sd o)=o:=by
 cases o with
 | none=>exact QsF
 | some q=>exact QdG (h.fit q rfl)
theorem FitO.lift {f:Rat→Rat→Option Rat} (hf:∀ p q r,f p q=Option.some r→FitQ r) (o1 o2:Option Rat):FitO (Qbk f o1 o2):=by
 refine ⟨fun r hr => ?_⟩;rw [Qbk] at hr;cases o1 with
 | none=>cases hr
 | some p =>
  cases o2 with
  | none=>cases hr
  | some q=>exact hf p q r hr
theorem QkN {o1 o2:Option Rat} (h1:FitO o1) (h2:FitO o2) (h:o1=none∨o2=none):qsOk [(sn o1,sd o1),(sn o2,sd o2)]=false:=by
 refine QnV ?_;rw [Quv h1,Quv h2];exact h
theorem QeP (f:Rat→Rat→Option Rat) {o1 o2:Option Rat} (h:o1=none∨o2=none):Qbk f o1 o2=none:=by
 rcases h with rfl | rfl
 ·rfl
 ·cases o1 <;> rfl
theorem QkO (o1 o2:Option Rat):(∃ p q,o1=some p∧o2=some q)∨(o1=none∨o2=none):=by
 cases o1 with
 | none=>exact .inr (.inl rfl)
 | some p =>
  cases o2 with
  | none=>exact .inr (.inr rfl)
  | some q=>exact .inl ⟨p,q,rfl,rfl⟩
theorem addB {o1 o2:Option Rat} (h1:FitO o1) (h2:FitO o2):bR (sumR Qfd (sn o1) (sd o1) (sn o2) (sd o2))=resO (Qbk addQ o1 o2):=by
 rcases QkO o1 o2 with ⟨p,q,rfl,rfl⟩ | h
 ·rw [←bR_O,show Qbk addQ (some p) (some q)=addQ p q from rfl,←Qri (h1.fit p rfl) (h2.fit q rfl)];rfl
 ·rw [sumR,QkN h1 h2 h,QeP _ h];rfl
theorem subB {o1 o2:Option Rat} (h1:FitO o1) (h2:FitO o2):bR (sumR QeI (sn o1) (sd o1) (sn o2) (sd o2))=resO (Qbk subQ o1 o2):=by
 rcases QkO o1 o2 with ⟨p,q,rfl,rfl⟩ | h
 ·rw [←bR_O,show Qbk subQ (some p) (some q)=subQ p q from rfl,←Qrj (h1.fit p rfl) (h2.fit q rfl)];rfl
 ·rw [sumR,QkN h1 h2 h,QeP _ h];rfl
theorem mulB {o1 o2:Option Rat} (h1:FitO o1) (h2:FitO o2):bR (mulR (sn o1) (sd o1) (sn o2) (sd o2))=resO (Qbk mulQ o1 o2):=by
 rcases QkO o1 o2 with ⟨p,q,rfl,rfl⟩ | h
 ·rw [←bR_O,show Qbk mulQ (some p) (some q)=mulQ p q from rfl,←Qug (h1.fit p rfl) (h2.fit q rfl)];rfl
 ·rw [mulR,QkN h1 h2 h,QeP _ h];rfl
theorem divB {o1 o2:Option Rat} (h1:FitO o1) (h2:FitO o2):bR (divR (sn o1) (sd o1) (sn o2) (sd o2))=resO (Qbk divQ o1 o2):=by
 rcases QkO o1 o2 with ⟨p,q,rfl,rfl⟩ | h
 ·rw [←bR_O,show Qbk divQ (some p) (some q)=divQ p q from rfl,←Quh (h1.fit p rfl) (h2.fit q rfl)];rfl
 ·rw [divR,QkN h1 h2 h,QeP _ h];rfl
theorem addO {o1 o2:Option Rat} (h1:FitO o1) (h2:FitO o2):Two 77 #[vO o1,vO o2] (resO (Qbk addQ o1 o2)):=fun W=>by
 have:=Qsq (sn o1) (sd o1) (sn o2) (sd o2) h1.sizes.1 h1.sizes.2 h2.sizes.1 h2.sizes.2 W;rw [addB h1 h2] at this;exact this
theorem subO {o1 o2:Option Rat} (h1:FitO o1) (h2:FitO o2):Two 100 #[vO o1,vO o2] (resO (Qbk subQ o1 o2)):=fun W=>by
 have:=Qsr (sn o1) (sd o1) (sn o2) (sd o2) h1.sizes.1 h1.sizes.2 h2.sizes.1 h2.sizes.2 W;rw [subB h1 h2] at this;exact this
theorem mulO {o1 o2:Option Rat} (h1:FitO o1) (h2:FitO o2):Two 95 #[vO o1,vO o2] (resO (Qbk mulQ o1 o2)):=fun W=>by
 have:=Qsm (sn o1) (sd o1) (sn o2) (sd o2) h1.sizes.1 h1.sizes.2 h2.sizes.1 h2.sizes.2 W;rw [mulB h1 h2] at this;exact this
theorem divO {o1 o2:Option Rat} (h1:FitO o1) (h2:FitO o2):Two 103 #[vO o1,vO o2] (resO (Qbk divQ o1 o2)):=fun W=>by
 have:=Qsn (sn o1) (sd o1) (sn o2) (sd o2) h1.sizes.1 h1.sizes.2 h2.sizes.1 h2.sizes.2 W;rw [divB h1 h2] at this;exact this
theorem QjW {p q r:Rat} (h:addQ p q=some r):r=p+q:=by
 rw [addQ] at h;split at h
 ·injection h with h;exact h.symm
 ·cases h
theorem QsG {p q r:Rat} (h:subQ p q=some r):r=p-q:=by
 rw [subQ] at h;split at h
 ·injection h with h;exact h.symm
 ·cases h
theorem QjX {p q r:Rat} (h:mulQ p q=some r):r=p*q:=by
 rw [mulQ] at h;split at h
 ·injection h with h;exact h.symm
 ·cases h
theorem QsH {p q r:Rat} (h:divQ p q=some r):r=p / q∧q≠0:=by
 rw [divQ] at h;split at h
 ·rename_i hc;injection h with h;exact ⟨h.symm,hc.2.2⟩
 ·cases h
theorem QsI (n d:Int) (n1 : -9223372036854775808≤n) (n2:n≤9223372036854775807) (d1 : -9223372036854775808≤d) (d2:d≤9223372036854775807) (w:World) :
  Calls Tryz.prog 88 #[.int .i64 n,.int .i64 d] w fun e w'=>e = .returned (bR (redR (txt n) (txt d)))∧Below w.heap.size w w':=by
 have f1:Fits n:=Qas (Nat.lt_trans (show n.natAbs<10^20 by omega) (by decide));have f2:Fits d:=Qas (Nat.lt_trans (show d.natAbs<10^20 by omega) (by decide));have cn:=fun W=>N10.Qgz n n1 n2 W;have cd:=fun W=>N10.Qgz d d1 d2 W;have hC:=fun W=>QiT (txt n) (txt d) (QaT f1) (QaT f2) W;obtain ⟨n',d',e0,ho⟩:=Qcw (redR (txt n) (txt d));rw [ho] at hC ⊢;clear ho;generalize txt n=a at *
 generalize txt d=b at *
 go_enter Tryz.func88, Tryz.ntmps88;go_wp2_with (first | (go_at_call 136; with_reducible refine (cn _).mono ?_;rintro e w1 ⟨rfl,hB1⟩) | (go_at_call 136; with_reducible refine (cd _).mono ?_;rintro e w2 ⟨rfl,hB2⟩) | (go_at_call 135; refine (hC _).mono ?_;rintro e w3 ⟨rfl,hB3⟩;obtain ⟨c0,c1,z0,z1⟩:=Qab ((hB3.block w.heap.size (by have h1:=hB1.size;rw [World.size_alloc] at h1;have h2:=hB2.size;omega)).trans ((hB2.block w.heap.size (by have h1:=hB1.size;rw [World.size_alloc] at h1;omega)).trans ((hB1.block w.heap.size (by simp)).trans (World.alloc_heap_new w _))))));have k0:=QaM w3 w.heap.size (Z n') (Z d') _ _ c0 c1;have h1:=hB1.size;rw [World.size_alloc] at h1;have h2:=hB2.size;have hB5:Below w.heap.size w w3:=((((Below.refl w.heap.size w).alloc Lr _).trans (hB1.mono (by simp))).trans (hB2.mono (by omega))).trans (hB3.mono (by omega));refine bodyPost_ret (v:=.tuple #[.agg #[Z n',Z d'],.int .i64 e0]) (by simp [results,Tryz.results88, go_sem,k0.1,k0.2]) rfl ⟨rfl,(hB5.setCell (by simp) _).setCell (by simp) _⟩
theorem QgA {w w':World} {o p:Obj} (h:Below ((w.alloc o).alloc p).heap.size ((w.alloc o).alloc p) w'):Below w.heap.size w w'∧w'.heap[w.heap.size]? = some o∧w'.heap[w.heap.size+1]? = some p :=
 ⟨(((Below.refl w.heap.size w).alloc Lr o).alloc (by simp) p).trans (h.mono (by simp;omega)),(h.block w.heap.size (by simp;omega)).trans (Qgn w o p),(h.block (w.heap.size+1) (by simp)).trans (QaP w o p)⟩
theorem QeQ {w w':World} {o p q:Obj} (h:Below (((w.alloc o).alloc p).alloc q).heap.size (((w.alloc o).alloc p).alloc q) w'):Below w.heap.size w w'∧w'.heap[w.heap.size]? = some o∧w'.heap[w.heap.size+1]? = some p∧w'.heap[w.heap.size+1+1]? = some q:=by
 have h2:=QgZ h;have h1:=QgA h2.1;rw [World.size_alloc,World.size_alloc] at h2;exact ⟨h1.1,h1.2.1,h1.2.2,h2.2⟩
theorem Qfh {W:World} {b:Nat} {x y u v:Value} {T:TypeId} (h:W.heap[b]? = some (O #[x,y] T (0,0))):((W.setCell ⟨b,0,none⟩ u).setCell ⟨b,1,none⟩ v).heap[b]? = some (O #[u,v] T (0,0)):=by
 obtain ⟨hl,hg⟩:=Array.getElem?_eq_some_iff.1 h;simp [World.setCell,hl,Array.getElem_modify,hg]
theorem Qdj {W:World} {b k:Nat} {u v:Value} {o:Obj} (h:W.heap[k]? = some o) (hne:k≠b):((W.setCell ⟨b,0,none⟩ u).setCell ⟨b,1,none⟩ v).heap[k]? = some o :=
 (Below.heap_setCell _ _ _ _ (by exact hne)).trans ((Below.heap_setCell _ _ _ _ (by exact hne)).trans h)
end Rt
end
end Go.Proofs.YtihlgifojjeoaaaGreatDoor
