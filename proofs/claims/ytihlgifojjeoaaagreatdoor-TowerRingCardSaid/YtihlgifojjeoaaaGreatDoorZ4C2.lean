/-
  What the operations answer to fractions that may be missing.
-/
import Derived.Test.YtihlgifojjeoaaaGreatDoorZ4C1
import Derived.Deep.DeepCutAuto
set_option maxRecDepth 1000000
set_option maxHeartbeats 40000000
open Go.Value renaming string→Z
open Go.Obj renaming cells→O
namespace Go.Proofs.YtihlgifojjeoaaaGreatDoor
section
namespace Rt
open Go.RowKit Go.Proofs.YtihlgifojjeoaaaGreatDoor.Nm
open N10 (Two)

def sn:Option Rat→ByteArray
 | some q=>txt q.num
 | none=>⟨#[]⟩
def sd:Option Rat→ByteArray
 | some q=>txt (q.den:Int)
 | none=>⟨#[]⟩
def cd:Option Rat→Int
 | some _=>0
 | none=>40
def vO (o:Option Rat):Value:=.agg #[Z (sn o),Z (sd o)]
def resO (o:Option Rat):Value:=.tuple #[.agg #[Z (sn o),Z (sd o)],.int .i64 (cd o)]
def lift2 (f:Rat→Rat→Option Rat) (o1 o2:Option Rat):Option Rat:=o1.bind fun p=>o2.bind fun q=>f p q
structure FitO (o:Option Rat):Prop where
 fit:∀ q,o=some q→FitQ q
theorem bR_O (o:Option Rat):bR (o.map txtQ)=resO o:=by cases o <;> rfl
theorem FitO.some {q:Rat} (h:FitQ q):FitO (some q):=⟨fun p hp=>by injection hp with hp;exact hp▸h⟩
theorem FitO.sizes {o:Option Rat} (h:FitO o):(sn o).size≤1000000∧(sd o).size≤1000000:=by
 cases o with
 | none=>exact ⟨Nat.zero_le _,Nat.zero_le _⟩
 | some q=>exact (h.fit q rfl).size
theorem validB_nil:validB ⟨#[]⟩=false:=by decide +kernel
theorem qOf_nil:qOf ⟨#[]⟩ ⟨#[]⟩=none:=by rw [qOf,zOf_bad validB_nil];rfl
theorem qOf_O {o:Option Rat} (h:FitO o):qOf (sn o) (sd o)=o:=by
 cases o with
 | none=>exact qOf_nil
 | some q=>exact qOf_txt (h.fit q rfl)
theorem FitO.lift {f:Rat→Rat→Option Rat} (hf:∀ p q r,f p q=Option.some r→FitQ r) (o1 o2:Option Rat):FitO (lift2 f o1 o2):=by
 refine ⟨fun r hr => ?_⟩;rw [lift2] at hr;cases o1 with
 | none=>cases hr
 | some p =>
  cases o2 with
  | none=>cases hr
  | some q=>exact hf p q r hr
theorem qs_bad {o1 o2:Option Rat} (h1:FitO o1) (h2:FitO o2) (h:o1=none∨o2=none):qsOk [(sn o1,sd o1),(sn o2,sd o2)]=false:=by
 refine qsOk_bad2 ?_;rw [qOf_O h1,qOf_O h2];exact h
theorem lift_none (f:Rat→Rat→Option Rat) {o1 o2:Option Rat} (h:o1=none∨o2=none):lift2 f o1 o2=none:=by
 rcases h with rfl | rfl
 ·rfl
 ·cases o1 <;> rfl
theorem o_ways (o1 o2:Option Rat):(∃ p q,o1=some p∧o2=some q)∨(o1=none∨o2=none):=by
 cases o1 with
 | none=>exact .inr (.inl rfl)
 | some p =>
  cases o2 with
  | none=>exact .inr (.inr rfl)
  | some q=>exact .inl ⟨p,q,rfl,rfl⟩
theorem addB {o1 o2:Option Rat} (h1:FitO o1) (h2:FitO o2):bR (sumR opAdd (sn o1) (sd o1) (sn o2) (sd o2))=resO (lift2 addQ o1 o2):=by
 rcases o_ways o1 o2 with ⟨p,q,rfl,rfl⟩ | h
 ·rw [←bR_O,show lift2 addQ (some p) (some q)=addQ p q from rfl,←addR_q (h1.fit p rfl) (h2.fit q rfl)];rfl
 ·rw [sumR,qs_bad h1 h2 h,lift_none _ h];rfl
theorem subB {o1 o2:Option Rat} (h1:FitO o1) (h2:FitO o2):bR (sumR opSub (sn o1) (sd o1) (sn o2) (sd o2))=resO (lift2 subQ o1 o2):=by
 rcases o_ways o1 o2 with ⟨p,q,rfl,rfl⟩ | h
 ·rw [←bR_O,show lift2 subQ (some p) (some q)=subQ p q from rfl,←subR_q (h1.fit p rfl) (h2.fit q rfl)];rfl
 ·rw [sumR,qs_bad h1 h2 h,lift_none _ h];rfl
theorem mulB {o1 o2:Option Rat} (h1:FitO o1) (h2:FitO o2):bR (mulR (sn o1) (sd o1) (sn o2) (sd o2))=resO (lift2 mulQ o1 o2):=by
 rcases o_ways o1 o2 with ⟨p,q,rfl,rfl⟩ | h
 ·rw [←bR_O,show lift2 mulQ (some p) (some q)=mulQ p q from rfl,←mulR_q (h1.fit p rfl) (h2.fit q rfl)];rfl
 ·rw [mulR,qs_bad h1 h2 h,lift_none _ h];rfl
theorem divB {o1 o2:Option Rat} (h1:FitO o1) (h2:FitO o2):bR (divR (sn o1) (sd o1) (sn o2) (sd o2))=resO (lift2 divQ o1 o2):=by
 rcases o_ways o1 o2 with ⟨p,q,rfl,rfl⟩ | h
 ·rw [←bR_O,show lift2 divQ (some p) (some q)=divQ p q from rfl,←divR_q (h1.fit p rfl) (h2.fit q rfl)];rfl
 ·rw [divR,qs_bad h1 h2 h,lift_none _ h];rfl
theorem addO {o1 o2:Option Rat} (h1:FitO o1) (h2:FitO o2):Two 77 #[vO o1,vO o2] (resO (lift2 addQ o1 o2)):=fun W=>by
 have:=Add_all (sn o1) (sd o1) (sn o2) (sd o2) h1.sizes.1 h1.sizes.2 h2.sizes.1 h2.sizes.2 W;rw [addB h1 h2] at this;exact this
theorem subO {o1 o2:Option Rat} (h1:FitO o1) (h2:FitO o2):Two 100 #[vO o1,vO o2] (resO (lift2 subQ o1 o2)):=fun W=>by
 have:=Sub_all (sn o1) (sd o1) (sn o2) (sd o2) h1.sizes.1 h1.sizes.2 h2.sizes.1 h2.sizes.2 W;rw [subB h1 h2] at this;exact this
theorem mulO {o1 o2:Option Rat} (h1:FitO o1) (h2:FitO o2):Two 95 #[vO o1,vO o2] (resO (lift2 mulQ o1 o2)):=fun W=>by
 have:=Mul_all (sn o1) (sd o1) (sn o2) (sd o2) h1.sizes.1 h1.sizes.2 h2.sizes.1 h2.sizes.2 W;rw [mulB h1 h2] at this;exact this
theorem divO {o1 o2:Option Rat} (h1:FitO o1) (h2:FitO o2):Two 103 #[vO o1,vO o2] (resO (lift2 divQ o1 o2)):=fun W=>by
 have:=Div_all (sn o1) (sd o1) (sn o2) (sd o2) h1.sizes.1 h1.sizes.2 h2.sizes.1 h2.sizes.2 W;rw [divB h1 h2] at this;exact this
theorem addQ_eq {p q r:Rat} (h:addQ p q=some r):r=p+q:=by
 rw [addQ] at h;split at h
 ·injection h with h;exact h.symm
 ·cases h
theorem subQ_eq {p q r:Rat} (h:subQ p q=some r):r=p-q:=by
 rw [subQ] at h;split at h
 ·injection h with h;exact h.symm
 ·cases h
theorem mulQ_eq {p q r:Rat} (h:mulQ p q=some r):r=p*q:=by
 rw [mulQ] at h;split at h
 ·injection h with h;exact h.symm
 ·cases h
theorem divQ_eq {p q r:Rat} (h:divQ p q=some r):r=p / q∧q≠0:=by
 rw [divQ] at h;split at h
 ·rename_i hc;injection h with h;exact ⟨h.symm,hc.2.2⟩
 ·cases h
theorem OfR_all (n d:Int) (n1 : -9223372036854775808≤n) (n2:n≤9223372036854775807) (d1 : -9223372036854775808≤d) (d2:d≤9223372036854775807) (w:World) :
  Calls Tryz.prog 88 #[.int .i64 n,.int .i64 d] w fun e w'=>e = .returned (bR (redR (txt n) (txt d)))∧Below w.heap.size w w':=by
 have f1:Fits n:=fits_small (Nat.lt_trans (show n.natAbs<10^20 by omega) (by decide));have f2:Fits d:=fits_small (Nat.lt_trans (show d.natAbs<10^20 by omega) (by decide));have cn:=fun W=>N10.FromInt_ref n n1 n2 W;have cd:=fun W=>N10.FromInt_ref d d1 d2 W;have hC:=fun W=>MakeR_all (txt n) (txt d) (txt_size6 f1) (txt_size6 f2) W;obtain ⟨n',d',e0,ho⟩:=bR_form (redR (txt n) (txt d));rw [ho] at hC ⊢;clear ho;generalize txt n=a at *
 generalize txt d=b at *
 go_enter Tryz.func88, Tryz.ntmps88;go_wp2_with (first | (go_at_call 136; with_reducible refine (cn _).mono ?_;rintro e w1 ⟨rfl,hB1⟩) | (go_at_call 136; with_reducible refine (cd _).mono ?_;rintro e w2 ⟨rfl,hB2⟩) | (go_at_call 135; refine (hC _).mono ?_;rintro e w3 ⟨rfl,hB3⟩;obtain ⟨c0,c1,z0,z1⟩:=cell_box ((hB3.block w.heap.size (by have h1:=hB1.size;rw [World.size_alloc] at h1;have h2:=hB2.size;omega)).trans ((hB2.block w.heap.size (by have h1:=hB1.size;rw [World.size_alloc] at h1;omega)).trans ((hB1.block w.heap.size (by simp)).trans (World.alloc_heap_new w _))))));have k0:=cell_two w3 w.heap.size (Z n') (Z d') _ _ c0 c1;have h1:=hB1.size;rw [World.size_alloc] at h1;have h2:=hB2.size;have hB5:Below w.heap.size w w3:=((((Below.refl w.heap.size w).alloc Lr _).trans (hB1.mono (by simp))).trans (hB2.mono (by omega))).trans (hB3.mono (by omega));refine bodyPost_ret (v:=.tuple #[.agg #[Z n',Z d'],.int .i64 e0]) (by simp [results,Tryz.results88, go_sem,k0.1,k0.2]) rfl ⟨rfl,(hB5.setCell (by simp) _).setCell (by simp) _⟩
theorem lstep2 {w w':World} {o p:Obj} (h:Below ((w.alloc o).alloc p).heap.size ((w.alloc o).alloc p) w'):Below w.heap.size w w'∧w'.heap[w.heap.size]? = some o∧w'.heap[w.heap.size+1]? = some p :=
 ⟨(((Below.refl w.heap.size w).alloc Lr o).alloc (by simp) p).trans (h.mono (by simp;omega)),(h.block w.heap.size (by simp;omega)).trans (res_old w o p),(h.block (w.heap.size+1) (by simp)).trans (res_two w o p)⟩
theorem lstep3 {w w':World} {o p q:Obj} (h:Below (((w.alloc o).alloc p).alloc q).heap.size (((w.alloc o).alloc p).alloc q) w'):Below w.heap.size w w'∧w'.heap[w.heap.size]? = some o∧w'.heap[w.heap.size+1]? = some p∧w'.heap[w.heap.size+1+1]? = some q:=by
 have h2:=lstep h;have h1:=lstep2 h2.1;rw [World.size_alloc,World.size_alloc] at h2;exact ⟨h1.1,h1.2.1,h1.2.2,h2.2⟩
theorem box_set {W:World} {b:Nat} {x y u v:Value} {T:TypeId} (h:W.heap[b]? = some (O #[x,y] T (0,0))):((W.setCell ⟨b,0,none⟩ u).setCell ⟨b,1,none⟩ v).heap[b]? = some (O #[u,v] T (0,0)):=by
 obtain ⟨hl,hg⟩:=Array.getElem?_eq_some_iff.1 h;simp [World.setCell,hl,Array.getElem_modify,hg]
theorem box_other {W:World} {b k:Nat} {u v:Value} {o:Obj} (h:W.heap[k]? = some o) (hne:k≠b):((W.setCell ⟨b,0,none⟩ u).setCell ⟨b,1,none⟩ v).heap[k]? = some o :=
 (Below.heap_setCell _ _ _ _ (by exact hne)).trans ((Below.heap_setCell _ _ _ _ (by exact hne)).trans h)
end Rt
end
end Go.Proofs.YtihlgifojjeoaaaGreatDoor
