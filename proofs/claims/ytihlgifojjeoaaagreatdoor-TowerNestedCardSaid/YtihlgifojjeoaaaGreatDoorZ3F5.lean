/-
  Package tower: isZero, zeros, halves, Concat over fractions; fields in memory.
-/
import Derived.Test.YtihlgifojjeoaaaGreatDoorZ3F4
set_option maxRecDepth 1000000
set_option maxHeartbeats 40000000
open Go.Value renaming string→J
open Go.Obj renaming cells→Jc
namespace Go.Proofs.YtihlgifojjeoaaaGreatDoor
namespace Tw
open Go.RowKit Go.Extern.Stop Go.Stop Go.Extern
open En Go.Proofs.YtihlgifojjeoaaaGreatDoor.Nm Go.Proofs.YtihlgifojjeoaaaGreatDoor.Rt
theorem txt0:txt 0=⟨#[48]⟩:=by decide +kernel
theorem txt1:txt 1=⟨#[49]⟩:=by decide +kernel
theorem pq0:pq 0=(⟨#[48]⟩,⟨#[49]⟩):=by rw [pq];exact Prod.ext txt0 txt1
theorem fit0:FitQ 0:=⟨fits_small (by decide),fits_small (by decide)⟩
theorem list_of {a:ByteArray} {b:List UInt8} (h:a.toList=b) (c:ByteArray) (hc:c.toList=b):a=c:=by
 have:(a.toList == c.toList)=true:=by rw [h,hc];exact beq_self_eq_true _
 rw [str_eq] at this
 exact of_decide_eq_true this
theorem nz_q (q:Rat):nz (pq q) = !decide (q=0):=by
 rw [nz]
 by_cases h:q=0
 ·subst h
  rw [pq0];decide +kernel
 ·rw [decide_eq_false h]
  cases hd:(decide ((pq q).1.toList = [48]) && decide ((pq q).2.toList = [49])) with
  | false=>rfl
  | true =>
   rw [Bool.and_eq_true] at hd
   have h1:=list_of (of_decide_eq_true hd.1) ⟨#[48]⟩ (by decide +kernel)
   have h2:=list_of (of_decide_eq_true hd.2) ⟨#[49]⟩ (by decide +kernel)
   exact absurd (txtQ_inj (show txtQ q=txtQ 0 from (Prod.ext h1 h2:pq q=(⟨#[48]⟩,⟨#[49]⟩)).trans pq0.symm)) h
theorem allZ_q:∀ (l:List Rat) (n:Nat),n≤l.length→allZ (pqs l) n=(l.take n).all fun r=>decide (r=0)
 | l,0,_=>by rw [List.take_zero];rfl
 | l,n+1,h=>by
  rw [allZ,allZ_q l n (by omega),List.take_succ_eq_append_getElem (by omega),List.all_append,pqs,nz_q,List.getD_eq_getElem?_getD,List.getElem?_eq_getElem (by omega)]
  simp
theorem isZero_O {l:List Rat} {vx:Value} (hn:l.length≤1000) (w:World) (hg:Gl w) (hx:El w vx l) :
  Calls Tryz.prog 64 #[vx] w fun e w'=>e = .returned (.bool (zeroL l))∧Below w.heap.size w w':=by
 obtain ⟨b,o,cap,rfl,h1,h2⟩:=hx.ex
 have:=isZero_any l.length b o cap hn (pqs l) w hg h2
 rw [allZ_q l l.length (Nat.le_refl _),List.take_length] at this
 exact this
theorem zeros_len (n:Nat):(Tw.zeros n).length=n:=by rw [Tw.zeros,List.length_replicate]
theorem pqs_zeros (n i:Nat):pqs (Tw.zeros n) i=(⟨#[48]⟩,⟨#[49]⟩):=by
 rw [pqs,Tw.zeros,←pq0]
 congr 1
 rw [List.getD_eq_getElem?_getD,List.getElem?_replicate]
 split <;> rfl
theorem zeros_O (n:Nat) (hn:1≤n∧n≤1000) (w:World) (hg:Gl w) :
  Calls Tryz.prog 93 #[.int .i64 (n:Int)] w (AnsO (some (Tw.zeros n)) w) :=
 (zeros_any n hn w hg).mono fun e w' h=>by
  obtain ⟨b,cap,rfl,_,k1,_,k3⟩:=h.good trivial
  refine ⟨h.below,fun z hz => ?_,fun hn=>by cases hn⟩
  cases hz
  refine ⟨_,rfl,b,0,cap,by rw [zeros_len],by rw [zeros_len];exact k1, ?_⟩
  rw [zeros_len]
  exact ⟨fun i hi=>by rw [pqs_zeros];exact k3.at_ i hi⟩
theorem pqs_app1 (a b:List Rat) (i:Nat) (h:i<a.length):pqs (a++b) i=pqs a i:=by
 rw [pqs,pqs,List.getD_eq_getElem?_getD,List.getD_eq_getElem?_getD,List.getElem?_append_left h]
theorem pqs_app2 (a b:List Rat) (i:Nat):pqs (a++b) (a.length+i)=pqs b i:=by
 rw [pqs,pqs,List.getD_eq_getElem?_getD,List.getD_eq_getElem?_getD,List.getElem?_append_right (by omega),Nat.add_sub_cancel_left]
theorem halves_O {a b:List Rat} {vx:Value} (hl:a.length=b.length) (hn:1≤a.length∧a.length≤500) (w:World) (hx:El w vx (a++b)) :
  Calls Tryz.prog 96 #[vx] w fun e w'=>(∃ va vb,e = .returned (.tuple #[va,vb])∧El w' va a∧El w' vb b)∧Below w.heap.size w w':=by
 obtain ⟨bk,o,cap,rfl,h1,h2⟩:=hx.ex
 rw [List.length_append,←hl] at h1 h2 ⊢
 refine (halves_any bk o a.length cap hn h1 w).mono ?_
 rintro e w' ⟨rfl,u⟩
 have k2:=h2.keep u
 refine ⟨⟨_,_,rfl,⟨bk,o,cap,rfl,by omega,⟨fun i hi => ?_⟩⟩,⟨bk,o+a.length*2,cap-a.length,by rw [hl],by omega,⟨fun i hi => ?_⟩⟩⟩,u⟩
 ·have:=k2.at_ i (by omega)
  rw [pqs_app1 a b i hi] at this
  exact this
 ·have:=k2.at_ (a.length+i) (by omega)
  rw [pqs_app2,show o+(a.length+i)*2=o+a.length*2+i*2 by omega] at this
  exact this
theorem concat_O {a b:List Rat} {va vb:Value} (h1:1≤a.length∧a.length≤500) (h2:1≤b.length∧b.length≤500) (bo co:Nat) (w:World) (hb:w.heap[bo]? = some (Jc #[va,vb] 67 (0,0))) (hx:El w va a) (hy:El w vb b) :
  Calls Tryz.prog 98 #[.slice (some ⟨bo,0,none⟩) 2 co] w (AnsO (some (a++b)) w):=by
 obtain ⟨b1,o1,c1,rfl,_,x1⟩:=hx.ex
 obtain ⟨b2,o2,c2,rfl,_,y1⟩:=hy.ex
 refine (concat_any b1 o1 a.length c1 b2 o2 b.length c2 bo co h1 h2 (pqs a) (pqs b) (pqs (a++b)) (fun i hi=>pqs_app1 a b i hi) (fun i _=>pqs_app2 a b i) w hb x1 y1).mono fun e w' h => ?_
 obtain ⟨b,cap,rfl,_,k1,_,k3⟩:=h.good trivial
 refine ⟨h.below,fun z hz => ?_,fun hn=>by cases hn⟩
 cases hz
 rw [←List.length_append] at k1 k3 ⊢
 exact ⟨_,rfl,_,0,cap,rfl,k1,k3⟩
def Fd (W:World):Value→List (List Rat)→Prop
 | v, []=>v = .pointer none
 | v,d :: rs=>∃ fb lv rv,v = .pointer (some ⟨fb,0,none⟩)∧W.heap[fb]? = some (Jc #[lv,rv] 117 (0,0))∧Fd W lv rs∧El W rv d∧d.length=2^rs.length∧FitL d
theorem Fd.keep {W W':World} (hB:Below W.heap.size W W'):∀ {rs:List (List Rat)} {v:Value},Fd W v rs→Fd W' v rs
 | [],_,h=>h
 | _ :: _,_,⟨fb,lv,rv,e,h1,h2,h3,h4,h5⟩=>⟨fb,lv,rv,e,En.lkeep h1 hB,Fd.keep hB h2,h3.keep hB,h4,h5⟩
theorem FitL.app {a b:List Rat} (h:FitL (a++b)):FitL a∧FitL b:=⟨fun q hq=>h q (List.mem_append_left _ hq),fun q hq=>h q (List.mem_append_right _ hq)⟩
theorem FitL.both {a b:List Rat} (h:FitL a) (h':FitL b):FitL (a++b):=fun q hq=>(List.mem_append.1 hq).elim (h q) (h' q)
theorem FitL.zeros (n:Nat):FitL (Tw.zeros n):=fun q hq=>by rw [List.eq_of_mem_replicate hq];exact fit0
theorem split2 {l:List Rat} {k:Nat} (h:l.length=2^(k+1)):∃ a b,l=a++b∧a.length=2^k∧b.length=2^k:=by
 obtain ⟨h1,h2⟩:=half_len h
 exact ⟨hl l,hr l,(List.take_append_drop _ _).symm,h1,h2⟩
theorem mulO_fit:∀ {rs:List (List Rat)} {x y z:List Rat},mulO rs x y=some z→FitL z
 | [],x,y,z,h=>by
  rw [mulO] at h
  split at h
  ·cases h;exact .zeros _
  ·exact .pair (fun _ _ _ h=>FitQ.mulQ h) h
 | d :: rs,x,y,z,h=>by
  rw [mulO] at h
  split at h
  ·cases h;exact .zeros _
  ·obtain ⟨ac,h1,h⟩:=Option.bind_eq_some_iff.1 h
   obtain ⟨be,h2,h⟩:=Option.bind_eq_some_iff.1 h
   obtain ⟨bed,h3,h⟩:=Option.bind_eq_some_iff.1 h
   obtain ⟨p,h4,h⟩:=Option.bind_eq_some_iff.1 h
   obtain ⟨ae,h5,h⟩:=Option.bind_eq_some_iff.1 h
   obtain ⟨bc,h6,h⟩:=Option.bind_eq_some_iff.1 h
   obtain ⟨q,h7,rfl⟩:=Option.map_eq_some_iff.1 h
   exact .both (.pair (fun _ _ _ h=>FitQ.addQ h) h4) (.pair (fun _ _ _ h=>FitQ.addQ h) h7)
def RadT0:List (List Rat)→Prop
 | []=>True
 | d :: rs=>d.length=2^rs.length∧RadT0 rs
theorem mulO_len:∀ {rs:List (List Rat)} {x y z:List Rat},RadT0 rs→x.length=2^rs.length→y.length=2^rs.length→mulO rs x y=some z→z.length=2^rs.length
 | [],x,y,z,_,hx,hy,h=>by
  rw [mulO] at h
  split at h
  ·cases h;rw [zeros_len,hx]
  ·rw [pairO_len (by rw [hx,hy]) h,hx]
 | d :: rs,x,y,z,hd,hx,hy,h=>by
  rw [mulO] at h
  split at h
  ·cases h;rw [zeros_len,hx]
  ·obtain ⟨a1,a2⟩:=half_len hx
   obtain ⟨c1,c2⟩:=half_len hy
   obtain ⟨ac,h1,h⟩:=Option.bind_eq_some_iff.1 h
   obtain ⟨be,h2,h⟩:=Option.bind_eq_some_iff.1 h
   obtain ⟨bed,h3,h⟩:=Option.bind_eq_some_iff.1 h
   obtain ⟨p,h4,h⟩:=Option.bind_eq_some_iff.1 h
   obtain ⟨ae,h5,h⟩:=Option.bind_eq_some_iff.1 h
   obtain ⟨bc,h6,h⟩:=Option.bind_eq_some_iff.1 h
   obtain ⟨q,h7,rfl⟩:=Option.map_eq_some_iff.1 h
   have l1:=mulO_len hd.2 a1 c1 h1
   have l2:=mulO_len hd.2 (mulO_len hd.2 a2 c2 h2) hd.1 h3
   have l5:=mulO_len hd.2 a1 c2 h5
   have l6:=mulO_len hd.2 a2 c1 h6
   rw [List.length_append,pairO_len (by rw [l1,l2]) h4,pairO_len (by rw [l5,l6]) h7,l1,l5,List.length_cons,Nat.pow_succ];omega
end Tw
end Go.Proofs.YtihlgifojjeoaaaGreatDoor
