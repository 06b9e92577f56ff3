import Derived.Test.YtihlgifojjeoaaaGreatDoorZ6L
namespace Go.Proofs.YtihlgifojjeoaaaGreatDoor
theorem Mm0 {α:Type} {a0:α} {l:List α}:a0∈a0::l:=.head _
theorem Mm1 {α:Type} {a0 a1:α} {l:List α}:a1∈a0::a1::l:=.tail _ (.head _)
theorem Mm2 {α:Type} {a0 a1 a2:α} {l:List α}:a2∈a0::a1::a2::l:=.tail _ (.tail _ (.head _))
theorem Mm3 {α:Type} {a0 a1 a2 a3:α} {l:List α}:a3∈a0::a1::a2::a3::l:=.tail _ (.tail _ (.tail _ (.head _)))
theorem Mm4 {α:Type} {a0 a1 a2 a3 a4:α} {l:List α}:a4∈a0::a1::a2::a3::a4::l:=.tail _ (.tail _ (.tail _ (.tail _ (.head _))))
theorem Mm5 {α:Type} {a0 a1 a2 a3 a4 a5:α} {l:List α}:a5∈a0::a1::a2::a3::a4::a5::l:=.tail _ (.tail _ (.tail _ (.tail _ (.tail _ (.head _)))))
theorem Mm6 {α:Type} {a0 a1 a2 a3 a4 a5 a6:α} {l:List α}:a6∈a0::a1::a2::a3::a4::a5::a6::l:=.tail _ (.tail _ (.tail _ (.tail _ (.tail _ (.tail _ (.head _))))))
theorem Mm7 {α:Type} {a0 a1 a2 a3 a4 a5 a6 a7:α} {l:List α}:a7∈a0::a1::a2::a3::a4::a5::a6::a7::l:=.tail _ (.tail _ (.tail _ (.tail _ (.tail _ (.tail _ (.tail _ (.head _)))))))
theorem Mm8 {α:Type} {a0 a1 a2 a3 a4 a5 a6 a7 a8:α} {l:List α}:a8∈a0::a1::a2::a3::a4::a5::a6::a7::a8::l:=.tail _ (.tail _ (.tail _ (.tail _ (.tail _ (.tail _ (.tail _ (.tail _ (.head _))))))))
theorem Mm9 {α:Type} {a0 a1 a2 a3 a4 a5 a6 a7 a8 a9:α} {l:List α}:a9∈a0::a1::a2::a3::a4::a5::a6::a7::a8::a9::l:=.tail _ (.tail _ (.tail _ (.tail _ (.tail _ (.tail _ (.tail _ (.tail _ (.tail _ (.head _)))))))))
theorem Mm10 {α:Type} {a0 a1 a2 a3 a4 a5 a6 a7 a8 a9 a10:α} {l:List α}:a10∈a0::a1::a2::a3::a4::a5::a6::a7::a8::a9::a10::l:=.tail _ (.tail _ (.tail _ (.tail _ (.tail _ (.tail _ (.tail _ (.tail _ (.tail _ (.tail _ (.head _))))))))))
theorem Mm11 {α:Type} {a0 a1 a2 a3 a4 a5 a6 a7 a8 a9 a10 a11:α} {l:List α}:a11∈a0::a1::a2::a3::a4::a5::a6::a7::a8::a9::a10::a11::l:=.tail _ (.tail _ (.tail _ (.tail _ (.tail _ (.tail _ (.tail _ (.tail _ (.tail _ (.tail _ (.tail _ (.head _)))))))))))
theorem Mm12 {α:Type} {a0 a1 a2 a3 a4 a5 a6 a7 a8 a9 a10 a11 a12:α} {l:List α}:a12∈a0::a1::a2::a3::a4::a5::a6::a7::a8::a9::a10::a11::a12::l:=.tail _ (.tail _ (.tail _ (.tail _ (.tail _ (.tail _ (.tail _ (.tail _ (.tail _ (.tail _ (.tail _ (.tail _ (.head _))))))))))))
theorem Mm13 {α:Type} {a0 a1 a2 a3 a4 a5 a6 a7 a8 a9 a10 a11 a12 a13:α} {l:List α}:a13∈a0::a1::a2::a3::a4::a5::a6::a7::a8::a9::a10::a11::a12::a13::l:=.tail _ (.tail _ (.tail _ (.tail _ (.tail _ (.tail _ (.tail _ (.tail _ (.tail _ (.tail _ (.tail _ (.tail _ (.tail _ (.head _)))))))))))))
theorem mkf:∀ (fn:Fn) (first cap:Array Value) (w:World),(Instr.makeFunc fn first cap).run Tryz.prog w = .ok (.func fn first cap) w:=fun _ _ _ _=>rfl
end Go.Proofs.YtihlgifojjeoaaaGreatDoor
