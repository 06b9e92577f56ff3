import Derived.Test.YtihlgifojjeoaaaGreatDoorRows
namespace Go.Proofs.YtihlgifojjeoaaaGreatDoor
theorem Lr {n:Nat}:n≤n:=Nat.le_refl n
end Go.Proofs.YtihlgifojjeoaaaGreatDoor
