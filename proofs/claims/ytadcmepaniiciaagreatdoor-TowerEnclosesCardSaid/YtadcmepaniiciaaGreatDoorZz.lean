import Derived.Test.YtadcmepaniiciaaGreatDoorRows

namespace Go.Proofs.YtadcmepaniiciaaGreatDoor
theorem Lr {n:Nat}:n≤n:=Nat.le_refl n
end Go.Proofs.YtadcmepaniiciaaGreatDoor
