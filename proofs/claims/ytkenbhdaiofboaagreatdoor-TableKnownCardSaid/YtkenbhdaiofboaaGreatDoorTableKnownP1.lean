/- A piece of the run of TableKnown: 22922 operations. -/
import Derived.Test.YtkenbhdaiofboaaGreatDoorTableKnownS
namespace Go.Proofs.YtkenbhdaiofboaaGreatDoor
open Go.RowKit
set_option maxRecDepth 100000 in
theorem tableKnownP1 : Abs.pieceM Tryz.prog tableKnownB 100000 tableKnownS1 [.atom] tableKnownS2 = true := by kernel_rfl
end Go.Proofs.YtkenbhdaiofboaaGreatDoor
