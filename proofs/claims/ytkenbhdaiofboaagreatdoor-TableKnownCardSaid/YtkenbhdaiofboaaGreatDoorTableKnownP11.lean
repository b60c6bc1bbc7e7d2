/- A piece of the run of TableKnown: 38783 operations. -/
import Derived.Test.YtkenbhdaiofboaaGreatDoorTableKnownS
namespace Go.Proofs.YtkenbhdaiofboaaGreatDoor
open Go.RowKit
set_option maxRecDepth 100000 in
theorem tableKnownP11 : Abs.pieceM Tryz.prog tableKnownB 100000 tableKnownS11 [.atom] tableKnownS12 = true := by kernel_rfl
end Go.Proofs.YtkenbhdaiofboaaGreatDoor
