/- A piece of the run of TableKnown: 38780 operations. -/
import Derived.Test.YtkenbhdaiofboaaGreatDoorTableKnownS
namespace Go.Proofs.YtkenbhdaiofboaaGreatDoor
open Go.RowKit
set_option maxRecDepth 100000 in
theorem tableKnownP5 : Abs.pieceM Tryz.prog tableKnownB 100000 tableKnownS5 [.atom] tableKnownS6 = true := by kernel_rfl
end Go.Proofs.YtkenbhdaiofboaaGreatDoor
