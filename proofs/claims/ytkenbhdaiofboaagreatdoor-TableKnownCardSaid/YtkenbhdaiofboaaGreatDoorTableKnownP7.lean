/- A piece of the run of TableKnown: 22922 operations. -/
import Derived.Test.YtkenbhdaiofboaaGreatDoorTableKnownS
namespace Go.Proofs.YtkenbhdaiofboaaGreatDoor
open Go.RowKit
set_option maxRecDepth 100000 in
theorem tableKnownP7 : Abs.pieceM Tryz.prog tableKnownB 100000 tableKnownS7 [.atom] tableKnownS8 = true := by kernel_rfl
end Go.Proofs.YtkenbhdaiofboaaGreatDoor
