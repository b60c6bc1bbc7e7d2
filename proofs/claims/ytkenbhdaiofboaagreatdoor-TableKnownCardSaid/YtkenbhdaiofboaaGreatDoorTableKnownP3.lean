/- A piece of the run of TableKnown: 57278 operations. -/
import Derived.Test.YtkenbhdaiofboaaGreatDoorTableKnownS
namespace Go.Proofs.YtkenbhdaiofboaaGreatDoor
open Go.RowKit
set_option maxRecDepth 100000 in
theorem tableKnownP3 : Abs.pieceM Tryz.prog tableKnownB 100000 tableKnownS3 [.atom] tableKnownS4 = true := by kernel_rfl
end Go.Proofs.YtkenbhdaiofboaaGreatDoor
