/- A piece of the run of TableKnown: 57278 operations. -/
import Derived.Test.YtkenbhdaiofboaaGreatDoorTableKnownS
namespace Go.Proofs.YtkenbhdaiofboaaGreatDoor
open Go.RowKit
set_option maxRecDepth 100000 in
theorem tableKnownP9 : Abs.pieceM Tryz.prog tableKnownB 100000 tableKnownS9 [.atom] tableKnownS10 = true := by kernel_rfl
end Go.Proofs.YtkenbhdaiofboaaGreatDoor
