/- A piece of the run of TableKnown: 1650 operations. -/
import Derived.Test.YtkenbhdaiofboaaGreatDoorTableKnownS
namespace Go.Proofs.YtkenbhdaiofboaaGreatDoor
open Go.RowKit
set_option maxRecDepth 100000 in
theorem tableKnownP12 : Abs.endM Tryz.prog tableKnownB 100000 tableKnownS12 [.pop, .ops 1, .pass, .atom, .pop, .ops 5, .pass, .atom] = true := by kernel_rfl
end Go.Proofs.YtkenbhdaiofboaaGreatDoor
