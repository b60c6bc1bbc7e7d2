/- A piece of the run of TableKnown: 17447 operations. -/
import Derived.Test.YtkenbhdaiofboaaGreatDoorTableKnownS
namespace Go.Proofs.YtkenbhdaiofboaaGreatDoor
open Go.RowKit
set_option maxRecDepth 100000 in
theorem tableKnownP10 : Abs.pieceM Tryz.prog tableKnownB 100000 tableKnownS10 [.pop, .pass, .atom, .pop, .ops 4, .pass, .opn, .atom, .opn, .atom, .opn, .atom, .opn, .atom, .opn, .atom, .opn, .opn, .ops 1, .call, .atom, .pop, .call, .opn, .atom, .opn, .atom, .opn, .opn, .ops 1, .call] tableKnownS11 = true := by kernel_rfl
end Go.Proofs.YtkenbhdaiofboaaGreatDoor
