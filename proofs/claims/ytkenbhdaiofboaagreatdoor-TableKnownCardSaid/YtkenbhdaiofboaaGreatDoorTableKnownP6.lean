/- A piece of the run of TableKnown: 2453 operations. -/
import Derived.Test.YtkenbhdaiofboaaGreatDoorTableKnownS
namespace Go.Proofs.YtkenbhdaiofboaaGreatDoor
open Go.RowKit
set_option maxRecDepth 100000 in
theorem tableKnownP6 : Abs.pieceM Tryz.prog tableKnownB 100000 tableKnownS6 [.pop, .ops 1, .pass, .atom, .pop, .ops 5, .pass, .atom, .pop, .ops 1, .pass, .atom, .opn, .atom, .opn, .atom, .opn, .opn, .ops 2, .call, .opn, .atom, .opn, .atom, .opn, .atom, .opn, .opn, .atom, .opn, .opn, .atom, .opn, .opn, .opn, .ops 4, .call] tableKnownS7 = true := by kernel_rfl
end Go.Proofs.YtkenbhdaiofboaaGreatDoor
