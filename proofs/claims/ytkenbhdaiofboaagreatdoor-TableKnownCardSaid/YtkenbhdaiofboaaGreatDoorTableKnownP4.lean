/- A piece of the run of TableKnown: 10480 operations. -/
import Derived.Test.YtkenbhdaiofboaaGreatDoorTableKnownS
namespace Go.Proofs.YtkenbhdaiofboaaGreatDoor
open Go.RowKit
set_option maxRecDepth 100000 in
theorem tableKnownP4 : Abs.pieceM Tryz.prog tableKnownB 100000 tableKnownS4 [.pop, .pass, .atom, .pop, .pass, .opn, .atom, .opn, .opn, .ops 1, .call, .atom, .pop, .call, .opn, .atom, .opn, .atom, .opn, .opn, .ops 1, .call] tableKnownS5 = true := by kernel_rfl
end Go.Proofs.YtkenbhdaiofboaaGreatDoor
