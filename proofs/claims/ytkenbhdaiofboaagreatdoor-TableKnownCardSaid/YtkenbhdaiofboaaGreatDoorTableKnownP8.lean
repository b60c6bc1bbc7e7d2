/- A piece of the run of TableKnown: 9138 operations. -/
import Derived.Test.YtkenbhdaiofboaaGreatDoorTableKnownS
namespace Go.Proofs.YtkenbhdaiofboaaGreatDoor
open Go.RowKit
set_option maxRecDepth 100000 in
theorem tableKnownP8 : Abs.pieceM Tryz.prog tableKnownB 100000 tableKnownS8 [.pop, .ops 2, .pass, .atom, .pop, .ops 6, .pass, .opn, .atom, .opn, .opn, .ops 10, .pass, .opn, .atom, .opn, .atom, .opn, .atom, .opn, .atom, .opn, .atom, .opn, .opn, .ops 3, .call, .opn, .atom, .opn, .atom, .opn, .atom, .opn, .atom, .opn, .opn, .atom, .opn, .atom, .opn, .opn, .ops 2, .call] tableKnownS9 = true := by kernel_rfl
end Go.Proofs.YtkenbhdaiofboaaGreatDoor
