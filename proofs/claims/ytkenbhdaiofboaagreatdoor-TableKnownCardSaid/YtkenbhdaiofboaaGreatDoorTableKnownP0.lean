/- A piece of the run of TableKnown: 2273 operations. -/
import Derived.Test.YtkenbhdaiofboaaGreatDoorTableKnownS
namespace Go.Proofs.YtkenbhdaiofboaaGreatDoor
open Go.RowKit
set_option maxRecDepth 100000 in
theorem tableKnownP0 : Abs.pieceM Tryz.prog tableKnownB 100000 tableKnownS0 [.opn, .atom, .opn, .opn, .opn, .call, .opn, .atom, .opn, .atom, .opn, .opn, .ops 3, .call, .opn, .atom, .opn, .atom, .opn, .atom, .opn, .opn, .atom, .opn, .opn, .atom, .opn, .opn, .opn, .ops 4, .call] tableKnownS1 = true := by kernel_rfl
end Go.Proofs.YtkenbhdaiofboaaGreatDoor
