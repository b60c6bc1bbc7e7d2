/- A piece of the run of DriverKnown: 19051 operations. -/
import Derived.Test.YtahklkefjlhieaaGreatDoorDriverKnownS
namespace Go.Proofs.YtahklkefjlhieaaGreatDoor
open Go.RowKit
set_option maxRecDepth 100000 in
theorem driverKnownP0 : Abs.pieceM Tryz.prog driverKnownB 100000 driverKnownS0 [.opn, .atom, .opn, .opn, .opn, .call, .opn, .atom, .opn, .atom, .opn, .opn, .call, .opn, .atom, .opn, .atom, .opn, .opn, .ops 3, .call, .opn, .atom, .opn, .atom, .opn, .atom, .opn, .opn, .atom, .opn, .opn, .atom, .opn, .opn, .opn, .ops 4, .call, .opn, .atom, .opn, .atom, .opn, .atom, .opn, .atom, .opn, .opn, .ops 2, .call, .opn, .atom, .opn, .opn, .ops 2, .call, .opn, .atom, .opn, .opn, .ops 1, .call, .opn, .atom, .opn, .opn, .ops 1, .call, .opn, .atom, .opn, .atom, .opn, .atom, .opn, .opn, .opn, .atom, .rounds 7, .pass, .atom, .atom, .pop, .ops 5, .pass, .opn, .atom, .opn, .opn, .ops 1, .dfr, .pass, .atom, .pop, .ops 7, .pass, .opn, .atom, .opn, .opn, .opn, .ops 1, .call, .opn, .atom, .opn, .atom, .atom, .pop, .ops 2, .pass, .atom] driverKnownS1 = true := by kernel_rfl
end Go.Proofs.YtahklkefjlhieaaGreatDoor
