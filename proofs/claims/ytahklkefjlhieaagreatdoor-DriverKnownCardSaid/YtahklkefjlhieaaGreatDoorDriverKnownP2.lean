/- A piece of the run of DriverKnown: 18210 operations. -/
import Derived.Test.YtahklkefjlhieaaGreatDoorDriverKnownS
namespace Go.Proofs.YtahklkefjlhieaaGreatDoor
open Go.RowKit
set_option maxRecDepth 100000 in
theorem driverKnownP2 : Abs.endM Tryz.prog driverKnownB 100000 driverKnownS2 [.atom, .atom, .pop, .ops 2, .pass, .atom, .atom, .pop, .ops 7, .pass, .atom, .pop, .pass, .atom, .pop, .ops 2, .pass, .atom, .pop, .pass, .atom, .pop, .ops 1, .pass, .opn, .atom, .opn, .atom, .opn, .atom, .opn, .atom, .opn, .atom, .opn, .atom, .atom] = true := by kernel_rfl
end Go.Proofs.YtahklkefjlhieaaGreatDoor
