/- A piece of the run of RunLimits: 18694 operations. -/
import Derived.Test.YtmpanfaenphbjaaGreatDoorRunLimitsS
namespace Go.Proofs.YtmpanfaenphbjaaGreatDoor
open Go.RowKit
set_option maxRecDepth 100000 in
theorem runLimitsP5 : Abs.pieceM Tryz.prog runLimitsB 100000 runLimitsS5 [.atom, .atom, .pop, .ops 2, .pass, .atom, .atom, .pop, .ops 1, .pass, .atom, .opn, .atom, .opn, .opn, .opn, .opn, .atom, .opn, .opn, .opn, .ops 2, .call, .opn, .atom, .opn, .opn, .ops 3, .call, .opn, .atom, .opn, .opn, .ops 1, .call, .opn, .atom, .opn, .atom, .opn, .atom, .opn, .opn, .atom, .opn, .opn, .opn, .atom, .opn, .atom, .opn, .opn, .opn, .atom, .opn, .opn, .ops 1, .call, .opn, .atom, .opn, .atom, .opn, .atom, .opn, .atom, .opn, .atom, .opn, .atom, .opn, .opn, .ops 2, .call, .opn, .atom, .opn, .atom, .opn, .atom, .opn, .atom] runLimitsS6 = true := by kernel_rfl
end Go.Proofs.YtmpanfaenphbjaaGreatDoor
