/- A piece of the run of RunLimits: 17221 operations. -/
import Derived.Test.YtmpanfaenphbjaaGreatDoorRunLimitsS
namespace Go.Proofs.YtmpanfaenphbjaaGreatDoor
open Go.RowKit
set_option maxRecDepth 100000 in
theorem runLimitsP21 : Abs.pieceM Tryz.prog runLimitsB 100000 runLimitsS21 [.atom, .pass, .pass, .opn, .atom, .opn, .opn, .atom, .opn, .atom, .atom, .pop, .pass, .atom, .pass, .pass, .atom, .atom, .pop, .ops 8, .pass, .opn, .opn, .call, .opn, .atom, .opn, .opn, .ops 1, .call, .opn, .atom, .opn, .atom, .opn, .atom, .opn, .opn, .ops 1, .dfr, .pass, .atom, .pop, .ops 7, .pass] runLimitsS22 = true := by kernel_rfl
end Go.Proofs.YtmpanfaenphbjaaGreatDoor
