/- A piece of the run of RunLimits: 18996 operations. -/
import Derived.Test.YtmpanfaenphbjaaGreatDoorRunLimitsS
namespace Go.Proofs.YtmpanfaenphbjaaGreatDoor
open Go.RowKit
set_option maxRecDepth 100000 in
theorem runLimitsP0 : Abs.pieceM Tryz.prog runLimitsB 100000 runLimitsS0 [.opn, .atom, .opn, .opn, .opn, .call, .opn, .atom, .opn, .opn, .call, .opn, .atom, .opn, .opn, .ops 1, .call, .opn, .atom, .opn, .opn, .ops 1, .call, .opn, .atom, .opn, .atom, .opn, .atom, .opn, .opn, .opn, .atom, .rounds 6, .pass, .atom, .atom, .pop, .ops 5, .pass, .opn, .atom, .opn, .opn, .ops 1, .dfr, .pass, .atom, .pop, .ops 7, .pass, .opn, .atom, .opn, .atom, .atom, .pop, .ops 7, .pass, .opn, .atom, .opn, .atom, .opn, .atom, .opn, .opn, .ops 2, .call, .opn, .atom, .opn, .opn, .opn, .ops 2, .call, .opn, .atom, .opn] runLimitsS1 = true := by kernel_rfl
end Go.Proofs.YtmpanfaenphbjaaGreatDoor
