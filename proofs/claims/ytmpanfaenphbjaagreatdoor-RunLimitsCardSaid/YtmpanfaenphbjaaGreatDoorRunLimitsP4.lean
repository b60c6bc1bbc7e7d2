/- A piece of the run of RunLimits: 18120 operations. -/
import Derived.Test.YtmpanfaenphbjaaGreatDoorRunLimitsS
namespace Go.Proofs.YtmpanfaenphbjaaGreatDoor
open Go.RowKit
set_option maxRecDepth 100000 in
theorem runLimitsP4 : Abs.pieceM Tryz.prog runLimitsB 100000 runLimitsS4 [.atom, .pop, .ops 1, .pass, .atom, .opn, .opn, .call, .opn, .atom, .opn, .opn, .ops 1, .call, .opn, .atom, .opn, .opn, .ops 1, .call, .opn, .atom, .opn, .atom, .opn, .atom, .opn, .opn, .opn, .atom, .rounds 5, .pass, .atom, .atom, .pop, .ops 5, .pass, .opn, .atom, .opn, .opn, .ops 1, .dfr, .pass, .atom, .pop, .ops 7, .pass, .opn, .atom, .opn, .atom, .atom, .pop, .ops 7, .pass, .opn, .atom, .opn, .opn, .ops 2, .call, .opn, .atom, .opn, .opn, .opn, .ops 2, .call, .opn, .atom, .opn, .atom, .opn, .opn, .opn, .ops 25, .call, .opn, .atom, .opn, .atom, .opn, .atom, .opn, .atom, .opn, .atom, .opn] runLimitsS5 = true := by kernel_rfl
end Go.Proofs.YtmpanfaenphbjaaGreatDoor
