/- A piece of the run of RunLimits: 1969 operations. -/
import Derived.Test.YtmpanfaenphbjaaGreatDoorRunLimitsS
namespace Go.Proofs.YtmpanfaenphbjaaGreatDoor
open Go.RowKit
set_option maxRecDepth 100000 in
theorem runLimitsP12 : Abs.pieceM Tryz.prog runLimitsB 100000 runLimitsS12 [.rounds 8, .pass, .atom, .atom, .pop, .ops 8, .pass, .atom, .pop, .ops 1, .pass, .opn, .atom, .opn, .opn, .ops 1, .call, .opn, .opn, .opn, .atom, .opn, .opn, .atom, .opn] runLimitsS13 = true := by kernel_rfl
end Go.Proofs.YtmpanfaenphbjaaGreatDoor
