/- A piece of the run of RunLimits: 19188 operations. -/
import Derived.Test.YtmpanfaenphbjaaGreatDoorRunLimitsS
namespace Go.Proofs.YtmpanfaenphbjaaGreatDoor
open Go.RowKit
set_option maxRecDepth 100000 in
theorem runLimitsP2 : Abs.pieceM Tryz.prog runLimitsB 100000 runLimitsS2 [.atom, .rounds 1, .pass, .atom, .atom, .pop, .ops 2, .pass, .opn, .atom, .opn, .opn, .ops 2, .call, .opn, .atom, .opn, .atom, .opn, .atom, .opn, .atom, .atom, .pop, .pass, .atom, .pop, .ops 5, .pass, .atom, .pass, .atom, .pass, .atom, .atom, .pop, .ops 5, .pass, .atom, .pop, .ops 5, .pass, .atom, .pop, .ops 1, .pass, .opn, .atom, .opn, .opn, .ops 1, .call, .opn, .opn, .opn, .atom, .opn, .opn, .atom, .opn] runLimitsS3 = true := by kernel_rfl
end Go.Proofs.YtmpanfaenphbjaaGreatDoor
