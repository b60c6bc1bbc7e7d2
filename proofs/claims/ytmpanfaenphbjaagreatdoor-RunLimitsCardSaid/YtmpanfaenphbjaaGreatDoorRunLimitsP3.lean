/- A piece of the run of RunLimits: 19318 operations. -/
import Derived.Test.YtmpanfaenphbjaaGreatDoorRunLimitsS
namespace Go.Proofs.YtmpanfaenphbjaaGreatDoor
open Go.RowKit
set_option maxRecDepth 100000 in
theorem runLimitsP3 : Abs.pieceM Tryz.prog runLimitsB 100000 runLimitsS3 [.atom, .atom, .pass, .pass, .atom, .pop, .pass, .atom, .pass, .pass, .atom, .atom, .pop, .ops 8, .pass] runLimitsS4 = true := by kernel_rfl
end Go.Proofs.YtmpanfaenphbjaaGreatDoor
