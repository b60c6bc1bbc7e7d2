/- A piece of the run of RunLimits: 4827 operations. -/
import Derived.Test.YtmpanfaenphbjaaGreatDoorRunLimitsS
namespace Go.Proofs.YtmpanfaenphbjaaGreatDoor
open Go.RowKit
set_option maxRecDepth 100000 in
theorem runLimitsP22 : Abs.endM Tryz.prog runLimitsB 100000 runLimitsS22 [.atom, .pop, .ops 7, .pass, .atom] = true := by kernel_rfl
end Go.Proofs.YtmpanfaenphbjaaGreatDoor
