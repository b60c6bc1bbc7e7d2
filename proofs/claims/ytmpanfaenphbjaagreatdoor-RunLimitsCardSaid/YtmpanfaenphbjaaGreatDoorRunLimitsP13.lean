/- A piece of the run of RunLimits: 58967 operations. -/
import Derived.Test.YtmpanfaenphbjaaGreatDoorRunLimitsS
namespace Go.Proofs.YtmpanfaenphbjaaGreatDoor
open Go.RowKit
set_option maxRecDepth 100000 in
theorem runLimitsP13 : Abs.pieceM Tryz.prog runLimitsB 100000 runLimitsS13 [.atom] runLimitsS14 = true := by kernel_rfl
end Go.Proofs.YtmpanfaenphbjaaGreatDoor
