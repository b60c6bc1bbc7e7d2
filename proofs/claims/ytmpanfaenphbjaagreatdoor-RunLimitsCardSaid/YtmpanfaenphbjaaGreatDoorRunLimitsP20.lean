/- A piece of the run of RunLimits: 59020 operations. -/
import Derived.Test.YtmpanfaenphbjaaGreatDoorRunLimitsS
namespace Go.Proofs.YtmpanfaenphbjaaGreatDoor
open Go.RowKit
set_option maxRecDepth 100000 in
theorem runLimitsP20 : Abs.pieceM Tryz.prog runLimitsB 100000 runLimitsS20 [.atom] runLimitsS21 = true := by kernel_rfl
end Go.Proofs.YtmpanfaenphbjaaGreatDoor
