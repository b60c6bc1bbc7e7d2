/- A piece of the run of RunLimits: 58964 operations. -/
import Derived.Test.YtmpanfaenphbjaaGreatDoorRunLimitsS
namespace Go.Proofs.YtmpanfaenphbjaaGreatDoor
open Go.RowKit
set_option maxRecDepth 100000 in
theorem runLimitsP15 : Abs.pieceM Tryz.prog runLimitsB 100000 runLimitsS15 [.atom] runLimitsS16 = true := by kernel_rfl
end Go.Proofs.YtmpanfaenphbjaaGreatDoor
