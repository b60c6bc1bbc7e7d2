/- A piece of the run of RunLimits: 20160 operations. -/
import Derived.Test.YtmpanfaenphbjaaGreatDoorRunLimitsS
namespace Go.Proofs.YtmpanfaenphbjaaGreatDoor
open Go.RowKit
set_option maxRecDepth 100000 in
theorem runLimitsP18 : Abs.pieceM Tryz.prog runLimitsB 100000 runLimitsS18 [.rounds 90] runLimitsS19 = true := by kernel_rfl
end Go.Proofs.YtmpanfaenphbjaaGreatDoor
