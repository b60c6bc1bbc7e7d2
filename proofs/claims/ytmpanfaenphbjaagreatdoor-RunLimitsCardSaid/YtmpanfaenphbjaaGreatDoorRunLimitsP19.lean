/- A piece of the run of RunLimits: 9275 operations. -/
import Derived.Test.YtmpanfaenphbjaaGreatDoorRunLimitsS
namespace Go.Proofs.YtmpanfaenphbjaaGreatDoor
open Go.RowKit
set_option maxRecDepth 100000 in
theorem runLimitsP19 : Abs.pieceM Tryz.prog runLimitsB 100000 runLimitsS19 [.rounds 39, .pass, .atom, .atom, .pop, .pass, .atom, .pop, .ops 1, .pass, .opn, .atom, .opn, .opn, .ops 1, .call, .opn, .opn, .opn, .atom, .opn, .opn, .atom, .opn] runLimitsS20 = true := by kernel_rfl
end Go.Proofs.YtmpanfaenphbjaaGreatDoor
