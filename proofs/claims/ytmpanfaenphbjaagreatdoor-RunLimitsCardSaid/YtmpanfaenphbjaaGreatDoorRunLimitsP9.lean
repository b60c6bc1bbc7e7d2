/- A piece of the run of RunLimits: 20146 operations. -/
import Derived.Test.YtmpanfaenphbjaaGreatDoorRunLimitsS
namespace Go.Proofs.YtmpanfaenphbjaaGreatDoor
open Go.RowKit
set_option maxRecDepth 100000 in
theorem runLimitsP9 : Abs.pieceM Tryz.prog runLimitsB 100000 runLimitsS9 [.atom, .pop, .pass, .atom, .pop, .ops 5, .pass, .atom, .pass, .atom, .pass, .atom, .atom, .pop, .ops 5, .pass, .atom, .pop, .ops 5, .pass, .opn, .atom, .opn, .atom, .opn, .opn, .ops 2, .call, .opn, .atom, .opn, .atom, .opn, .opn, .atom, .opn, .opn, .atom, .rounds 68] runLimitsS10 = true := by kernel_rfl
end Go.Proofs.YtmpanfaenphbjaaGreatDoor
