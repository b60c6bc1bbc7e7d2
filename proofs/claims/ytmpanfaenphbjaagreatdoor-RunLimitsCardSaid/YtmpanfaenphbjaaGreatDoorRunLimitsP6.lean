/- A piece of the run of RunLimits: 17191 operations. -/
import Derived.Test.YtmpanfaenphbjaaGreatDoorRunLimitsS
namespace Go.Proofs.YtmpanfaenphbjaaGreatDoor
open Go.RowKit
set_option maxRecDepth 100000 in
theorem runLimitsP6 : Abs.pieceM Tryz.prog runLimitsB 100000 runLimitsS6 [.atom, .pop, .pass, .atom, .pop, .ops 5, .pass, .atom, .pass, .atom, .pass, .atom, .atom, .pop, .ops 5, .pass, .atom, .pop, .ops 5, .pass, .atom, .pop, .ops 1, .pass, .opn, .atom, .opn, .opn, .ops 1, .call, .opn, .opn, .opn, .atom, .opn, .opn, .atom, .opn, .atom, .atom, .pass, .pass, .opn, .atom, .opn, .opn, .atom, .opn] runLimitsS7 = true := by kernel_rfl
end Go.Proofs.YtmpanfaenphbjaaGreatDoor
