/- A piece of the run of RunLimits: 14991 operations. -/
import Derived.Test.YtmpanfaenphbjaaGreatDoorRunLimitsS
namespace Go.Proofs.YtmpanfaenphbjaaGreatDoor
open Go.RowKit
set_option maxRecDepth 100000 in
theorem runLimitsP7 : Abs.pieceM Tryz.prog runLimitsB 100000 runLimitsS7 [.atom, .atom, .pop, .pass, .atom, .pass, .pass, .atom, .atom, .pop, .ops 8, .pass, .opn, .atom, .opn, .atom, .opn, .opn, .ops 3, .call, .opn, .atom, .opn, .opn, .opn, .ops 2, .call, .opn, .atom, .opn, .atom, .opn, .opn, .opn, .ops 25, .call, .opn, .atom, .opn, .atom, .opn, .atom, .opn, .atom, .opn, .atom, .opn] runLimitsS8 = true := by kernel_rfl
end Go.Proofs.YtmpanfaenphbjaaGreatDoor
