/- A piece of the run of RunLimits: 1319 operations. -/
import Derived.Test.YtmpanfaenphbjaaGreatDoorRunLimitsS
namespace Go.Proofs.YtmpanfaenphbjaaGreatDoor
open Go.RowKit
set_option maxRecDepth 100000 in
theorem runLimitsP14 : Abs.pieceM Tryz.prog runLimitsB 100000 runLimitsS14 [.atom, .pop, .pass, .atom, .pass, .pass, .atom, .atom, .pop, .ops 8, .pass, .opn, .opn, .ops 2, .call, .opn, .atom, .opn, .opn, .opn, .ops 2, .call, .opn, .atom, .opn, .atom, .opn, .opn, .opn, .ops 25, .call, .opn, .atom, .opn, .atom, .opn, .atom, .opn, .atom, .opn, .atom, .opn] runLimitsS15 = true := by kernel_rfl
end Go.Proofs.YtmpanfaenphbjaaGreatDoor
