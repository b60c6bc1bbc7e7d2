/- A piece of the run of ParseLimits: 22724 operations. -/
import Derived.Test.YtiakepglcemfiaaGreatDoorParseLimitsS
namespace Go.Proofs.YtiakepglcemfiaaGreatDoor
open Go.RowKit
set_option maxRecDepth 100000 in
theorem parseLimitsP3 : Abs.pieceM Tryz.prog parseLimitsB 100000 parseLimitsS3 [.rounds 9, .pass, .atom, .atom, .pop, .ops 3, .pass, .atom, .pop, .ops 7, .pass, .opn, .opn, .ops 2, .call, .opn, .atom, .opn, .opn, .ops 1, .call, .opn, .atom, .opn, .atom, .opn, .atom, .opn, .opn, .opn, .atom, .rounds 23] parseLimitsS4 = true := by kernel_rfl
end Go.Proofs.YtiakepglcemfiaaGreatDoor
