/- A piece of the run of ParseLimits: 22082 operations. -/
import Derived.Test.YtiakepglcemfiaaGreatDoorParseLimitsS2
namespace Go.Proofs.YtiakepglcemfiaaGreatDoor
open Go.RowKit
set_option maxRecDepth 100000 in
theorem parseLimitsP13 : Abs.pieceM Tryz.prog parseLimitsB 100000 parseLimitsS13 [.rounds 61] parseLimitsS14 = true := by kernel_rfl
set_option maxRecDepth 100000 in
theorem parseLimitsP14 : Abs.pieceM Tryz.prog parseLimitsB 100000 parseLimitsS14 [.rounds 6, .pass, .atom, .pop, .ops 4, .pass, .atom, .pop, .ops 3, .pass, .atom, .pop, .ops 7, .pass, .opn, .opn, .ops 2, .call, .opn, .atom, .opn, .opn, .ops 1, .call, .opn, .atom, .opn, .atom, .opn, .atom, .opn, .opn, .opn, .atom, .rounds 19] parseLimitsS15 = true := by kernel_rfl
end Go.Proofs.YtiakepglcemfiaaGreatDoor
