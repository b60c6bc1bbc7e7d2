/- A piece of the run of ParseLimits: 22082 operations. -/
import Derived.Test.YtiakepglcemfiaaGreatDoorParseLimitsS3
namespace Go.Proofs.YtiakepglcemfiaaGreatDoor
open Go.RowKit
set_option maxRecDepth 100000 in
theorem parseLimitsP21 : Abs.pieceM Tryz.prog parseLimitsB 100000 parseLimitsS21 [.rounds 61] parseLimitsS22 = true := by kernel_rfl
set_option maxRecDepth 100000 in
theorem parseLimitsP22 : Abs.pieceM Tryz.prog parseLimitsB 100000 parseLimitsS22 [.rounds 7, .pass, .fall, .ops 7, .pass, .opn, .opn, .ops 2, .call, .opn, .atom, .opn, .opn, .ops 1, .call, .opn, .atom, .opn, .atom, .opn, .atom, .opn, .opn, .opn, .atom, .rounds 11, .pass, .atom, .atom, .pop, .ops 5, .pass, .opn, .atom, .opn, .opn, .ops 1, .dfr, .pass, .opn, .atom, .opn, .opn, .ops 1, .call, .opn, .atom, .opn, .opn, .ops 1, .call, .opn, .atom, .opn, .atom, .opn, .atom, .opn, .atom, .opn, .opn, .opn, .opn, .opn, .ops 1, .call, .opn, .atom, .opn, .atom, .opn, .atom, .opn, .atom, .opn, .atom, .opn, .atom, .opn, .opn, .atom, .opn, .opn, .atom, .opn, .opn, .atom, .opn, .opn, .atom, .opn, .opn, .atom, .opn, .opn, .atom, .opn, .opn, .atom, .opn, .opn, .atom, .opn, .opn, .ops 1, .call, .opn, .atom, .opn, .atom, .opn, .opn, .atom, .opn, .opn, .atom, .rounds 2] parseLimitsS23 = true := by kernel_rfl
end Go.Proofs.YtiakepglcemfiaaGreatDoor
