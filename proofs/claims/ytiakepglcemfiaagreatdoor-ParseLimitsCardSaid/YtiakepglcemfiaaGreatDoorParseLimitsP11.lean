/- A piece of the run of ParseLimits: 22636 operations. -/
import Derived.Test.YtiakepglcemfiaaGreatDoorParseLimitsS2
namespace Go.Proofs.YtiakepglcemfiaaGreatDoor
open Go.RowKit
set_option maxRecDepth 100000 in
theorem parseLimitsP11 : Abs.pieceM Tryz.prog parseLimitsB 100000 parseLimitsS11 [.rounds 22] parseLimitsS12 = true := by kernel_rfl
set_option maxRecDepth 100000 in
theorem parseLimitsP12 : Abs.pieceM Tryz.prog parseLimitsB 100000 parseLimitsS12 [.pass, .atom, .atom, .pop, .ops 5, .pass, .opn, .atom, .opn, .opn, .ops 1, .dfr, .pass, .opn, .atom, .opn, .opn, .ops 1, .call, .opn, .atom, .opn, .opn, .ops 1, .call, .opn, .atom, .opn, .atom, .opn, .atom, .opn, .atom, .opn, .opn, .atom, .rounds 59] parseLimitsS13 = true := by kernel_rfl
end Go.Proofs.YtiakepglcemfiaaGreatDoor
