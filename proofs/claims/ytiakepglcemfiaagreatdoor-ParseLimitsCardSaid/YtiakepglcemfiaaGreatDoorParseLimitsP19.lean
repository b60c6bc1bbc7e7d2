/- A piece of the run of ParseLimits: 22475 operations. -/
import Derived.Test.YtiakepglcemfiaaGreatDoorParseLimitsS3
namespace Go.Proofs.YtiakepglcemfiaaGreatDoor
open Go.RowKit
set_option maxRecDepth 100000 in
theorem parseLimitsP19 : Abs.pieceM Tryz.prog parseLimitsB 100000 parseLimitsS19 [.rounds 22] parseLimitsS20 = true := by kernel_rfl
set_option maxRecDepth 100000 in
theorem parseLimitsP20 : Abs.pieceM Tryz.prog parseLimitsB 100000 parseLimitsS20 [.pass, .atom, .atom, .pop, .ops 5, .pass, .opn, .atom, .opn, .opn, .ops 1, .dfr, .pass, .opn, .atom, .opn, .opn, .ops 1, .call, .opn, .atom, .opn, .opn, .ops 1, .call, .opn, .atom, .opn, .atom, .opn, .atom, .opn, .atom, .opn, .opn, .atom, .rounds 59] parseLimitsS21 = true := by kernel_rfl
end Go.Proofs.YtiakepglcemfiaaGreatDoor
