/- A piece of the run of ParseLimits: 22514 operations. -/
import Derived.Test.YtiakepglcemfiaaGreatDoorParseLimitsS
namespace Go.Proofs.YtiakepglcemfiaaGreatDoor
open Go.RowKit
set_option maxRecDepth 100000 in
theorem parseLimitsP5 : Abs.pieceM Tryz.prog parseLimitsB 100000 parseLimitsS5 [.rounds 12, .pass, .atom, .atom, .pop, .ops 5, .pass, .opn, .atom, .opn, .opn, .ops 1, .dfr, .pass, .opn, .atom, .opn, .opn, .ops 1, .call, .opn, .atom, .opn, .atom, .opn, .opn, .opn, .atom, .rounds 24] parseLimitsS6 = true := by kernel_rfl
end Go.Proofs.YtiakepglcemfiaaGreatDoor
