/- A piece of the run of ParseLimits: 22344 operations. -/
import Derived.Test.YtiakepglcemfiaaGreatDoorParseLimitsS
namespace Go.Proofs.YtiakepglcemfiaaGreatDoor
open Go.RowKit
set_option maxRecDepth 100000 in
theorem parseLimitsP6 : Abs.pieceM Tryz.prog parseLimitsB 100000 parseLimitsS6 [.rounds 6, .pass, .fall, .ops 7, .pass, .opn, .opn, .ops 2, .call, .opn, .atom, .opn, .opn, .ops 1, .call, .opn, .atom, .opn, .atom, .opn, .atom, .opn, .opn, .opn, .atom, .rounds 18] parseLimitsS7 = true := by kernel_rfl
end Go.Proofs.YtiakepglcemfiaaGreatDoor
