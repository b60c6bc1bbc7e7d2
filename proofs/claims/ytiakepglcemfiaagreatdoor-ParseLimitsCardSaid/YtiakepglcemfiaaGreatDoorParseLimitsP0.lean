/- A piece of the run of ParseLimits: 22856 operations. -/
import Derived.Test.YtiakepglcemfiaaGreatDoorParseLimitsS
namespace Go.Proofs.YtiakepglcemfiaaGreatDoor
open Go.RowKit
set_option maxRecDepth 100000 in
theorem parseLimitsP0 : Abs.pieceM Tryz.prog parseLimitsB 100000 parseLimitsS0 [.opn, .atom, .opn, .opn, .opn, .call, .opn, .atom, .opn, .atom, .atom, .pop, .ops 1, .pass, .atom, .opn, .atom, .opn, .atom, .opn, .atom, .opn, .atom, .opn, .atom, .opn, .atom, .opn, .opn, .ops 1, .call, .opn, .atom, .opn, .opn, .ops 1, .call, .opn, .atom, .opn, .atom, .opn, .atom, .opn, .opn, .opn, .atom, .rounds 19] parseLimitsS1 = true := by kernel_rfl
end Go.Proofs.YtiakepglcemfiaaGreatDoor
