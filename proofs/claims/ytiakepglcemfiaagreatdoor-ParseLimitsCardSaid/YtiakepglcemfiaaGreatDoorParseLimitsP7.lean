/- A piece of the run of ParseLimits: 22550 operations. -/
import Derived.Test.YtiakepglcemfiaaGreatDoorParseLimitsS
namespace Go.Proofs.YtiakepglcemfiaaGreatDoor
open Go.RowKit
set_option maxRecDepth 100000 in
theorem parseLimitsP7 : Abs.pieceM Tryz.prog parseLimitsB 100000 parseLimitsS7 [.rounds 22] parseLimitsS8 = true := by kernel_rfl
end Go.Proofs.YtiakepglcemfiaaGreatDoor
