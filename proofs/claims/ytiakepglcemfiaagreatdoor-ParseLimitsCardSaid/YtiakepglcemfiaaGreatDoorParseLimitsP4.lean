/- A piece of the run of ParseLimits: 22500 operations. -/
import Derived.Test.YtiakepglcemfiaaGreatDoorParseLimitsS
namespace Go.Proofs.YtiakepglcemfiaaGreatDoor
open Go.RowKit
set_option maxRecDepth 100000 in
theorem parseLimitsP4 : Abs.pieceM Tryz.prog parseLimitsB 100000 parseLimitsS4 [.rounds 30] parseLimitsS5 = true := by kernel_rfl
end Go.Proofs.YtiakepglcemfiaaGreatDoor
