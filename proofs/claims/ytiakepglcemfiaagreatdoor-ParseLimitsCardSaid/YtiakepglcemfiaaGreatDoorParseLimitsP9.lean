/- A piece of the run of ParseLimits: 22550 operations. -/
import Derived.Test.YtiakepglcemfiaaGreatDoorParseLimitsS
namespace Go.Proofs.YtiakepglcemfiaaGreatDoor
open Go.RowKit
set_option maxRecDepth 100000 in
theorem parseLimitsP9 : Abs.pieceM Tryz.prog parseLimitsB 100000 parseLimitsS9 [.rounds 22] parseLimitsS10 = true := by kernel_rfl
set_option maxRecDepth 100000 in
theorem parseLimitsP10 : Abs.pieceM Tryz.prog parseLimitsB 100000 parseLimitsS10 [.rounds 22] parseLimitsS11 = true := by kernel_rfl
end Go.Proofs.YtiakepglcemfiaaGreatDoor
