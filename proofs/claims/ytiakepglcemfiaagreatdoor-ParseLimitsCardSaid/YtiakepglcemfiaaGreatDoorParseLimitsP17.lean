/- A piece of the run of ParseLimits: 22550 operations. -/
import Derived.Test.YtiakepglcemfiaaGreatDoorParseLimitsS2
namespace Go.Proofs.YtiakepglcemfiaaGreatDoor
open Go.RowKit
set_option maxRecDepth 100000 in
theorem parseLimitsP17 : Abs.pieceM Tryz.prog parseLimitsB 100000 parseLimitsS17 [.rounds 22] parseLimitsS18 = true := by kernel_rfl
set_option maxRecDepth 100000 in
theorem parseLimitsP18 : Abs.pieceM Tryz.prog parseLimitsB 100000 parseLimitsS18 [.rounds 22] parseLimitsS19 = true := by kernel_rfl
end Go.Proofs.YtiakepglcemfiaaGreatDoor
