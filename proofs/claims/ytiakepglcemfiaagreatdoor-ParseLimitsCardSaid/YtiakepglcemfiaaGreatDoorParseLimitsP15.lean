/- A piece of the run of ParseLimits: 22550 operations. -/
import Derived.Test.YtiakepglcemfiaaGreatDoorParseLimitsS2
namespace Go.Proofs.YtiakepglcemfiaaGreatDoor
open Go.RowKit
set_option maxRecDepth 100000 in
theorem parseLimitsP15 : Abs.pieceM Tryz.prog parseLimitsB 100000 parseLimitsS15 [.rounds 22] parseLimitsS16 = true := by kernel_rfl
set_option maxRecDepth 100000 in
theorem parseLimitsP16 : Abs.pieceM Tryz.prog parseLimitsB 100000 parseLimitsS16 [.rounds 22] parseLimitsS17 = true := by kernel_rfl
end Go.Proofs.YtiakepglcemfiaaGreatDoor
