/- A piece of the run of NetLimits: 3556 operations. -/
import Derived.Test.YthdkfofkghpmcaaNetLimitsS
namespace Go.Proofs.Ythdkfofkghpmcaa
open Go.RowKit
set_option maxRecDepth 100000 in
theorem netLimitsP5 : Abs.pieceM Try.prog netLimitsB 100000 netLimitsS5 [.rounds 28] netLimitsS6 = true := by kernel_rfl
end Go.Proofs.Ythdkfofkghpmcaa
