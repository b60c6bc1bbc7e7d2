/- A piece of the run of NetLimits: 3556 operations. -/
import Derived.Test.YthdkfofkghpmcaaNetLimitsS
namespace Go.Proofs.Ythdkfofkghpmcaa
open Go.RowKit
set_option maxRecDepth 100000 in
theorem netLimitsP6 : Abs.pieceM Try.prog netLimitsB 100000 netLimitsS6 [.rounds 28] netLimitsS7 = true := by kernel_rfl
end Go.Proofs.Ythdkfofkghpmcaa
