/- A piece of the run of NetLimits: 3621 operations. -/
import Derived.Test.YthdkfofkghpmcaaNetLimitsS
namespace Go.Proofs.Ythdkfofkghpmcaa
open Go.RowKit
set_option maxRecDepth 100000 in
theorem netLimitsP0 : Abs.pieceM Try.prog netLimitsB 100000 netLimitsS0 [.opn, .atom, .opn, .atom, .opn, .atom, .opn, .atom, .opn, .atom, .opn, .atom, .opn, .atom, .opn, .opn, .atom, .opn, .opn, .atom, .rounds 23] netLimitsS1 = true := by kernel_rfl
end Go.Proofs.Ythdkfofkghpmcaa
