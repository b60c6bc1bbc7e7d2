/- A piece of the run of NetLimits: 3003 operations. -/
import Derived.Test.YthdkfofkghpmcaaNetLimitsS
namespace Go.Proofs.Ythdkfofkghpmcaa
open Go.RowKit
set_option maxRecDepth 100000 in
theorem netLimitsP9 : Abs.endM Try.prog netLimitsB 100000 netLimitsS9 [.rounds 7, .pass, .atom, .opn, .atom, .opn, .opn, .ops 1, .call, .atom, .pop, .ops 5, .pass, .opn, .atom, .opn, .atom, .opn, .opn, .ops 1, .call, .opn, .atom, .opn, .opn, .ops 9, .pass, .atom, .pop, .ops 1, .pass, .opn, .atom, .atom] = true := by kernel_rfl
end Go.Proofs.Ythdkfofkghpmcaa
