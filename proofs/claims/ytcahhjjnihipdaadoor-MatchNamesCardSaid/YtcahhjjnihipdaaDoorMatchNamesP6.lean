/- A piece of the run of MatchNames: 45227 operations. -/
import Derived.Test.YtcahhjjnihipdaaDoorMatchNamesS
namespace Go.Proofs.YtcahhjjnihipdaaDoor
open Go.RowKit
set_option maxRecDepth 100000 in
theorem matchNamesP6 : Abs.pieceM Tryd.prog matchNamesB 100000 matchNamesS6 [.rounds 104, .pass, .atom, .pop, .ops 8, .pass, .opn, .opn, .ops 3, .call, .opn, .atom, .opn, .atom, .opn, .opn, .atom, .opn, .opn, .atom, .rounds 6] matchNamesS7 = true := by kernel_rfl
end Go.Proofs.YtcahhjjnihipdaaDoor
