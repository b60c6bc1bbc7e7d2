/- A piece of the run of MatchNames: 41436 operations. -/
import Derived.Test.YtcahhjjnihipdaaDoorMatchNamesS
namespace Go.Proofs.YtcahhjjnihipdaaDoor
open Go.RowKit
set_option maxRecDepth 100000 in
theorem matchNamesP2 : Abs.pieceM Tryd.prog matchNamesB 100000 matchNamesS2 [.atom, .opn, .atom, .opn, .opn, .ops 2, .call, .opn, .atom, .opn, .atom, .opn, .atom, .opn, .atom, .atom, .pop, .pass, .atom, .pop, .ops 5, .pass, .atom, .pass, .atom, .pass, .opn, .atom, .opn, .atom, .opn, .opn, .opn, .atom, .opn, .opn, .ops 1, .call, .opn, .atom, .opn, .atom, .opn, .atom, .opn, .atom, .opn, .atom, .opn, .atom, .opn, .opn, .ops 2, .call, .opn, .atom, .opn, .atom, .opn, .atom, .opn, .atom, .atom, .pop, .pass, .atom, .pop, .ops 5, .pass, .atom, .pass, .atom, .pass, .opn, .atom, .opn, .atom, .opn, .opn, .opn, .atom, .opn, .opn, .ops 1, .call, .opn, .atom, .opn, .atom, .opn, .atom, .opn, .atom, .opn, .atom, .opn, .atom, .opn, .opn, .ops 2, .call, .opn, .atom, .opn, .atom, .opn, .atom, .opn, .atom, .atom, .pop, .pass, .atom, .pop, .ops 5, .pass, .atom, .pass, .atom, .pass, .opn, .atom, .opn, .atom, .opn, .opn, .opn, .atom, .opn, .opn, .ops 1, .call, .opn, .atom, .opn, .atom, .opn, .atom, .opn, .atom, .opn, .atom, .opn, .atom, .opn, .opn, .ops 2, .call, .opn, .atom, .opn, .atom, .opn, .atom, .opn, .atom] matchNamesS3 = true := by kernel_rfl
end Go.Proofs.YtcahhjjnihipdaaDoor
