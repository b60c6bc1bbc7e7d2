/- A piece of the run of MatchNames: 10499 operations. -/
import Derived.Test.YtcahhjjnihipdaaDoorMatchNamesS
namespace Go.Proofs.YtcahhjjnihipdaaDoor
open Go.RowKit
set_option maxRecDepth 100000 in
theorem matchNamesP9 : Abs.endM Tryd.prog matchNamesB 100000 matchNamesS9 [.rounds 26, .pass, .atom, .atom, .pop, .ops 8, .pass, .atom] = true := by kernel_rfl
end Go.Proofs.YtcahhjjnihipdaaDoor
