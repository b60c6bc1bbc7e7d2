/- A piece of the run of MatchNames: 45248 operations. -/
import Derived.Test.YtcahhjjnihipdaaDoorMatchNamesS
namespace Go.Proofs.YtcahhjjnihipdaaDoor
open Go.RowKit
set_option maxRecDepth 100000 in
theorem matchNamesP5 : Abs.pieceM Tryd.prog matchNamesB 100000 matchNamesS5 [.rounds 112] matchNamesS6 = true := by kernel_rfl
end Go.Proofs.YtcahhjjnihipdaaDoor
