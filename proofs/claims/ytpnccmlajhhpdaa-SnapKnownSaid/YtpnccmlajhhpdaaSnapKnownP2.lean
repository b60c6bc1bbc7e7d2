/- A piece of the run of SnapKnown: 58 operations. -/
import Derived.Test.YtpnccmlajhhpdaaSnapKnownS
namespace Go.Proofs.Ytpnccmlajhhpdaa
open Go.RowKit
set_option maxRecDepth 100000 in
theorem snapKnownP2 : Abs.endM Try.prog snapKnownB 100000 snapKnownS2 [.ops 4, .pass, .atom] = true := by kernel_rfl
end Go.Proofs.Ytpnccmlajhhpdaa
