/- A step of the run of SnapKnown: a long text of zeros. -/
import Derived.Test.YtpnccmlajhhpdaaSnapKnownS
import Derived.Test.YtpnccmlajhhpdaaAbs44
namespace Go.Proofs.Ytpnccmlajhhpdaa
open Go.RowKit
set_option maxRecDepth 100000 in
theorem snapKnownP1 : Abs.zPiece Try.prog snapKnownS1 snapKnownS2 = true := by kernel_rfl
end Go.Proofs.Ytpnccmlajhhpdaa
