/- The law's own example: works returns true. -/
import Derived.Test.YtpnccmlajhhpdaaAbs44
import Derived.Test.YtpnccmlajhhpdaaAbs33
import Derived.Test.YtpnccmlajhhpdaaFrame
namespace Go.Proofs.Ytpnccmlajhhpdaa
open Go.RowKit Abs
set_option maxRecDepth 100000 in
theorem works_run : came (.ret (.bool true)) (runG Try.prog [] [92, 77] [] [89] 0 5000 30 8 []) = true := by kernel_rfl
theorem works_holds : Holds Try.prog 8 (constF (.ret (.bool true))) :=
  constF_holds (fun h => says_of_came (by kernel_rfl) (by kernel_rfl) (by kernel_rfl) works_run h)
end Go.Proofs.Ytpnccmlajhhpdaa
