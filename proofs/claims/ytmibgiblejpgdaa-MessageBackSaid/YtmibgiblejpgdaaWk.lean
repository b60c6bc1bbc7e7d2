/- The law's own example: works returns true. -/
import Derived.Test.YtmibgiblejpgdaaAbs40
import Derived.Test.YtmibgiblejpgdaaAbs36
import Derived.Test.YtmibgiblejpgdaaFrame
namespace Go.Proofs.Ytmibgiblejpgdaa
open Go.RowKit Abs
set_option maxRecDepth 100000 in
theorem works_run : came (.ret (.bool true)) (runG Try.prog [] [] [] [53] 0 5000 30 8 []) = true := by kernel_rfl
theorem works_holds : Holds Try.prog 8 (constF (.ret (.bool true))) :=
  constF_holds (fun h => says_of_came (by kernel_rfl) (by kernel_rfl) (by kernel_rfl) works_run h)
end Go.Proofs.Ytmibgiblejpgdaa
