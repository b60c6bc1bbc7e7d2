/- The law's own example: works returns true. -/
import Derived.Test.YtbhblbffdmiepaaGj
import Derived.Test.YtbhblbffdmiepaaAbs40
import Derived.Test.YtbhblbffdmiepaaAbs33
namespace Go.Proofs.Ytbhblbffdmiepaa
open Go.RowKit Abs
set_option maxRecDepth 100000 in
theorem works_run : came (.ret (.bool true)) (runB Try.prog [] [62, 14, 73, 32] [] 5000 30 7 []) = true := by kernel_rfl
theorem works_holds : Holds Try.prog 7 (constF (.ret (.bool true))) :=
  constF_holds (fun h => Memo.saysB (by kernel_rfl) Memo.ok_nil (by kernel_rfl) (by kernel_rfl) works_run h)
end Go.Proofs.Ytbhblbffdmiepaa
