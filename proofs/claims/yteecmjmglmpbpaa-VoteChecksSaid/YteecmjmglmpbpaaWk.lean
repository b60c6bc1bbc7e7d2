/- The law's own example: works returns true. -/
import Derived.Test.YteecmjmglmpbpaaGv
import Derived.Test.YteecmjmglmpbpaaAbs40
import Derived.Test.YteecmjmglmpbpaaAbs33
namespace Go.Proofs.Yteecmjmglmpbpaa
open Go.RowKit Abs
set_option maxRecDepth 100000 in
theorem works_run : came (.ret (.bool true)) (runB Try.prog [] [68, 29] [] 5000 30 8 []) = true := by kernel_rfl
theorem works_holds : Holds Try.prog 8 (constF (.ret (.bool true))) :=
  constF_holds (fun h => Memo.saysB (by kernel_rfl) Memo.ok_nil (by kernel_rfl) (by kernel_rfl) works_run h)
end Go.Proofs.Yteecmjmglmpbpaa
