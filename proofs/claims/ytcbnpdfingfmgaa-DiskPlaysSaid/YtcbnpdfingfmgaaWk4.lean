/- The law's own example: works returns true. -/
import Derived.Test.YtcbnpdfingfmgaaAbs36
import Derived.Test.YtcbnpdfingfmgaaFrame
namespace Go.Proofs.Ytcbnpdfingfmgaa
open Go.RowKit Abs
set_option maxRecDepth 100000 in
theorem works_run : came (.ret (.bool true)) (callA Try.prog (Memo.spec Try.prog 5000 []) 5000 30 7 [] ⟨0, [], .e⟩) = true := by kernel_rfl
theorem works_holds : Holds Try.prog 7 (constF (.ret (.bool true))) :=
  constF_holds (fun h => Memo.says (by kernel_rfl) Memo.ok_nil (by kernel_rfl) (by kernel_rfl) works_run h)
end Go.Proofs.Ytcbnpdfingfmgaa
