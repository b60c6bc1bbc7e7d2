/- The law's own example: works returns true. -/
import Derived.Test.YteibdplpbcobbaaAbs36
import Derived.Test.YteibdplpbcobbaaFrame
namespace Go.Proofs.Yteibdplpbcobbaa
open Go.RowKit Abs
set_option maxRecDepth 100000 in
theorem works_run : came (.ret (.bool true)) (callA Try.prog (Memo.spec Try.prog 5000 []) 5000 30 13 [] ⟨0, [57], .e⟩) = true := by kernel_rfl
theorem works_holds : Holds Try.prog 13 (constF (.ret (.bool true))) :=
  constF_holds (fun h => Memo.says (by kernel_rfl) Memo.ok_nil (by kernel_rfl) (by kernel_rfl) works_run h)
end Go.Proofs.Yteibdplpbcobbaa
