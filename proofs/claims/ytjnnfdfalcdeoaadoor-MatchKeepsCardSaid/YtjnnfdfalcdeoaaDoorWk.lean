/- The law's own example: works returns true. -/
import Derived.Test.YtjnnfdfalcdeoaaDoorGa
namespace Go.Proofs.YtjnnfdfalcdeoaaDoor
open Go.RowKit Abs
set_option maxRecDepth 100000 in
theorem works_run : came (.ret (.bool true)) (callA Tryd.prog (Memo.spec Tryd.prog 5000 []) 5000 30 12 [] ⟨0, [], .e⟩) = true := by kernel_rfl
theorem works_holds : Holds Tryd.prog 12 (constF (.ret (.bool true))) :=
  constF_holds (fun h => Memo.says (by kernel_rfl) Memo.ok_nil (by kernel_rfl) (by kernel_rfl) works_run h)
end Go.Proofs.YtjnnfdfalcdeoaaDoor
