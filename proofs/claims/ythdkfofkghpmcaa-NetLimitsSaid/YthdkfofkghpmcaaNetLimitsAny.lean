/- The run of NetLimits, put together. -/
import Derived.Test.YthdkfofkghpmcaaNetLimitsP0
import Derived.Test.YthdkfofkghpmcaaNetLimitsP1
import Derived.Test.YthdkfofkghpmcaaNetLimitsP2
import Derived.Test.YthdkfofkghpmcaaNetLimitsP3
import Derived.Test.YthdkfofkghpmcaaNetLimitsP4
import Derived.Test.YthdkfofkghpmcaaNetLimitsP5
import Derived.Test.YthdkfofkghpmcaaNetLimitsP6
import Derived.Test.YthdkfofkghpmcaaNetLimitsP7
import Derived.Test.YthdkfofkghpmcaaNetLimitsP8
import Derived.Test.YthdkfofkghpmcaaNetLimitsP9
import Derived.Test.YthdkfofkghpmcaaDl
namespace Go.Proofs.Ythdkfofkghpmcaa
open Go.RowKit
set_option maxRecDepth 100000 in
theorem netLimits_any (W : World) (hL : Abs.Laid netLimitsGL W) : Calls Try.prog 8 #[] W fun e W' => e = .returned (.bool true) ∧ Below W.heap.size W W' := by
  have hb : Abs.BothOK Try.prog W netLimitsB := Abs.bothA_ok (by kernel_rfl) (Abs.delSpec_ok delOK W) (Abs.Memo.lookOK netLimitsM0_ok (w0 := W) hL) 60
  exact Abs.runsM_calls netLimitsG hL Try.func8 (by kernel_rfl) (Abs.pieceM_ok (by kernel_rfl) hb netLimitsP0 (Abs.pieceM_ok (by kernel_rfl) hb netLimitsP1 (Abs.pieceM_ok (by kernel_rfl) hb netLimitsP2 (Abs.pieceM_ok (by kernel_rfl) hb netLimitsP3 (Abs.pieceM_ok (by kernel_rfl) hb netLimitsP4 (Abs.pieceM_ok (by kernel_rfl) hb netLimitsP5 (Abs.pieceM_ok (by kernel_rfl) hb netLimitsP6 (Abs.pieceM_ok (by kernel_rfl) hb netLimitsP7 (Abs.pieceM_ok (by kernel_rfl) hb netLimitsP8 (Abs.endM_ok (by kernel_rfl) hb netLimitsP9))))))))))
theorem netLimits_tabs (W : World) : Abs.Laid netLimitsGL W := Abs.laid_nil W
end Go.Proofs.Ythdkfofkghpmcaa
