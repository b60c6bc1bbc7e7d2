/- Closed. CheckLimits returns true. Conditions: none (there are no inputs). -/
import Derived.Test.YtolpdfoknllfjaaGreatDoorFrame
import Derived.Test.YtolpdfoknllfjaaGreatDoorCheckLimitsM0
namespace Go.Proofs.YtolpdfoknllfjaaGreatDoor
open Go.RowKit
open Go.ChangeShapes Go.WideShapes Go.ChangeAt Go.RowKit
open Go.ChangeMaps (open_string shut_string)

set_option maxRecDepth 100000 in
theorem checkLimits_run : Abs.saysTrue (Abs.callA Tryz.prog (checkLimitsM1.spec Tryz.prog 5000) 5000 30 9 [] ⟨0, [112, 114], .e⟩) = true := by kernel_rfl
theorem checkLimits_any (W : World) : Calls Tryz.prog 9 #[] W fun e W' => e = .returned (.bool true) ∧ Below W.heap.size W W' :=
  Abs.says_true (by kernel_rfl) (Abs.Memo.specOK (by kernel_rfl) checkLimitsM1_ok) checkLimits_run W

end Go.Proofs.YtolpdfoknllfjaaGreatDoor
