/- Calls that the law CheckLimits makes, looked up. -/
import Derived.Test.YtolpdfoknllfjaaGreatDoorRows
import Derived.Test.YtolpdfoknllfjaaGreatDoorAbs22
namespace Go.Proofs.YtolpdfoknllfjaaGreatDoor
open Go.RowKit
def checkLimitsM0 : Abs.Memo := []
theorem checkLimitsM0_ok : checkLimitsM0.ok Tryz.prog := Abs.Memo.ok_nil
set_option maxRecDepth 100000 in
theorem checkLimitsC1 : Abs.came (.ret (.bool true)) (Abs.callA Tryz.prog (checkLimitsM0.spec Tryz.prog 5000) 5000 30 10 [] ⟨0, [112, 114], .e⟩) = true := by kernel_rfl
def checkLimitsM1 : Abs.Memo := (10, [], .ret (.bool true)) :: checkLimitsM0
theorem checkLimitsM1_ok : checkLimitsM1.ok Tryz.prog := Abs.Memo.ok_cons (Abs.Memo.says (by kernel_rfl) checkLimitsM0_ok (by kernel_rfl) (by kernel_rfl) checkLimitsC1) checkLimitsM0_ok
end Go.Proofs.YtolpdfoknllfjaaGreatDoor
