/- Closed. CompileLimits returns true. Conditions: none (there are no inputs). -/
import Derived.Test.YtiapnfgmddhbgaaGreatDoorFrame
import Derived.Test.YtiapnfgmddhbgaaGreatDoorCompileLimitsM1
namespace Go.Proofs.YtiapnfgmddhbgaaGreatDoor
open Go.RowKit
open Go.ChangeShapes Go.WideShapes Go.ChangeAt Go.RowKit
open Go.ChangeMaps (open_string shut_string)

set_option maxRecDepth 100000 in
theorem compileLimits_run : Abs.saysTrue (Abs.callA Tryz.prog (compileLimitsM5.spec Tryz.prog 5000) 5000 30 9 [] ⟨0, [138, 140], .e⟩) = true := by kernel_rfl
theorem compileLimits_any (W : World) : Calls Tryz.prog 9 #[] W fun e W' => e = .returned (.bool true) ∧ Below W.heap.size W W' :=
  Abs.says_true (by kernel_rfl) (Abs.Memo.specOK (by kernel_rfl) compileLimitsM5_ok) compileLimits_run W

end Go.Proofs.YtiapnfgmddhbgaaGreatDoor
