/- Calls that the law CompileLimits makes, looked up. -/
import Derived.Test.YtiapnfgmddhbgaaGreatDoorRows
import Derived.Test.YtiapnfgmddhbgaaGreatDoorAbs22
namespace Go.Proofs.YtiapnfgmddhbgaaGreatDoor
open Go.RowKit
def compileLimitsM0 : Abs.Memo := []
theorem compileLimitsM0_ok : compileLimitsM0.ok Tryz.prog := Abs.Memo.ok_nil
set_option maxRecDepth 100000 in
theorem compileLimitsC1 : Abs.came (.ret (.bool true)) (Abs.callA Tryz.prog (compileLimitsM0.spec Tryz.prog 5000) 5000 30 10 [] ⟨0, [138, 140], .e⟩) = true := by kernel_rfl
def compileLimitsM1 : Abs.Memo := (10, [], .ret (.bool true)) :: compileLimitsM0
theorem compileLimitsM1_ok : compileLimitsM1.ok Tryz.prog := Abs.Memo.ok_cons (Abs.Memo.says (by kernel_rfl) compileLimitsM0_ok (by kernel_rfl) (by kernel_rfl) compileLimitsC1) compileLimitsM0_ok
set_option maxRecDepth 100000 in
theorem compileLimitsC2 : Abs.came (.ret (.tup [.agg [.nsl, .int .i64 (0)], .agg [.int .i64 (141), .int .i64 (0)]])) (Abs.callA Tryz.prog (compileLimitsM1.spec Tryz.prog 5000) 5000 30 11 [.str 9 1810118133976983550561] ⟨0, [138, 140], .e⟩) = true := by kernel_rfl
def compileLimitsM2 : Abs.Memo := (11, [.str 9 1810118133976983550561], .ret (.tup [.agg [.nsl, .int .i64 (0)], .agg [.int .i64 (141), .int .i64 (0)]])) :: compileLimitsM1
theorem compileLimitsM2_ok : compileLimitsM2.ok Tryz.prog := Abs.Memo.ok_cons (Abs.Memo.says (by kernel_rfl) compileLimitsM1_ok (by kernel_rfl) (by kernel_rfl) compileLimitsC2) compileLimitsM1_ok
end Go.Proofs.YtiapnfgmddhbgaaGreatDoor
