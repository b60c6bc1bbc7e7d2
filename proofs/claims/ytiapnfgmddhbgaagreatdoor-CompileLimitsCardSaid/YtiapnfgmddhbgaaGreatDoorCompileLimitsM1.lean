/- Calls that the law CompileLimits makes, looked up. -/
import Derived.Test.YtiapnfgmddhbgaaGreatDoorCompileLimitsM0
namespace Go.Proofs.YtiapnfgmddhbgaaGreatDoor
open Go.RowKit
set_option maxRecDepth 100000 in
theorem compileLimitsC3 : Abs.came (.ret (.tup [.agg [.nsl, .int .i64 (0)], .agg [.int .i64 (144), .int .i64 (1)]])) (Abs.callA Tryz.prog (compileLimitsM2.spec Tryz.prog 5000) 5000 30 11 [.str 19 2188298548717427980819698589797993938424576609] ⟨0, [138, 140], .e⟩) = true := by kernel_rfl
def compileLimitsM3 : Abs.Memo := (11, [.str 19 2188298548717427980819698589797993938424576609], .ret (.tup [.agg [.nsl, .int .i64 (0)], .agg [.int .i64 (144), .int .i64 (1)]])) :: compileLimitsM2
theorem compileLimitsM3_ok : compileLimitsM3.ok Tryz.prog := Abs.Memo.ok_cons (Abs.Memo.says (by kernel_rfl) compileLimitsM2_ok (by kernel_rfl) (by kernel_rfl) compileLimitsC3) compileLimitsM2_ok
set_option maxRecDepth 100000 in
theorem compileLimitsC4 : Abs.came (.ret (.tup [.agg [.nsl], .agg [.int .i64 (6), .int .i64 (7)]])) (Abs.callA Tryz.prog (compileLimitsM3.spec Tryz.prog 5000) 5000 30 20 [.str 7 32767063110597217] ⟨0, [138, 140], .e⟩) = true := by kernel_rfl
def compileLimitsM4 : Abs.Memo := (20, [.str 7 32767063110597217], .ret (.tup [.agg [.nsl], .agg [.int .i64 (6), .int .i64 (7)]])) :: compileLimitsM3
theorem compileLimitsM4_ok : compileLimitsM4.ok Tryz.prog := Abs.Memo.ok_cons (Abs.Memo.says (by kernel_rfl) compileLimitsM3_ok (by kernel_rfl) (by kernel_rfl) compileLimitsC4) compileLimitsM3_ok
set_option maxRecDepth 100000 in
theorem compileLimitsC5 : Abs.came (.ret (.agg [.int .i64 (2), .int .u64 (18446744073709551615), .int .u64 (18446744073709551615), .int .u64 (18446744073709551615), .int .u64 (18446744073709551615), .nsl])) (Abs.callA Tryz.prog (compileLimitsM4.spec Tryz.prog 5000) 5000 30 196 [] ⟨0, [138, 140], .e⟩) = true := by kernel_rfl
def compileLimitsM5 : Abs.Memo := (196, [], .ret (.agg [.int .i64 (2), .int .u64 (18446744073709551615), .int .u64 (18446744073709551615), .int .u64 (18446744073709551615), .int .u64 (18446744073709551615), .nsl])) :: compileLimitsM4
theorem compileLimitsM5_ok : compileLimitsM5.ok Tryz.prog := Abs.Memo.ok_cons (Abs.Memo.says (by kernel_rfl) compileLimitsM4_ok (by kernel_rfl) (by kernel_rfl) compileLimitsC5) compileLimitsM4_ok
end Go.Proofs.YtiapnfgmddhbgaaGreatDoor
