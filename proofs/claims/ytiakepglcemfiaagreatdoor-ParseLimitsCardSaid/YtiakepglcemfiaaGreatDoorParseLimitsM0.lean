/- Calls that the law ParseLimits makes, looked up. -/
import Derived.Test.YtiakepglcemfiaaGreatDoorRows
import Derived.Test.YtiakepglcemfiaaGreatDoorAbs43
namespace Go.Proofs.YtiakepglcemfiaaGreatDoor
open Go.RowKit
def parseLimitsGL : Abs.Tabs := [(1, ([1, 10, 100, 1000, 10000, 100000, 1000000, 10000000, 100000000, 1000000000, 10000000000, 100000000000, 1000000000000, 10000000000000, 100000000000000, 1000000000000000, 10000000000000000, 100000000000000000, 1000000000000000000, 10000000000000000000] : List Int).map fun z => Abs.AV.int .u64 z), (2, ([0, 1, 28, 2, 29, 14, 24, 3, 30, 22, 20, 15, 25, 17, 4, 8, 31, 27, 13, 23, 21, 19, 16, 7, 26, 12, 18, 6, 11, 5, 10, 9] : List Int).map fun z => Abs.AV.int .u8 z), (3, ([0, 1, 56, 2, 57, 49, 28, 3, 61, 58, 42, 50, 38, 29, 17, 4, 62, 47, 59, 36, 45, 43, 51, 22, 53, 39, 33, 30, 24, 18, 12, 5, 63, 55, 48, 27, 60, 41, 37, 16, 46, 35, 44, 21, 52, 32, 23, 11, 54, 26, 40, 15, 34, 20, 31, 10, 25, 14, 19, 9, 13, 8, 7, 6] : List Int).map fun z => Abs.AV.int .u8 z)]
theorem parseLimitsG : Abs.tabsOk 4 parseLimitsGL = true := by kernel_rfl
def parseLimitsM0 : Abs.Memo := []
theorem parseLimitsM0_ok : parseLimitsM0.okG Tryz.prog parseLimitsGL := Abs.Memo.okG_nil
set_option maxRecDepth 100000 in
theorem parseLimitsC1 : Abs.came (.ret (.tup [.agg [.nsl], .agg [.int .i64 (5), .int .i64 (9)]])) (Abs.runG Tryz.prog parseLimitsM0 [] parseLimitsGL [95, 97] 4 100000 60 12 [.str 19 1073262975627913580416608440352893400211143265]) = true := by kernel_rfl
def parseLimitsM1 : Abs.Memo := (12, [.str 19 1073262975627913580416608440352893400211143265], .ret (.tup [.agg [.nsl], .agg [.int .i64 (5), .int .i64 (9)]])) :: parseLimitsM0
theorem parseLimitsM1_ok : parseLimitsM1.okG Tryz.prog parseLimitsGL := Abs.Memo.okG_cons (by kernel_rfl) parseLimitsM0_ok parseLimitsG (by kernel_rfl) (by kernel_rfl) parseLimitsC1
set_option maxRecDepth 100000 in
theorem parseLimitsC2 : Abs.came (.ret (.tup [.agg [.nsl], .agg [.int .i64 (5), .int .i64 (20)]])) (Abs.runG Tryz.prog parseLimitsM1 [] parseLimitsGL [95, 97] 4 100000 60 12 [.str 30 862998121450921286747665544696899661338290684568287089078173992638626401]) = true := by kernel_rfl
def parseLimitsM2 : Abs.Memo := (12, [.str 30 862998121450921286747665544696899661338290684568287089078173992638626401], .ret (.tup [.agg [.nsl], .agg [.int .i64 (5), .int .i64 (20)]])) :: parseLimitsM1
theorem parseLimitsM2_ok : parseLimitsM2.okG Tryz.prog parseLimitsGL := Abs.Memo.okG_cons (by kernel_rfl) parseLimitsM1_ok parseLimitsG (by kernel_rfl) (by kernel_rfl) parseLimitsC2
set_option maxRecDepth 100000 in
theorem parseLimitsC3 : Abs.came (.ret (.tup [.agg [.nsl], .agg [.int .i64 (5), .int .i64 (20)]])) (Abs.runG Tryz.prog parseLimitsM2 [] parseLimitsGL [95, 97] 4 100000 60 12 [.str 33 14478705891176339826763548366020081579654288030713416208078042318940908607388257]) = true := by kernel_rfl
def parseLimitsM3 : Abs.Memo := (12, [.str 33 14478705891176339826763548366020081579654288030713416208078042318940908607388257], .ret (.tup [.agg [.nsl], .agg [.int .i64 (5), .int .i64 (20)]])) :: parseLimitsM2
theorem parseLimitsM3_ok : parseLimitsM3.okG Tryz.prog parseLimitsGL := Abs.Memo.okG_cons (by kernel_rfl) parseLimitsM2_ok parseLimitsG (by kernel_rfl) (by kernel_rfl) parseLimitsC3
set_option maxRecDepth 100000 in
theorem parseLimitsC4 : Abs.came (.ret (.tup [.agg [.nsl], .agg [.int .i64 (5), .int .i64 (10)]])) (Abs.runG Tryz.prog parseLimitsM3 [] parseLimitsGL [95, 97] 4 100000 60 12 [.str 27 19798207435196094016679665244647249628237377423442336699891989089]) = true := by kernel_rfl
def parseLimitsM4 : Abs.Memo := (12, [.str 27 19798207435196094016679665244647249628237377423442336699891989089], .ret (.tup [.agg [.nsl], .agg [.int .i64 (5), .int .i64 (10)]])) :: parseLimitsM3
theorem parseLimitsM4_ok : parseLimitsM4.okG Tryz.prog parseLimitsGL := Abs.Memo.okG_cons (by kernel_rfl) parseLimitsM3_ok parseLimitsG (by kernel_rfl) (by kernel_rfl) parseLimitsC4
end Go.Proofs.YtiakepglcemfiaaGreatDoor
