/- The run of RunLimits, put together. -/
import Derived.Test.YtmpanfaenphbjaaGreatDoorRunLimitsP0
import Derived.Test.YtmpanfaenphbjaaGreatDoorRunLimitsP1
import Derived.Test.YtmpanfaenphbjaaGreatDoorRunLimitsP2
import Derived.Test.YtmpanfaenphbjaaGreatDoorRunLimitsP3
import Derived.Test.YtmpanfaenphbjaaGreatDoorRunLimitsP4
import Derived.Test.YtmpanfaenphbjaaGreatDoorRunLimitsP5
import Derived.Test.YtmpanfaenphbjaaGreatDoorRunLimitsP6
import Derived.Test.YtmpanfaenphbjaaGreatDoorRunLimitsP7
import Derived.Test.YtmpanfaenphbjaaGreatDoorRunLimitsP8
import Derived.Test.YtmpanfaenphbjaaGreatDoorRunLimitsP9
import Derived.Test.YtmpanfaenphbjaaGreatDoorRunLimitsP10
import Derived.Test.YtmpanfaenphbjaaGreatDoorRunLimitsP11
import Derived.Test.YtmpanfaenphbjaaGreatDoorRunLimitsP12
import Derived.Test.YtmpanfaenphbjaaGreatDoorRunLimitsP13
import Derived.Test.YtmpanfaenphbjaaGreatDoorRunLimitsP14
import Derived.Test.YtmpanfaenphbjaaGreatDoorRunLimitsP15
import Derived.Test.YtmpanfaenphbjaaGreatDoorRunLimitsP16
import Derived.Test.YtmpanfaenphbjaaGreatDoorRunLimitsP17
import Derived.Test.YtmpanfaenphbjaaGreatDoorRunLimitsP18
import Derived.Test.YtmpanfaenphbjaaGreatDoorRunLimitsP19
import Derived.Test.YtmpanfaenphbjaaGreatDoorRunLimitsP20
import Derived.Test.YtmpanfaenphbjaaGreatDoorRunLimitsP21
import Derived.Test.YtmpanfaenphbjaaGreatDoorRunLimitsP22
namespace Go.Proofs.YtmpanfaenphbjaaGreatDoor
open Go.RowKit
set_option maxRecDepth 100000 in
theorem runLimits_any (W : World) (hL : Abs.Laid runLimitsGL W) : Calls Tryz.prog 9 #[] W fun e W' => e = .returned (.bool true) ∧ Below W.heap.size W W' := by
  have hb : Abs.BothOK Tryz.prog W runLimitsB := Abs.bothA_ok (by kernel_rfl) (Abs.noSpec_ok W) (Abs.Memo.lookOK runLimitsM0_ok (w0 := W) hL) 60
  exact Abs.runsM_calls runLimitsG hL Tryz.func9 (by kernel_rfl) (Abs.pieceM_ok (by kernel_rfl) hb runLimitsP0 (Abs.pieceM_ok (by kernel_rfl) hb runLimitsP1 (Abs.pieceM_ok (by kernel_rfl) hb runLimitsP2 (Abs.pieceM_ok (by kernel_rfl) hb runLimitsP3 (Abs.pieceM_ok (by kernel_rfl) hb runLimitsP4 (Abs.pieceM_ok (by kernel_rfl) hb runLimitsP5 (Abs.pieceM_ok (by kernel_rfl) hb runLimitsP6 (Abs.pieceM_ok (by kernel_rfl) hb runLimitsP7 (Abs.pieceM_ok (by kernel_rfl) hb runLimitsP8 (Abs.pieceM_ok (by kernel_rfl) hb runLimitsP9 (Abs.pieceM_ok (by kernel_rfl) hb runLimitsP10 (Abs.pieceM_ok (by kernel_rfl) hb runLimitsP11 (Abs.pieceM_ok (by kernel_rfl) hb runLimitsP12 (Abs.pieceM_ok (by kernel_rfl) hb runLimitsP13 (Abs.pieceM_ok (by kernel_rfl) hb runLimitsP14 (Abs.pieceM_ok (by kernel_rfl) hb runLimitsP15 (Abs.pieceM_ok (by kernel_rfl) hb runLimitsP16 (Abs.pieceM_ok (by kernel_rfl) hb runLimitsP17 (Abs.pieceM_ok (by kernel_rfl) hb runLimitsP18 (Abs.pieceM_ok (by kernel_rfl) hb runLimitsP19 (Abs.pieceM_ok (by kernel_rfl) hb runLimitsP20 (Abs.pieceM_ok (by kernel_rfl) hb runLimitsP21 (Abs.endM_ok (by kernel_rfl) hb runLimitsP22)))))))))))))))))))))))
set_option maxRecDepth 100000 in
theorem runLimits_tabs {W : World} (h : laidMet Tryz.prog Rows.runLimitsRow.laid W) : Abs.Laid runLimitsGL W :=
  Abs.laid_cons (Abs.laid_ints h (i := 1) (n := "math/bits.deBruijn64tab") (g := 0) (t := 248) (e := 5) (len := 64) (k := .u8) (zs := [0, 1, 56, 2, 57, 49, 28, 3, 61, 58, 42, 50, 38, 29, 17, 4, 62, 47, 59, 36, 45, 43, 51, 22, 53, 39, 33, 30, 24, 18, 12, 5, 63, 55, 48, 27, 60, 41, 37, 16, 46, 35, 44, 21, 52, 32, 23, 11, 54, 26, 40, 15, 34, 20, 31, 10, 25, 14, 19, 9, 13, 8, 7, 6]) (by kernel_rfl) (by kernel_rfl) (by kernel_rfl) (by kernel_rfl) (by kernel_rfl) (by kernel_rfl) (by decide))
    (Abs.laid_cons (Abs.laid_ints h (i := 2) (n := "internal/strconv.uint64pow10") (g := 2) (t := 284) (e := 152) (len := 20) (k := .u64) (zs := [1, 10, 100, 1000, 10000, 100000, 1000000, 10000000, 100000000, 1000000000, 10000000000, 100000000000, 1000000000000, 10000000000000, 100000000000000, 1000000000000000, 10000000000000000, 100000000000000000, 1000000000000000000, 10000000000000000000]) (by kernel_rfl) (by kernel_rfl) (by kernel_rfl) (by kernel_rfl) (by kernel_rfl) (by kernel_rfl) (by decide))
    (Abs.laid_cons (Abs.laid_ints h (i := 0) (n := "math/bits.deBruijn32tab") (g := 3) (t := 290) (e := 5) (len := 32) (k := .u8) (zs := [0, 1, 28, 2, 29, 14, 24, 3, 30, 22, 20, 15, 25, 17, 4, 8, 31, 27, 13, 23, 21, 19, 16, 7, 26, 12, 18, 6, 11, 5, 10, 9]) (by kernel_rfl) (by kernel_rfl) (by kernel_rfl) (by kernel_rfl) (by kernel_rfl) (by kernel_rfl) (by decide))
    (Abs.laid_nil W)))
end Go.Proofs.YtmpanfaenphbjaaGreatDoor
