/- The run of TableKnown, put together. -/
import Derived.Test.YtkenbhdaiofboaaGreatDoorTableKnownP0
import Derived.Test.YtkenbhdaiofboaaGreatDoorTableKnownP1
import Derived.Test.YtkenbhdaiofboaaGreatDoorTableKnownP2
import Derived.Test.YtkenbhdaiofboaaGreatDoorTableKnownP3
import Derived.Test.YtkenbhdaiofboaaGreatDoorTableKnownP4
import Derived.Test.YtkenbhdaiofboaaGreatDoorTableKnownP5
import Derived.Test.YtkenbhdaiofboaaGreatDoorTableKnownP6
import Derived.Test.YtkenbhdaiofboaaGreatDoorTableKnownP7
import Derived.Test.YtkenbhdaiofboaaGreatDoorTableKnownP8
import Derived.Test.YtkenbhdaiofboaaGreatDoorTableKnownP9
import Derived.Test.YtkenbhdaiofboaaGreatDoorTableKnownP10
import Derived.Test.YtkenbhdaiofboaaGreatDoorTableKnownP11
import Derived.Test.YtkenbhdaiofboaaGreatDoorTableKnownP12
namespace Go.Proofs.YtkenbhdaiofboaaGreatDoor
open Go.RowKit
set_option maxRecDepth 100000 in
theorem tableKnown_any (W : World) (hL : Abs.Laid tableKnownGL W) : Calls Tryz.prog 3 #[] W fun e W' => e = .returned (.bool true) ∧ Below W.heap.size W W' := by
  have hb : Abs.BothOK Tryz.prog W tableKnownB := Abs.bothA_ok (by kernel_rfl) (Abs.noSpec_ok W) (Abs.Memo.lookOK tableKnownM0_ok (w0 := W) hL) 60
  exact Abs.runsM_calls tableKnownG hL Tryz.func3 (by kernel_rfl) (Abs.pieceM_ok (by kernel_rfl) hb tableKnownP0 (Abs.pieceM_ok (by kernel_rfl) hb tableKnownP1 (Abs.pieceM_ok (by kernel_rfl) hb tableKnownP2 (Abs.pieceM_ok (by kernel_rfl) hb tableKnownP3 (Abs.pieceM_ok (by kernel_rfl) hb tableKnownP4 (Abs.pieceM_ok (by kernel_rfl) hb tableKnownP5 (Abs.pieceM_ok (by kernel_rfl) hb tableKnownP6 (Abs.pieceM_ok (by kernel_rfl) hb tableKnownP7 (Abs.pieceM_ok (by kernel_rfl) hb tableKnownP8 (Abs.pieceM_ok (by kernel_rfl) hb tableKnownP9 (Abs.pieceM_ok (by kernel_rfl) hb tableKnownP10 (Abs.pieceM_ok (by kernel_rfl) hb tableKnownP11 (Abs.endM_ok (by kernel_rfl) hb tableKnownP12)))))))))))))
set_option maxRecDepth 100000 in
theorem tableKnown_tabs {W : World} (h : laidMet Tryz.prog Rows.tableKnownRow.laid W) : Abs.Laid tableKnownGL W :=
  Abs.laid_cons (Abs.laid_ints h (i := 1) (n := "math/bits.deBruijn64tab") (g := 0) (t := 403) (e := 5) (len := 64) (k := .u8) (zs := [0, 1, 56, 2, 57, 49, 28, 3, 61, 58, 42, 50, 38, 29, 17, 4, 62, 47, 59, 36, 45, 43, 51, 22, 53, 39, 33, 30, 24, 18, 12, 5, 63, 55, 48, 27, 60, 41, 37, 16, 46, 35, 44, 21, 52, 32, 23, 11, 54, 26, 40, 15, 34, 20, 31, 10, 25, 14, 19, 9, 13, 8, 7, 6]) (by kernel_rfl) (by kernel_rfl) (by kernel_rfl) (by kernel_rfl) (by kernel_rfl) (by kernel_rfl) (by decide))
    (Abs.laid_cons (Abs.laid_ints h (i := 2) (n := "internal/strconv.uint64pow10") (g := 2) (t := 411) (e := 126) (len := 20) (k := .u64) (zs := [1, 10, 100, 1000, 10000, 100000, 1000000, 10000000, 100000000, 1000000000, 10000000000, 100000000000, 1000000000000, 10000000000000, 100000000000000, 1000000000000000, 10000000000000000, 100000000000000000, 1000000000000000000, 10000000000000000000]) (by kernel_rfl) (by kernel_rfl) (by kernel_rfl) (by kernel_rfl) (by kernel_rfl) (by kernel_rfl) (by decide))
    (Abs.laid_cons (Abs.laid_ints h (i := 0) (n := "math/bits.deBruijn32tab") (g := 3) (t := 418) (e := 5) (len := 32) (k := .u8) (zs := [0, 1, 28, 2, 29, 14, 24, 3, 30, 22, 20, 15, 25, 17, 4, 8, 31, 27, 13, 23, 21, 19, 16, 7, 26, 12, 18, 6, 11, 5, 10, 9]) (by kernel_rfl) (by kernel_rfl) (by kernel_rfl) (by kernel_rfl) (by kernel_rfl) (by kernel_rfl) (by decide))
    (Abs.laid_nil W)))
end Go.Proofs.YtkenbhdaiofboaaGreatDoor
