/- The run of DriverKnown, put together. -/
import Derived.Test.YtahklkefjlhieaaGreatDoorDriverKnownP0
import Derived.Test.YtahklkefjlhieaaGreatDoorDriverKnownP1
import Derived.Test.YtahklkefjlhieaaGreatDoorDriverKnownP2
namespace Go.Proofs.YtahklkefjlhieaaGreatDoor
open Go.RowKit
set_option maxRecDepth 100000 in
theorem driverKnown_any (W : World) (hL : Abs.Laid driverKnownGL W) : Calls Tryz.prog 3 #[] W fun e W' => e = .returned (.bool true) ∧ Below W.heap.size W W' := by
  have hb : Abs.BothOK Tryz.prog W driverKnownB := Abs.bothA_ok (by kernel_rfl) (Abs.noSpec_ok W) (Abs.Memo.lookOK driverKnownM0_ok (w0 := W) hL) 60
  exact Abs.runsM_calls driverKnownG hL Tryz.func3 (by kernel_rfl) (Abs.pieceM_ok (by kernel_rfl) hb driverKnownP0 (Abs.pieceM_ok (by kernel_rfl) hb driverKnownP1 (Abs.endM_ok (by kernel_rfl) hb driverKnownP2)))
set_option maxRecDepth 100000 in
theorem driverKnown_tabs {W : World} (h : laidMet Tryz.prog Rows.driverKnownRow.laid W) : Abs.Laid driverKnownGL W :=
  Abs.laid_cons (Abs.laid_ints h (i := 1) (n := "math/bits.deBruijn64tab") (g := 0) (t := 518) (e := 5) (len := 64) (k := .u8) (zs := [0, 1, 56, 2, 57, 49, 28, 3, 61, 58, 42, 50, 38, 29, 17, 4, 62, 47, 59, 36, 45, 43, 51, 22, 53, 39, 33, 30, 24, 18, 12, 5, 63, 55, 48, 27, 60, 41, 37, 16, 46, 35, 44, 21, 52, 32, 23, 11, 54, 26, 40, 15, 34, 20, 31, 10, 25, 14, 19, 9, 13, 8, 7, 6]) (by kernel_rfl) (by kernel_rfl) (by kernel_rfl) (by kernel_rfl) (by kernel_rfl) (by kernel_rfl) (by decide))
    (Abs.laid_cons (Abs.laid_ints h (i := 2) (n := "internal/strconv.uint64pow10") (g := 2) (t := 525) (e := 125) (len := 20) (k := .u64) (zs := [1, 10, 100, 1000, 10000, 100000, 1000000, 10000000, 100000000, 1000000000, 10000000000, 100000000000, 1000000000000, 10000000000000, 100000000000000, 1000000000000000, 10000000000000000, 100000000000000000, 1000000000000000000, 10000000000000000000]) (by kernel_rfl) (by kernel_rfl) (by kernel_rfl) (by kernel_rfl) (by kernel_rfl) (by kernel_rfl) (by decide))
    (Abs.laid_cons (Abs.laid_ints h (i := 0) (n := "math/bits.deBruijn32tab") (g := 3) (t := 532) (e := 5) (len := 32) (k := .u8) (zs := [0, 1, 28, 2, 29, 14, 24, 3, 30, 22, 20, 15, 25, 17, 4, 8, 31, 27, 13, 23, 21, 19, 16, 7, 26, 12, 18, 6, 11, 5, 10, 9]) (by kernel_rfl) (by kernel_rfl) (by kernel_rfl) (by kernel_rfl) (by kernel_rfl) (by kernel_rfl) (by decide))
    (Abs.laid_nil W)))
end Go.Proofs.YtahklkefjlhieaaGreatDoor
