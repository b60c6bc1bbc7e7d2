/- The run of ParseLimits, put together. -/
import Derived.Test.YtiakepglcemfiaaGreatDoorParseLimitsP0
import Derived.Test.YtiakepglcemfiaaGreatDoorParseLimitsP1
import Derived.Test.YtiakepglcemfiaaGreatDoorParseLimitsP2
import Derived.Test.YtiakepglcemfiaaGreatDoorParseLimitsP3
import Derived.Test.YtiakepglcemfiaaGreatDoorParseLimitsP4
import Derived.Test.YtiakepglcemfiaaGreatDoorParseLimitsP5
import Derived.Test.YtiakepglcemfiaaGreatDoorParseLimitsP6
import Derived.Test.YtiakepglcemfiaaGreatDoorParseLimitsP7
import Derived.Test.YtiakepglcemfiaaGreatDoorParseLimitsP8
import Derived.Test.YtiakepglcemfiaaGreatDoorParseLimitsP9
import Derived.Test.YtiakepglcemfiaaGreatDoorParseLimitsP11
import Derived.Test.YtiakepglcemfiaaGreatDoorParseLimitsP13
import Derived.Test.YtiakepglcemfiaaGreatDoorParseLimitsP15
import Derived.Test.YtiakepglcemfiaaGreatDoorParseLimitsP17
import Derived.Test.YtiakepglcemfiaaGreatDoorParseLimitsP19
import Derived.Test.YtiakepglcemfiaaGreatDoorParseLimitsP21
import Derived.Test.YtiakepglcemfiaaGreatDoorParseLimitsP23
namespace Go.Proofs.YtiakepglcemfiaaGreatDoor
open Go.RowKit
set_option maxRecDepth 100000 in
theorem parseLimits_any (W : World) (hL : Abs.Laid parseLimitsGL W) : Calls Tryz.prog 9 #[] W fun e W' => e = .returned (.bool true) ∧ Below W.heap.size W W' := by
  have hb : Abs.BothOK Tryz.prog W parseLimitsB := Abs.bothA_ok (by kernel_rfl) (Abs.noSpec_ok W) (Abs.Memo.lookOK parseLimitsM4_ok (w0 := W) hL) 60
  exact Abs.runsM_calls parseLimitsG hL Tryz.func9 (by kernel_rfl) (Abs.pieceM_ok (by kernel_rfl) hb parseLimitsP0 (Abs.pieceM_ok (by kernel_rfl) hb parseLimitsP1 (Abs.pieceM_ok (by kernel_rfl) hb parseLimitsP2 (Abs.pieceM_ok (by kernel_rfl) hb parseLimitsP3 (Abs.pieceM_ok (by kernel_rfl) hb parseLimitsP4 (Abs.pieceM_ok (by kernel_rfl) hb parseLimitsP5 (Abs.pieceM_ok (by kernel_rfl) hb parseLimitsP6 (Abs.pieceM_ok (by kernel_rfl) hb parseLimitsP7 (Abs.pieceM_ok (by kernel_rfl) hb parseLimitsP8 (Abs.pieceM_ok (by kernel_rfl) hb parseLimitsP9 (Abs.pieceM_ok (by kernel_rfl) hb parseLimitsP10 (Abs.pieceM_ok (by kernel_rfl) hb parseLimitsP11 (Abs.pieceM_ok (by kernel_rfl) hb parseLimitsP12 (Abs.pieceM_ok (by kernel_rfl) hb parseLimitsP13 (Abs.pieceM_ok (by kernel_rfl) hb parseLimitsP14 (Abs.pieceM_ok (by kernel_rfl) hb parseLimitsP15 (Abs.pieceM_ok (by kernel_rfl) hb parseLimitsP16 (Abs.pieceM_ok (by kernel_rfl) hb parseLimitsP17 (Abs.pieceM_ok (by kernel_rfl) hb parseLimitsP18 (Abs.pieceM_ok (by kernel_rfl) hb parseLimitsP19 (Abs.pieceM_ok (by kernel_rfl) hb parseLimitsP20 (Abs.pieceM_ok (by kernel_rfl) hb parseLimitsP21 (Abs.pieceM_ok (by kernel_rfl) hb parseLimitsP22 (Abs.pieceM_ok (by kernel_rfl) hb parseLimitsP23 (Abs.endM_ok (by kernel_rfl) hb parseLimitsP24)))))))))))))))))))))))))
set_option maxRecDepth 100000 in
theorem parseLimits_tabs {W : World} (h : laidMet Tryz.prog Rows.parseLimitsRow.laid W) : Abs.Laid parseLimitsGL W :=
  Abs.laid_cons (Abs.laid_ints h (i := 2) (n := "internal/strconv.uint64pow10") (g := 1) (t := 175) (e := 101) (len := 20) (k := .u64) (zs := [1, 10, 100, 1000, 10000, 100000, 1000000, 10000000, 100000000, 1000000000, 10000000000, 100000000000, 1000000000000, 10000000000000, 100000000000000, 1000000000000000, 10000000000000000, 100000000000000000, 1000000000000000000, 10000000000000000000]) (by kernel_rfl) (by kernel_rfl) (by kernel_rfl) (by kernel_rfl) (by kernel_rfl) (by kernel_rfl) (by decide))
    (Abs.laid_cons (Abs.laid_ints h (i := 0) (n := "math/bits.deBruijn32tab") (g := 2) (t := 187) (e := 5) (len := 32) (k := .u8) (zs := [0, 1, 28, 2, 29, 14, 24, 3, 30, 22, 20, 15, 25, 17, 4, 8, 31, 27, 13, 23, 21, 19, 16, 7, 26, 12, 18, 6, 11, 5, 10, 9]) (by kernel_rfl) (by kernel_rfl) (by kernel_rfl) (by kernel_rfl) (by kernel_rfl) (by kernel_rfl) (by decide))
    (Abs.laid_cons (Abs.laid_ints h (i := 1) (n := "math/bits.deBruijn64tab") (g := 3) (t := 188) (e := 5) (len := 64) (k := .u8) (zs := [0, 1, 56, 2, 57, 49, 28, 3, 61, 58, 42, 50, 38, 29, 17, 4, 62, 47, 59, 36, 45, 43, 51, 22, 53, 39, 33, 30, 24, 18, 12, 5, 63, 55, 48, 27, 60, 41, 37, 16, 46, 35, 44, 21, 52, 32, 23, 11, 54, 26, 40, 15, 34, 20, 31, 10, 25, 14, 19, 9, 13, 8, 7, 6]) (by kernel_rfl) (by kernel_rfl) (by kernel_rfl) (by kernel_rfl) (by kernel_rfl) (by kernel_rfl) (by decide))
    (Abs.laid_nil W)))
end Go.Proofs.YtiakepglcemfiaaGreatDoor
