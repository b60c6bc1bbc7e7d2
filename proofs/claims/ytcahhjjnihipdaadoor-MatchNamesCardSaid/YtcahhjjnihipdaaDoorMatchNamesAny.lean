/- The run of MatchNames, put together. -/
import Derived.Test.YtcahhjjnihipdaaDoorMatchNamesP0
import Derived.Test.YtcahhjjnihipdaaDoorMatchNamesP1
import Derived.Test.YtcahhjjnihipdaaDoorMatchNamesP2
import Derived.Test.YtcahhjjnihipdaaDoorMatchNamesP3
import Derived.Test.YtcahhjjnihipdaaDoorMatchNamesP4
import Derived.Test.YtcahhjjnihipdaaDoorMatchNamesP5
import Derived.Test.YtcahhjjnihipdaaDoorMatchNamesP6
import Derived.Test.YtcahhjjnihipdaaDoorMatchNamesP7
import Derived.Test.YtcahhjjnihipdaaDoorMatchNamesP8
import Derived.Test.YtcahhjjnihipdaaDoorMatchNamesP9
namespace Go.Proofs.YtcahhjjnihipdaaDoor
open Go.RowKit
set_option maxRecDepth 100000 in
theorem matchNames_any (W : World) (hL : Abs.Laid matchNamesGL W) : Calls Tryd.prog 11 #[] W fun e W' => e = .returned (.bool true) ∧ Below W.heap.size W W' := by
  have hb : Abs.BothOK Tryd.prog W matchNamesB := Abs.bothA_ok (by kernel_rfl) (Abs.noSpec_ok W) (Abs.Memo.lookOK matchNamesM0_ok (w0 := W) hL) 60
  exact Abs.runsM_calls matchNamesG hL Tryd.func11 (by kernel_rfl) (Abs.pieceM_ok (by kernel_rfl) hb matchNamesP0 (Abs.pieceM_ok (by kernel_rfl) hb matchNamesP1 (Abs.pieceM_ok (by kernel_rfl) hb matchNamesP2 (Abs.pieceM_ok (by kernel_rfl) hb matchNamesP3 (Abs.pieceM_ok (by kernel_rfl) hb matchNamesP4 (Abs.pieceM_ok (by kernel_rfl) hb matchNamesP5 (Abs.pieceM_ok (by kernel_rfl) hb matchNamesP6 (Abs.pieceM_ok (by kernel_rfl) hb matchNamesP7 (Abs.pieceM_ok (by kernel_rfl) hb matchNamesP8 (Abs.endM_ok (by kernel_rfl) hb matchNamesP9))))))))))
set_option maxRecDepth 100000 in
theorem matchNames_tabs {W : World} (h : laidMet Tryd.prog Rows.matchNamesRow.laid W) : Abs.Laid matchNamesGL W :=
  Abs.laid_cons (Abs.laid_ints h (i := 0) (n := "math/bits.deBruijn64tab") (g := 0) (t := 140) (e := 5) (len := 64) (k := .u8) (zs := [0, 1, 56, 2, 57, 49, 28, 3, 61, 58, 42, 50, 38, 29, 17, 4, 62, 47, 59, 36, 45, 43, 51, 22, 53, 39, 33, 30, 24, 18, 12, 5, 63, 55, 48, 27, 60, 41, 37, 16, 46, 35, 44, 21, 52, 32, 23, 11, 54, 26, 40, 15, 34, 20, 31, 10, 25, 14, 19, 9, 13, 8, 7, 6]) (by kernel_rfl) (by kernel_rfl) (by kernel_rfl) (by kernel_rfl) (by kernel_rfl) (by kernel_rfl) (by decide))
    (Abs.laid_nil W)
end Go.Proofs.YtcahhjjnihipdaaDoor
