/- The run of NfaNames, put together. -/
import Derived.Test.YtakhljnkmbpmpaaDoorNfaNamesP0
import Derived.Test.YtakhljnkmbpmpaaDoorNfaNamesP1
import Derived.Test.YtakhljnkmbpmpaaDoorNfaNamesP2
import Derived.Test.YtakhljnkmbpmpaaDoorNfaNamesP3
import Derived.Test.YtakhljnkmbpmpaaDoorNfaNamesP4
import Derived.Test.YtakhljnkmbpmpaaDoorNfaNamesP5
import Derived.Test.YtakhljnkmbpmpaaDoorNfaNamesP6
import Derived.Test.YtakhljnkmbpmpaaDoorNfaNamesP7
import Derived.Test.YtakhljnkmbpmpaaDoorNfaNamesP8
import Derived.Test.YtakhljnkmbpmpaaDoorNfaNamesP9
import Derived.Test.YtakhljnkmbpmpaaDoorNfaNamesP10
import Derived.Test.YtakhljnkmbpmpaaDoorNfaNamesP11
import Derived.Test.YtakhljnkmbpmpaaDoorNfaNamesP12
import Derived.Test.YtakhljnkmbpmpaaDoorNfaNamesP13
import Derived.Test.YtakhljnkmbpmpaaDoorNfaNamesP14
import Derived.Test.YtakhljnkmbpmpaaDoorNfaNamesP15
import Derived.Test.YtakhljnkmbpmpaaDoorNfaNamesP16
import Derived.Test.YtakhljnkmbpmpaaDoorNfaNamesP17
import Derived.Test.YtakhljnkmbpmpaaDoorNfaNamesP18
import Derived.Test.YtakhljnkmbpmpaaDoorNfaNamesP19
import Derived.Test.YtakhljnkmbpmpaaDoorNfaNamesP20
import Derived.Test.YtakhljnkmbpmpaaDoorNfaNamesP21
import Derived.Test.YtakhljnkmbpmpaaDoorNfaNamesP22
import Derived.Test.YtakhljnkmbpmpaaDoorNfaNamesP23
import Derived.Test.YtakhljnkmbpmpaaDoorNfaNamesP24
import Derived.Test.YtakhljnkmbpmpaaDoorNfaNamesP25
import Derived.Test.YtakhljnkmbpmpaaDoorNfaNamesP26
import Derived.Test.YtakhljnkmbpmpaaDoorNfaNamesP27
import Derived.Test.YtakhljnkmbpmpaaDoorNfaNamesP28
namespace Go.Proofs.YtakhljnkmbpmpaaDoor
open Go.RowKit
set_option maxRecDepth 100000 in
theorem nfaNames_any (W : World) (hL : Abs.Laid nfaNamesGL W) : Calls Tryd.prog 10 #[] W fun e W' => e = .returned (.bool true) ∧ Below W.heap.size W W' := by
  have hb : Abs.BothOK Tryd.prog W nfaNamesB := Abs.bothA_ok (by kernel_rfl) (Abs.noSpec_ok W) (Abs.Memo.lookOK nfaNamesM0_ok (w0 := W) hL) 60
  exact Abs.runsM_calls nfaNamesG hL Tryd.func10 (by kernel_rfl) (Abs.pieceM_ok (by kernel_rfl) hb nfaNamesP0 (Abs.pieceM_ok (by kernel_rfl) hb nfaNamesP1 (Abs.pieceM_ok (by kernel_rfl) hb nfaNamesP2 (Abs.pieceM_ok (by kernel_rfl) hb nfaNamesP3 (Abs.pieceM_ok (by kernel_rfl) hb nfaNamesP4 (Abs.pieceM_ok (by kernel_rfl) hb nfaNamesP5 (Abs.pieceM_ok (by kernel_rfl) hb nfaNamesP6 (Abs.pieceM_ok (by kernel_rfl) hb nfaNamesP7 (Abs.pieceM_ok (by kernel_rfl) hb nfaNamesP8 (Abs.pieceM_ok (by kernel_rfl) hb nfaNamesP9 (Abs.pieceM_ok (by kernel_rfl) hb nfaNamesP10 (Abs.pieceM_ok (by kernel_rfl) hb nfaNamesP11 (Abs.pieceM_ok (by kernel_rfl) hb nfaNamesP12 (Abs.pieceM_ok (by kernel_rfl) hb nfaNamesP13 (Abs.pieceM_ok (by kernel_rfl) hb nfaNamesP14 (Abs.pieceM_ok (by kernel_rfl) hb nfaNamesP15 (Abs.pieceM_ok (by kernel_rfl) hb nfaNamesP16 (Abs.pieceM_ok (by kernel_rfl) hb nfaNamesP17 (Abs.pieceM_ok (by kernel_rfl) hb nfaNamesP18 (Abs.pieceM_ok (by kernel_rfl) hb nfaNamesP19 (Abs.pieceM_ok (by kernel_rfl) hb nfaNamesP20 (Abs.pieceM_ok (by kernel_rfl) hb nfaNamesP21 (Abs.pieceM_ok (by kernel_rfl) hb nfaNamesP22 (Abs.pieceM_ok (by kernel_rfl) hb nfaNamesP23 (Abs.pieceM_ok (by kernel_rfl) hb nfaNamesP24 (Abs.pieceM_ok (by kernel_rfl) hb nfaNamesP25 (Abs.pieceM_ok (by kernel_rfl) hb nfaNamesP26 (Abs.pieceM_ok (by kernel_rfl) hb nfaNamesP27 (Abs.endM_ok (by kernel_rfl) hb nfaNamesP28)))))))))))))))))))))))))))))
set_option maxRecDepth 100000 in
theorem nfaNames_tabs {W : World} (h : laidMet Tryd.prog Rows.nfaNamesRow.laid W) : Abs.Laid nfaNamesGL W :=
  Abs.laid_cons (Abs.laid_ints h (i := 0) (n := "math/bits.deBruijn64tab") (g := 0) (t := 94) (e := 5) (len := 64) (k := .u8) (zs := [0, 1, 56, 2, 57, 49, 28, 3, 61, 58, 42, 50, 38, 29, 17, 4, 62, 47, 59, 36, 45, 43, 51, 22, 53, 39, 33, 30, 24, 18, 12, 5, 63, 55, 48, 27, 60, 41, 37, 16, 46, 35, 44, 21, 52, 32, 23, 11, 54, 26, 40, 15, 34, 20, 31, 10, 25, 14, 19, 9, 13, 8, 7, 6]) (by kernel_rfl) (by kernel_rfl) (by kernel_rfl) (by kernel_rfl) (by kernel_rfl) (by kernel_rfl) (by decide))
    (Abs.laid_nil W)
end Go.Proofs.YtakhljnkmbpmpaaDoor
