/- The run of SnapKnown, put together. -/
import Derived.Test.YtpnccmlajhhpdaaSnapKnownP0
import Derived.Test.YtpnccmlajhhpdaaSnapKnownP1
import Derived.Test.YtpnccmlajhhpdaaSnapKnownP2
namespace Go.Proofs.Ytpnccmlajhhpdaa
open Go.RowKit
set_option maxRecDepth 100000 in
theorem snapKnown_any (W : World) (hL : Abs.Laid snapKnownGL W) : Calls Try.prog 3 #[] W fun e W' => e = .returned (.bool true) ∧ Below W.heap.size W W' := by
  have hb : Abs.BothOK Try.prog W snapKnownB := Abs.bothA_ok (by kernel_rfl) (Abs.noSpec_ok W) (Abs.Memo.lookOK snapKnownM1_ok (w0 := W) hL) 60
  exact Abs.runsM_calls snapKnownG hL Try.func3 (by kernel_rfl) (Abs.pieceM_ok (by kernel_rfl) hb snapKnownP0 (Abs.zPiece_ok (by kernel_rfl) hb snapKnownP1 (Abs.endM_ok (by kernel_rfl) hb snapKnownP2)))
theorem snapKnown_tabs (W : World) : Abs.Laid snapKnownGL W := Abs.laid_nil W
end Go.Proofs.Ytpnccmlajhhpdaa
