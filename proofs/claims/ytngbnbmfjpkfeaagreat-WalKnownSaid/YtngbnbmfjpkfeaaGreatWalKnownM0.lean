/- Calls that the law WalKnown makes, looked up. -/
import Derived.Test.YtngbnbmfjpkfeaaGreatRows
import Derived.Test.YtngbnbmfjpkfeaaGreatAbs40
namespace Go.Proofs.YtngbnbmfjpkfeaaGreat
open Go.RowKit
def walKnownM0 : Abs.Memo := []
theorem walKnownM0_ok : walKnownM0.ok Tryz.prog := Abs.Memo.ok_nil
set_option maxRecDepth 100000 in
theorem walKnownC1 : Abs.came (.ret (.bool true)) (Abs.runB Tryz.prog walKnownM0 [3, 118, 66, 8] [] 5000 40 6 []) = true := by kernel_rfl
def walKnownM1 : Abs.Memo := (6, [], .ret (.bool true)) :: walKnownM0
theorem walKnownM1_ok : walKnownM1.ok Tryz.prog := Abs.Memo.ok_cons (Abs.Memo.saysB (by kernel_rfl) walKnownM0_ok (by kernel_rfl) (by kernel_rfl) walKnownC1) walKnownM0_ok
end Go.Proofs.YtngbnbmfjpkfeaaGreat
