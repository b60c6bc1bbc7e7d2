/- Calls that the law GatewayKnown makes, looked up. -/
import Derived.Test.YtfcedccphhmdgaaRows
import Derived.Test.YtfcedccphhmdgaaAbs40
namespace Go.Proofs.Ytfcedccphhmdgaa
open Go.RowKit
def gatewayKnownM0 : Abs.Memo := []
theorem gatewayKnownM0_ok : gatewayKnownM0.ok Try.prog := Abs.Memo.ok_nil
set_option maxRecDepth 100000 in
theorem gatewayKnownC1 : Abs.came (.ret (.tup [.str 49 150032543235070111570934507964491294320154317699183091218225948367599701410696533160098131298719920314619731917144064, .int .i64 (0)])) (Abs.runB Try.prog gatewayKnownM0 [57, 56, 15, 33] [] 5000 40 52 [.agg [.int .i64 (1), .int .i64 (2), .int .i64 (1), .int .i64 (1), .str 1 97]]) = true := by kernel_rfl
def gatewayKnownM1 : Abs.Memo := (52, [.agg [.int .i64 (1), .int .i64 (2), .int .i64 (1), .int .i64 (1), .str 1 97]], .ret (.tup [.str 49 150032543235070111570934507964491294320154317699183091218225948367599701410696533160098131298719920314619731917144064, .int .i64 (0)])) :: gatewayKnownM0
theorem gatewayKnownM1_ok : gatewayKnownM1.ok Try.prog := Abs.Memo.ok_cons (Abs.Memo.saysB (by kernel_rfl) gatewayKnownM0_ok (by kernel_rfl) (by kernel_rfl) gatewayKnownC1) gatewayKnownM0_ok
end Go.Proofs.Ytfcedccphhmdgaa
