/- Calls that the law SnapKnown makes, looked up. -/
import Derived.Test.YtpnccmlajhhpdaaRows
import Derived.Test.YtpnccmlajhhpdaaRp
namespace Go.Proofs.Ytpnccmlajhhpdaa
open Go.RowKit
set_option maxRecDepth 100000 in
theorem snapKnownC1 : Abs.came (.ret (.tup [.agg [.int .i64 (8), .int .i64 (1)], .str 3 6513249, .bool true])) (Abs.runG Try.prog snapKnownM0 [92, 77] snapKnownGL [89] 0 100000 60 61 [.str 59 8728817904554495875188886871165344328649156961367567008582652047395267961035688117517738281125770997730772204677607575185302585506025627975680]) = true := by kernel_rfl
def snapKnownM1 : Abs.Memo := (61, [.str 59 8728817904554495875188886871165344328649156961367567008582652047395267961035688117517738281125770997730772204677607575185302585506025627975680], .ret (.tup [.agg [.int .i64 (8), .int .i64 (1)], .str 3 6513249, .bool true])) :: snapKnownM0
theorem snapKnownM1_ok : snapKnownM1.okG Try.prog snapKnownGL := Abs.Memo.okG_cons (by kernel_rfl) snapKnownM0_ok snapKnownG (by kernel_rfl) (by kernel_rfl) snapKnownC1
end Go.Proofs.Ytpnccmlajhhpdaa
