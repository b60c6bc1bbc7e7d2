/- Calls that the law VoteKnown makes, looked up. -/
import Derived.Test.YteecmjmglmpbpaaRows
import Derived.Test.YteecmjmglmpbpaaAbs40
namespace Go.Proofs.Yteecmjmglmpbpaa
open Go.RowKit
def voteKnownM0 : Abs.Memo := []
theorem voteKnownM0_ok : voteKnownM0.ok Try.prog := Abs.Memo.ok_nil
set_option maxRecDepth 100000 in
theorem voteKnownC1 : Abs.came (.ret (.bool true)) (Abs.runB Try.prog voteKnownM0 [68, 29] [] 5000 40 8 []) = true := by kernel_rfl
def voteKnownM1 : Abs.Memo := (8, [], .ret (.bool true)) :: voteKnownM0
theorem voteKnownM1_ok : voteKnownM1.ok Try.prog := Abs.Memo.ok_cons (Abs.Memo.saysB (by kernel_rfl) voteKnownM0_ok (by kernel_rfl) (by kernel_rfl) voteKnownC1) voteKnownM0_ok
end Go.Proofs.Yteecmjmglmpbpaa
