/- Calls that the law JournalKnown makes, looked up. -/
import Derived.Test.YtbhblbffdmiepaaRows
import Derived.Test.YtbhblbffdmiepaaAbs40
namespace Go.Proofs.Ytbhblbffdmiepaa
open Go.RowKit
def journalKnownM0 : Abs.Memo := []
theorem journalKnownM0_ok : journalKnownM0.ok Try.prog := Abs.Memo.ok_nil
set_option maxRecDepth 100000 in
theorem journalKnownC1 : Abs.came (.ret (.tup [.str 49 150032543235070111570934507964491294320154317699183091218225948367599701410696533160098131298719920314619731917144064, .int .i64 (0)])) (Abs.runB Try.prog journalKnownM0 [62, 14, 73, 32] [] 5000 40 36 [.agg [.int .i64 (1), .int .i64 (2), .int .i64 (1), .int .i64 (1), .str 1 97]]) = true := by kernel_rfl
def journalKnownM1 : Abs.Memo := (36, [.agg [.int .i64 (1), .int .i64 (2), .int .i64 (1), .int .i64 (1), .str 1 97]], .ret (.tup [.str 49 150032543235070111570934507964491294320154317699183091218225948367599701410696533160098131298719920314619731917144064, .int .i64 (0)])) :: journalKnownM0
theorem journalKnownM1_ok : journalKnownM1.ok Try.prog := Abs.Memo.ok_cons (Abs.Memo.saysB (by kernel_rfl) journalKnownM0_ok (by kernel_rfl) (by kernel_rfl) journalKnownC1) journalKnownM0_ok
set_option maxRecDepth 100000 in
theorem journalKnownC2 : Abs.came (.ret (.bool true)) (Abs.runB Try.prog journalKnownM1 [62, 14, 73, 32] [] 5000 40 7 []) = true := by kernel_rfl
def journalKnownM2 : Abs.Memo := (7, [], .ret (.bool true)) :: journalKnownM1
theorem journalKnownM2_ok : journalKnownM2.ok Try.prog := Abs.Memo.ok_cons (Abs.Memo.saysB (by kernel_rfl) journalKnownM1_ok (by kernel_rfl) (by kernel_rfl) journalKnownC2) journalKnownM1_ok
set_option maxRecDepth 100000 in
theorem journalKnownC3 : Abs.came (.ret (.tup [.str 49 2021517115542090990714580635251463883929703002018896045118811614306390656423198659591592122161003646761292231717421056, .int .i64 (0)])) (Abs.runB Try.prog journalKnownM2 [62, 14, 73, 32] [] 5000 40 36 [.agg [.int .i64 (2), .int .i64 (1), .int .i64 (1), .int .i64 (1), .str 1 99]]) = true := by kernel_rfl
def journalKnownM3 : Abs.Memo := (36, [.agg [.int .i64 (2), .int .i64 (1), .int .i64 (1), .int .i64 (1), .str 1 99]], .ret (.tup [.str 49 2021517115542090990714580635251463883929703002018896045118811614306390656423198659591592122161003646761292231717421056, .int .i64 (0)])) :: journalKnownM2
theorem journalKnownM3_ok : journalKnownM3.ok Try.prog := Abs.Memo.ok_cons (Abs.Memo.saysB (by kernel_rfl) journalKnownM2_ok (by kernel_rfl) (by kernel_rfl) journalKnownC3) journalKnownM2_ok
end Go.Proofs.Ytbhblbffdmiepaa
