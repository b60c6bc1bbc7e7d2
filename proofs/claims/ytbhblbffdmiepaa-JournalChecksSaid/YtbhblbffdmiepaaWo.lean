/- The functions, put together: any number of levels. -/
import Derived.Test.YtbhblbffdmiepaaWk
import Derived.Test.YtbhblbffdmiepaaGj
namespace Go.Proofs.Ytbhblbffdmiepaa
open Go.RowKit Abs

noncomputable def worldF (n : Nat) (call : CallF) : CallF := callOf [
  (7, (constF (.ret (.bool true)))),
  (16, gcF (journal_Check_fn call n)),
  (40, gcF (journal_numbers_fn call n)),
  (17, gcF (ref22_Check_fn call n)),
  (4, gcF (law22_JournalChecks_fn call n))]
set_option maxRecDepth 20000 in
theorem worldF_ok (n : Nat) (call : CallF) (hc : SaysAll Try.prog call) : SaysAll Try.prog (worldF n call) := (callOf_cons works_holds
  (callOf_cons (gcF_holds (journal_Check_holds hc n))
  (callOf_cons (gcF_holds (journal_numbers_holds hc n))
  (callOf_cons (gcF_holds (ref22_Check_holds hc n))
  (callOf_cons (gcF_holds (law22_JournalChecks_holds hc n))
  callOf_nil)))))
noncomputable def world (n d : Nat) : CallF := iterW (worldF n) d
theorem world_ok (n d : Nat) : SaysAll Try.prog (world n d) := iterW_ok (worldF_ok n) d
theorem w_true (n d : Nat) (args : List AV) (h : AHeap) : world n (d + 1) 7 args h = (constF (.ret (.bool true))) args h := by kernel_rfl
theorem w_journal_Check (n d : Nat) (t0 : List AV) (h : AHeap) : world n (d + 1) 16 [.agg t0] h = gcR h (journal_Check (world n d) n t0 h) :=
  Eq.trans (b := gcR h (journal_Check_fn (world n d) n [.agg t0] h)) (by kernel_rfl) (by rw [journal_Check_fn_eq])
theorem w_journal_numbers (n d : Nat) (t0 : List AV) (h : AHeap) : world n (d + 1) 40 [.agg t0] h = gcR h (journal_numbers (world n d) n t0 h) :=
  Eq.trans (b := gcR h (journal_numbers_fn (world n d) n [.agg t0] h)) (by kernel_rfl) (by rw [journal_numbers_fn_eq])
theorem w_ref22_Check (n d : Nat) (t0 : List AV) (h : AHeap) : world n (d + 1) 17 [.agg t0] h = gcR h (ref22_Check (world n d) n t0 h) :=
  Eq.trans (b := gcR h (ref22_Check_fn (world n d) n [.agg t0] h)) (by kernel_rfl) (by rw [ref22_Check_fn_eq])
theorem w_law22_JournalChecks (n d : Nat) (t0 : List AV) (h : AHeap) : world n (d + 1) 4 [.agg t0] h = gcR h (law22_JournalChecks (world n d) n t0 h) :=
  Eq.trans (b := gcR h (law22_JournalChecks_fn (world n d) n [.agg t0] h)) (by kernel_rfl) (by rw [law22_JournalChecks_fn_eq])
end Go.Proofs.Ytbhblbffdmiepaa
