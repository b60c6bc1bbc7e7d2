/- The functions, put together: any number of levels. -/
import Derived.Test.YteecmjmglmpbpaaWk
import Derived.Test.YteecmjmglmpbpaaGv
namespace Go.Proofs.Yteecmjmglmpbpaa
open Go.RowKit Abs

noncomputable def worldF (n : Nat) (call : CallF) : CallF := callOf [
  (8, (constF (.ret (.bool true)))),
  (17, gcF (vote_Check_fn call n)),
  (18, gcF (ref08_May_fn call n)),
  (4, gcF (law08_VoteChecks_fn call n))]
set_option maxRecDepth 20000 in
theorem worldF_ok (n : Nat) (call : CallF) (hc : SaysAll Try.prog call) : SaysAll Try.prog (worldF n call) := (callOf_cons works_holds
  (callOf_cons (gcF_holds (vote_Check_holds hc n))
  (callOf_cons (gcF_holds (ref08_May_holds hc n))
  (callOf_cons (gcF_holds (law08_VoteChecks_holds hc n))
  callOf_nil))))
noncomputable def world (n d : Nat) : CallF := iterW (worldF n) d
theorem world_ok (n d : Nat) : SaysAll Try.prog (world n d) := iterW_ok (worldF_ok n) d
theorem w_true (n d : Nat) (args : List AV) (h : AHeap) : world n (d + 1) 8 args h = (constF (.ret (.bool true))) args h := by kernel_rfl
theorem w_vote_Check (n d : Nat) (t0 : List AV) (h : AHeap) : world n (d + 1) 17 [.agg t0] h = gcR h (vote_Check (world n d) n t0 h) :=
  Eq.trans (b := gcR h (vote_Check_fn (world n d) n [.agg t0] h)) (by kernel_rfl) (by rw [vote_Check_fn_eq])
theorem w_ref08_May (n d : Nat) (t0 : List AV) (h : AHeap) : world n (d + 1) 18 [.agg t0] h = gcR h (ref08_May (world n d) n t0 h) :=
  Eq.trans (b := gcR h (ref08_May_fn (world n d) n [.agg t0] h)) (by kernel_rfl) (by rw [ref08_May_fn_eq])
theorem w_law08_VoteChecks (n d : Nat) (t0 : Int) (t1 : Int) (h : AHeap) : world n (d + 1) 4 [.int .i64 t0, .int .i64 t1] h = gcR h (law08_VoteChecks (world n d) n t0 t1 h) :=
  Eq.trans (b := gcR h (law08_VoteChecks_fn (world n d) n [.int .i64 t0, .int .i64 t1] h)) (by kernel_rfl) (by rw [law08_VoteChecks_fn_eq])
end Go.Proofs.Yteecmjmglmpbpaa
