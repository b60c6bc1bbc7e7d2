/- The functions, put together: any number of levels. -/
import Derived.Test.YtpjnjdplgigmpaaWk
namespace Go.Proofs.Ytpjnjdplgigmpaa
open Go.RowKit Abs

noncomputable def worldF (n : Nat) (call : CallF) : CallF := callOf [
  (8, (constF (.ret (.bool true)))),
  (7, gcF (law17_MessageAbove_fn call n)),
  (13, gcF (message_Above_fn call n))]
set_option maxRecDepth 20000 in
theorem worldF_ok (n : Nat) (call : CallF) (hc : SaysAll Try.prog call) : SaysAll Try.prog (worldF n call) := (callOf_cons works_holds
  (callOf_cons (gcF_holds (law17_MessageAbove_holds hc n))
  (callOf_cons (gcF_holds (message_Above_holds hc n))
  callOf_nil)))
noncomputable def world (n d : Nat) : CallF := iterW (worldF n) d
theorem world_ok (n d : Nat) : SaysAll Try.prog (world n d) := iterW_ok (worldF_ok n) d
theorem w_true (n d : Nat) (args : List AV) (h : AHeap) : world n (d + 1) 8 args h = (constF (.ret (.bool true))) args h := by kernel_rfl
theorem w_law17_MessageAbove (n d : Nat) (t0 : List AV) (t1 : List AV) (t2 : List AV) (h : AHeap) : world n (d + 1) 7 [.agg t0, .agg t1, .agg t2] h = gcR h (law17_MessageAbove (world n d) n t0 t1 t2 h) :=
  Eq.trans (b := gcR h (law17_MessageAbove_fn (world n d) n [.agg t0, .agg t1, .agg t2] h)) (by kernel_rfl) (by rw [law17_MessageAbove_fn_eq])
theorem w_message_Above (n d : Nat) (t0 : List AV) (t1 : List AV) (h : AHeap) : world n (d + 1) 13 [.agg t0, .agg t1] h = gcR h (message_Above (world n d) n t0 t1 h) :=
  Eq.trans (b := gcR h (message_Above_fn (world n d) n [.agg t0, .agg t1] h)) (by kernel_rfl) (by rw [message_Above_fn_eq])
end Go.Proofs.Ytpjnjdplgigmpaa
