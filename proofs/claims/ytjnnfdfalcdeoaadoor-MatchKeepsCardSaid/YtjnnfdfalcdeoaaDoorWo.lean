/- The functions, put together: any number of levels. -/
import Derived.Test.YtjnnfdfalcdeoaaDoorWk
namespace Go.Proofs.YtjnnfdfalcdeoaaDoor
open Go.RowKit Abs

noncomputable def worldF (n : Nat) (call : CallF) : CallF := callOf [
  (12, (constF (.ret (.bool true)))),
  (9, gcF (law11_MatchKeeps_fn call n)),
  (24, gcF (match_Keep_fn call n)),
  (27, gcF (ref11_Keep_fn call n))]
set_option maxRecDepth 20000 in
theorem worldF_ok (n : Nat) (call : CallF) (hc : SaysAll Tryd.prog call) : SaysAll Tryd.prog (worldF n call) := (callOf_cons works_holds
  (callOf_cons (gcF_holds (law11_MatchKeeps_holds hc n))
  (callOf_cons (gcF_holds (match_Keep_holds hc n))
  (callOf_cons (gcF_holds (ref11_Keep_holds hc n))
  callOf_nil))))
noncomputable def world (n d : Nat) : CallF := iterW (worldF n) d
theorem world_ok (n d : Nat) : SaysAll Tryd.prog (world n d) := iterW_ok (worldF_ok n) d
theorem w_true (n d : Nat) (args : List AV) (h : AHeap) : world n (d + 1) 12 args h = (constF (.ret (.bool true))) args h := by kernel_rfl
theorem w_law11_MatchKeeps (n d : Nat) (t0 : Bytes) (t1 : Bytes) (h : AHeap) : world n (d + 1) 9 [strA t0, strA t1] h = gcR h (law11_MatchKeeps (world n d) n t0 t1 h) :=
  Eq.trans (b := gcR h (law11_MatchKeeps_fn (world n d) n [strA t0, strA t1] h)) (by kernel_rfl) (by rw [law11_MatchKeeps_fn_eq])
theorem w_match_Keep (n d : Nat) (t0 : Bytes) (h : AHeap) : world n (d + 1) 24 [strA t0] h = gcR h (match_Keep (world n d) n t0 h) :=
  Eq.trans (b := gcR h (match_Keep_fn (world n d) n [strA t0] h)) (by kernel_rfl) (by rw [match_Keep_fn_eq])
theorem w_ref11_Keep (n d : Nat) (t0 : Bytes) (h : AHeap) : world n (d + 1) 27 [strA t0] h = gcR h (ref11_Keep (world n d) n t0 h) :=
  Eq.trans (b := gcR h (ref11_Keep_fn (world n d) n [strA t0] h)) (by kernel_rfl) (by rw [ref11_Keep_fn_eq])
end Go.Proofs.YtjnnfdfalcdeoaaDoor
