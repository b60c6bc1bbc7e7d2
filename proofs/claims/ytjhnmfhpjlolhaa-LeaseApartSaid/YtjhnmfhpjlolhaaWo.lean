/- The functions, put together: any number of levels. -/
import Derived.Test.YtjhnmfhpjlolhaaWk
namespace Go.Proofs.Ytjhnmfhpjlolhaa
open Go.RowKit Abs

noncomputable def worldF (n : Nat) (call : CallF) : CallF := callOf [
  (8, (constF (.ret (.bool true)))),
  (4, gcF (law20_LeaseSpans_fn call n)),
  (5, gcF (law20_LeaseHolds_fn call n)),
  (16, gcF (law20_within_fn call n)),
  (9, gcF (lease_Span_fn call n)),
  (12, gcF (lease_Held_fn call n)),
  (21, gcF (lease_heardLately_fn call n)),
  (13, gcF (ref20_Span_fn call n)),
  (14, gcF (ref20_Held_fn call n)),
  (20, gcF (message_Above_fn call n))]
set_option maxRecDepth 20000 in
theorem worldF_ok (n : Nat) (call : CallF) (hc : SaysAll Try.prog call) : SaysAll Try.prog (worldF n call) := (callOf_cons works_holds
  (callOf_cons (gcF_holds (law20_LeaseSpans_holds hc n))
  (callOf_cons (gcF_holds (law20_LeaseHolds_holds hc n))
  (callOf_cons (gcF_holds (law20_within_holds hc n))
  (callOf_cons (gcF_holds (lease_Span_holds hc n))
  (callOf_cons (gcF_holds (lease_Held_holds hc n))
  (callOf_cons (gcF_holds (lease_heardLately_holds hc n))
  (callOf_cons (gcF_holds (ref20_Span_holds hc n))
  (callOf_cons (gcF_holds (ref20_Held_holds hc n))
  (callOf_cons (gcF_holds (message_Above_holds hc n))
  callOf_nil))))))))))
noncomputable def world (n d : Nat) : CallF := iterW (worldF n) d
theorem world_ok (n d : Nat) : SaysAll Try.prog (world n d) := iterW_ok (worldF_ok n) d
theorem w_true (n d : Nat) (args : List AV) (h : AHeap) : world n (d + 1) 8 args h = (constF (.ret (.bool true))) args h := by kernel_rfl
theorem w_law20_LeaseSpans (n d : Nat) (t0 : Int) (h : AHeap) : world n (d + 1) 4 [.int .i64 t0] h = gcR h (law20_LeaseSpans (world n d) n t0 h) :=
  Eq.trans (b := gcR h (law20_LeaseSpans_fn (world n d) n [.int .i64 t0] h)) (by kernel_rfl) (by rw [law20_LeaseSpans_fn_eq])
theorem w_law20_LeaseHolds (n d : Nat) (t0 : List AV) (t1 : Int) (t2 : Int) (h : AHeap) : world n (d + 1) 5 [.agg t0, .int .i64 t1, .int .i64 t2] h = gcR h (law20_LeaseHolds (world n d) n t0 t1 t2 h) :=
  Eq.trans (b := gcR h (law20_LeaseHolds_fn (world n d) n [.agg t0, .int .i64 t1, .int .i64 t2] h)) (by kernel_rfl) (by rw [law20_LeaseHolds_fn_eq])
theorem w_law20_within (n d : Nat) (t0 : Int) (t1 : Int) (h : AHeap) : world n (d + 1) 16 [.int .i64 t0, .int .i64 t1] h = gcR h (law20_within (world n d) n t0 t1 h) :=
  Eq.trans (b := gcR h (law20_within_fn (world n d) n [.int .i64 t0, .int .i64 t1] h)) (by kernel_rfl) (by rw [law20_within_fn_eq])
theorem w_lease_Span (n d : Nat) (t0 : Int) (h : AHeap) : world n (d + 1) 9 [.int .i64 t0] h = gcR h (lease_Span (world n d) n t0 h) :=
  Eq.trans (b := gcR h (lease_Span_fn (world n d) n [.int .i64 t0] h)) (by kernel_rfl) (by rw [lease_Span_fn_eq])
theorem w_lease_Held (n d : Nat) (t0 : List AV) (t1 : Int) (t2 : Int) (h : AHeap) : world n (d + 1) 12 [.agg t0, .int .i64 t1, .int .i64 t2] h = gcR h (lease_Held (world n d) n t0 t1 t2 h) :=
  Eq.trans (b := gcR h (lease_Held_fn (world n d) n [.agg t0, .int .i64 t1, .int .i64 t2] h)) (by kernel_rfl) (by rw [lease_Held_fn_eq])
theorem w_lease_heardLately (n d : Nat) (t0 : List AV) (t1 : Int) (t2 : Int) (t3 : Int) (h : AHeap) : world n (d + 1) 21 [.agg t0, .int .i64 t1, .int .i64 t2, .int .i64 t3] h = gcR h (lease_heardLately (world n d) n t0 t1 t2 t3 h) :=
  Eq.trans (b := gcR h (lease_heardLately_fn (world n d) n [.agg t0, .int .i64 t1, .int .i64 t2, .int .i64 t3] h)) (by kernel_rfl) (by rw [lease_heardLately_fn_eq])
theorem w_ref20_Span (n d : Nat) (t0 : Int) (h : AHeap) : world n (d + 1) 13 [.int .i64 t0] h = gcR h (ref20_Span (world n d) n t0 h) :=
  Eq.trans (b := gcR h (ref20_Span_fn (world n d) n [.int .i64 t0] h)) (by kernel_rfl) (by rw [ref20_Span_fn_eq])
theorem w_ref20_Held (n d : Nat) (t0 : List AV) (t1 : Int) (t2 : Int) (h : AHeap) : world n (d + 1) 14 [.agg t0, .int .i64 t1, .int .i64 t2] h = gcR h (ref20_Held (world n d) n t0 t1 t2 h) :=
  Eq.trans (b := gcR h (ref20_Held_fn (world n d) n [.agg t0, .int .i64 t1, .int .i64 t2] h)) (by kernel_rfl) (by rw [ref20_Held_fn_eq])
theorem w_message_Above (n d : Nat) (t0 : List AV) (t1 : List AV) (h : AHeap) : world n (d + 1) 20 [.agg t0, .agg t1] h = gcR h (message_Above (world n d) n t0 t1 h) :=
  Eq.trans (b := gcR h (message_Above_fn (world n d) n [.agg t0, .agg t1] h)) (by kernel_rfl) (by rw [message_Above_fn_eq])
end Go.Proofs.Ytjhnmfhpjlolhaa
