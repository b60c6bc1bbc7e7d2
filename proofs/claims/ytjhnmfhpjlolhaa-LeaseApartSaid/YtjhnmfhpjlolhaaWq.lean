/- The functions, put together: any number of levels. -/
import Derived.Test.YtjhnmfhpjlolhaaWk
import Derived.Test.YtjhnmfhpjlolhaaGn
import Derived.Test.YtjhnmfhpjlolhaaAbs34
import Derived.Test.YtjhnmfhpjlolhaaSpans
namespace Go.Proofs.Ytjhnmfhpjlolhaa
open Go.RowKit Abs

noncomputable def worldqF (n : Nat) (call : CallF) : CallF := callOf [
  (8, (constF (.ret (.bool true)))),
  (4, gcF (law20_LeaseSpans_fn call n)),
  (5, gcF (law20_LeaseHolds_fn call n)),
  (16, gcF (law20_within_fn call n)),
  (9, gcF (lease_Span_fn call n)),
  (12, gcF (lease_Held_fn call n)),
  (21, gcF (lease_heardLately_fn call n)),
  (13, gcF (ref20_Span_fn call n)),
  (14, gcF (ref20_Held_fn call n)),
  (20, gcF (message_Above_fn call n)),
  (6, law20_LeaseApart_fn call n),
  (15, gcF (clock_New_fn call n)),
  (17, clock_Clock_Tick_fn call n),
  (18, clock_Clock_Now_fn call n),
  (19, clock_Clock_Rate_fn call n),
  (22, gcF (clock_isRate_fn call n)),
  (23, gcF (clock_isTicks_fn call n))]
set_option maxRecDepth 20000 in
theorem worldqF_ok (n : Nat) (call : CallF) (hc : SaysAll Try.prog call) : SaysAll Try.prog (worldqF n call) := (callOf_cons works_holds
  (callOf_cons (gcF_holds (law20_LeaseSpans_holds hc n))
  (callOf_cons (gcF_holds (law20_LeaseHolds_holds hc n))
  (callOf_cons (gcF_holds (law20_within_holds hc n))
  (callOf_cons (gcF_holds (lease_Span_holds hc n))
  (callOf_cons (gcF_holds (lease_Held_holds hc n))
  (callOf_cons (gcF_holds (lease_heardLately_holds hc n))
  (callOf_cons (gcF_holds (ref20_Span_holds hc n))
  (callOf_cons (gcF_holds (ref20_Held_holds hc n))
  (callOf_cons (gcF_holds (message_Above_holds hc n))
  (callOf_cons (law20_LeaseApart_holds hc n)
  (callOf_cons (gcF_holds (clock_New_holds hc n))
  (callOf_cons (clock_Clock_Tick_holds hc n)
  (callOf_cons (clock_Clock_Now_holds hc n)
  (callOf_cons (clock_Clock_Rate_holds hc n)
  (callOf_cons (gcF_holds (clock_isRate_holds hc n))
  (callOf_cons (gcF_holds (clock_isTicks_holds hc n))
  callOf_nil)))))))))))))))))
noncomputable def worldq (n d : Nat) : CallF := iterW (worldqF n) d
theorem worldq_ok (n d : Nat) : SaysAll Try.prog (worldq n d) := iterW_ok (worldqF_ok n) d
theorem wq_true (n d : Nat) (args : List AV) (h : AHeap) : worldq n (d + 1) 8 args h = (constF (.ret (.bool true))) args h := by kernel_rfl
theorem wq_law20_LeaseSpans (n d : Nat) (t0 : Int) (h : AHeap) : worldq n (d + 1) 4 [.int .i64 t0] h = gcR h (law20_LeaseSpans (worldq n d) n t0 h) :=
  Eq.trans (b := gcR h (law20_LeaseSpans_fn (worldq n d) n [.int .i64 t0] h)) (by kernel_rfl) (by rw [law20_LeaseSpans_fn_eq])
theorem wq_law20_LeaseHolds (n d : Nat) (t0 : List AV) (t1 : Int) (t2 : Int) (h : AHeap) : worldq n (d + 1) 5 [.agg t0, .int .i64 t1, .int .i64 t2] h = gcR h (law20_LeaseHolds (worldq n d) n t0 t1 t2 h) :=
  Eq.trans (b := gcR h (law20_LeaseHolds_fn (worldq n d) n [.agg t0, .int .i64 t1, .int .i64 t2] h)) (by kernel_rfl) (by rw [law20_LeaseHolds_fn_eq])
theorem wq_law20_within (n d : Nat) (t0 : Int) (t1 : Int) (h : AHeap) : worldq n (d + 1) 16 [.int .i64 t0, .int .i64 t1] h = gcR h (law20_within (worldq n d) n t0 t1 h) :=
  Eq.trans (b := gcR h (law20_within_fn (worldq n d) n [.int .i64 t0, .int .i64 t1] h)) (by kernel_rfl) (by rw [law20_within_fn_eq])
theorem wq_lease_Span (n d : Nat) (t0 : Int) (h : AHeap) : worldq n (d + 1) 9 [.int .i64 t0] h = gcR h (lease_Span (worldq n d) n t0 h) :=
  Eq.trans (b := gcR h (lease_Span_fn (worldq n d) n [.int .i64 t0] h)) (by kernel_rfl) (by rw [lease_Span_fn_eq])
theorem wq_lease_Held (n d : Nat) (t0 : List AV) (t1 : Int) (t2 : Int) (h : AHeap) : worldq n (d + 1) 12 [.agg t0, .int .i64 t1, .int .i64 t2] h = gcR h (lease_Held (worldq n d) n t0 t1 t2 h) :=
  Eq.trans (b := gcR h (lease_Held_fn (worldq n d) n [.agg t0, .int .i64 t1, .int .i64 t2] h)) (by kernel_rfl) (by rw [lease_Held_fn_eq])
theorem wq_lease_heardLately (n d : Nat) (t0 : List AV) (t1 : Int) (t2 : Int) (t3 : Int) (h : AHeap) : worldq n (d + 1) 21 [.agg t0, .int .i64 t1, .int .i64 t2, .int .i64 t3] h = gcR h (lease_heardLately (worldq n d) n t0 t1 t2 t3 h) :=
  Eq.trans (b := gcR h (lease_heardLately_fn (worldq n d) n [.agg t0, .int .i64 t1, .int .i64 t2, .int .i64 t3] h)) (by kernel_rfl) (by rw [lease_heardLately_fn_eq])
theorem wq_ref20_Span (n d : Nat) (t0 : Int) (h : AHeap) : worldq n (d + 1) 13 [.int .i64 t0] h = gcR h (ref20_Span (worldq n d) n t0 h) :=
  Eq.trans (b := gcR h (ref20_Span_fn (worldq n d) n [.int .i64 t0] h)) (by kernel_rfl) (by rw [ref20_Span_fn_eq])
theorem wq_ref20_Held (n d : Nat) (t0 : List AV) (t1 : Int) (t2 : Int) (h : AHeap) : worldq n (d + 1) 14 [.agg t0, .int .i64 t1, .int .i64 t2] h = gcR h (ref20_Held (worldq n d) n t0 t1 t2 h) :=
  Eq.trans (b := gcR h (ref20_Held_fn (worldq n d) n [.agg t0, .int .i64 t1, .int .i64 t2] h)) (by kernel_rfl) (by rw [ref20_Held_fn_eq])
theorem wq_message_Above (n d : Nat) (t0 : List AV) (t1 : List AV) (h : AHeap) : worldq n (d + 1) 20 [.agg t0, .agg t1] h = gcR h (message_Above (worldq n d) n t0 t1 h) :=
  Eq.trans (b := gcR h (message_Above_fn (worldq n d) n [.agg t0, .agg t1] h)) (by kernel_rfl) (by rw [message_Above_fn_eq])
theorem wq_law20_LeaseApart (n d : Nat) (t0 : Int) (t1 : Int) (t2 : Int) (t3 : Int) (t4 : AV) (h : AHeap) : worldq n (d + 1) 6 [.int .i64 t0, .int .i64 t1, .int .i64 t2, .int .i64 t3, t4] h = law20_LeaseApart (worldq n d) n t0 t1 t2 t3 t4 h :=
  Eq.trans (b := law20_LeaseApart_fn (worldq n d) n [.int .i64 t0, .int .i64 t1, .int .i64 t2, .int .i64 t3, t4] h) (by kernel_rfl) (by rw [law20_LeaseApart_fn_eq])
theorem wq_clock_New (n d : Nat) (t0 : Int) (h : AHeap) : worldq n (d + 1) 15 [.int .i64 t0] h = gcR h (clock_New (worldq n d) n t0 h) :=
  Eq.trans (b := gcR h (clock_New_fn (worldq n d) n [.int .i64 t0] h)) (by kernel_rfl) (by rw [clock_New_fn_eq])
theorem wq_clock_Clock_Tick (n d : Nat) (t0 : AV) (t1 : Int) (h : AHeap) : worldq n (d + 1) 17 [t0, .int .i64 t1] h = clock_Clock_Tick (worldq n d) n t0 t1 h :=
  Eq.trans (b := clock_Clock_Tick_fn (worldq n d) n [t0, .int .i64 t1] h) (by kernel_rfl) (by rw [clock_Clock_Tick_fn_eq])
theorem wq_clock_Clock_Now (n d : Nat) (t0 : AV) (h : AHeap) : worldq n (d + 1) 18 [t0] h = clock_Clock_Now (worldq n d) n t0 h :=
  Eq.trans (b := clock_Clock_Now_fn (worldq n d) n [t0] h) (by kernel_rfl) (by rw [clock_Clock_Now_fn_eq])
theorem wq_clock_Clock_Rate (n d : Nat) (t0 : AV) (t1 : Int) (h : AHeap) : worldq n (d + 1) 19 [t0, .int .i64 t1] h = clock_Clock_Rate (worldq n d) n t0 t1 h :=
  Eq.trans (b := clock_Clock_Rate_fn (worldq n d) n [t0, .int .i64 t1] h) (by kernel_rfl) (by rw [clock_Clock_Rate_fn_eq])
theorem wq_clock_isRate (n d : Nat) (t0 : Int) (h : AHeap) : worldq n (d + 1) 22 [.int .i64 t0] h = gcR h (clock_isRate (worldq n d) n t0 h) :=
  Eq.trans (b := gcR h (clock_isRate_fn (worldq n d) n [.int .i64 t0] h)) (by kernel_rfl) (by rw [clock_isRate_fn_eq])
theorem wq_clock_isTicks (n d : Nat) (t0 : Int) (h : AHeap) : worldq n (d + 1) 23 [.int .i64 t0] h = gcR h (clock_isTicks (worldq n d) n t0 h) :=
  Eq.trans (b := gcR h (clock_isTicks_fn (worldq n d) n [.int .i64 t0] h)) (by kernel_rfl) (by rw [clock_isTicks_fn_eq])
end Go.Proofs.Ytjhnmfhpjlolhaa
