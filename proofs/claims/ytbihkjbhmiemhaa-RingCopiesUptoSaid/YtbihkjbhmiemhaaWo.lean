/- The functions, put together: any number of levels. -/
import Derived.Test.YtbihkjbhmiemhaaWk
import Derived.Test.YtbihkjbhmiemhaaGs
import Derived.Test.YtbihkjbhmiemhaaGt
import Derived.Test.YtbihkjbhmiemhaaAbs35
namespace Go.Proofs.Ytbihkjbhmiemhaa
open Go.RowKit Abs

noncomputable def worldF (n : Nat) (call : CallF) : CallF := callOf [
  (8, (constF (.ret (.bool true)))),
  (13, ring_Ring_From_fn call n),
  (15, ring_Ring_End_fn call n),
  (16, ring_Ring_First_fn call n),
  (18, ring_Ring_Put_fn call n),
  (19, ring_Ring_Copy_fn call n),
  (10, gcF (ring_New_fn call n)),
  (12, gcF (ref21_Limit_fn call n)),
  (14, gcF (ref21_From_fn call n)),
  (17, gcF (ref21_First_fn call n)),
  (9, law21_joined_fn call n),
  (11, law21_filled_fn call n),
  (3, law21_RingTells_fn call n),
  (4, law21_RingPieces_fn call n),
  (5, law21_RingReads_fn call n),
  (6, law21_RingCopies_fn call n)]
set_option maxRecDepth 20000 in
theorem worldF_ok (n : Nat) (call : CallF) (hc : SaysAll Try.prog call) : SaysAll Try.prog (worldF n call) := (callOf_cons works_holds
  (callOf_cons (ring_Ring_From_holds hc n)
  (callOf_cons (ring_Ring_End_holds hc n)
  (callOf_cons (ring_Ring_First_holds hc n)
  (callOf_cons (ring_Ring_Put_holds hc n)
  (callOf_cons (ring_Ring_Copy_holds hc n)
  (callOf_cons (gcF_holds (ring_New_holds hc n))
  (callOf_cons (gcF_holds (ref21_Limit_holds hc n))
  (callOf_cons (gcF_holds (ref21_From_holds hc n))
  (callOf_cons (gcF_holds (ref21_First_holds hc n))
  (callOf_cons (law21_joined_holds hc n)
  (callOf_cons (law21_filled_holds hc n)
  (callOf_cons (law21_RingTells_holds hc n)
  (callOf_cons (law21_RingPieces_holds hc n)
  (callOf_cons (law21_RingReads_holds hc n)
  (callOf_cons (law21_RingCopies_holds hc n)
  callOf_nil))))))))))))))))
noncomputable def world (n d : Nat) : CallF := iterW (worldF n) d
theorem world_ok (n d : Nat) : SaysAll Try.prog (world n d) := iterW_ok (worldF_ok n) d
theorem w_true (n d : Nat) (args : List AV) (h : AHeap) : world n (d + 1) 8 args h = (constF (.ret (.bool true))) args h := by kernel_rfl
theorem w_ring_Ring_From (n d : Nat) (t0 : AV) (t1 : Int) (t2 : Int) (h : AHeap) : world n (d + 1) 13 [t0, .int .i64 t1, .int .i64 t2] h = ring_Ring_From (world n d) n t0 t1 t2 h :=
  Eq.trans (b := ring_Ring_From_fn (world n d) n [t0, .int .i64 t1, .int .i64 t2] h) (by kernel_rfl) (by rw [ring_Ring_From_fn_eq])
theorem w_ring_Ring_End (n d : Nat) (t0 : AV) (h : AHeap) : world n (d + 1) 15 [t0] h = ring_Ring_End (world n d) n t0 h :=
  Eq.trans (b := ring_Ring_End_fn (world n d) n [t0] h) (by kernel_rfl) (by rw [ring_Ring_End_fn_eq])
theorem w_ring_Ring_First (n d : Nat) (t0 : AV) (h : AHeap) : world n (d + 1) 16 [t0] h = ring_Ring_First (world n d) n t0 h :=
  Eq.trans (b := ring_Ring_First_fn (world n d) n [t0] h) (by kernel_rfl) (by rw [ring_Ring_First_fn_eq])
theorem w_ring_Ring_Put (n d : Nat) (t0 : AV) (t1 : Bytes) (h : AHeap) : world n (d + 1) 18 [t0, strA t1] h = ring_Ring_Put (world n d) n t0 t1 h :=
  Eq.trans (b := ring_Ring_Put_fn (world n d) n [t0, strA t1] h) (by kernel_rfl) (by rw [ring_Ring_Put_fn_eq])
theorem w_ring_Ring_Copy (n d : Nat) (t0 : AV) (h : AHeap) : world n (d + 1) 19 [t0] h = ring_Ring_Copy (world n d) n t0 h :=
  Eq.trans (b := ring_Ring_Copy_fn (world n d) n [t0] h) (by kernel_rfl) (by rw [ring_Ring_Copy_fn_eq])
theorem w_ring_New (n d : Nat) (t0 : Int) (h : AHeap) : world n (d + 1) 10 [.int .i64 t0] h = gcR h (ring_New (world n d) n t0 h) :=
  Eq.trans (b := gcR h (ring_New_fn (world n d) n [.int .i64 t0] h)) (by kernel_rfl) (by rw [ring_New_fn_eq])
theorem w_ref21_Limit (n d : Nat) (t0 : Int) (h : AHeap) : world n (d + 1) 12 [.int .i64 t0] h = gcR h (ref21_Limit (world n d) n t0 h) :=
  Eq.trans (b := gcR h (ref21_Limit_fn (world n d) n [.int .i64 t0] h)) (by kernel_rfl) (by rw [ref21_Limit_fn_eq])
theorem w_ref21_From (n d : Nat) (t0 : Bytes) (t1 : Int) (t2 : Int) (t3 : Int) (h : AHeap) : world n (d + 1) 14 [strA t0, .int .i64 t1, .int .i64 t2, .int .i64 t3] h = gcR h (ref21_From (world n d) n t0 t1 t2 t3 h) :=
  Eq.trans (b := gcR h (ref21_From_fn (world n d) n [strA t0, .int .i64 t1, .int .i64 t2, .int .i64 t3] h)) (by kernel_rfl) (by rw [ref21_From_fn_eq])
theorem w_ref21_First (n d : Nat) (t0 : Bytes) (t1 : Int) (h : AHeap) : world n (d + 1) 17 [strA t0, .int .i64 t1] h = gcR h (ref21_First (world n d) n t0 t1 h) :=
  Eq.trans (b := gcR h (ref21_First_fn (world n d) n [strA t0, .int .i64 t1] h)) (by kernel_rfl) (by rw [ref21_First_fn_eq])
theorem w_law21_joined (n d : Nat) (t0 : AV) (h : AHeap) : world n (d + 1) 9 [t0] h = law21_joined (world n d) n t0 h :=
  Eq.trans (b := law21_joined_fn (world n d) n [t0] h) (by kernel_rfl) (by rw [law21_joined_fn_eq])
theorem w_law21_filled (n d : Nat) (t0 : Int) (t1 : AV) (h : AHeap) : world n (d + 1) 11 [.int .i64 t0, t1] h = law21_filled (world n d) n t0 t1 h :=
  Eq.trans (b := law21_filled_fn (world n d) n [.int .i64 t0, t1] h) (by kernel_rfl) (by rw [law21_filled_fn_eq])
theorem w_law21_RingTells (n d : Nat) (t0 : Int) (t1 : AV) (t2 : Int) (t3 : Int) (h : AHeap) : world n (d + 1) 3 [.int .i64 t0, t1, .int .i64 t2, .int .i64 t3] h = law21_RingTells (world n d) n t0 t1 t2 t3 h :=
  Eq.trans (b := law21_RingTells_fn (world n d) n [.int .i64 t0, t1, .int .i64 t2, .int .i64 t3] h) (by kernel_rfl) (by rw [law21_RingTells_fn_eq])
theorem w_law21_RingPieces (n d : Nat) (t0 : Int) (t1 : AV) (h : AHeap) : world n (d + 1) 4 [.int .i64 t0, t1] h = law21_RingPieces (world n d) n t0 t1 h :=
  Eq.trans (b := law21_RingPieces_fn (world n d) n [.int .i64 t0, t1] h) (by kernel_rfl) (by rw [law21_RingPieces_fn_eq])
theorem w_law21_RingReads (n d : Nat) (t0 : Int) (t1 : AV) (t2 : AV) (h : AHeap) : world n (d + 1) 5 [.int .i64 t0, t1, t2] h = law21_RingReads (world n d) n t0 t1 t2 h :=
  Eq.trans (b := law21_RingReads_fn (world n d) n [.int .i64 t0, t1, t2] h) (by kernel_rfl) (by rw [law21_RingReads_fn_eq])
theorem w_law21_RingCopies (n d : Nat) (t0 : Int) (t1 : AV) (t2 : AV) (t3 : AV) (h : AHeap) : world n (d + 1) 6 [.int .i64 t0, t1, t2, t3] h = law21_RingCopies (world n d) n t0 t1 t2 t3 h :=
  Eq.trans (b := law21_RingCopies_fn (world n d) n [.int .i64 t0, t1, t2, t3] h) (by kernel_rfl) (by rw [law21_RingCopies_fn_eq])
end Go.Proofs.Ytbihkjbhmiemhaa
