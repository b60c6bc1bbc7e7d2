/- The functions, put together: any number of levels. -/
import Derived.Test.YtikaeeaepnflnaaSg
import Derived.Test.YtikaeeaepnflnaaSr
namespace Go.Proofs.Ytikaeeaepnflnaa
open Go.RowKit Abs

noncomputable def worldF (n : Nat) (call : CallF) : CallF := callOf [
  (30, gcF (fn2 (Di .u32) Ds (sum_More call n))),
  (26, gcF (fn1 Ds (sum_Of call n))),
  (18, gcF (fn1 Ds (frame_summed call n))),
  (22, gcF (fn1 Ds (frame_whole call n))),
  (9, gcF (fn1 Ds (frame_Put call n))),
  (10, gcF (fn1 Ds (frame_Take call n))),
  (16, fn1 Ds (frame_All call n)),
  (19, gcF (fn1 (Di .u32) (wire_U32 call n))),
  (20, gcF (fn1 Ds (wire_New call n))),
  (27, gcF (fn2 (Di .u64) (Di .i64) (wire_number call n))),
  (21, fn1 Dv (wire_Reader_U32 call n)),
  (28, fn2 Dv (Di .i64) (wire_Reader_number call n)),
  (31, fn1 Dv (wire_Reader_whole call n)),
  (32, fn3 Dv (Di .i64) (Di .i64) (wire_Reader_fail call n)),
  (23, gcF (fn2 (Di .u64) (Di .i64) (ref01_Number call n))),
  (24, gcF (fn1 Ds (ref02_Of call n))),
  (29, gcF (fn2 (Di .u32) Ds (ref02_More call n))),
  (33, gcF (fn2 (Di .u32) (Di .u32) (ref02_step call n))),
  (13, gcF (fn1 Ds (ref03_Put call n))),
  (14, gcF (fn1 Ds (ref03_Take call n))),
  (15, fn1 Ds (ref03_Scan call n)),
  (12, fn2 Dv Dv (slices_Equal___string_string_ call n)),
  (8, gcF (fn0 (law03_works call n)))]
set_option maxRecDepth 20000 in
theorem worldF_ok (n : Nat) (call : CallF) (hc : SaysAll Try.prog call) : SaysAll Try.prog (worldF n call) := (callOf_cons (gcF_holds (fn2_holds (Di .u32) Ds (sum_More_ok hc)))
  (callOf_cons (gcF_holds (fn1_holds Ds (sum_Of_ok hc)))
  (callOf_cons (gcF_holds (fn1_holds Ds (frame_summed_ok hc)))
  (callOf_cons (gcF_holds (fn1_holds Ds (frame_whole_ok hc)))
  (callOf_cons (gcF_holds (fn1_holds Ds (frame_Put_ok hc)))
  (callOf_cons (gcF_holds (fn1_holds Ds (frame_Take_ok hc)))
  (callOf_cons (fn1_holds Ds (frame_All_ok hc))
  (callOf_cons (gcF_holds (fn1_holds (Di .u32) (wire_U32_ok hc)))
  (callOf_cons (gcF_holds (fn1_holds Ds (wire_New_ok hc)))
  (callOf_cons (gcF_holds (fn2_holds (Di .u64) (Di .i64) (wire_number_ok hc)))
  (callOf_cons (fn1_holds Dv (wire_Reader_U32_ok hc))
  (callOf_cons (fn2_holds Dv (Di .i64) (wire_Reader_number_ok hc))
  (callOf_cons (fn1_holds Dv (wire_Reader_whole_ok hc))
  (callOf_cons (fn3_holds Dv (Di .i64) (Di .i64) (wire_Reader_fail_ok hc))
  (callOf_cons (gcF_holds (fn2_holds (Di .u64) (Di .i64) (ref01_Number_ok hc)))
  (callOf_cons (gcF_holds (fn1_holds Ds (ref02_Of_ok hc)))
  (callOf_cons (gcF_holds (fn2_holds (Di .u32) Ds (ref02_More_ok hc)))
  (callOf_cons (gcF_holds (fn2_holds (Di .u32) (Di .u32) (ref02_step_ok hc)))
  (callOf_cons (gcF_holds (fn1_holds Ds (ref03_Put_ok hc)))
  (callOf_cons (gcF_holds (fn1_holds Ds (ref03_Take_ok hc)))
  (callOf_cons (fn1_holds Ds (ref03_Scan_ok hc))
  (callOf_cons (fn2_holds Dv Dv (slices_Equal___string_string__ok hc))
  (callOf_cons (gcF_holds (fn0_holds (law03_works_ok hc)))
  callOf_nil)))))))))))))))))))))))
noncomputable def world (n d : Nat) : CallF := iterW (worldF n) d
theorem world_ok (n d : Nat) : SaysAll Try.prog (world n d) := iterW_ok (worldF_ok n) d
theorem w_sum_More (n d : Nat) (t0 : Int) (t1 : Bytes) (h : AHeap) : world n (d + 1) 30 [.int .u32 t0, strA t1] h = gcR h (sum_More (world n d) n t0 t1 h) :=
  Eq.trans (b := gcR h (fn2 (Di .u32) Ds (sum_More (world n d) n) [.int .u32 t0, strA t1] h)) (by kernel_rfl) (congrArg (gcR h) (fn2_eq (Di .u32) Ds _ t0 t1 h))
theorem w_sum_Of (n d : Nat) (t0 : Bytes) (h : AHeap) : world n (d + 1) 26 [strA t0] h = gcR h (sum_Of (world n d) n t0 h) :=
  Eq.trans (b := gcR h (fn1 Ds (sum_Of (world n d) n) [strA t0] h)) (by kernel_rfl) (congrArg (gcR h) (fn1_eq Ds _ t0 h))
theorem w_frame_summed (n d : Nat) (t0 : Bytes) (h : AHeap) : world n (d + 1) 18 [strA t0] h = gcR h (frame_summed (world n d) n t0 h) :=
  Eq.trans (b := gcR h (fn1 Ds (frame_summed (world n d) n) [strA t0] h)) (by kernel_rfl) (congrArg (gcR h) (fn1_eq Ds _ t0 h))
theorem w_frame_whole (n d : Nat) (t0 : Bytes) (h : AHeap) : world n (d + 1) 22 [strA t0] h = gcR h (frame_whole (world n d) n t0 h) :=
  Eq.trans (b := gcR h (fn1 Ds (frame_whole (world n d) n) [strA t0] h)) (by kernel_rfl) (congrArg (gcR h) (fn1_eq Ds _ t0 h))
theorem w_frame_Put (n d : Nat) (t0 : Bytes) (h : AHeap) : world n (d + 1) 9 [strA t0] h = gcR h (frame_Put (world n d) n t0 h) :=
  Eq.trans (b := gcR h (fn1 Ds (frame_Put (world n d) n) [strA t0] h)) (by kernel_rfl) (congrArg (gcR h) (fn1_eq Ds _ t0 h))
theorem w_frame_Take (n d : Nat) (t0 : Bytes) (h : AHeap) : world n (d + 1) 10 [strA t0] h = gcR h (frame_Take (world n d) n t0 h) :=
  Eq.trans (b := gcR h (fn1 Ds (frame_Take (world n d) n) [strA t0] h)) (by kernel_rfl) (congrArg (gcR h) (fn1_eq Ds _ t0 h))
theorem w_frame_All (n d : Nat) (t0 : Bytes) (h : AHeap) : world n (d + 1) 16 [strA t0] h = frame_All (world n d) n t0 h :=
  Eq.trans (b := fn1 Ds (frame_All (world n d) n) [strA t0] h) (by kernel_rfl) (fn1_eq Ds _ t0 h)
theorem w_wire_U32 (n d : Nat) (t0 : Int) (h : AHeap) : world n (d + 1) 19 [.int .u32 t0] h = gcR h (wire_U32 (world n d) n t0 h) :=
  Eq.trans (b := gcR h (fn1 (Di .u32) (wire_U32 (world n d) n) [.int .u32 t0] h)) (by kernel_rfl) (congrArg (gcR h) (fn1_eq (Di .u32) _ t0 h))
theorem w_wire_New (n d : Nat) (t0 : Bytes) (h : AHeap) : world n (d + 1) 20 [strA t0] h = gcR h (wire_New (world n d) n t0 h) :=
  Eq.trans (b := gcR h (fn1 Ds (wire_New (world n d) n) [strA t0] h)) (by kernel_rfl) (congrArg (gcR h) (fn1_eq Ds _ t0 h))
theorem w_wire_number (n d : Nat) (t0 : Int) (t1 : Int) (h : AHeap) : world n (d + 1) 27 [.int .u64 t0, .int .i64 t1] h = gcR h (wire_number (world n d) n t0 t1 h) :=
  Eq.trans (b := gcR h (fn2 (Di .u64) (Di .i64) (wire_number (world n d) n) [.int .u64 t0, .int .i64 t1] h)) (by kernel_rfl) (congrArg (gcR h) (fn2_eq (Di .u64) (Di .i64) _ t0 t1 h))
theorem w_wire_Reader_U32 (n d : Nat) (t0 : AV) (h : AHeap) : world n (d + 1) 21 [t0] h = wire_Reader_U32 (world n d) n t0 h :=
  Eq.trans (b := fn1 Dv (wire_Reader_U32 (world n d) n) [t0] h) (by kernel_rfl) (fn1_eq Dv _ t0 h)
theorem w_wire_Reader_number (n d : Nat) (t0 : AV) (t1 : Int) (h : AHeap) : world n (d + 1) 28 [t0, .int .i64 t1] h = wire_Reader_number (world n d) n t0 t1 h :=
  Eq.trans (b := fn2 Dv (Di .i64) (wire_Reader_number (world n d) n) [t0, .int .i64 t1] h) (by kernel_rfl) (fn2_eq Dv (Di .i64) _ t0 t1 h)
theorem w_wire_Reader_whole (n d : Nat) (t0 : AV) (h : AHeap) : world n (d + 1) 31 [t0] h = wire_Reader_whole (world n d) n t0 h :=
  Eq.trans (b := fn1 Dv (wire_Reader_whole (world n d) n) [t0] h) (by kernel_rfl) (fn1_eq Dv _ t0 h)
theorem w_wire_Reader_fail (n d : Nat) (t0 : AV) (t1 : Int) (t2 : Int) (h : AHeap) : world n (d + 1) 32 [t0, .int .i64 t1, .int .i64 t2] h = wire_Reader_fail (world n d) n t0 t1 t2 h :=
  Eq.trans (b := fn3 Dv (Di .i64) (Di .i64) (wire_Reader_fail (world n d) n) [t0, .int .i64 t1, .int .i64 t2] h) (by kernel_rfl) (fn3_eq Dv (Di .i64) (Di .i64) _ t0 t1 t2 h)
theorem w_ref01_Number (n d : Nat) (t0 : Int) (t1 : Int) (h : AHeap) : world n (d + 1) 23 [.int .u64 t0, .int .i64 t1] h = gcR h (ref01_Number (world n d) n t0 t1 h) :=
  Eq.trans (b := gcR h (fn2 (Di .u64) (Di .i64) (ref01_Number (world n d) n) [.int .u64 t0, .int .i64 t1] h)) (by kernel_rfl) (congrArg (gcR h) (fn2_eq (Di .u64) (Di .i64) _ t0 t1 h))
theorem w_ref02_Of (n d : Nat) (t0 : Bytes) (h : AHeap) : world n (d + 1) 24 [strA t0] h = gcR h (ref02_Of (world n d) n t0 h) :=
  Eq.trans (b := gcR h (fn1 Ds (ref02_Of (world n d) n) [strA t0] h)) (by kernel_rfl) (congrArg (gcR h) (fn1_eq Ds _ t0 h))
theorem w_ref02_More (n d : Nat) (t0 : Int) (t1 : Bytes) (h : AHeap) : world n (d + 1) 29 [.int .u32 t0, strA t1] h = gcR h (ref02_More (world n d) n t0 t1 h) :=
  Eq.trans (b := gcR h (fn2 (Di .u32) Ds (ref02_More (world n d) n) [.int .u32 t0, strA t1] h)) (by kernel_rfl) (congrArg (gcR h) (fn2_eq (Di .u32) Ds _ t0 t1 h))
theorem w_ref02_step (n d : Nat) (t0 : Int) (t1 : Int) (h : AHeap) : world n (d + 1) 33 [.int .u32 t0, .int .u32 t1] h = gcR h (ref02_step (world n d) n t0 t1 h) :=
  Eq.trans (b := gcR h (fn2 (Di .u32) (Di .u32) (ref02_step (world n d) n) [.int .u32 t0, .int .u32 t1] h)) (by kernel_rfl) (congrArg (gcR h) (fn2_eq (Di .u32) (Di .u32) _ t0 t1 h))
theorem w_ref03_Put (n d : Nat) (t0 : Bytes) (h : AHeap) : world n (d + 1) 13 [strA t0] h = gcR h (ref03_Put (world n d) n t0 h) :=
  Eq.trans (b := gcR h (fn1 Ds (ref03_Put (world n d) n) [strA t0] h)) (by kernel_rfl) (congrArg (gcR h) (fn1_eq Ds _ t0 h))
theorem w_ref03_Take (n d : Nat) (t0 : Bytes) (h : AHeap) : world n (d + 1) 14 [strA t0] h = gcR h (ref03_Take (world n d) n t0 h) :=
  Eq.trans (b := gcR h (fn1 Ds (ref03_Take (world n d) n) [strA t0] h)) (by kernel_rfl) (congrArg (gcR h) (fn1_eq Ds _ t0 h))
theorem w_ref03_Scan (n d : Nat) (t0 : Bytes) (h : AHeap) : world n (d + 1) 15 [strA t0] h = ref03_Scan (world n d) n t0 h :=
  Eq.trans (b := fn1 Ds (ref03_Scan (world n d) n) [strA t0] h) (by kernel_rfl) (fn1_eq Ds _ t0 h)
theorem w_slices_Equal___string_string_ (n d : Nat) (t0 : AV) (t1 : AV) (h : AHeap) : world n (d + 1) 12 [t0, t1] h = slices_Equal___string_string_ (world n d) n t0 t1 h :=
  Eq.trans (b := fn2 Dv Dv (slices_Equal___string_string_ (world n d) n) [t0, t1] h) (by kernel_rfl) (fn2_eq Dv Dv _ t0 t1 h)
theorem w_law03_works (n d : Nat)  (h : AHeap) : world n (d + 1) 8 [] h = gcR h (law03_works (world n d) n  h) :=
  Eq.trans (b := gcR h (fn0 (law03_works (world n d) n) [] h)) (by kernel_rfl) (congrArg (gcR h) (fn0_eq  _  h))
end Go.Proofs.Ytikaeeaepnflnaa
