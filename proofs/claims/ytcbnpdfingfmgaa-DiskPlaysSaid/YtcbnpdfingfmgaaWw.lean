/- The functions, put together: any number of levels. -/
import Derived.Test.YtcbnpdfingfmgaaWk4
import Derived.Test.YtcbnpdfingfmgaaDc
import Derived.Test.YtcbnpdfingfmgaaDd
import Derived.Test.YtcbnpdfingfmgaaDe
import Derived.Test.YtcbnpdfingfmgaaDr
namespace Go.Proofs.Ytcbnpdfingfmgaa
open Go.RowKit Abs

noncomputable def worldF (n : Nat) (call : CallF) : CallF := callOf [
  (7, (constF (.ret (.bool true)))),
  (8, gcF (fn0 (disk_New call n))),
  (9, fn3 Dv (Di .i64) Ds (disk_Disk_Append call n)),
  (10, fn2 Dv (Di .i64) (disk_Disk_Sync call n)),
  (15, fn3 Dv (Di .i64) (Di .i64) (disk_Disk_Cut call n)),
  (16, fn2 Dv (Di .i64) (disk_Disk_Remove call n)),
  (17, fn2 Dv (Di .i64) (disk_Disk_Power call n)),
  (18, fn1 Dv (disk_Disk_On call n)),
  (19, fn1 Dv (disk_Disk_Ops call n)),
  (27, fn2 Dv (Di .i64) (disk_Disk_refuses call n)),
  (28, fn3 Dv (Di .i64) Da (disk_Disk_change call n)),
  (29, fn2 Dv Dv (disk_content_do call n)),
  (30, fn1 Dv (disk_Disk_step call n)),
  (31, gcF (fn1 (Di .i64) (disk_isFile call n))),
  (22, fn1 Dv (law04_heavy call n)),
  (11, fn2 Dv (Di .i64) (disk_Disk_Read call n)),
  (12, fn2 Dv (Di .i64) (disk_Disk_Sure call n)),
  (13, fn2 Dv (Di .i64) (disk_Disk_Loose call n)),
  (14, fn3 Dv Dv (Di .i64) (disk_Disk_Crash call n)),
  (32, fn3 Dv (Di .i64) (Di .i64) (disk_file_crash call n)),
  (33, fn1 Dv (disk_content_copy call n)),
  (42, fn1 Dv (slices_Clone___byte_byte_ call n)),
  (20, fn1 Dv (disk_Disk_Files call n)),
  (21, fn1 Dv (disk_Disk_Copy call n)),
  (34, fn1 Dv (slices_Clone___disk_change_disk_change_ call n)),
  (37, fn1 Dv (slices_Clone___int_int_ call n)),
  (39, fn2 Dv Dv (slices_Equal___int_int_ call n)),
  (25, fn3 Dv Dv Da (law04_does call n)),
  (26, fn2 Dv Dv (law04_alike call n)),
  (23, gcF (fn0 (ref04_New call n))),
  (24, fn1 Dv (ref04_Disk_Copy call n)),
  (35, fn3 Dv (Di .i64) Da (ref04_Disk_Change call n)),
  (36, fn2 Dv (Di .i64) (ref04_Disk_Sync call n)),
  (38, fn3 Dv Dv (Di .i64) (ref04_Disk_Crash call n)),
  (40, fn2 Dv (Di .i64) (ref04_Disk_Read call n)),
  (41, fn2 Dv (Di .i64) (ref04_Disk_See call n)),
  (43, fn3 Dv (Di .i64) (Di .i64) (ref04_Disk_step call n)),
  (44, gcF (fn1 Da (ref04_Seen call n))),
  (45, gcF (fn2 Da Da (ref04_Done call n)))]
set_option maxRecDepth 20000 in
theorem worldF_ok (n : Nat) (call : CallF) (hc : SaysAll Try.prog call) : SaysAll Try.prog (worldF n call) := (callOf_cons works_holds
  (callOf_cons (gcF_holds (fn0_holds (disk_New_ok hc)))
  (callOf_cons (fn3_holds Dv (Di .i64) Ds (disk_Disk_Append_ok hc))
  (callOf_cons (fn2_holds Dv (Di .i64) (disk_Disk_Sync_ok hc))
  (callOf_cons (fn3_holds Dv (Di .i64) (Di .i64) (disk_Disk_Cut_ok hc))
  (callOf_cons (fn2_holds Dv (Di .i64) (disk_Disk_Remove_ok hc))
  (callOf_cons (fn2_holds Dv (Di .i64) (disk_Disk_Power_ok hc))
  (callOf_cons (fn1_holds Dv (disk_Disk_On_ok hc))
  (callOf_cons (fn1_holds Dv (disk_Disk_Ops_ok hc))
  (callOf_cons (fn2_holds Dv (Di .i64) (disk_Disk_refuses_ok hc))
  (callOf_cons (fn3_holds Dv (Di .i64) Da (disk_Disk_change_ok hc))
  (callOf_cons (fn2_holds Dv Dv (disk_content_do_ok hc))
  (callOf_cons (fn1_holds Dv (disk_Disk_step_ok hc))
  (callOf_cons (gcF_holds (fn1_holds (Di .i64) (disk_isFile_ok hc)))
  (callOf_cons (fn1_holds Dv (law04_heavy_ok hc))
  (callOf_cons (fn2_holds Dv (Di .i64) (disk_Disk_Read_ok hc))
  (callOf_cons (fn2_holds Dv (Di .i64) (disk_Disk_Sure_ok hc))
  (callOf_cons (fn2_holds Dv (Di .i64) (disk_Disk_Loose_ok hc))
  (callOf_cons (fn3_holds Dv Dv (Di .i64) (disk_Disk_Crash_ok hc))
  (callOf_cons (fn3_holds Dv (Di .i64) (Di .i64) (disk_file_crash_ok hc))
  (callOf_cons (fn1_holds Dv (disk_content_copy_ok hc))
  (callOf_cons (fn1_holds Dv (slices_Clone___byte_byte__ok hc))
  (callOf_cons (fn1_holds Dv (disk_Disk_Files_ok hc))
  (callOf_cons (fn1_holds Dv (disk_Disk_Copy_ok hc))
  (callOf_cons (fn1_holds Dv (slices_Clone___disk_change_disk_change__ok hc))
  (callOf_cons (fn1_holds Dv (slices_Clone___int_int__ok hc))
  (callOf_cons (fn2_holds Dv Dv (slices_Equal___int_int__ok hc))
  (callOf_cons (fn3_holds Dv Dv Da (law04_does_ok hc))
  (callOf_cons (fn2_holds Dv Dv (law04_alike_ok hc))
  (callOf_cons (gcF_holds (fn0_holds (ref04_New_ok hc)))
  (callOf_cons (fn1_holds Dv (ref04_Disk_Copy_ok hc))
  (callOf_cons (fn3_holds Dv (Di .i64) Da (ref04_Disk_Change_ok hc))
  (callOf_cons (fn2_holds Dv (Di .i64) (ref04_Disk_Sync_ok hc))
  (callOf_cons (fn3_holds Dv Dv (Di .i64) (ref04_Disk_Crash_ok hc))
  (callOf_cons (fn2_holds Dv (Di .i64) (ref04_Disk_Read_ok hc))
  (callOf_cons (fn2_holds Dv (Di .i64) (ref04_Disk_See_ok hc))
  (callOf_cons (fn3_holds Dv (Di .i64) (Di .i64) (ref04_Disk_step_ok hc))
  (callOf_cons (gcF_holds (fn1_holds Da (ref04_Seen_ok hc)))
  (callOf_cons (gcF_holds (fn2_holds Da Da (ref04_Done_ok hc)))
  callOf_nil)))))))))))))))))))))))))))))))))))))))
noncomputable def world (n d : Nat) : CallF := iterW (worldF n) d
theorem world_ok (n d : Nat) : SaysAll Try.prog (world n d) := iterW_ok (worldF_ok n) d
theorem w_true (n d : Nat) (args : List AV) (h : AHeap) : world n (d + 1) 7 args h = (constF (.ret (.bool true))) args h := by kernel_rfl
theorem w_disk_New (n d : Nat)  (h : AHeap) : world n (d + 1) 8 [] h = gcR h (disk_New (world n d) n  h) :=
  Eq.trans (b := gcR h (fn0 (disk_New (world n d) n) [] h)) (by kernel_rfl) (congrArg (gcR h) (fn0_eq  _  h))
theorem w_disk_Disk_Append (n d : Nat) (t0 : AV) (t1 : Int) (t2 : Bytes) (h : AHeap) : world n (d + 1) 9 [t0, .int .i64 t1, strA t2] h = disk_Disk_Append (world n d) n t0 t1 t2 h :=
  Eq.trans (b := fn3 Dv (Di .i64) Ds (disk_Disk_Append (world n d) n) [t0, .int .i64 t1, strA t2] h) (by kernel_rfl) (fn3_eq Dv (Di .i64) Ds _ t0 t1 t2 h)
theorem w_disk_Disk_Sync (n d : Nat) (t0 : AV) (t1 : Int) (h : AHeap) : world n (d + 1) 10 [t0, .int .i64 t1] h = disk_Disk_Sync (world n d) n t0 t1 h :=
  Eq.trans (b := fn2 Dv (Di .i64) (disk_Disk_Sync (world n d) n) [t0, .int .i64 t1] h) (by kernel_rfl) (fn2_eq Dv (Di .i64) _ t0 t1 h)
theorem w_disk_Disk_Cut (n d : Nat) (t0 : AV) (t1 : Int) (t2 : Int) (h : AHeap) : world n (d + 1) 15 [t0, .int .i64 t1, .int .i64 t2] h = disk_Disk_Cut (world n d) n t0 t1 t2 h :=
  Eq.trans (b := fn3 Dv (Di .i64) (Di .i64) (disk_Disk_Cut (world n d) n) [t0, .int .i64 t1, .int .i64 t2] h) (by kernel_rfl) (fn3_eq Dv (Di .i64) (Di .i64) _ t0 t1 t2 h)
theorem w_disk_Disk_Remove (n d : Nat) (t0 : AV) (t1 : Int) (h : AHeap) : world n (d + 1) 16 [t0, .int .i64 t1] h = disk_Disk_Remove (world n d) n t0 t1 h :=
  Eq.trans (b := fn2 Dv (Di .i64) (disk_Disk_Remove (world n d) n) [t0, .int .i64 t1] h) (by kernel_rfl) (fn2_eq Dv (Di .i64) _ t0 t1 h)
theorem w_disk_Disk_Power (n d : Nat) (t0 : AV) (t1 : Int) (h : AHeap) : world n (d + 1) 17 [t0, .int .i64 t1] h = disk_Disk_Power (world n d) n t0 t1 h :=
  Eq.trans (b := fn2 Dv (Di .i64) (disk_Disk_Power (world n d) n) [t0, .int .i64 t1] h) (by kernel_rfl) (fn2_eq Dv (Di .i64) _ t0 t1 h)
theorem w_disk_Disk_On (n d : Nat) (t0 : AV) (h : AHeap) : world n (d + 1) 18 [t0] h = disk_Disk_On (world n d) n t0 h :=
  Eq.trans (b := fn1 Dv (disk_Disk_On (world n d) n) [t0] h) (by kernel_rfl) (fn1_eq Dv _ t0 h)
theorem w_disk_Disk_Ops (n d : Nat) (t0 : AV) (h : AHeap) : world n (d + 1) 19 [t0] h = disk_Disk_Ops (world n d) n t0 h :=
  Eq.trans (b := fn1 Dv (disk_Disk_Ops (world n d) n) [t0] h) (by kernel_rfl) (fn1_eq Dv _ t0 h)
theorem w_disk_Disk_refuses (n d : Nat) (t0 : AV) (t1 : Int) (h : AHeap) : world n (d + 1) 27 [t0, .int .i64 t1] h = disk_Disk_refuses (world n d) n t0 t1 h :=
  Eq.trans (b := fn2 Dv (Di .i64) (disk_Disk_refuses (world n d) n) [t0, .int .i64 t1] h) (by kernel_rfl) (fn2_eq Dv (Di .i64) _ t0 t1 h)
theorem w_disk_Disk_change (n d : Nat) (t0 : AV) (t1 : Int) (t2 : List AV) (h : AHeap) : world n (d + 1) 28 [t0, .int .i64 t1, .agg t2] h = disk_Disk_change (world n d) n t0 t1 t2 h :=
  Eq.trans (b := fn3 Dv (Di .i64) Da (disk_Disk_change (world n d) n) [t0, .int .i64 t1, .agg t2] h) (by kernel_rfl) (fn3_eq Dv (Di .i64) Da _ t0 t1 t2 h)
theorem w_disk_content_do (n d : Nat) (t0 : AV) (t1 : AV) (h : AHeap) : world n (d + 1) 29 [t0, t1] h = disk_content_do (world n d) n t0 t1 h :=
  Eq.trans (b := fn2 Dv Dv (disk_content_do (world n d) n) [t0, t1] h) (by kernel_rfl) (fn2_eq Dv Dv _ t0 t1 h)
theorem w_disk_Disk_step (n d : Nat) (t0 : AV) (h : AHeap) : world n (d + 1) 30 [t0] h = disk_Disk_step (world n d) n t0 h :=
  Eq.trans (b := fn1 Dv (disk_Disk_step (world n d) n) [t0] h) (by kernel_rfl) (fn1_eq Dv _ t0 h)
theorem w_disk_isFile (n d : Nat) (t0 : Int) (h : AHeap) : world n (d + 1) 31 [.int .i64 t0] h = gcR h (disk_isFile (world n d) n t0 h) :=
  Eq.trans (b := gcR h (fn1 (Di .i64) (disk_isFile (world n d) n) [.int .i64 t0] h)) (by kernel_rfl) (congrArg (gcR h) (fn1_eq (Di .i64) _ t0 h))
theorem w_law04_heavy (n d : Nat) (t0 : AV) (h : AHeap) : world n (d + 1) 22 [t0] h = law04_heavy (world n d) n t0 h :=
  Eq.trans (b := fn1 Dv (law04_heavy (world n d) n) [t0] h) (by kernel_rfl) (fn1_eq Dv _ t0 h)
theorem w_disk_Disk_Read (n d : Nat) (t0 : AV) (t1 : Int) (h : AHeap) : world n (d + 1) 11 [t0, .int .i64 t1] h = disk_Disk_Read (world n d) n t0 t1 h :=
  Eq.trans (b := fn2 Dv (Di .i64) (disk_Disk_Read (world n d) n) [t0, .int .i64 t1] h) (by kernel_rfl) (fn2_eq Dv (Di .i64) _ t0 t1 h)
theorem w_disk_Disk_Sure (n d : Nat) (t0 : AV) (t1 : Int) (h : AHeap) : world n (d + 1) 12 [t0, .int .i64 t1] h = disk_Disk_Sure (world n d) n t0 t1 h :=
  Eq.trans (b := fn2 Dv (Di .i64) (disk_Disk_Sure (world n d) n) [t0, .int .i64 t1] h) (by kernel_rfl) (fn2_eq Dv (Di .i64) _ t0 t1 h)
theorem w_disk_Disk_Loose (n d : Nat) (t0 : AV) (t1 : Int) (h : AHeap) : world n (d + 1) 13 [t0, .int .i64 t1] h = disk_Disk_Loose (world n d) n t0 t1 h :=
  Eq.trans (b := fn2 Dv (Di .i64) (disk_Disk_Loose (world n d) n) [t0, .int .i64 t1] h) (by kernel_rfl) (fn2_eq Dv (Di .i64) _ t0 t1 h)
theorem w_disk_Disk_Crash (n d : Nat) (t0 : AV) (t1 : AV) (t2 : Int) (h : AHeap) : world n (d + 1) 14 [t0, t1, .int .i64 t2] h = disk_Disk_Crash (world n d) n t0 t1 t2 h :=
  Eq.trans (b := fn3 Dv Dv (Di .i64) (disk_Disk_Crash (world n d) n) [t0, t1, .int .i64 t2] h) (by kernel_rfl) (fn3_eq Dv Dv (Di .i64) _ t0 t1 t2 h)
theorem w_disk_file_crash (n d : Nat) (t0 : AV) (t1 : Int) (t2 : Int) (h : AHeap) : world n (d + 1) 32 [t0, .int .i64 t1, .int .i64 t2] h = disk_file_crash (world n d) n t0 t1 t2 h :=
  Eq.trans (b := fn3 Dv (Di .i64) (Di .i64) (disk_file_crash (world n d) n) [t0, .int .i64 t1, .int .i64 t2] h) (by kernel_rfl) (fn3_eq Dv (Di .i64) (Di .i64) _ t0 t1 t2 h)
theorem w_disk_content_copy (n d : Nat) (t0 : AV) (h : AHeap) : world n (d + 1) 33 [t0] h = disk_content_copy (world n d) n t0 h :=
  Eq.trans (b := fn1 Dv (disk_content_copy (world n d) n) [t0] h) (by kernel_rfl) (fn1_eq Dv _ t0 h)
theorem w_slices_Clone___byte_byte_ (n d : Nat) (t0 : AV) (h : AHeap) : world n (d + 1) 42 [t0] h = slices_Clone___byte_byte_ (world n d) n t0 h :=
  Eq.trans (b := fn1 Dv (slices_Clone___byte_byte_ (world n d) n) [t0] h) (by kernel_rfl) (fn1_eq Dv _ t0 h)
theorem w_disk_Disk_Files (n d : Nat) (t0 : AV) (h : AHeap) : world n (d + 1) 20 [t0] h = disk_Disk_Files (world n d) n t0 h :=
  Eq.trans (b := fn1 Dv (disk_Disk_Files (world n d) n) [t0] h) (by kernel_rfl) (fn1_eq Dv _ t0 h)
theorem w_disk_Disk_Copy (n d : Nat) (t0 : AV) (h : AHeap) : world n (d + 1) 21 [t0] h = disk_Disk_Copy (world n d) n t0 h :=
  Eq.trans (b := fn1 Dv (disk_Disk_Copy (world n d) n) [t0] h) (by kernel_rfl) (fn1_eq Dv _ t0 h)
theorem w_slices_Clone___disk_change_disk_change_ (n d : Nat) (t0 : AV) (h : AHeap) : world n (d + 1) 34 [t0] h = slices_Clone___disk_change_disk_change_ (world n d) n t0 h :=
  Eq.trans (b := fn1 Dv (slices_Clone___disk_change_disk_change_ (world n d) n) [t0] h) (by kernel_rfl) (fn1_eq Dv _ t0 h)
theorem w_slices_Clone___int_int_ (n d : Nat) (t0 : AV) (h : AHeap) : world n (d + 1) 37 [t0] h = slices_Clone___int_int_ (world n d) n t0 h :=
  Eq.trans (b := fn1 Dv (slices_Clone___int_int_ (world n d) n) [t0] h) (by kernel_rfl) (fn1_eq Dv _ t0 h)
theorem w_slices_Equal___int_int_ (n d : Nat) (t0 : AV) (t1 : AV) (h : AHeap) : world n (d + 1) 39 [t0, t1] h = slices_Equal___int_int_ (world n d) n t0 t1 h :=
  Eq.trans (b := fn2 Dv Dv (slices_Equal___int_int_ (world n d) n) [t0, t1] h) (by kernel_rfl) (fn2_eq Dv Dv _ t0 t1 h)
theorem w_law04_does (n d : Nat) (t0 : AV) (t1 : AV) (t2 : List AV) (h : AHeap) : world n (d + 1) 25 [t0, t1, .agg t2] h = law04_does (world n d) n t0 t1 t2 h :=
  Eq.trans (b := fn3 Dv Dv Da (law04_does (world n d) n) [t0, t1, .agg t2] h) (by kernel_rfl) (fn3_eq Dv Dv Da _ t0 t1 t2 h)
theorem w_law04_alike (n d : Nat) (t0 : AV) (t1 : AV) (h : AHeap) : world n (d + 1) 26 [t0, t1] h = law04_alike (world n d) n t0 t1 h :=
  Eq.trans (b := fn2 Dv Dv (law04_alike (world n d) n) [t0, t1] h) (by kernel_rfl) (fn2_eq Dv Dv _ t0 t1 h)
theorem w_ref04_New (n d : Nat)  (h : AHeap) : world n (d + 1) 23 [] h = gcR h (ref04_New (world n d) n  h) :=
  Eq.trans (b := gcR h (fn0 (ref04_New (world n d) n) [] h)) (by kernel_rfl) (congrArg (gcR h) (fn0_eq  _  h))
theorem w_ref04_Disk_Copy (n d : Nat) (t0 : AV) (h : AHeap) : world n (d + 1) 24 [t0] h = ref04_Disk_Copy (world n d) n t0 h :=
  Eq.trans (b := fn1 Dv (ref04_Disk_Copy (world n d) n) [t0] h) (by kernel_rfl) (fn1_eq Dv _ t0 h)
theorem w_ref04_Disk_Change (n d : Nat) (t0 : AV) (t1 : Int) (t2 : List AV) (h : AHeap) : world n (d + 1) 35 [t0, .int .i64 t1, .agg t2] h = ref04_Disk_Change (world n d) n t0 t1 t2 h :=
  Eq.trans (b := fn3 Dv (Di .i64) Da (ref04_Disk_Change (world n d) n) [t0, .int .i64 t1, .agg t2] h) (by kernel_rfl) (fn3_eq Dv (Di .i64) Da _ t0 t1 t2 h)
theorem w_ref04_Disk_Sync (n d : Nat) (t0 : AV) (t1 : Int) (h : AHeap) : world n (d + 1) 36 [t0, .int .i64 t1] h = ref04_Disk_Sync (world n d) n t0 t1 h :=
  Eq.trans (b := fn2 Dv (Di .i64) (ref04_Disk_Sync (world n d) n) [t0, .int .i64 t1] h) (by kernel_rfl) (fn2_eq Dv (Di .i64) _ t0 t1 h)
theorem w_ref04_Disk_Crash (n d : Nat) (t0 : AV) (t1 : AV) (t2 : Int) (h : AHeap) : world n (d + 1) 38 [t0, t1, .int .i64 t2] h = ref04_Disk_Crash (world n d) n t0 t1 t2 h :=
  Eq.trans (b := fn3 Dv Dv (Di .i64) (ref04_Disk_Crash (world n d) n) [t0, t1, .int .i64 t2] h) (by kernel_rfl) (fn3_eq Dv Dv (Di .i64) _ t0 t1 t2 h)
theorem w_ref04_Disk_Read (n d : Nat) (t0 : AV) (t1 : Int) (h : AHeap) : world n (d + 1) 40 [t0, .int .i64 t1] h = ref04_Disk_Read (world n d) n t0 t1 h :=
  Eq.trans (b := fn2 Dv (Di .i64) (ref04_Disk_Read (world n d) n) [t0, .int .i64 t1] h) (by kernel_rfl) (fn2_eq Dv (Di .i64) _ t0 t1 h)
theorem w_ref04_Disk_See (n d : Nat) (t0 : AV) (t1 : Int) (h : AHeap) : world n (d + 1) 41 [t0, .int .i64 t1] h = ref04_Disk_See (world n d) n t0 t1 h :=
  Eq.trans (b := fn2 Dv (Di .i64) (ref04_Disk_See (world n d) n) [t0, .int .i64 t1] h) (by kernel_rfl) (fn2_eq Dv (Di .i64) _ t0 t1 h)
theorem w_ref04_Disk_step (n d : Nat) (t0 : AV) (t1 : Int) (t2 : Int) (h : AHeap) : world n (d + 1) 43 [t0, .int .i64 t1, .int .i64 t2] h = ref04_Disk_step (world n d) n t0 t1 t2 h :=
  Eq.trans (b := fn3 Dv (Di .i64) (Di .i64) (ref04_Disk_step (world n d) n) [t0, .int .i64 t1, .int .i64 t2] h) (by kernel_rfl) (fn3_eq Dv (Di .i64) (Di .i64) _ t0 t1 t2 h)
theorem w_ref04_Seen (n d : Nat) (t0 : List AV) (h : AHeap) : world n (d + 1) 44 [.agg t0] h = gcR h (ref04_Seen (world n d) n t0 h) :=
  Eq.trans (b := gcR h (fn1 Da (ref04_Seen (world n d) n) [.agg t0] h)) (by kernel_rfl) (congrArg (gcR h) (fn1_eq Da _ t0 h))
theorem w_ref04_Done (n d : Nat) (t0 : List AV) (t1 : List AV) (h : AHeap) : world n (d + 1) 45 [.agg t0, .agg t1] h = gcR h (ref04_Done (world n d) n t0 t1 h) :=
  Eq.trans (b := gcR h (fn2 Da Da (ref04_Done (world n d) n) [.agg t0, .agg t1] h)) (by kernel_rfl) (congrArg (gcR h) (fn2_eq Da Da _ t0 t1 h))
end Go.Proofs.Ytcbnpdfingfmgaa
