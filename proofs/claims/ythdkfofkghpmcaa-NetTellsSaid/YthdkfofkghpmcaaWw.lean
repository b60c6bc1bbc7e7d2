/- The functions, put together: any number of levels. -/
import Derived.Test.YthdkfofkghpmcaaDl5
import Derived.Test.YthdkfofkghpmcaaNa
import Derived.Test.YthdkfofkghpmcaaNb
namespace Go.Proofs.Ythdkfofkghpmcaa
open Go.RowKit Abs

noncomputable def worldF (n : Nat) (call : CallF) : CallF := callOf [
  (38, delF),
  (11, gcF (fn0 (net_New call n))),
  (15, fn1 Dv (net_Net_Flight call n)),
  (17, fn1 Dv (net_Net_Copy call n)),
  (18, fn4 Dv (Di .i64) (Di .i64) Ds (net_Net_Send call n)),
  (19, fn2 Dv (Di .i64) (net_Net_Twice call n)),
  (20, fn3 Dv (Di .i64) (Di .i64) (net_Net_Cut call n)),
  (21, fn2 Dv (Di .i64) (net_Net_Drop call n)),
  (22, fn2 Dv (Di .i64) (net_Net_Deliver call n)),
  (23, fn3 Dv (Di .i64) (Di .i64) (net_Net_Heal call n)),
  (33, fn3 Dv (Di .i64) (Di .i64) (net_Net_isCut call n)),
  (34, fn4 Dv (Di .i64) (Di .i64) Ds (net_Net_add call n)),
  (35, fn2 Dv (Di .i64) (net_Net_find call n)),
  (36, fn3 Dv (Di .i64) (Di .i64) (net_Net_refuses call n)),
  (37, gcF (fn2 (Di .i64) (Di .i64) (net_between call n))),
  (32, gcF (fn1 (Di .i64) (net_isAddress call n))),
  (31, fn1 Dv (maps_Clone_map_net_link_struct___net_link_struct___ call n)),
  (29, fn1 Dv (slices_Clone___api_Letter_api_Letter_ call n)),
  (45, gcF (fn2 Da (Di .i64) (net_Net_find_1 call n))),
  (44, fn3 Dv (Di .i64) Dv (slices_BinarySearchFunc___api_Letter_api_Letter_int_ call n)),
  (46, gcF (fn2 (Di .i64) (Di .i64) (cmp_Compare_int_ call n))),
  (47, gcF (fn1 (Di .i64) (cmp_isNaN_int_ call n))),
  (16, fn1 Dv (net_Net_All call n)),
  (9, gcF (fn0 (law05_works call n))),
  (10, fn1 Dv (law05_great call n)),
  (12, fn2 Dv Da (law05_play call n)),
  (14, fn2 Dv Dv (ref05_Same call n))]
set_option maxRecDepth 20000 in
theorem worldF_ok (n : Nat) (call : CallF) (hc : SaysAll Try.prog call) : SaysAll Try.prog (worldF n call) := (callOf_cons delF_holds
  (callOf_cons (gcF_holds (fn0_holds (net_New_ok hc)))
  (callOf_cons (fn1_holds Dv (net_Net_Flight_ok hc))
  (callOf_cons (fn1_holds Dv (net_Net_Copy_ok hc))
  (callOf_cons (fn4_holds Dv (Di .i64) (Di .i64) Ds (net_Net_Send_ok hc))
  (callOf_cons (fn2_holds Dv (Di .i64) (net_Net_Twice_ok hc))
  (callOf_cons (fn3_holds Dv (Di .i64) (Di .i64) (net_Net_Cut_ok hc))
  (callOf_cons (fn2_holds Dv (Di .i64) (net_Net_Drop_ok hc))
  (callOf_cons (fn2_holds Dv (Di .i64) (net_Net_Deliver_ok hc))
  (callOf_cons (fn3_holds Dv (Di .i64) (Di .i64) (net_Net_Heal_ok hc))
  (callOf_cons (fn3_holds Dv (Di .i64) (Di .i64) (net_Net_isCut_ok hc))
  (callOf_cons (fn4_holds Dv (Di .i64) (Di .i64) Ds (net_Net_add_ok hc))
  (callOf_cons (fn2_holds Dv (Di .i64) (net_Net_find_ok hc))
  (callOf_cons (fn3_holds Dv (Di .i64) (Di .i64) (net_Net_refuses_ok hc))
  (callOf_cons (gcF_holds (fn2_holds (Di .i64) (Di .i64) (net_between_ok hc)))
  (callOf_cons (gcF_holds (fn1_holds (Di .i64) (net_isAddress_ok hc)))
  (callOf_cons (fn1_holds Dv (maps_Clone_map_net_link_struct___net_link_struct____ok hc))
  (callOf_cons (fn1_holds Dv (slices_Clone___api_Letter_api_Letter__ok hc))
  (callOf_cons (gcF_holds (fn2_holds Da (Di .i64) (net_Net_find_1_ok hc)))
  (callOf_cons (fn3_holds Dv (Di .i64) Dv (slices_BinarySearchFunc___api_Letter_api_Letter_int__ok hc))
  (callOf_cons (gcF_holds (fn2_holds (Di .i64) (Di .i64) (cmp_Compare_int__ok hc)))
  (callOf_cons (gcF_holds (fn1_holds (Di .i64) (cmp_isNaN_int__ok hc)))
  (callOf_cons (fn1_holds Dv (net_Net_All_ok hc))
  (callOf_cons (gcF_holds (fn0_holds (law05_works_ok hc)))
  (callOf_cons (fn1_holds Dv (law05_great_ok hc))
  (callOf_cons (fn2_holds Dv Da (law05_play_ok hc))
  (callOf_cons (fn2_holds Dv Dv (ref05_Same_ok hc))
  callOf_nil)))))))))))))))))))))))))))
noncomputable def world (n d : Nat) : CallF := iterW (worldF n) d
theorem world_ok (n d : Nat) : SaysAll Try.prog (world n d) := iterW_ok (worldF_ok n) d
theorem w_delF (n d : Nat) (args : List AV) (h : AHeap) : world n (d + 1) 38 args h = delF args h := by kernel_rfl
theorem w_net_New (n d : Nat)  (h : AHeap) : world n (d + 1) 11 [] h = gcR h (net_New (world n d) n  h) :=
  Eq.trans (b := gcR h (fn0 (net_New (world n d) n) [] h)) (by kernel_rfl) (congrArg (gcR h) (fn0_eq  _  h))
theorem w_net_Net_Flight (n d : Nat) (t0 : AV) (h : AHeap) : world n (d + 1) 15 [t0] h = net_Net_Flight (world n d) n t0 h :=
  Eq.trans (b := fn1 Dv (net_Net_Flight (world n d) n) [t0] h) (by kernel_rfl) (fn1_eq Dv _ t0 h)
theorem w_net_Net_Copy (n d : Nat) (t0 : AV) (h : AHeap) : world n (d + 1) 17 [t0] h = net_Net_Copy (world n d) n t0 h :=
  Eq.trans (b := fn1 Dv (net_Net_Copy (world n d) n) [t0] h) (by kernel_rfl) (fn1_eq Dv _ t0 h)
theorem w_net_Net_Send (n d : Nat) (t0 : AV) (t1 : Int) (t2 : Int) (t3 : Bytes) (h : AHeap) : world n (d + 1) 18 [t0, .int .i64 t1, .int .i64 t2, strA t3] h = net_Net_Send (world n d) n t0 t1 t2 t3 h :=
  Eq.trans (b := fn4 Dv (Di .i64) (Di .i64) Ds (net_Net_Send (world n d) n) [t0, .int .i64 t1, .int .i64 t2, strA t3] h) (by kernel_rfl) (fn4_eq Dv (Di .i64) (Di .i64) Ds _ t0 t1 t2 t3 h)
theorem w_net_Net_Twice (n d : Nat) (t0 : AV) (t1 : Int) (h : AHeap) : world n (d + 1) 19 [t0, .int .i64 t1] h = net_Net_Twice (world n d) n t0 t1 h :=
  Eq.trans (b := fn2 Dv (Di .i64) (net_Net_Twice (world n d) n) [t0, .int .i64 t1] h) (by kernel_rfl) (fn2_eq Dv (Di .i64) _ t0 t1 h)
theorem w_net_Net_Cut (n d : Nat) (t0 : AV) (t1 : Int) (t2 : Int) (h : AHeap) : world n (d + 1) 20 [t0, .int .i64 t1, .int .i64 t2] h = net_Net_Cut (world n d) n t0 t1 t2 h :=
  Eq.trans (b := fn3 Dv (Di .i64) (Di .i64) (net_Net_Cut (world n d) n) [t0, .int .i64 t1, .int .i64 t2] h) (by kernel_rfl) (fn3_eq Dv (Di .i64) (Di .i64) _ t0 t1 t2 h)
theorem w_net_Net_Drop (n d : Nat) (t0 : AV) (t1 : Int) (h : AHeap) : world n (d + 1) 21 [t0, .int .i64 t1] h = net_Net_Drop (world n d) n t0 t1 h :=
  Eq.trans (b := fn2 Dv (Di .i64) (net_Net_Drop (world n d) n) [t0, .int .i64 t1] h) (by kernel_rfl) (fn2_eq Dv (Di .i64) _ t0 t1 h)
theorem w_net_Net_Deliver (n d : Nat) (t0 : AV) (t1 : Int) (h : AHeap) : world n (d + 1) 22 [t0, .int .i64 t1] h = net_Net_Deliver (world n d) n t0 t1 h :=
  Eq.trans (b := fn2 Dv (Di .i64) (net_Net_Deliver (world n d) n) [t0, .int .i64 t1] h) (by kernel_rfl) (fn2_eq Dv (Di .i64) _ t0 t1 h)
theorem w_net_Net_Heal (n d : Nat) (t0 : AV) (t1 : Int) (t2 : Int) (h : AHeap) : world n (d + 1) 23 [t0, .int .i64 t1, .int .i64 t2] h = net_Net_Heal (world n d) n t0 t1 t2 h :=
  Eq.trans (b := fn3 Dv (Di .i64) (Di .i64) (net_Net_Heal (world n d) n) [t0, .int .i64 t1, .int .i64 t2] h) (by kernel_rfl) (fn3_eq Dv (Di .i64) (Di .i64) _ t0 t1 t2 h)
theorem w_net_Net_isCut (n d : Nat) (t0 : AV) (t1 : Int) (t2 : Int) (h : AHeap) : world n (d + 1) 33 [t0, .int .i64 t1, .int .i64 t2] h = net_Net_isCut (world n d) n t0 t1 t2 h :=
  Eq.trans (b := fn3 Dv (Di .i64) (Di .i64) (net_Net_isCut (world n d) n) [t0, .int .i64 t1, .int .i64 t2] h) (by kernel_rfl) (fn3_eq Dv (Di .i64) (Di .i64) _ t0 t1 t2 h)
theorem w_net_Net_add (n d : Nat) (t0 : AV) (t1 : Int) (t2 : Int) (t3 : Bytes) (h : AHeap) : world n (d + 1) 34 [t0, .int .i64 t1, .int .i64 t2, strA t3] h = net_Net_add (world n d) n t0 t1 t2 t3 h :=
  Eq.trans (b := fn4 Dv (Di .i64) (Di .i64) Ds (net_Net_add (world n d) n) [t0, .int .i64 t1, .int .i64 t2, strA t3] h) (by kernel_rfl) (fn4_eq Dv (Di .i64) (Di .i64) Ds _ t0 t1 t2 t3 h)
theorem w_net_Net_find (n d : Nat) (t0 : AV) (t1 : Int) (h : AHeap) : world n (d + 1) 35 [t0, .int .i64 t1] h = net_Net_find (world n d) n t0 t1 h :=
  Eq.trans (b := fn2 Dv (Di .i64) (net_Net_find (world n d) n) [t0, .int .i64 t1] h) (by kernel_rfl) (fn2_eq Dv (Di .i64) _ t0 t1 h)
theorem w_net_Net_refuses (n d : Nat) (t0 : AV) (t1 : Int) (t2 : Int) (h : AHeap) : world n (d + 1) 36 [t0, .int .i64 t1, .int .i64 t2] h = net_Net_refuses (world n d) n t0 t1 t2 h :=
  Eq.trans (b := fn3 Dv (Di .i64) (Di .i64) (net_Net_refuses (world n d) n) [t0, .int .i64 t1, .int .i64 t2] h) (by kernel_rfl) (fn3_eq Dv (Di .i64) (Di .i64) _ t0 t1 t2 h)
theorem w_net_between (n d : Nat) (t0 : Int) (t1 : Int) (h : AHeap) : world n (d + 1) 37 [.int .i64 t0, .int .i64 t1] h = gcR h (net_between (world n d) n t0 t1 h) :=
  Eq.trans (b := gcR h (fn2 (Di .i64) (Di .i64) (net_between (world n d) n) [.int .i64 t0, .int .i64 t1] h)) (by kernel_rfl) (congrArg (gcR h) (fn2_eq (Di .i64) (Di .i64) _ t0 t1 h))
theorem w_net_isAddress (n d : Nat) (t0 : Int) (h : AHeap) : world n (d + 1) 32 [.int .i64 t0] h = gcR h (net_isAddress (world n d) n t0 h) :=
  Eq.trans (b := gcR h (fn1 (Di .i64) (net_isAddress (world n d) n) [.int .i64 t0] h)) (by kernel_rfl) (congrArg (gcR h) (fn1_eq (Di .i64) _ t0 h))
theorem w_maps_Clone_map_net_link_struct___net_link_struct___ (n d : Nat) (t0 : AV) (h : AHeap) : world n (d + 1) 31 [t0] h = maps_Clone_map_net_link_struct___net_link_struct___ (world n d) n t0 h :=
  Eq.trans (b := fn1 Dv (maps_Clone_map_net_link_struct___net_link_struct___ (world n d) n) [t0] h) (by kernel_rfl) (fn1_eq Dv _ t0 h)
theorem w_slices_Clone___api_Letter_api_Letter_ (n d : Nat) (t0 : AV) (h : AHeap) : world n (d + 1) 29 [t0] h = slices_Clone___api_Letter_api_Letter_ (world n d) n t0 h :=
  Eq.trans (b := fn1 Dv (slices_Clone___api_Letter_api_Letter_ (world n d) n) [t0] h) (by kernel_rfl) (fn1_eq Dv _ t0 h)
theorem w_net_Net_find_1 (n d : Nat) (t0 : List AV) (t1 : Int) (h : AHeap) : world n (d + 1) 45 [.agg t0, .int .i64 t1] h = gcR h (net_Net_find_1 (world n d) n t0 t1 h) :=
  Eq.trans (b := gcR h (fn2 Da (Di .i64) (net_Net_find_1 (world n d) n) [.agg t0, .int .i64 t1] h)) (by kernel_rfl) (congrArg (gcR h) (fn2_eq Da (Di .i64) _ t0 t1 h))
theorem w_slices_BinarySearchFunc___api_Letter_api_Letter_int_ (n d : Nat) (t0 : AV) (t1 : Int) (t2 : AV) (h : AHeap) : world n (d + 1) 44 [t0, .int .i64 t1, t2] h = slices_BinarySearchFunc___api_Letter_api_Letter_int_ (world n d) n t0 t1 t2 h :=
  Eq.trans (b := fn3 Dv (Di .i64) Dv (slices_BinarySearchFunc___api_Letter_api_Letter_int_ (world n d) n) [t0, .int .i64 t1, t2] h) (by kernel_rfl) (fn3_eq Dv (Di .i64) Dv _ t0 t1 t2 h)
theorem w_cmp_Compare_int_ (n d : Nat) (t0 : Int) (t1 : Int) (h : AHeap) : world n (d + 1) 46 [.int .i64 t0, .int .i64 t1] h = gcR h (cmp_Compare_int_ (world n d) n t0 t1 h) :=
  Eq.trans (b := gcR h (fn2 (Di .i64) (Di .i64) (cmp_Compare_int_ (world n d) n) [.int .i64 t0, .int .i64 t1] h)) (by kernel_rfl) (congrArg (gcR h) (fn2_eq (Di .i64) (Di .i64) _ t0 t1 h))
theorem w_cmp_isNaN_int_ (n d : Nat) (t0 : Int) (h : AHeap) : world n (d + 1) 47 [.int .i64 t0] h = gcR h (cmp_isNaN_int_ (world n d) n t0 h) :=
  Eq.trans (b := gcR h (fn1 (Di .i64) (cmp_isNaN_int_ (world n d) n) [.int .i64 t0] h)) (by kernel_rfl) (congrArg (gcR h) (fn1_eq (Di .i64) _ t0 h))
theorem w_net_Net_All (n d : Nat) (t0 : AV) (h : AHeap) : world n (d + 1) 16 [t0] h = net_Net_All (world n d) n t0 h :=
  Eq.trans (b := fn1 Dv (net_Net_All (world n d) n) [t0] h) (by kernel_rfl) (fn1_eq Dv _ t0 h)
theorem w_law05_works (n d : Nat)  (h : AHeap) : world n (d + 1) 9 [] h = gcR h (law05_works (world n d) n  h) :=
  Eq.trans (b := gcR h (fn0 (law05_works (world n d) n) [] h)) (by kernel_rfl) (congrArg (gcR h) (fn0_eq  _  h))
theorem w_law05_great (n d : Nat) (t0 : AV) (h : AHeap) : world n (d + 1) 10 [t0] h = law05_great (world n d) n t0 h :=
  Eq.trans (b := fn1 Dv (law05_great (world n d) n) [t0] h) (by kernel_rfl) (fn1_eq Dv _ t0 h)
theorem w_law05_play (n d : Nat) (t0 : AV) (t1 : List AV) (h : AHeap) : world n (d + 1) 12 [t0, .agg t1] h = law05_play (world n d) n t0 t1 h :=
  Eq.trans (b := fn2 Dv Da (law05_play (world n d) n) [t0, .agg t1] h) (by kernel_rfl) (fn2_eq Dv Da _ t0 t1 h)
theorem w_ref05_Same (n d : Nat) (t0 : AV) (t1 : AV) (h : AHeap) : world n (d + 1) 14 [t0, t1] h = ref05_Same (world n d) n t0 t1 h :=
  Eq.trans (b := fn2 Dv Dv (ref05_Same (world n d) n) [t0, t1] h) (by kernel_rfl) (fn2_eq Dv Dv _ t0 t1 h)
end Go.Proofs.Ythdkfofkghpmcaa
