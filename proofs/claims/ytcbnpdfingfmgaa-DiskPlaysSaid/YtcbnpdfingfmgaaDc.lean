/- Plain functions in place of the program's, and that their calls come to what they say. -/
import Derived.Test.YtcbnpdfingfmgaaFrame
import Derived.Test.YtcbnpdfingfmgaaAbs54
namespace Go.Proofs.Ytcbnpdfingfmgaa
open Go.RowKit Abs

noncomputable def disk_New (_ : CallF) (_ : Nat)  (h : AHeap) : R :=
  outK (opBox h 57 (some (.agg ([.bool false, .nsl, .bool false, .nsl, .nsl, .bool false, .nsl, .bool false, .nsl, .nsl, .bool false, .nsl, .bool false, .nsl, .nsl, .bool false, .nsl, .bool false, .nsl, .nsl, .bool false, .nsl, .bool false, .nsl, .nsl, .bool false, .nsl, .bool false, .nsl, .nsl, .bool false, .nsl, .bool false, .nsl, .nsl, .bool false, .nsl, .bool false, .nsl, .nsl, .bool false, .nsl, .bool false, .nsl, .nsl, .bool false, .nsl, .bool false, .nsl, .nsl, .bool false, .nsl, .bool false, .nsl, .nsl, .bool false, .nsl, .bool false, .nsl, .nsl, .bool false, .nsl, .bool false, .nsl, .nsl, .bool false, .nsl, .bool false, .nsl, .nsl, .bool false, .nsl, .bool false, .nsl, .nsl, .bool false, .nsl, .bool false, .nsl, .nsl, .bool false, .nsl, .bool false, .nsl, .nsl, .bool false, .nsl, .bool false, .nsl, .nsl, .bool false, .nsl, .bool false, .nsl, .nsl, .bool false, .nsl, .bool false, .nsl, .nsl, .bool false, .nsl, .bool false, .nsl, .nsl, .bool false, .nsl, .bool false, .nsl, .nsl, .bool false, .nsl, .bool false, .nsl, .nsl, .bool false, .nsl, .bool false, .nsl, .nsl, .bool false, .nsl, .bool false, .nsl, .nsl, .bool false, .nsl, .bool false, .nsl, .nsl, .bool false, .nsl, .bool false, .nsl, .nsl, .bool false, .nsl, .bool false, .nsl, .nsl, .bool false, .nsl, .bool false, .nsl, .nsl, .bool false, .nsl, .bool false, .nsl, .nsl, .bool false, .nsl, .bool false, .nsl, .nsl, .bool false, .nsl, .bool false, .nsl, .nsl, .int .i64 (-1), .int .i64 0] : List AV)))) fun v2 h_3 =>
  some (.ret (v2), h_3)
set_option maxHeartbeats 4000000 in
set_option maxRecDepth 20000 in
theorem disk_New_ok {call : CallF} (_ : SaysAll Try.prog call) {n : Nat}  {h : AHeap} {rR : ARes} {hR : AHeap} (hF : disk_New call n  h = some (rR, hR)) : Says Try.prog 8 [] h rR hR := by
  unfold disk_New at hF
  refine sO Try.func8 fun w0 m0 => ?_
  refine wW [] ?_
  refine oG fun n1 => W.r ?_
  refine oA 0 AV.nilp ?_
  refine oV [] (n1 ?_)
  refine oG fun n2 => W.r ?_
  refine oA 1 (.agg ([.bool false, .nsl, .bool false, .nsl, .nsl, .bool false, .nsl, .bool false, .nsl, .nsl, .bool false, .nsl, .bool false, .nsl, .nsl, .bool false, .nsl, .bool false, .nsl, .nsl, .bool false, .nsl, .bool false, .nsl, .nsl, .bool false, .nsl, .bool false, .nsl, .nsl, .bool false, .nsl, .bool false, .nsl, .nsl, .bool false, .nsl, .bool false, .nsl, .nsl, .bool false, .nsl, .bool false, .nsl, .nsl, .bool false, .nsl, .bool false, .nsl, .nsl, .bool false, .nsl, .bool false, .nsl, .nsl, .bool false, .nsl, .bool false, .nsl, .nsl, .bool false, .nsl, .bool false, .nsl, .nsl, .bool false, .nsl, .bool false, .nsl, .nsl, .bool false, .nsl, .bool false, .nsl, .nsl, .bool false, .nsl, .bool false, .nsl, .nsl, .bool false, .nsl, .bool false, .nsl, .nsl, .bool false, .nsl, .bool false, .nsl, .nsl, .bool false, .nsl, .bool false, .nsl, .nsl, .bool false, .nsl, .bool false, .nsl, .nsl, .bool false, .nsl, .bool false, .nsl, .nsl, .bool false, .nsl, .bool false, .nsl, .nsl, .bool false, .nsl, .bool false, .nsl, .nsl, .bool false, .nsl, .bool false, .nsl, .nsl, .bool false, .nsl, .bool false, .nsl, .nsl, .bool false, .nsl, .bool false, .nsl, .nsl, .bool false, .nsl, .bool false, .nsl, .nsl, .bool false, .nsl, .bool false, .nsl, .nsl, .bool false, .nsl, .bool false, .nsl, .nsl, .bool false, .nsl, .bool false, .nsl, .nsl, .bool false, .nsl, .bool false, .nsl, .nsl, .bool false, .nsl, .bool false, .nsl, .nsl, .int .i64 (-1), .int .i64 0] : List AV)) ?_
  refine oK 2 hF fun v2 h_3 hF => ?_
  refine oA 0 v2 ?_
  refine oV [(0, v2)] (n2 (oY ?_))
  exact lZ hF [.tmp 0] [v2] (rT res_nil)
noncomputable def disk_Disk_Append (call : CallF) (_ : Nat) (t0 : AV) (t1 : Int) (t2 : Bytes) (h : AHeap) : R :=
  callN (call 27 [t0, .int .i64 t1] h) fun r10 h_4 =>
  obind (avInt .i64 r10) fun t10 =>
  lett ((t10 : Int) != 0) fun (t12 : Bool) =>
  ifB t12
  (
    some (.ret (.int .i64 t10), h_4))
  (
    obind (nilC t0) fun t18 =>
    obind (fldP 0 t18) fun t19 =>
    obind (idxA 32 5 t19 t1) fun t20 =>
    obind (fldP 2 t20) fun t21 =>
    obind (fldP 1 t21) fun t22 =>
    obind (ldCell h_4 t22) fun v23 =>
    obind (lenL v23) fun t24 =>
    lett (IntKind.i64.wrap (1048576 - t24)) fun (t25 : Int) =>
    lett (decide ((lenS t2) > t25)) fun (t26 : Bool) =>
    ifB t26
    (
      some (.ret (.int .i64 8), h_4))
    (
      callN (call 28 [t0, .int .i64 t1, .agg ([.int .i64 0, strA t2, .int .i64 0] : List AV)] h_4) fun r31 h_23 =>
      obind (avInt .i64 r31) fun t31 =>
      some (.ret (.int .i64 t31), h_23)))
set_option maxHeartbeats 4000000 in
set_option maxRecDepth 20000 in
theorem disk_Disk_Append_ok {call : CallF} (hc : SaysAll Try.prog call) {n : Nat} {t0 : AV} {t1 : Int} {t2 : Bytes} {h : AHeap} {rR : ARes} {hR : AHeap} (hF : disk_Disk_Append call n t0 t1 t2 h = some (rR, hR)) : Says Try.prog 9 [t0, .int .i64 t1, strA t2] h rR hR := by
  unfold disk_Disk_Append at hF
  refine sO Try.func9 fun w0 m0 => ?_
  refine wW [(0, t0), (1, .int .i64 t1), (2, strA t2)] ?_
  refine oG fun n1 => W.r ?_
  refine oA 6 (.int .i64 0) ?_
  refine oV [(0, t0), (1, .int .i64 t1), (2, strA t2)] (n1 ?_)
  refine oH fun n2 q2 => ?_
  refine oG fun n3 => W.r ?_
  refine oA 8 t0 ?_
  refine oA 9 (.int .i64 t1) ?_
  refine oCi hc 10 hF fun t10 h_4 hF => ?_
  refine oA 7 (.int .i64 t10) ?_
  refine oV [(0, t0), (1, .int .i64 t1), (2, strA t2), (7, .int .i64 t10)] (n3 ?_)
  refine oG fun n7 => W.r ?_
  refine oA 11 (.int .i64 t10) ?_
  refine oB 12 hF fun t12 hF => ?_
  refine oV [(0, t0), (1, .int .i64 t1), (2, strA t2), (7, .int .i64 t10), (12, .bool t12)] (n7 ?_)
  cases t12 with
  | true =>
    refine oT hF fun hF => ?_
    refine oG fun n9 => W.r ?_
    refine oA 13 (.int .i64 t10) ?_
    refine oA 6 (.int .i64 t10) ?_
    refine oV [(6, .int .i64 t10)] (n9 (oY (q2 ?_)))
    exact lZ hF [.tmp 6] [.int .i64 t10] (rT res_nil)
  | false =>
    refine oU hF fun hF => ?_
    refine oZ (n2 ?_)
    refine oH fun n10 q10 => ?_
    refine oG fun n11 => W.r ?_
    refine oA 14 (strA t2) ?_
    refine oA 15 (.int .i64 (lenS t2)) ?_
    refine oA 16 t0 ?_
    refine oA 17 (.int .i64 t1) ?_
    refine oC0 18 hF fun t18 hF => ?_
    refine oF 19 57 0 hF fun t19 hF => ?_
    refine oQ 20 55 54 .i64 hF fun t20 hF => ?_
    refine oF 21 54 1 hF fun t21 hF => ?_
    refine oF 22 51 1 hF fun t22 hF => ?_
    refine oL 23 49 hF fun v23 hF => ?_
    refine oM 24 49 5 hF fun t24 hF => ?_
    refine oI 25 .i64 hF fun t25 hF => ?_
    refine oB 26 hF fun t26 hF => ?_
    refine oV [(0, t0), (1, .int .i64 t1), (2, strA t2), (26, .bool t26)] (n11 ?_)
    cases t26 with
    | true =>
      refine oT hF fun hF => ?_
      refine oG fun n21 => W.r ?_
      refine oA 6 (.int .i64 8) ?_
      refine oV [(6, .int .i64 8)] (n21 (oY (q10 ?_)))
      exact lZ hF [.tmp 6] [.int .i64 8] (rT res_nil)
    | false =>
      refine oU hF fun hF => ?_
      refine oZ (n10 ?_)
      refine oG fun n22 => W.r ?_
      refine oA 27 t0 ?_
      refine oA 28 (.int .i64 t1) ?_
      refine oA 29 (strA t2) ?_
      refine oA 30 (.agg ([.int .i64 0, strA t2, .int .i64 0] : List AV)) ?_
      refine oCi hc 31 hF fun t31 h_23 hF => ?_
      refine oA 6 (.int .i64 t31) ?_
      refine oV [(6, .int .i64 t31)] (n22 (oY ?_))
      exact lZ hF [.tmp 6] [.int .i64 t31] (rT res_nil)
noncomputable def disk_Disk_Sync (call : CallF) (_ : Nat) (t0 : AV) (t1 : Int) (h : AHeap) : R :=
  callN (call 27 [t0, .int .i64 t1] h) fun r9 h_4 =>
  obind (avInt .i64 r9) fun t9 =>
  lett ((t9 : Int) != 0) fun (t11 : Bool) =>
  ifB t11
  (
    some (.ret (.int .i64 t9), h_4))
  (
    obind (nilC t0) fun t15 =>
    obind (fldP 0 t15) fun t16 =>
    obind (idxA 32 5 t16 t1) fun t17 =>
    obind (nilC t17) fun t19 =>
    obind (fldP 0 t19) fun t20 =>
    obind (nilC t17) fun t22 =>
    obind (fldP 4 t22) fun t23 =>
    obind (ldCell h_4 t23) fun v24 =>
    callN (call 29 [t20, v24] h_4) fun _ h_20 =>
    obind (nilC t17) fun t27 =>
    obind (fldP 4 t27) fun t28 =>
    obind (stRow h_20 1 (AV.cells AV.nsl) t28) fun h_25 =>
    callN (call 30 [t0] h_25) fun _ h_28 =>
    some (.ret (.int .i64 0), h_28))
set_option maxHeartbeats 4000000 in
set_option maxRecDepth 20000 in
theorem disk_Disk_Sync_ok {call : CallF} (hc : SaysAll Try.prog call) {n : Nat} {t0 : AV} {t1 : Int} {h : AHeap} {rR : ARes} {hR : AHeap} (hF : disk_Disk_Sync call n t0 t1 h = some (rR, hR)) : Says Try.prog 10 [t0, .int .i64 t1] h rR hR := by
  unfold disk_Disk_Sync at hF
  refine sO Try.func10 fun w0 m0 => ?_
  refine wW [(0, t0), (1, .int .i64 t1)] ?_
  refine oG fun n1 => W.r ?_
  refine oA 4 (.int .i64 0) ?_
  refine oV [(0, t0), (1, .int .i64 t1)] (n1 ?_)
  refine oH fun n2 q2 => ?_
  refine oG fun n3 => W.r ?_
  refine oA 7 t0 ?_
  refine oA 8 (.int .i64 t1) ?_
  refine oCi hc 9 hF fun t9 h_4 hF => ?_
  refine oA 5 (.int .i64 t9) ?_
  refine oV [(0, t0), (1, .int .i64 t1), (5, .int .i64 t9)] (n3 ?_)
  refine oG fun n7 => W.r ?_
  refine oA 10 (.int .i64 t9) ?_
  refine oB 11 hF fun t11 hF => ?_
  refine oV [(0, t0), (1, .int .i64 t1), (5, .int .i64 t9), (11, .bool t11)] (n7 ?_)
  cases t11 with
  | true =>
    refine oT hF fun hF => ?_
    refine oG fun n9 => W.r ?_
    refine oA 12 (.int .i64 t9) ?_
    refine oA 4 (.int .i64 t9) ?_
    refine oV [(4, .int .i64 t9)] (n9 (oY (q2 ?_)))
    exact lZ hF [.tmp 4] [.int .i64 t9] (rT res_nil)
  | false =>
    refine oU hF fun hF => ?_
    refine oZ (n2 ?_)
    refine oG fun n10 => W.r ?_
    refine oA 13 t0 ?_
    refine oA 14 (.int .i64 t1) ?_
    refine oC0 15 hF fun t15 hF => ?_
    refine oF 16 57 0 hF fun t16 hF => ?_
    refine oQ 17 55 54 .i64 hF fun t17 hF => ?_
    refine oA 6 t17 ?_
    refine oV [(0, t0), (6, t17)] (n10 ?_)
    refine oG fun n14 => ?_
    refine W.draw (by kernel_rfl) (hc.ok w0) (plan := [0, 1, 2, 3, 4, 5, 6, 7]) (by kernel_rfl) (by kernel_rfl) (by kernel_rfl) ?_
    refine WD.a 0 (some 18) t17 h_4 ?_
    obtain ⟨t19, e15, hF⟩ := obind_some hF
    refine WD.b 0 (some 19) t19 h_4 (nil_chk (h := h_4) e15) ?_
    obtain ⟨t20, e16, hF⟩ := obind_some hF
    refine WD.b 0 (some 20) t20 h_4 (field_ptr (P := Try.prog) (h := h_4) (s := 54) (f := 0) (by kernel_rfl) e16) ?_
    refine WD.a 0 (some 21) t17 h_4 ?_
    obtain ⟨t22, e17, hF⟩ := obind_some hF
    refine WD.b 0 (some 22) t22 h_4 (nil_chk (h := h_4) e17) ?_
    obtain ⟨t23, e18, hF⟩ := obind_some hF
    refine WD.b 0 (some 23) t23 h_4 (field_ptr (P := Try.prog) (h := h_4) (s := 54) (f := 2) (by kernel_rfl) e18) ?_
    obtain ⟨v24, e19, hF⟩ := obind_some hF
    refine WD.b 1 (some 24) v24 h_4 (load_cell (P := Try.prog) (h := h_4) (t := 52) (by kernel_rfl) e19) ?_
    obtain ⟨r25, h_20, e21, hF⟩ := callN_some hF
    refine WD.call (d := (some 25)) (by kernel_rfl) (by kernel_rfl) (by kernel_rfl) e21 (k := 2) (by kernel_rfl) (fun _ => (by kernel_rfl)) (by decide) ?_
    refine WD.nil ?_
    refine gW [(0, t0), (6, t17)] (n14 ?_)
    refine oG fun n22 => W.r ?_
    refine oA 26 t17 ?_
    refine oC0 27 hF fun t27 hF => ?_
    refine oF 28 54 2 hF fun t28 hF => ?_
    refine oW 52 AV.nsl hF fun h_25 hF => ?_
    refine oV [(0, t0)] (n22 ?_)
    refine oG fun n27 => W.r ?_
    refine oA 29 t0 ?_
    refine oC hc (some 30) hF fun r30 h_28 hF => ?_
    refine oV [] (n27 ?_)
    refine oG fun n30 => W.r ?_
    refine oA 4 (.int .i64 0) ?_
    refine oV [(4, .int .i64 0)] (n30 (oY ?_))
    exact lZ hF [.tmp 4] [.int .i64 0] (rT res_nil)
noncomputable def disk_Disk_Cut (call : CallF) (_ : Nat) (t0 : AV) (t1 : Int) (t2 : Int) (h : AHeap) : R :=
  callN (call 27 [t0, .int .i64 t1] h) fun r11 h_4 =>
  obind (avInt .i64 r11) fun t11 =>
  lett ((t11 : Int) != 0) fun (t13 : Bool) =>
  ifB t13
  (
    some (.ret (.int .i64 t11), h_4))
  (
    obind (nilC t0) fun t17 =>
    obind (fldP 0 t17) fun t18 =>
    obind (idxA 32 5 t18 t1) fun t19 =>
    obind (fldP 2 t19) fun t20 =>
    obind (nilC t20) fun t22 =>
    obind (fldP 0 t22) fun t23 =>
    obind (ldCell h_4 t23) fun v24 =>
    obind (avBool v24) fun t24 =>
    lett (!t24) fun (t25 : Bool) =>
    ifB t25
    (
      some (.ret (.int .i64 4), h_4))
    (
      lett (decide (t2 < 0)) fun (t27 : Bool) =>
      lett (fun (t36 : Bool) (h_26 : AHeap) =>
        ifB t36
        (
          some (.ret (.int .i64 5), h_26))
        (
          callN (call 28 [t0, .int .i64 t1, .agg ([.int .i64 1, .str 0 0, .int .i64 t2] : List AV)] h_26) fun r41 h_31 =>
          obind (avInt .i64 r41) fun t41 =>
          some (.ret (.int .i64 t41), h_31))) fun j36 =>
      ifB t27
      (
        j36 true h_4)
      (
        obind (nilC t20) fun t31 =>
        obind (fldP 1 t31) fun t32 =>
        obind (ldCell h_4 t32) fun v33 =>
        obind (lenL v33) fun t34 =>
        lett (decide (t2 > t34)) fun (t35 : Bool) =>
        j36 t35 h_4)))
set_option maxHeartbeats 4000000 in
set_option maxRecDepth 20000 in
theorem disk_Disk_Cut_ok {call : CallF} (hc : SaysAll Try.prog call) {n : Nat} {t0 : AV} {t1 : Int} {t2 : Int} {h : AHeap} {rR : ARes} {hR : AHeap} (hF : disk_Disk_Cut call n t0 t1 t2 h = some (rR, hR)) : Says Try.prog 15 [t0, .int .i64 t1, .int .i64 t2] h rR hR := by
  unfold disk_Disk_Cut at hF
  refine sO Try.func15 fun w0 m0 => ?_
  refine wW [(0, t0), (1, .int .i64 t1), (2, .int .i64 t2)] ?_
  refine oG fun n1 => W.r ?_
  refine oA 6 (.int .i64 0) ?_
  refine oV [(0, t0), (1, .int .i64 t1), (2, .int .i64 t2)] (n1 ?_)
  refine oH fun n2 q2 => ?_
  refine oG fun n3 => W.r ?_
  refine oA 9 t0 ?_
  refine oA 10 (.int .i64 t1) ?_
  refine oCi hc 11 hF fun t11 h_4 hF => ?_
  refine oA 7 (.int .i64 t11) ?_
  refine oV [(0, t0), (1, .int .i64 t1), (2, .int .i64 t2), (7, .int .i64 t11)] (n3 ?_)
  refine oG fun n7 => W.r ?_
  refine oA 12 (.int .i64 t11) ?_
  refine oB 13 hF fun t13 hF => ?_
  refine oV [(0, t0), (1, .int .i64 t1), (2, .int .i64 t2), (7, .int .i64 t11), (13, .bool t13)] (n7 ?_)
  cases t13 with
  | true =>
    refine oT hF fun hF => ?_
    refine oG fun n9 => W.r ?_
    refine oA 14 (.int .i64 t11) ?_
    refine oA 6 (.int .i64 t11) ?_
    refine oV [(6, .int .i64 t11)] (n9 (oY (q2 ?_)))
    exact lZ hF [.tmp 6] [.int .i64 t11] (rT res_nil)
  | false =>
    refine oU hF fun hF => ?_
    refine oZ (n2 ?_)
    refine oG fun n10 => W.r ?_
    refine oA 15 t0 ?_
    refine oA 16 (.int .i64 t1) ?_
    refine oC0 17 hF fun t17 hF => ?_
    refine oF 18 57 0 hF fun t18 hF => ?_
    refine oQ 19 55 54 .i64 hF fun t19 hF => ?_
    refine oF 20 54 1 hF fun t20 hF => ?_
    refine oA 8 t20 ?_
    refine oV [(0, t0), (1, .int .i64 t1), (2, .int .i64 t2), (8, t20)] (n10 ?_)
    refine oH fun n15 q15 => ?_
    refine oG fun n16 => W.r ?_
    refine oA 21 t20 ?_
    refine oC0 22 hF fun t22 hF => ?_
    refine oF 23 51 0 hF fun t23 hF => ?_
    refine oLb 24 4 hF fun t24 hF => ?_
    refine oB 25 hF fun t25 hF => ?_
    refine oV [(0, t0), (1, .int .i64 t1), (2, .int .i64 t2), (8, t20), (25, .bool t25)] (n16 ?_)
    cases t25 with
    | true =>
      refine oT hF fun hF => ?_
      refine oG fun n22 => W.r ?_
      refine oA 6 (.int .i64 4) ?_
      refine oV [(6, .int .i64 4)] (n22 (oY (q15 ?_)))
      exact lZ hF [.tmp 6] [.int .i64 4] (rT res_nil)
    | false =>
      refine oU hF fun hF => ?_
      refine oZ (n15 ?_)
      refine oH fun n23 q23 => ?_
      refine W.s (fun K24 n24 e24 q24 p24 => ?_)
      refine W.r ?_
      refine oA 26 (.int .i64 t2) ?_
      refine oB 27 hF fun t27 hF => ?_
      refine oA 28 (.bool t27) ?_
      obtain ⟨j36, e27, hF⟩ := lett_some hF
      have J28 : ∀ (t36 : Bool) (h_26 : AHeap), j36 t36 h_26 = some (rR, hR) → WL Try.prog w0 m0 (Func.ntmps Try.f15) (Code.ops (Code.p1 (Code.p1 (Code.p2 (Code.p2 (Code.p2 (Code.p2 (codeOf Try.f15)))))))) 11 K24 [(0, t0), (1, .int .i64 t1), (2, .int .i64 t2), (36, .bool t36)] [] h_26 := by
        intro t36 h_26 hF
        rw [e27] at hF
        refine oV [(0, t0), (1, .int .i64 t1), (2, .int .i64 t2), (36, .bool t36)] (n24 ?_)
        cases t36 with
        | true =>
          refine oT hF fun hF => ?_
          refine oG fun n29 => W.r ?_
          refine oA 6 (.int .i64 5) ?_
          refine oV [(6, .int .i64 5)] (n29 (oY (q23 ?_)))
          exact lZ hF [.tmp 6] [.int .i64 5] (rT res_nil)
        | false =>
          refine oU hF fun hF => ?_
          refine oZ (n23 ?_)
          refine oG fun n30 => W.r ?_
          refine oA 37 t0 ?_
          refine oA 38 (.int .i64 t1) ?_
          refine oA 39 (.int .i64 t2) ?_
          refine oA 40 (.agg ([.int .i64 1, .str 0 0, .int .i64 t2] : List AV)) ?_
          refine oCi hc 41 hF fun t41 h_31 hF => ?_
          refine oA 6 (.int .i64 t41) ?_
          refine oV [(6, .int .i64 t41)] (n30 (oY ?_))
          exact lZ hF [.tmp 6] [.int .i64 t41] (rT res_nil)
      cases t27 with
      | true =>
        replace hF := ifB_t hF
        refine WL.o (some 29) ?_
        refine WL.o (some 30) ?_
        refine WL.o (some 31) ?_
        refine WL.o (some 32) ?_
        refine WL.o (some 33) ?_
        refine WL.o (some 34) ?_
        refine WL.o (some 35) ?_
        refine oA 36 (.bool true) ?_
        exact lW _ (J28 _ _ hF)
      | false =>
        replace hF := ifB_f hF
        refine oA 29 (.int .i64 t2) ?_
        refine oA 30 t20 ?_
        refine oC0 31 hF fun t31 hF => ?_
        refine oF 32 51 1 hF fun t32 hF => ?_
        refine oL 33 49 hF fun v33 hF => ?_
        refine oM 34 49 5 hF fun t34 hF => ?_
        refine oB 35 hF fun t35 hF => ?_
        refine oA 36 (.bool t35) ?_
        exact lW _ (J28 _ _ hF)
noncomputable def disk_Disk_Remove (call : CallF) (_ : Nat) (t0 : AV) (t1 : Int) (h : AHeap) : R :=
  callN (call 27 [t0, .int .i64 t1] h) fun r8 h_4 =>
  obind (avInt .i64 r8) fun t8 =>
  lett ((t8 : Int) != 0) fun (t10 : Bool) =>
  ifB t10
  (
    some (.ret (.int .i64 t8), h_4))
  (
    obind (nilC t0) fun t14 =>
    obind (fldP 0 t14) fun t15 =>
    obind (idxA 32 5 t15 t1) fun t16 =>
    obind (fldP 2 t16) fun t17 =>
    obind (fldP 0 t17) fun t18 =>
    obind (ldCell h_4 t18) fun v19 =>
    obind (avBool v19) fun t19 =>
    lett (!t19) fun (t20 : Bool) =>
    ifB t20
    (
      some (.ret (.int .i64 4), h_4))
    (
      callN (call 28 [t0, .int .i64 t1, .agg ([.int .i64 2, .str 0 0, .int .i64 0] : List AV)] h_4) fun r24 h_22 =>
      obind (avInt .i64 r24) fun t24 =>
      some (.ret (.int .i64 t24), h_22)))
set_option maxHeartbeats 4000000 in
set_option maxRecDepth 20000 in
theorem disk_Disk_Remove_ok {call : CallF} (hc : SaysAll Try.prog call) {n : Nat} {t0 : AV} {t1 : Int} {h : AHeap} {rR : ARes} {hR : AHeap} (hF : disk_Disk_Remove call n t0 t1 h = some (rR, hR)) : Says Try.prog 16 [t0, .int .i64 t1] h rR hR := by
  unfold disk_Disk_Remove at hF
  refine sO Try.func16 fun w0 m0 => ?_
  refine wW [(0, t0), (1, .int .i64 t1)] ?_
  refine oG fun n1 => W.r ?_
  refine oA 4 (.int .i64 0) ?_
  refine oV [(0, t0), (1, .int .i64 t1)] (n1 ?_)
  refine oH fun n2 q2 => ?_
  refine oG fun n3 => W.r ?_
  refine oA 6 t0 ?_
  refine oA 7 (.int .i64 t1) ?_
  refine oCi hc 8 hF fun t8 h_4 hF => ?_
  refine oA 5 (.int .i64 t8) ?_
  refine oV [(0, t0), (1, .int .i64 t1), (5, .int .i64 t8)] (n3 ?_)
  refine oG fun n7 => W.r ?_
  refine oA 9 (.int .i64 t8) ?_
  refine oB 10 hF fun t10 hF => ?_
  refine oV [(0, t0), (1, .int .i64 t1), (5, .int .i64 t8), (10, .bool t10)] (n7 ?_)
  cases t10 with
  | true =>
    refine oT hF fun hF => ?_
    refine oG fun n9 => W.r ?_
    refine oA 11 (.int .i64 t8) ?_
    refine oA 4 (.int .i64 t8) ?_
    refine oV [(4, .int .i64 t8)] (n9 (oY (q2 ?_)))
    exact lZ hF [.tmp 4] [.int .i64 t8] (rT res_nil)
  | false =>
    refine oU hF fun hF => ?_
    refine oZ (n2 ?_)
    refine oH fun n10 q10 => ?_
    refine oG fun n11 => W.r ?_
    refine oA 12 t0 ?_
    refine oA 13 (.int .i64 t1) ?_
    refine oC0 14 hF fun t14 hF => ?_
    refine oF 15 57 0 hF fun t15 hF => ?_
    refine oQ 16 55 54 .i64 hF fun t16 hF => ?_
    refine oF 17 54 1 hF fun t17 hF => ?_
    refine oF 18 51 0 hF fun t18 hF => ?_
    refine oLb 19 4 hF fun t19 hF => ?_
    refine oB 20 hF fun t20 hF => ?_
    refine oV [(0, t0), (1, .int .i64 t1), (20, .bool t20)] (n11 ?_)
    cases t20 with
    | true =>
      refine oT hF fun hF => ?_
      refine oG fun n20 => W.r ?_
      refine oA 4 (.int .i64 4) ?_
      refine oV [(4, .int .i64 4)] (n20 (oY (q10 ?_)))
      exact lZ hF [.tmp 4] [.int .i64 4] (rT res_nil)
    | false =>
      refine oU hF fun hF => ?_
      refine oZ (n10 ?_)
      refine oG fun n21 => W.r ?_
      refine oA 21 t0 ?_
      refine oA 22 (.int .i64 t1) ?_
      refine oA 23 (.agg ([.int .i64 2, .str 0 0, .int .i64 0] : List AV)) ?_
      refine oCi hc 24 hF fun t24 h_22 hF => ?_
      refine oA 4 (.int .i64 t24) ?_
      refine oV [(4, .int .i64 t24)] (n21 (oY ?_))
      exact lZ hF [.tmp 4] [.int .i64 t24] (rT res_nil)
noncomputable def disk_Disk_Power (_ : CallF) (_ : Nat) (t0 : AV) (t1 : Int) (h : AHeap) : R :=
  outK (opBin Try.prog h .eql 23 true (some t0) (some AV.nilp)) fun v6 h_4 =>
  obind (avBool v6) fun t6 =>
  ifB t6
  (
    some (.ret (.int .i64 1), h_4))
  (
    lett (if (-1) > t1 then (-1) else t1) fun (t9 : Int) =>
    obind (nilC t0) fun t10 =>
    obind (fldP 160 t10) fun t11 =>
    obind (stRow h_4 1 [.int .i64 t9] t11) fun h_12 =>
    some (.ret (.int .i64 0), h_12))
set_option maxHeartbeats 4000000 in
set_option maxRecDepth 20000 in
theorem disk_Disk_Power_ok {call : CallF} (_ : SaysAll Try.prog call) {n : Nat} {t0 : AV} {t1 : Int} {h : AHeap} {rR : ARes} {hR : AHeap} (hF : disk_Disk_Power call n t0 t1 h = some (rR, hR)) : Says Try.prog 17 [t0, .int .i64 t1] h rR hR := by
  unfold disk_Disk_Power at hF
  refine sO Try.func17 fun w0 m0 => ?_
  refine wW [(0, t0), (1, .int .i64 t1)] ?_
  refine oG fun n1 => W.r ?_
  refine oA 4 (.int .i64 0) ?_
  refine oV [(0, t0), (1, .int .i64 t1)] (n1 ?_)
  refine oH fun n2 q2 => ?_
  refine oG fun n3 => W.r ?_
  refine oA 5 t0 ?_
  replace hF := outK_some hF; obtain ⟨v6, h_4, e5, hF⟩ := hF
  replace hF := obind_some hF; obtain ⟨t6, c6, hF⟩ := hF
  have c6 := avBool_some c6
  subst c6
  refine WL.b (some 6) (.bool t6) h_4 e5 ?_
  refine oV [(0, t0), (1, .int .i64 t1), (6, .bool t6)] (n3 ?_)
  cases t6 with
  | true =>
    refine oT hF fun hF => ?_
    refine oG fun n7 => W.r ?_
    refine oA 4 (.int .i64 1) ?_
    refine oV [(4, .int .i64 1)] (n7 (oY (q2 ?_)))
    exact lZ hF [.tmp 4] [.int .i64 1] (rT res_nil)
  | false =>
    refine oU hF fun hF => ?_
    refine oZ (n2 ?_)
    refine oG fun n8 => W.r ?_
    refine oA 7 t0 ?_
    refine oA 8 (.int .i64 t1) ?_
    refine oI 9 .i64 hF fun t9 hF => ?_
    refine oC0 10 hF fun t10 hF => ?_
    refine oF 11 57 1 hF fun t11 hF => ?_
    refine oW 3 (.int .i64 t9) hF fun h_12 hF => ?_
    refine oV [] (n8 ?_)
    refine oG fun n14 => W.r ?_
    refine oA 4 (.int .i64 0) ?_
    refine oV [(4, .int .i64 0)] (n14 (oY ?_))
    exact lZ hF [.tmp 4] [.int .i64 0] (rT res_nil)
noncomputable def disk_Disk_On (_ : CallF) (_ : Nat) (t0 : AV) (h : AHeap) : R :=
  outK (opBin Try.prog h .neq 23 true (some t0) (some AV.nilp)) fun v4 h_3 =>
  obind (avBool v4) fun t4 =>
  lett (fun (t11 : Bool) (h_6 : AHeap) =>
    some (.ret (.bool t11), h_6)) fun j11 =>
  ifB t4
  (
    obind (nilC t0) fun t7 =>
    obind (fldP 160 t7) fun t8 =>
    obind (ldCell h_3 t8) fun v9 =>
    obind (avInt .i64 v9) fun t9 =>
    lett ((t9 : Int) != 0) fun (t10 : Bool) =>
    j11 t10 h_3)
  (
    j11 false h_3)
set_option maxHeartbeats 4000000 in
set_option maxRecDepth 20000 in
theorem disk_Disk_On_ok {call : CallF} (_ : SaysAll Try.prog call) {n : Nat} {t0 : AV} {h : AHeap} {rR : ARes} {hR : AHeap} (hF : disk_Disk_On call n t0 h = some (rR, hR)) : Says Try.prog 18 [t0] h rR hR := by
  unfold disk_Disk_On at hF
  refine sO Try.func18 fun w0 m0 => ?_
  refine wW [(0, t0)] ?_
  refine oG fun n1 => W.r ?_
  refine oA 2 (.bool false) ?_
  refine oV [(0, t0)] (n1 ?_)
  refine W.s (fun K2 n2 e2 q2 p2 => ?_)
  refine W.r ?_
  refine oA 3 t0 ?_
  replace hF := outK_some hF; obtain ⟨v4, h_3, e4, hF⟩ := hF
  replace hF := obind_some hF; obtain ⟨t4, c5, hF⟩ := hF
  have c5 := avBool_some c5
  subst c5
  refine WL.b (some 4) (.bool t4) h_3 e4 ?_
  refine oA 5 (.bool t4) ?_
  obtain ⟨j11, e7, hF⟩ := lett_some hF
  have J8 : ∀ (t11 : Bool) (h_6 : AHeap), j11 t11 h_6 = some (rR, hR) → WL Try.prog w0 m0 (Func.ntmps Try.f18) (Code.ops (Code.p1 (Code.p2 (codeOf Try.f18)))) 9 K2 [(11, .bool t11)] [] h_6 := by
    intro t11 h_6 hF
    rw [e7] at hF
    refine oA 2 (.bool t11) ?_
    refine oV [(2, .bool t11)] (n2 (oY ?_))
    exact lZ hF [.tmp 2] [.bool t11] (rT res_nil)
  cases t4 with
  | true =>
    replace hF := ifB_t hF
    refine oA 6 t0 ?_
    refine oC0 7 hF fun t7 hF => ?_
    refine oF 8 57 1 hF fun t8 hF => ?_
    refine oLi 9 3 hF fun t9 hF => ?_
    refine oB 10 hF fun t10 hF => ?_
    refine oA 11 (.bool t10) ?_
    exact lW _ (J8 _ _ hF)
  | false =>
    replace hF := ifB_f hF
    refine WL.o (some 6) ?_
    refine WL.o (some 7) ?_
    refine WL.o (some 8) ?_
    refine WL.o (some 9) ?_
    refine WL.o (some 10) ?_
    refine oA 11 (.bool false) ?_
    exact lW _ (J8 _ _ hF)
noncomputable def disk_Disk_Ops (_ : CallF) (_ : Nat) (t0 : AV) (h : AHeap) : R :=
  outK (opBin Try.prog h .eql 23 true (some t0) (some AV.nilp)) fun v4 h_4 =>
  obind (avBool v4) fun t4 =>
  ifB t4
  (
    some (.ret (.int .i64 0), h_4))
  (
    obind (nilC t0) fun t6 =>
    obind (fldP 161 t6) fun t7 =>
    obind (ldCell h_4 t7) fun v8 =>
    obind (avInt .i64 v8) fun t8 =>
    some (.ret (.int .i64 t8), h_4))
set_option maxHeartbeats 4000000 in
set_option maxRecDepth 20000 in
theorem disk_Disk_Ops_ok {call : CallF} (_ : SaysAll Try.prog call) {n : Nat} {t0 : AV} {h : AHeap} {rR : ARes} {hR : AHeap} (hF : disk_Disk_Ops call n t0 h = some (rR, hR)) : Says Try.prog 19 [t0] h rR hR := by
  unfold disk_Disk_Ops at hF
  refine sO Try.func19 fun w0 m0 => ?_
  refine wW [(0, t0)] ?_
  refine oG fun n1 => W.r ?_
  refine oA 2 (.int .i64 0) ?_
  refine oV [(0, t0)] (n1 ?_)
  refine oH fun n2 q2 => ?_
  refine oG fun n3 => W.r ?_
  refine oA 3 t0 ?_
  replace hF := outK_some hF; obtain ⟨v4, h_4, e5, hF⟩ := hF
  replace hF := obind_some hF; obtain ⟨t4, c6, hF⟩ := hF
  have c6 := avBool_some c6
  subst c6
  refine WL.b (some 4) (.bool t4) h_4 e5 ?_
  refine oV [(0, t0), (4, .bool t4)] (n3 ?_)
  cases t4 with
  | true =>
    refine oT hF fun hF => ?_
    refine oG fun n7 => W.r ?_
    refine oA 2 (.int .i64 0) ?_
    refine oV [(2, .int .i64 0)] (n7 (oY (q2 ?_)))
    exact lZ hF [.tmp 2] [.int .i64 0] (rT res_nil)
  | false =>
    refine oU hF fun hF => ?_
    refine oZ (n2 ?_)
    refine oG fun n8 => W.r ?_
    refine oA 5 t0 ?_
    refine oC0 6 hF fun t6 hF => ?_
    refine oF 7 57 2 hF fun t7 hF => ?_
    refine oLi 8 3 hF fun t8 hF => ?_
    refine oA 2 (.int .i64 t8) ?_
    refine oV [(2, .int .i64 t8)] (n8 (oY ?_))
    exact lZ hF [.tmp 2] [.int .i64 t8] (rT res_nil)
noncomputable def disk_Disk_refuses (call : CallF) (_ : Nat) (t0 : AV) (t1 : Int) (h : AHeap) : R :=
  outK (opBin Try.prog h .eql 23 true (some t0) (some AV.nilp)) fun v7 h_5 =>
  obind (avBool v7) fun t7 =>
  ifB t7
  (
    some (.ret (.int .i64 1), h_5))
  (
    callN (call 18 [t0] h_5) fun r10 h_10 =>
    obind (avBool r10) fun t10 =>
    lett (!t10) fun (t11 : Bool) =>
    ifB t11
    (
      some (.ret (.int .i64 40), h_10))
    (
      callN (call 31 [.int .i64 t1] h_10) fun r14 h_16 =>
      obind (avBool r14) fun t14 =>
      lett (!t14) fun (t15 : Bool) =>
      ifB t15
      (
        some (.ret (.int .i64 2), h_16))
      (
        some (.ret (.int .i64 0), h_16))))
set_option maxHeartbeats 4000000 in
set_option maxRecDepth 20000 in
theorem disk_Disk_refuses_ok {call : CallF} (hc : SaysAll Try.prog call) {n : Nat} {t0 : AV} {t1 : Int} {h : AHeap} {rR : ARes} {hR : AHeap} (hF : disk_Disk_refuses call n t0 t1 h = some (rR, hR)) : Says Try.prog 27 [t0, .int .i64 t1] h rR hR := by
  unfold disk_Disk_refuses at hF
  refine sO Try.func27 fun w0 m0 => ?_
  refine wW [(0, t0), (1, .int .i64 t1)] ?_
  refine oG fun n1 => W.r ?_
  refine oA 4 (.int .i64 0) ?_
  refine oV [(0, t0), (1, .int .i64 t1)] (n1 ?_)
  refine oH fun n2 q2 => ?_
  refine W.blockK (by kernel_rfl) (fun K3 n3 s3 o3 q3 p3 => ?_)
  refine oG fun n4 => W.r ?_
  refine oA 6 t0 ?_
  replace hF := outK_some hF; obtain ⟨v7, h_5, e6, hF⟩ := hF
  replace hF := obind_some hF; obtain ⟨t7, c7, hF⟩ := hF
  have c7 := avBool_some c7
  subst c7
  refine WL.b (some 7) (.bool t7) h_5 e6 ?_
  refine oA 5 (.bool t7) ?_
  refine oV [(0, t0), (1, .int .i64 t1), (5, .bool t7)] (n4 ?_)
  cases t7 with
  | true =>
    refine oT hF fun hF => ?_
    refine oG fun n8 => W.r ?_
    refine oA 4 (.int .i64 1) ?_
    refine oV [(4, .int .i64 1)] (n8 (oY (q3 (q2 ?_))))
    exact lZ hF [.tmp 4] [.int .i64 1] (rT res_nil)
  | false =>
    refine oU hF fun hF => ?_
    refine oG fun n9 => W.r ?_
    refine oA 9 t0 ?_
    refine oCb hc 10 hF fun t10 h_10 hF => ?_
    refine oB 11 hF fun t11 hF => ?_
    refine oA 8 (.bool t11) ?_
    refine oV [(1, .int .i64 t1), (8, .bool t11)] (n9 ?_)
    cases t11 with
    | true =>
      refine oT hF fun hF => ?_
      refine oG fun n14 => W.r ?_
      refine oA 4 (.int .i64 40) ?_
      refine oV [(4, .int .i64 40)] (n14 (oY (q3 (q2 ?_))))
      exact lZ hF [.tmp 4] [.int .i64 40] (rT res_nil)
    | false =>
      refine oU hF fun hF => ?_
      refine oG fun n15 => W.r ?_
      refine oA 13 (.int .i64 t1) ?_
      refine oCb hc 14 hF fun t14 h_16 hF => ?_
      refine oB 15 hF fun t15 hF => ?_
      refine oA 12 (.bool t15) ?_
      refine oV [(12, .bool t15)] (n15 ?_)
      cases t15 with
      | true =>
        refine oT hF fun hF => ?_
        refine oG fun n20 => W.r ?_
        refine oA 4 (.int .i64 2) ?_
        refine oV [(4, .int .i64 2)] (n20 (oY (q3 (q2 ?_))))
        exact lZ hF [.tmp 4] [.int .i64 2] (rT res_nil)
      | false =>
        refine oU hF fun hF => ?_
        refine oZ (n3 (n2 ?_))
        refine oG fun n21 => W.r ?_
        refine oA 4 (.int .i64 0) ?_
        refine oV [(4, .int .i64 0)] (n21 (oY ?_))
        exact lZ hF [.tmp 4] [.int .i64 0] (rT res_nil)
noncomputable def disk_Disk_change (call : CallF) (_ : Nat) (t0 : AV) (t1 : Int) (t2 : List AV) (h : AHeap) : R :=
  outK (opBox h 61 (some (.agg t2))) fun v5 h_2 =>
  obind (nilC t0) fun t10 =>
  obind (fldP 0 t10) fun t11 =>
  obind (idxA 32 5 t11 t1) fun t12 =>
  obind (nilC t12) fun t14 =>
  obind (fldP 2 t14) fun t15 =>
  obind (ldRow h_2 3 v5) fun t16 =>
  outK (bldSl Try.prog h_2 52 1 [(0, .agg t16)]) fun v17 h_12 =>
  callN (call 29 [t15, v17] h_12) fun _ h_14 =>
  obind (nilC t12) fun t21 =>
  obind (fldP 4 t21) fun t22 =>
  obind (ldCell h_14 t22) fun v23 =>
  obind (ldRow h_14 3 v5) fun t24 =>
  outK (bldSl Try.prog h_14 52 1 [(0, .agg t24)]) fun v25 h_21 =>
  chk (true && (reLoad Try.prog h_21 52 t22 v23 && true)) <|
  outK (opAppend Try.prog h_21 52 52 v23 v25) fun v26 h_24 =>
  obind (nilC t12) fun t27 =>
  obind (fldP 4 t27) fun t28 =>
  obind (stRow h_24 1 (AV.cells v26) t28) fun h_28 =>
  callN (call 30 [t0] h_28) fun _ h_31 =>
  some (.ret (.int .i64 0), h_31)
set_option maxHeartbeats 4000000 in
set_option maxRecDepth 20000 in
theorem disk_Disk_change_ok {call : CallF} (hc : SaysAll Try.prog call) {n : Nat} {t0 : AV} {t1 : Int} {t2 : List AV} {h : AHeap} {rR : ARes} {hR : AHeap} (hF : disk_Disk_change call n t0 t1 t2 h = some (rR, hR)) : Says Try.prog 28 [t0, .int .i64 t1, .agg t2] h rR hR := by
  unfold disk_Disk_change at hF
  refine sO Try.func28 fun w0 m0 => ?_
  refine wW [(0, t0), (1, .int .i64 t1), (2, .agg t2)] ?_
  refine oG fun n1 => W.r ?_
  refine oK 5 hF fun v5 h_2 hF => ?_
  refine oA 6 (.int .i64 0) ?_
  refine oV [(0, t0), (1, .int .i64 t1), (5, v5)] (n1 ?_)
  refine oG fun n4 => W.r ?_
  refine oA 8 t0 ?_
  refine oA 9 (.int .i64 t1) ?_
  refine oC0 10 hF fun t10 hF => ?_
  refine oF 11 57 0 hF fun t11 hF => ?_
  refine oQ 12 55 54 .i64 hF fun t12 hF => ?_
  refine oA 7 t12 ?_
  refine oV [(0, t0), (5, v5), (7, t12)] (n4 ?_)
  refine oG fun n8 => ?_
  refine W.draw (by kernel_rfl) (hc.ok w0) (plan := [0, 1, 2, 3, 4, 5]) (by kernel_rfl) (by kernel_rfl) (by kernel_rfl) ?_
  refine WD.a 0 (some 13) t12 h_2 ?_
  obtain ⟨t14, e9, hF⟩ := obind_some hF
  refine WD.b 0 (some 14) t14 h_2 (nil_chk (h := h_2) e9) ?_
  obtain ⟨t15, e10, hF⟩ := obind_some hF
  refine WD.b 0 (some 15) t15 h_2 (field_ptr (P := Try.prog) (h := h_2) (s := 54) (f := 1) (by kernel_rfl) e10) ?_
  obtain ⟨t16, e11, hF⟩ := obind_some hF
  refine WD.b 1 (some 16) (.agg t16) h_2 (load_row (P := Try.prog) (h := h_2) (t := 61) (by kernel_rfl) (by kernel_rfl) e11) ?_
  obtain ⟨v17, h_12, e13, hF⟩ := outK_some hF
  refine WD.val (d := (some 17)) (v := v17) (h' := h_12) (by kernel_rfl) (by kernel_rfl) (Eq.trans (by kernel_rfl) e13) (k := 2) (by kernel_rfl) (fun _ => (by kernel_rfl)) (by decide) ?_
  obtain ⟨r18, h_14, e15, hF⟩ := callN_some hF
  refine WD.call (d := (some 18)) (by kernel_rfl) (by kernel_rfl) (by kernel_rfl) e15 (k := 2) (by kernel_rfl) (fun _ => (by kernel_rfl)) (by decide) ?_
  refine WD.nil ?_
  refine gW [(0, t0), (5, v5), (7, t12)] (n8 ?_)
  refine oG fun n16 => ?_
  refine W.draw (by kernel_rfl) (hc.ok w0) (plan := [0, 1, 2, 3, 4, 5, 6, 7, 8, 9, 10]) (by kernel_rfl) (by kernel_rfl) (by kernel_rfl) ?_
  refine WD.a 0 (some 19) t12 h_14 ?_
  refine WD.a 0 (some 20) t12 h_14 ?_
  obtain ⟨t21, e17, hF⟩ := obind_some hF
  refine WD.b 0 (some 21) t21 h_14 (nil_chk (h := h_14) e17) ?_
  obtain ⟨t22, e18, hF⟩ := obind_some hF
  refine WD.b 0 (some 22) t22 h_14 (field_ptr (P := Try.prog) (h := h_14) (s := 54) (f := 2) (by kernel_rfl) e18) ?_
  obtain ⟨v23, e19, hF⟩ := obind_some hF
  refine WD.b 1 (some 23) v23 h_14 (load_cell (P := Try.prog) (h := h_14) (t := 52) (by kernel_rfl) e19) ?_
  obtain ⟨t24, e20, hF⟩ := obind_some hF
  refine WD.b 1 (some 24) (.agg t24) h_14 (load_row (P := Try.prog) (h := h_14) (t := 61) (by kernel_rfl) (by kernel_rfl) e20) ?_
  obtain ⟨v25, h_21, e22, hF⟩ := outK_some hF
  obtain ⟨k23, hF⟩ := chk_some hF
  refine WD.val (d := (some 25)) (v := v25) (h' := h_21) (by kernel_rfl) (by kernel_rfl) (Eq.trans (by kernel_rfl) e22) (k := 2) (by kernel_rfl) (fun _ => (Eq.trans (by kernel_rfl) k23)) (by decide) ?_
  obtain ⟨v26, h_24, e25, hF⟩ := outK_some hF
  refine WD.val (d := (some 26)) (v := v26) (h' := h_24) (by kernel_rfl) (by kernel_rfl) (Eq.trans (by kernel_rfl) e25) (k := 2) (by kernel_rfl) (fun _ => (by kernel_rfl)) (by decide) ?_
  obtain ⟨t27, e26, hF⟩ := obind_some hF
  refine WD.b 0 (some 27) t27 h_24 (nil_chk (h := h_24) e26) ?_
  obtain ⟨t28, e27, hF⟩ := obind_some hF
  refine WD.b 0 (some 28) t28 h_24 (field_ptr (P := Try.prog) (h := h_24) (s := 54) (f := 2) (by kernel_rfl) e27) ?_
  obtain ⟨h_28, e29, hF⟩ := obind_some hF
  refine WD.eff (h' := h_28) (by kernel_rfl) (by kernel_rfl) (Eq.trans (by kernel_rfl) (store_row (P := Try.prog) (h := h_24) (t := 52) (v := v26) (by kernel_rfl) (by kernel_rfl) e29)) (k := 2) (by kernel_rfl) (fun _ => (by kernel_rfl)) (by decide) ?_
  refine WD.nil ?_
  refine gW [(0, t0)] (n16 ?_)
  refine oG fun n30 => W.r ?_
  refine oA 29 t0 ?_
  refine oC hc (some 30) hF fun r30 h_31 hF => ?_
  refine oV [] (n30 ?_)
  refine oG fun n33 => W.r ?_
  refine oA 6 (.int .i64 0) ?_
  refine oV [(6, .int .i64 0)] (n33 (oY ?_))
  exact lZ hF [.tmp 6] [.int .i64 0] (rT res_nil)
noncomputable def disk_content_do_L0b (t0 : AV) (t1 : AV) (t7 : Int) (k4 : AHeap → R) (self : Int → AHeap → R) (t8 : Int) (h_7 : AHeap) : R :=
  lett (decide (t8 < t7)) fun (t9 : Bool) =>
  ifB t9
  (
    obind (idxP 3 t1 t8) fun t10 =>
    obind (ldRow h_7 3 t10) fun t11 =>
    lett (newH h_7 61 [.int .i64 0, .str 0 0, .int .i64 0]) fun h_16 =>
    obind (stRow h_16 3 t11 (newP h_7)) fun h_18 =>
    obind (ldCell h_18 (AV.ptr (AHeap.next h_7) 0)) fun v13 =>
    obind (avInt .i64 v13) fun t13 =>
    lett ((t13 : Int) == 0) fun (t15 : Bool) =>
    lett (fun  (h_27 : AHeap) =>
      lett (IntKind.i64.wrap (t8 + 1)) fun (t46 : Int) =>
      self t46 h_27) fun k26 =>
    ifB t15
    (
      obind (nilC t0) fun t17 =>
      obind (fldP 0 t17) fun t18 =>
      obind (stRow h_18 1 [.bool true] t18) fun h_32 =>
      obind (nilC t0) fun t21 =>
      obind (fldP 1 t21) fun t22 =>
      obind (ldCell h_32 t22) fun v23 =>
      obind (ldCell h_32 (AV.ptr (AHeap.next h_7) 1)) fun v25 =>
      obind (avStr v25) fun t25 =>
      outK (opAppend Try.prog h_32 49 9 v23 (strA t25)) fun v26 h_39 =>
      obind (nilC t0) fun t27 =>
      obind (fldP 1 t27) fun t28 =>
      obind (stRow h_39 1 (AV.cells v26) t28) fun h_43 =>
      k26 h_43)
    (
      lett ((t13 : Int) == 1) fun (t30 : Bool) =>
      lett (fun  (h_48 : AHeap) =>
        k26 h_48) fun k47 =>
      ifB t30
      (
        obind (nilC t0) fun t33 =>
        obind (fldP 1 t33) fun t34 =>
        obind (ldCell h_18 t34) fun v35 =>
        obind (ldCell h_18 (AV.ptr (AHeap.next h_7) 2)) fun v37 =>
        obind (avInt .i64 v37) fun t37 =>
        outK (sliceA Try.prog h_18 49 v35 none (some (.int .i64 t37))) fun v38 h_54 =>
        obind (nilC t0) fun t39 =>
        obind (fldP 1 t39) fun t40 =>
        obind (stRow h_54 1 (AV.cells v38) t40) fun h_58 =>
        k47 h_58)
      (
        lett ((t13 : Int) == 2) fun (t42 : Bool) =>
        lett (fun  (h_63 : AHeap) =>
          k47 h_63) fun k62 =>
        ifB t42
        (
          obind (nilC t0) fun t45 =>
          obind (stRow h_18 2 ([.bool false, .nsl] : List AV) t45) fun h_65 =>
          k62 h_65)
        (
          k62 h_18))))
  (
    k4 h_7)
noncomputable def disk_content_do_L0 (t0 : AV) (t1 : AV) (t7 : Int) (k4 : AHeap → R) : Nat → Int → AHeap → R := iterR (fun _ _ => none) (disk_content_do_L0b t0 t1 t7 k4)
theorem disk_content_do_L0_s (t0 : AV) (t1 : AV) (t7 : Int) (k4 : AHeap → R) (m : Nat) : disk_content_do_L0 t0 t1 t7 k4 (m + 1) = disk_content_do_L0b t0 t1 t7 k4 (disk_content_do_L0 t0 t1 t7 k4 m) := rfl
noncomputable def disk_content_do (_ : CallF) (n : Nat) (t0 : AV) (t1 : AV) (h : AHeap) : R :=
  obind (lenL t1) fun t7 =>
  lett (fun  (h_5 : AHeap) =>
    some (.ret (.tup []), h_5)) fun k4 =>
  disk_content_do_L0 t0 t1 t7 k4 n 0 h
set_option maxHeartbeats 4000000 in
set_option maxRecDepth 20000 in
theorem disk_content_do_ok {call : CallF} (hc : SaysAll Try.prog call) {n : Nat} {t0 : AV} {t1 : AV} {h : AHeap} {rR : ARes} {hR : AHeap} (hF : disk_content_do call n t0 t1 h = some (rR, hR)) : Says Try.prog 29 [t0, t1] h rR hR := by
  unfold disk_content_do at hF
  refine sO Try.func29 fun w0 m0 => ?_
  refine wW [(0, t0), (1, t1)] ?_
  refine oG fun n1 => W.r ?_
  refine oA 6 t1 ?_
  refine oM 7 52 61 hF fun t7 hF => ?_
  refine oA 8 (.int .i64 0) ?_
  refine oV [(0, t0), (6, t1), (7, .int .i64 t7), (8, .int .i64 0)] (n1 ?_)
  obtain ⟨k4, e4, hF⟩ := lett_some hF
  have J4 : ∀  (h_5 : AHeap), k4 h_5 = some (rR, hR) → Go w0 m0 (Func.ntmps Try.f29) (Fin Try.prog Try.f29 w0 m0 rR hR .normal) [] [] h_5 := by
    intro  h_5 hF
    rw [e4] at hF
    exact lY hF [] [] res_nil
  refine W.blockK (by kernel_rfl) (fun K3 n3 s3 o3 q3 p3 => ?_)
  refine W.loopK (by kernel_rfl) (fun I6 K6 b6 n6 e6 q6 p6 => ?_)
  have L6 : ∀ (m : Nat) (t8 : Int) (h_7 : AHeap), disk_content_do_L0 t0 t1 t7 k4 m t8 h_7 = some (rR, hR) → Go w0 m0 (Func.ntmps Try.f29) I6 [(0, t0), (6, t1), (7, .int .i64 t7), (8, .int .i64 t8)] [] h_7 := by
    intro m
    induction m with
    | zero => intro t8 h_7 hF; cases hF
    | succ m ih6 =>
      intro t8 h_7 hF
      rw [disk_content_do_L0_s] at hF; unfold disk_content_do_L0b at hF
      refine b6 ?_
      refine oG fun n8 => W.r ?_
      refine oB 9 hF fun t9 hF => ?_
      refine oV [(0, t0), (6, t1), (7, .int .i64 t7), (8, .int .i64 t8), (9, .bool t9)] (n8 ?_)
      refine W.s (fun K10 n10 e10 q10 p10 => ?_)
      cases t9 with
      | true =>
        refine oT hF fun hF => ?_
        refine oZ (n10 ?_)
        refine oG fun n11 => ?_
        refine W.blockK (by kernel_rfl) (fun K12 n12 s12 o12 q12 p12 => ?_)
        refine oG fun n13 => W.r ?_
        refine oP 10 52 61 .i64 hF fun t10 hF => ?_
        refine oR 11 61 hF fun t11 hF => ?_
        refine oN 5 hF fun h_16 hF => ?_
        refine oW 61 (.agg t11) hF fun h_18 hF => ?_
        refine oV [(0, t0), (5, (newP h_7)), (6, t1), (7, .int .i64 t7), (8, .int .i64 t8)] (n13 ?_)
        refine oG fun n20 => W.r ?_
        refine oA 12 (AV.ptr (AHeap.next h_7) 0) ?_
        refine oLi 13 59 hF fun t13 hF => ?_
        refine oV [(0, t0), (5, (newP h_7)), (6, t1), (7, .int .i64 t7), (8, .int .i64 t8), (13, .int .i64 t13)] (n20 ?_)
        refine W.blockK (by kernel_rfl) (fun K23 n23 s23 o23 q23 p23 => ?_)
        refine oG fun n24 => W.r ?_
        refine oB 15 hF fun t15 hF => ?_
        refine oA 14 (.bool t15) ?_
        refine oV [(0, t0), (5, (newP h_7)), (6, t1), (7, .int .i64 t7), (8, .int .i64 t8), (13, .int .i64 t13), (14, .bool t15)] (n24 ?_)
        obtain ⟨k26, e26, hF⟩ := lett_some hF
        have J26 : ∀  (h_27 : AHeap), k26 h_27 = some (rR, hR) → Go w0 m0 (Func.ntmps Try.f29) (K23 .normal) [(0, t0), (6, t1), (7, .int .i64 t7), (8, .int .i64 t8)] [] h_27 := by
          intro  h_27 hF
          rw [e26] at hF
          refine n23 (n12 (n11 (W.r ?_)))
          refine oI 46 .i64 hF fun t46 hF => ?_
          refine oA 8 (.int .i64 t46) ?_
          refine oV [(0, t0), (6, t1), (7, .int .i64 t7), (8, .int .i64 t46)] (n6 ?_)
          exact gW _ (ih6 _ _ hF)
        cases t15 with
        | true =>
          refine oT hF fun hF => ?_
          refine oG fun n29 => W.r ?_
          refine oA 16 t0 ?_
          refine oC0 17 hF fun t17 hF => ?_
          refine oF 18 51 0 hF fun t18 hF => ?_
          refine oW 4 (.bool true) hF fun h_32 hF => ?_
          refine oV [(0, t0), (5, (newP h_7)), (6, t1), (7, .int .i64 t7), (8, .int .i64 t8)] (n29 ?_)
          refine W.draw (by kernel_rfl) (hc.ok w0) (plan := [0, 1, 2, 3, 4, 5, 6, 7, 8, 9, 10]) (by kernel_rfl) (by kernel_rfl) (by kernel_rfl) ?_
          refine WD.a 0 (some 19) t0 h_32 ?_
          refine WD.a 0 (some 20) t0 h_32 ?_
          obtain ⟨t21, e34, hF⟩ := obind_some hF
          refine WD.b 0 (some 21) t21 h_32 (nil_chk (h := h_32) e34) ?_
          obtain ⟨t22, e35, hF⟩ := obind_some hF
          refine WD.b 0 (some 22) t22 h_32 (field_ptr (P := Try.prog) (h := h_32) (s := 51) (f := 1) (by kernel_rfl) e35) ?_
          obtain ⟨v23, e36, hF⟩ := obind_some hF
          refine WD.b 1 (some 23) v23 h_32 (load_cell (P := Try.prog) (h := h_32) (t := 49) (by kernel_rfl) e36) ?_
          refine WD.a 0 (some 24) (AV.ptr (AHeap.next h_7) 1) h_32 ?_
          replace hF := obind_some hF; obtain ⟨v25, e37, hF⟩ := hF
          replace hF := obind_some hF; obtain ⟨t25, c38, hF⟩ := hF
          have c38 := avStr_some c38
          subst c38
          refine WD.b 1 (some 25) (strA t25) h_32 (load_cell (P := Try.prog) (h := h_32) (t := 9) (by kernel_rfl) e37) ?_
          obtain ⟨v26, h_39, e40, hF⟩ := outK_some hF
          refine WD.val (d := (some 26)) (v := v26) (h' := h_39) (by kernel_rfl) (by kernel_rfl) (Eq.trans (by kernel_rfl) e40) (k := 2) (by kernel_rfl) (fun _ => (by kernel_rfl)) (by decide) ?_
          obtain ⟨t27, e41, hF⟩ := obind_some hF
          refine WD.b 0 (some 27) t27 h_39 (nil_chk (h := h_39) e41) ?_
          obtain ⟨t28, e42, hF⟩ := obind_some hF
          refine WD.b 0 (some 28) t28 h_39 (field_ptr (P := Try.prog) (h := h_39) (s := 51) (f := 1) (by kernel_rfl) e42) ?_
          obtain ⟨h_43, e44, hF⟩ := obind_some hF
          refine WD.eff (h' := h_43) (by kernel_rfl) (by kernel_rfl) (Eq.trans (by kernel_rfl) (store_row (P := Try.prog) (h := h_39) (t := 49) (v := v26) (by kernel_rfl) (by kernel_rfl) e44)) (k := 2) (by kernel_rfl) (fun _ => (by kernel_rfl)) (by decide) ?_
          refine WD.nil ?_
          refine gW [(0, t0), (6, t1), (7, .int .i64 t7), (8, .int .i64 t8)] ?_
          exact gW _ (J26 _ hF)
        | false =>
          refine oU hF fun hF => ?_
          refine oG fun n45 => W.r ?_
          refine oB 30 hF fun t30 hF => ?_
          refine oA 29 (.bool t30) ?_
          refine oV [(0, t0), (5, (newP h_7)), (6, t1), (7, .int .i64 t7), (8, .int .i64 t8), (13, .int .i64 t13), (29, .bool t30)] (n45 ?_)
          obtain ⟨k47, e47, hF⟩ := lett_some hF
          have J47 : ∀  (h_48 : AHeap), k47 h_48 = some (rR, hR) → Go w0 m0 (Func.ntmps Try.f29) (K23 .normal) [(0, t0), (6, t1), (7, .int .i64 t7), (8, .int .i64 t8)] [] h_48 := by
            intro  h_48 hF
            rw [e47] at hF
            exact gW _ (J26 _ hF)
          cases t30 with
          | true =>
            refine oT hF fun hF => ?_
            refine W.draw (by kernel_rfl) (hc.ok w0) (plan := [0, 1, 2, 3, 4, 5, 6, 7, 8, 9, 10]) (by kernel_rfl) (by kernel_rfl) (by kernel_rfl) ?_
            refine WD.a 0 (some 31) t0 h_18 ?_
            refine WD.a 0 (some 32) t0 h_18 ?_
            obtain ⟨t33, e49, hF⟩ := obind_some hF
            refine WD.b 0 (some 33) t33 h_18 (nil_chk (h := h_18) e49) ?_
            obtain ⟨t34, e50, hF⟩ := obind_some hF
            refine WD.b 0 (some 34) t34 h_18 (field_ptr (P := Try.prog) (h := h_18) (s := 51) (f := 1) (by kernel_rfl) e50) ?_
            obtain ⟨v35, e51, hF⟩ := obind_some hF
            refine WD.b 1 (some 35) v35 h_18 (load_cell (P := Try.prog) (h := h_18) (t := 49) (by kernel_rfl) e51) ?_
            refine WD.a 0 (some 36) (AV.ptr (AHeap.next h_7) 2) h_18 ?_
            replace hF := obind_some hF; obtain ⟨v37, e52, hF⟩ := hF
            replace hF := obind_some hF; obtain ⟨t37, c53, hF⟩ := hF
            have c53 := avInt_some c53
            subst c53
            refine WD.b 1 (some 37) (.int .i64 t37) h_18 (load_cell (P := Try.prog) (h := h_18) (t := 3) (by kernel_rfl) e52) ?_
            obtain ⟨v38, h_54, e55, hF⟩ := outK_some hF
            refine WD.b 0 (some 38) v38 h_54 e55 ?_
            obtain ⟨t39, e56, hF⟩ := obind_some hF
            refine WD.b 0 (some 39) t39 h_54 (nil_chk (h := h_54) e56) ?_
            obtain ⟨t40, e57, hF⟩ := obind_some hF
            refine WD.b 0 (some 40) t40 h_54 (field_ptr (P := Try.prog) (h := h_54) (s := 51) (f := 1) (by kernel_rfl) e57) ?_
            obtain ⟨h_58, e59, hF⟩ := obind_some hF
            refine WD.eff (h' := h_58) (by kernel_rfl) (by kernel_rfl) (Eq.trans (by kernel_rfl) (store_row (P := Try.prog) (h := h_54) (t := 49) (v := v38) (by kernel_rfl) (by kernel_rfl) e59)) (k := 2) (by kernel_rfl) (fun _ => (by kernel_rfl)) (by decide) ?_
            refine WD.nil ?_
            refine gW [(0, t0), (6, t1), (7, .int .i64 t7), (8, .int .i64 t8)] ?_
            exact gW _ (J47 _ hF)
          | false =>
            refine oU hF fun hF => ?_
            refine oG fun n60 => W.r ?_
            refine oB 42 hF fun t42 hF => ?_
            refine oA 41 (.bool t42) ?_
            refine oV [(0, t0), (6, t1), (7, .int .i64 t7), (8, .int .i64 t8), (41, .bool t42)] (n60 ?_)
            obtain ⟨k62, e62, hF⟩ := lett_some hF
            have J62 : ∀  (h_63 : AHeap), k62 h_63 = some (rR, hR) → Go w0 m0 (Func.ntmps Try.f29) (K23 .normal) [(0, t0), (6, t1), (7, .int .i64 t7), (8, .int .i64 t8)] [] h_63 := by
              intro  h_63 hF
              rw [e62] at hF
              exact gW _ (J47 _ hF)
            cases t42 with
            | true =>
              refine oT hF fun hF => ?_
              refine W.r ?_
              refine oA 43 t0 ?_
              refine oA 44 (.agg ([.bool false, .nsl] : List AV)) ?_
              refine oC0 45 hF fun t45 hF => ?_
              refine oW 51 (.agg ([.bool false, .nsl] : List AV)) hF fun h_65 hF => ?_
              refine oV [(0, t0), (6, t1), (7, .int .i64 t7), (8, .int .i64 t8)] ?_
              exact gW _ (J62 _ hF)
            | false =>
              refine oU hF fun hF => ?_
              refine oZ ?_
              exact gW _ (J62 _ hF)
      | false =>
        refine oU hF fun hF => ?_
        refine W.exit (by kernel_rfl) ?_
        refine e10 (e6 ?_)
        refine s3 (by kernel_rfl) ?_
        exact gW _ (J4 _ hF)
  exact gW _ (L6 _ _ _ hF)
noncomputable def disk_Disk_step (_ : CallF) (_ : Nat) (t0 : AV) (h : AHeap) : R :=
  obind (nilC t0) fun t3 =>
  obind (fldP 161 t3) fun t4 =>
  obind (ldCell h t4) fun v5 =>
  obind (avInt .i64 v5) fun t5 =>
  lett (IntKind.i64.wrap (t5 + 1)) fun (t6 : Int) =>
  obind (nilC t0) fun t7 =>
  obind (fldP 161 t7) fun t8 =>
  obind (stRow h 1 [.int .i64 t6] t8) fun h_9 =>
  obind (nilC t0) fun t10 =>
  obind (fldP 160 t10) fun t11 =>
  obind (ldCell h_9 t11) fun v12 =>
  obind (avInt .i64 v12) fun t12 =>
  lett (decide (t12 > 0)) fun (t13 : Bool) =>
  lett (fun  (h_18 : AHeap) =>
    some (.ret (.tup []), h_18)) fun k17 =>
  ifB t13
  (
    obind (nilC t0) fun t15 =>
    obind (fldP 160 t15) fun t16 =>
    obind (ldCell h_9 t16) fun v17 =>
    obind (avInt .i64 v17) fun t17 =>
    lett (IntKind.i64.wrap (t17 - 1)) fun (t18 : Int) =>
    obind (nilC t0) fun t19 =>
    obind (fldP 160 t19) fun t20 =>
    obind (stRow h_9 1 [.int .i64 t18] t20) fun h_26 =>
    k17 h_26)
  (
    k17 h_9)
set_option maxHeartbeats 4000000 in
set_option maxRecDepth 20000 in
theorem disk_Disk_step_ok {call : CallF} (_ : SaysAll Try.prog call) {n : Nat} {t0 : AV} {h : AHeap} {rR : ARes} {hR : AHeap} (hF : disk_Disk_step call n t0 h = some (rR, hR)) : Says Try.prog 30 [t0] h rR hR := by
  unfold disk_Disk_step at hF
  refine sO Try.func30 fun w0 m0 => ?_
  refine wW [(0, t0)] ?_
  refine oG fun n1 => W.r ?_
  refine oA 2 t0 ?_
  refine oC0 3 hF fun t3 hF => ?_
  refine oF 4 57 2 hF fun t4 hF => ?_
  refine oLi 5 3 hF fun t5 hF => ?_
  refine oI 6 .i64 hF fun t6 hF => ?_
  refine oC0 7 hF fun t7 hF => ?_
  refine oF 8 57 2 hF fun t8 hF => ?_
  refine oW 3 (.int .i64 t6) hF fun h_9 hF => ?_
  refine oV [(0, t0)] (n1 ?_)
  refine oG fun n11 => W.r ?_
  refine oA 9 t0 ?_
  refine oC0 10 hF fun t10 hF => ?_
  refine oF 11 57 1 hF fun t11 hF => ?_
  refine oLi 12 3 hF fun t12 hF => ?_
  refine oB 13 hF fun t13 hF => ?_
  refine oV [(0, t0), (13, .bool t13)] (n11 ?_)
  obtain ⟨k17, e17, hF⟩ := lett_some hF
  have J17 : ∀  (h_18 : AHeap), k17 h_18 = some (rR, hR) → Go w0 m0 (Func.ntmps Try.f30) (Fin Try.prog Try.f30 w0 m0 rR hR .normal) [] [] h_18 := by
    intro  h_18 hF
    rw [e17] at hF
    exact lY hF [] [] res_nil
  cases t13 with
  | true =>
    refine oT hF fun hF => ?_
    refine W.r ?_
    refine oA 14 t0 ?_
    refine oC0 15 hF fun t15 hF => ?_
    refine oF 16 57 1 hF fun t16 hF => ?_
    refine oLi 17 3 hF fun t17 hF => ?_
    refine oI 18 .i64 hF fun t18 hF => ?_
    refine oC0 19 hF fun t19 hF => ?_
    refine oF 20 57 1 hF fun t20 hF => ?_
    refine oW 3 (.int .i64 t18) hF fun h_26 hF => ?_
    refine oV [] ?_
    exact gW _ (J17 _ hF)
  | false =>
    refine oU hF fun hF => ?_
    refine oZ ?_
    exact gW _ (J17 _ hF)
noncomputable def disk_isFile (_ : CallF) (_ : Nat) (t0 : Int) (h : AHeap) : R :=
  lett (decide (t0 ≥ 0)) fun (t4 : Bool) =>
  lett (fun (t8 : Bool) (h_4 : AHeap) =>
    some (.ret (.bool t8), h_4)) fun j8 =>
  ifB t4
  (
    lett (decide (t0 < 32)) fun (t7 : Bool) =>
    j8 t7 h)
  (
    j8 false h)
set_option maxHeartbeats 4000000 in
set_option maxRecDepth 20000 in
theorem disk_isFile_ok {call : CallF} (_ : SaysAll Try.prog call) {n : Nat} {t0 : Int} {h : AHeap} {rR : ARes} {hR : AHeap} (hF : disk_isFile call n t0 h = some (rR, hR)) : Says Try.prog 31 [.int .i64 t0] h rR hR := by
  unfold disk_isFile at hF
  refine sO Try.func31 fun w0 m0 => ?_
  refine wW [(0, .int .i64 t0)] ?_
  refine oG fun n1 => W.r ?_
  refine oA 2 (.bool false) ?_
  refine oV [(0, .int .i64 t0)] (n1 ?_)
  refine W.s (fun K2 n2 e2 q2 p2 => ?_)
  refine W.r ?_
  refine oA 3 (.int .i64 t0) ?_
  refine oB 4 hF fun t4 hF => ?_
  refine oA 5 (.bool t4) ?_
  obtain ⟨j8, e5, hF⟩ := lett_some hF
  have J6 : ∀ (t8 : Bool) (h_4 : AHeap), j8 t8 h_4 = some (rR, hR) → WL Try.prog w0 m0 (Func.ntmps Try.f31) (Code.ops (Code.p1 (Code.p2 (codeOf Try.f31)))) 6 K2 [(8, .bool t8)] [] h_4 := by
    intro t8 h_4 hF
    rw [e5] at hF
    refine oA 2 (.bool t8) ?_
    refine oV [(2, .bool t8)] (n2 (oY ?_))
    exact lZ hF [.tmp 2] [.bool t8] (rT res_nil)
  cases t4 with
  | true =>
    replace hF := ifB_t hF
    refine oA 6 (.int .i64 t0) ?_
    refine oB 7 hF fun t7 hF => ?_
    refine oA 8 (.bool t7) ?_
    exact lW _ (J6 _ _ hF)
  | false =>
    replace hF := ifB_f hF
    refine WL.o (some 6) ?_
    refine WL.o (some 7) ?_
    refine oA 8 (.bool false) ?_
    exact lW _ (J6 _ _ hF)
noncomputable def law04_heavy_L0b (t0 : AV) (t7 : Int) (k7 : AHeap → R) (self : Int → Int → AHeap → R) (t3 : Int) (t8 : Int) (h_13 : AHeap) : R :=
  lett (decide (t8 < t7)) fun (t9 : Bool) =>
  ifB t9
  (
    obind (idxP 5 t0 t8) fun t10 =>
    obind (ldRow h_13 5 t10) fun t11 =>
    lett (newH h_13 43 [.int .i64 0, .int .i64 0, .int .i64 0, .str 0 0, .nsl]) fun h_22 =>
    obind (stRow h_22 5 t11 (newP h_13)) fun h_24 =>
    obind (ldCell h_24 (AV.ptr (AHeap.next h_13) 3)) fun v13 =>
    obind (avStr v13) fun t13 =>
    lett (IntKind.i64.wrap (16384 - t3)) fun (t16 : Int) =>
    lett (decide ((lenS t13) > t16)) fun (t17 : Bool) =>
    ifB t17
    (
      some (.ret (.bool true), h_24))
    (
      obind (ldCell h_24 (AV.ptr (AHeap.next h_13) 3)) fun v20 =>
      obind (avStr v20) fun t20 =>
      lett (IntKind.i64.wrap (t3 + (lenS t20))) fun (t22 : Int) =>
      lett (IntKind.i64.wrap (t8 + 1)) fun (t23 : Int) =>
      self t22 t23 h_24))
  (
    k7 h_13)
noncomputable def law04_heavy_L0 (t0 : AV) (t7 : Int) (k7 : AHeap → R) : Nat → Int → Int → AHeap → R := iterR (fun _ _ _ => none) (law04_heavy_L0b t0 t7 k7)
theorem law04_heavy_L0_s (t0 : AV) (t7 : Int) (k7 : AHeap → R) (m : Nat) : law04_heavy_L0 t0 t7 k7 (m + 1) = law04_heavy_L0b t0 t7 k7 (law04_heavy_L0 t0 t7 k7 m) := rfl
noncomputable def law04_heavy (_ : CallF) (n : Nat) (t0 : AV) (h : AHeap) : R :=
  obind (lenL t0) fun t7 =>
  lett (fun  (h_8 : AHeap) =>
    obind (lenL t0) fun t25 =>
    lett (decide (t25 > 100)) fun (t26 : Bool) =>
    some (.ret (.bool t26), h_8)) fun k7 =>
  law04_heavy_L0 t0 t7 k7 n 0 0 h
set_option maxHeartbeats 4000000 in
set_option maxRecDepth 20000 in
theorem law04_heavy_ok {call : CallF} (_ : SaysAll Try.prog call) {n : Nat} {t0 : AV} {h : AHeap} {rR : ARes} {hR : AHeap} (hF : law04_heavy call n t0 h = some (rR, hR)) : Says Try.prog 22 [t0] h rR hR := by
  unfold law04_heavy at hF
  refine sO Try.func22 fun w0 m0 => ?_
  refine wW [(0, t0)] ?_
  refine oG fun n1 => W.r ?_
  refine oA 2 (.bool false) ?_
  refine oV [(0, t0)] (n1 ?_)
  refine oG fun n2 => W.r ?_
  refine oA 3 (.int .i64 0) ?_
  refine oV [(0, t0), (3, .int .i64 0)] (n2 ?_)
  refine W.s (fun K3 n3 e3 q3 p3 => ?_)
  refine oG fun n4 => W.r ?_
  refine oA 6 t0 ?_
  refine oM 7 38 43 hF fun t7 hF => ?_
  refine oA 8 (.int .i64 0) ?_
  refine oV [(0, t0), (3, .int .i64 0), (6, t0), (7, .int .i64 t7), (8, .int .i64 0)] (n4 ?_)
  obtain ⟨k7, e7, hF⟩ := lett_some hF
  have J7 : ∀  (h_8 : AHeap), k7 h_8 = some (rR, hR) → Go w0 m0 (Func.ntmps Try.f22) (K3 .normal) [(0, t0)] [] h_8 := by
    intro  h_8 hF
    rw [e7] at hF
    refine n3 ?_
    refine oG fun n9 => W.r ?_
    refine oA 24 t0 ?_
    refine oM 25 38 43 hF fun t25 hF => ?_
    refine oB 26 hF fun t26 hF => ?_
    refine oA 2 (.bool t26) ?_
    refine oV [(2, .bool t26)] (n9 (oY ?_))
    exact lZ hF [.tmp 2] [.bool t26] (rT res_nil)
  refine W.blockK (by kernel_rfl) (fun K6 n6 s6 o6 q6 p6 => ?_)
  refine W.loopK (by kernel_rfl) (fun I12 K12 b12 n12 e12 q12 p12 => ?_)
  have L12 : ∀ (m : Nat) (t3 : Int) (t8 : Int) (h_13 : AHeap), law04_heavy_L0 t0 t7 k7 m t3 t8 h_13 = some (rR, hR) → Go w0 m0 (Func.ntmps Try.f22) I12 [(0, t0), (3, .int .i64 t3), (6, t0), (7, .int .i64 t7), (8, .int .i64 t8)] [] h_13 := by
    intro m
    induction m with
    | zero => intro t3 t8 h_13 hF; cases hF
    | succ m ih12 =>
      intro t3 t8 h_13 hF
      rw [law04_heavy_L0_s] at hF; unfold law04_heavy_L0b at hF
      refine b12 ?_
      refine oG fun n14 => W.r ?_
      refine oB 9 hF fun t9 hF => ?_
      refine oV [(0, t0), (3, .int .i64 t3), (6, t0), (7, .int .i64 t7), (8, .int .i64 t8), (9, .bool t9)] (n14 ?_)
      refine W.s (fun K16 n16 e16 q16 p16 => ?_)
      cases t9 with
      | true =>
        refine oT hF fun hF => ?_
        refine oZ (n16 ?_)
        refine oH fun n17 q17 => ?_
        refine W.blockK (by kernel_rfl) (fun K18 n18 s18 o18 q18 p18 => ?_)
        refine oG fun n19 => W.r ?_
        refine oP 10 38 43 .i64 hF fun t10 hF => ?_
        refine oR 11 43 hF fun t11 hF => ?_
        refine oN 5 hF fun h_22 hF => ?_
        refine oW 43 (.agg t11) hF fun h_24 hF => ?_
        refine oV [(0, t0), (3, .int .i64 t3), (5, (newP h_13)), (6, t0), (7, .int .i64 t7), (8, .int .i64 t8)] (n19 ?_)
        refine oH fun n26 q26 => ?_
        refine oG fun n27 => W.r ?_
        refine oA 12 (AV.ptr (AHeap.next h_13) 3) ?_
        refine oLs 13 9 hF fun t13 hF => ?_
        refine oA 14 (.int .i64 (lenS t13)) ?_
        refine oA 15 (.int .i64 t3) ?_
        refine oI 16 .i64 hF fun t16 hF => ?_
        refine oB 17 hF fun t17 hF => ?_
        refine oV [(0, t0), (3, .int .i64 t3), (5, (newP h_13)), (6, t0), (7, .int .i64 t7), (8, .int .i64 t8), (17, .bool t17)] (n27 ?_)
        cases t17 with
        | true =>
          refine oT hF fun hF => ?_
          refine oG fun n32 => W.r ?_
          refine oA 2 (.bool true) ?_
          refine oV [(2, .bool true)] (n32 (oY (q26 (q18 (q17 (q12 (q6 (q3 ?_))))))))
          exact lZ hF [.tmp 2] [.bool true] (rT res_nil)
        | false =>
          refine oU hF fun hF => ?_
          refine oZ (n26 (W.r ?_))
          refine oA 18 (.int .i64 t3) ?_
          refine oA 19 (AV.ptr (AHeap.next h_13) 3) ?_
          refine oLs 20 9 hF fun t20 hF => ?_
          refine oA 21 (.int .i64 (lenS t20)) ?_
          refine oI 22 .i64 hF fun t22 hF => ?_
          refine oA 3 (.int .i64 t22) ?_
          refine oV [(0, t0), (3, .int .i64 t22), (6, t0), (7, .int .i64 t7), (8, .int .i64 t8)] (n18 (n17 (W.r ?_)))
          refine oI 23 .i64 hF fun t23 hF => ?_
          refine oA 8 (.int .i64 t23) ?_
          refine oV [(0, t0), (3, .int .i64 t22), (6, t0), (7, .int .i64 t7), (8, .int .i64 t23)] (n12 ?_)
          exact gW _ (ih12 _ _ _ hF)
      | false =>
        refine oU hF fun hF => ?_
        refine W.exit (by kernel_rfl) ?_
        refine e16 (e12 ?_)
        refine s6 (by kernel_rfl) ?_
        exact gW _ (J7 _ hF)
  exact gW _ (L12 _ _ _ _ hF)
end Go.Proofs.Ytcbnpdfingfmgaa
