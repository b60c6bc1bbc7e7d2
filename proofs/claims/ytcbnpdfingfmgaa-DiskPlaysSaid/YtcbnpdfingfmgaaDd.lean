/- Plain functions in place of the program's, and that their calls come to what they say. -/
import Derived.Test.YtcbnpdfingfmgaaFrame
import Derived.Test.YtcbnpdfingfmgaaAbs54
namespace Go.Proofs.Ytcbnpdfingfmgaa
open Go.RowKit Abs

noncomputable def disk_Disk_Read (call : CallF) (_ : Nat) (t0 : AV) (t1 : Int) (h : AHeap) : R :=
  callN (call 27 [t0, .int .i64 t1] h) fun r10 h_4 =>
  obind (avInt .i64 r10) fun t10 =>
  lett ((t10 : Int) != 0) fun (t12 : Bool) =>
  ifB t12
  (
    some (.ret (.tup [strA ([] : Bytes), .int .i64 t10]), h_4))
  (
    obind (nilC t0) fun t16 =>
    obind (fldP 0 t16) fun t17 =>
    obind (idxA 32 5 t17 t1) fun t18 =>
    obind (fldP 2 t18) fun t19 =>
    obind (nilC t19) fun t21 =>
    obind (fldP 0 t21) fun t22 =>
    obind (ldCell h_4 t22) fun v23 =>
    obind (avBool v23) fun t23 =>
    lett (!t23) fun (t24 : Bool) =>
    ifB t24
    (
      some (.ret (.tup [strA ([] : Bytes), .int .i64 4]), h_4))
    (
      obind (nilC t19) fun t26 =>
      obind (fldP 1 t26) fun t27 =>
      obind (ldCell h_4 t27) fun v28 =>
      outK (opConv Try.prog h_4 49 9 (some v28)) fun v29 h_27 =>
      obind (avStr v29) fun t29 =>
      some (.ret (.tup [strA t29, .int .i64 0]), h_27)))
set_option maxHeartbeats 4000000 in
set_option maxRecDepth 20000 in
theorem disk_Disk_Read_ok {call : CallF} (hc : SaysAll Try.prog call) {n : Nat} {t0 : AV} {t1 : Int} {h : AHeap} {rR : ARes} {hR : AHeap} (hF : disk_Disk_Read call n t0 t1 h = some (rR, hR)) : Says Try.prog 11 [t0, .int .i64 t1] h rR hR := by
  unfold disk_Disk_Read at hF
  refine sO Try.func11 fun w0 m0 => ?_
  refine wW [(0, t0), (1, .int .i64 t1)] ?_
  refine oG fun n1 => W.r ?_
  refine oA 4 (strA ([] : Bytes)) ?_
  refine oA 5 (.int .i64 0) ?_
  refine oV [(0, t0), (1, .int .i64 t1)] (n1 ?_)
  refine oH fun n2 q2 => ?_
  refine oG fun n3 => W.r ?_
  refine oA 8 t0 ?_
  refine oA 9 (.int .i64 t1) ?_
  refine oCi hc 10 hF fun t10 h_4 hF => ?_
  refine oA 6 (.int .i64 t10) ?_
  refine oV [(0, t0), (1, .int .i64 t1), (6, .int .i64 t10)] (n3 ?_)
  refine oG fun n7 => W.r ?_
  refine oA 11 (.int .i64 t10) ?_
  refine oB 12 hF fun t12 hF => ?_
  refine oV [(0, t0), (1, .int .i64 t1), (6, .int .i64 t10), (12, .bool t12)] (n7 ?_)
  cases t12 with
  | true =>
    refine oT hF fun hF => ?_
    refine oG fun n9 => W.r ?_
    refine oA 13 (.int .i64 t10) ?_
    refine oA 4 (strA ([] : Bytes)) ?_
    refine oA 5 (.int .i64 t10) ?_
    refine oV [(4, strA ([] : Bytes)), (5, .int .i64 t10)] (n9 (oY (q2 ?_)))
    exact lZ hF [.tmp 4, .tmp 5] [strA ([] : Bytes), .int .i64 t10] (rT (rT res_nil))
  | false =>
    refine oU hF fun hF => ?_
    refine oZ (n2 ?_)
    refine oG fun n10 => W.r ?_
    refine oA 14 t0 ?_
    refine oA 15 (.int .i64 t1) ?_
    refine oC0 16 hF fun t16 hF => ?_
    refine oF 17 57 0 hF fun t17 hF => ?_
    refine oQ 18 55 54 .i64 hF fun t18 hF => ?_
    refine oF 19 54 1 hF fun t19 hF => ?_
    refine oA 7 t19 ?_
    refine oV [(7, t19)] (n10 ?_)
    refine oH fun n15 q15 => ?_
    refine oG fun n16 => W.r ?_
    refine oA 20 t19 ?_
    refine oC0 21 hF fun t21 hF => ?_
    refine oF 22 51 0 hF fun t22 hF => ?_
    refine oLb 23 4 hF fun t23 hF => ?_
    refine oB 24 hF fun t24 hF => ?_
    refine oV [(7, t19), (24, .bool t24)] (n16 ?_)
    cases t24 with
    | true =>
      refine oT hF fun hF => ?_
      refine oG fun n22 => W.r ?_
      refine oA 4 (strA ([] : Bytes)) ?_
      refine oA 5 (.int .i64 4) ?_
      refine oV [(4, strA ([] : Bytes)), (5, .int .i64 4)] (n22 (oY (q15 ?_)))
      exact lZ hF [.tmp 4, .tmp 5] [strA ([] : Bytes), .int .i64 4] (rT (rT res_nil))
    | false =>
      refine oU hF fun hF => ?_
      refine oZ (n15 ?_)
      refine oG fun n23 => W.r ?_
      refine oA 25 t19 ?_
      refine oC0 26 hF fun t26 hF => ?_
      refine oF 27 51 1 hF fun t27 hF => ?_
      refine oL 28 49 hF fun v28 hF => ?_
      replace hF := outK_some hF; obtain ⟨v29, h_27, e28, hF⟩ := hF
      replace hF := obind_some hF; obtain ⟨t29, c29, hF⟩ := hF
      have c29 := avStr_some c29
      subst c29
      refine WL.b (some 29) (strA t29) h_27 e28 ?_
      refine oA 4 (strA t29) ?_
      refine oA 5 (.int .i64 0) ?_
      refine oV [(4, strA t29), (5, .int .i64 0)] (n23 (oY ?_))
      exact lZ hF [.tmp 4, .tmp 5] [strA t29, .int .i64 0] (rT (rT res_nil))
noncomputable def disk_Disk_Sure (call : CallF) (_ : Nat) (t0 : AV) (t1 : Int) (h : AHeap) : R :=
  outK (opBin Try.prog h .eql 23 true (some t0) (some AV.nilp)) fun v8 h_4 =>
  obind (avBool v8) fun t8 =>
  lett (fun (t13 : Bool) (h_7 : AHeap) =>
    ifB t13
    (
      some (.ret (.tup [strA ([] : Bytes), .bool false]), h_7))
    (
      obind (nilC t0) fun t16 =>
      obind (fldP 0 t16) fun t17 =>
      obind (idxA 32 5 t17 t1) fun t18 =>
      obind (fldP 0 t18) fun t19 =>
      obind (nilC t19) fun t21 =>
      obind (fldP 1 t21) fun t22 =>
      obind (ldCell h_7 t22) fun v23 =>
      obind (nilC t19) fun t26 =>
      obind (fldP 0 t26) fun t27 =>
      obind (ldCell h_7 t27) fun v28 =>
      obind (avBool v28) fun t28 =>
      outK (opConv Try.prog h_7 49 9 (some v23)) fun v24 h_24 =>
      obind (avStr v24) fun t24 =>
      chk (reLoad Try.prog h_24 4 t27 (.bool t28) && (true && true)) <|
      some (.ret (.tup [strA t24, .bool t28]), h_24))) fun j13 =>
  ifB t8
  (
    j13 true h_4)
  (
    callN (call 31 [.int .i64 t1] h_4) fun r11 h_28 =>
    obind (avBool r11) fun t11 =>
    lett (!t11) fun (t12 : Bool) =>
    j13 t12 h_28)
set_option maxHeartbeats 4000000 in
set_option maxRecDepth 20000 in
theorem disk_Disk_Sure_ok {call : CallF} (hc : SaysAll Try.prog call) {n : Nat} {t0 : AV} {t1 : Int} {h : AHeap} {rR : ARes} {hR : AHeap} (hF : disk_Disk_Sure call n t0 t1 h = some (rR, hR)) : Says Try.prog 12 [t0, .int .i64 t1] h rR hR := by
  unfold disk_Disk_Sure at hF
  refine sO Try.func12 fun w0 m0 => ?_
  refine wW [(0, t0), (1, .int .i64 t1)] ?_
  refine oG fun n1 => W.r ?_
  refine oA 4 (strA ([] : Bytes)) ?_
  refine oA 5 (.bool false) ?_
  refine oV [(0, t0), (1, .int .i64 t1)] (n1 ?_)
  refine oH fun n2 q2 => ?_
  refine W.s (fun K3 n3 e3 q3 p3 => ?_)
  refine W.r ?_
  refine oA 7 t0 ?_
  replace hF := outK_some hF; obtain ⟨v8, h_4, e5, hF⟩ := hF
  replace hF := obind_some hF; obtain ⟨t8, c6, hF⟩ := hF
  have c6 := avBool_some c6
  subst c6
  refine WL.b (some 8) (.bool t8) h_4 e5 ?_
  refine oA 9 (.bool t8) ?_
  obtain ⟨j13, e8, hF⟩ := lett_some hF
  have J9 : ∀ (t13 : Bool) (h_7 : AHeap), j13 t13 h_7 = some (rR, hR) → WL Try.prog w0 m0 (Func.ntmps Try.f12) (Code.ops (Code.p1 (Code.p1 (Code.p2 (codeOf Try.f12))))) 7 K3 [(0, t0), (1, .int .i64 t1), (13, .bool t13)] [] h_7 := by
    intro t13 h_7 hF
    rw [e8] at hF
    refine oV [(0, t0), (1, .int .i64 t1), (13, .bool t13)] (n3 ?_)
    cases t13 with
    | true =>
      refine oT hF fun hF => ?_
      refine oG fun n10 => W.r ?_
      refine oA 4 (strA ([] : Bytes)) ?_
      refine oA 5 (.bool false) ?_
      refine oV [(4, strA ([] : Bytes)), (5, .bool false)] (n10 (oY (q2 ?_)))
      exact lZ hF [.tmp 4, .tmp 5] [strA ([] : Bytes), .bool false] (rT (rT res_nil))
    | false =>
      refine oU hF fun hF => ?_
      refine oZ (n2 ?_)
      refine oG fun n11 => W.r ?_
      refine oA 14 t0 ?_
      refine oA 15 (.int .i64 t1) ?_
      refine oC0 16 hF fun t16 hF => ?_
      refine oF 17 57 0 hF fun t17 hF => ?_
      refine oQ 18 55 54 .i64 hF fun t18 hF => ?_
      refine oF 19 54 0 hF fun t19 hF => ?_
      refine oA 6 t19 ?_
      refine oV [(6, t19)] (n11 ?_)
      refine oG fun n16 => ?_
      refine W.draw (by kernel_rfl) (hc.ok w0) (plan := [0, 1, 2, 3, 5, 6, 7, 8, 4, 9, 10]) (by kernel_rfl) (by kernel_rfl) (by kernel_rfl) ?_
      refine WD.a 0 (some 20) t19 h_7 ?_
      obtain ⟨t21, e17, hF⟩ := obind_some hF
      refine WD.b 0 (some 21) t21 h_7 (nil_chk (h := h_7) e17) ?_
      obtain ⟨t22, e18, hF⟩ := obind_some hF
      refine WD.b 0 (some 22) t22 h_7 (field_ptr (P := Try.prog) (h := h_7) (s := 51) (f := 1) (by kernel_rfl) e18) ?_
      obtain ⟨v23, e19, hF⟩ := obind_some hF
      refine WD.b 1 (some 23) v23 h_7 (load_cell (P := Try.prog) (h := h_7) (t := 49) (by kernel_rfl) e19) ?_
      refine WD.a 0 (some 25) t19 h_7 ?_
      obtain ⟨t26, e20, hF⟩ := obind_some hF
      refine WD.b 0 (some 26) t26 h_7 (nil_chk (h := h_7) e20) ?_
      obtain ⟨t27, e21, hF⟩ := obind_some hF
      refine WD.b 0 (some 27) t27 h_7 (field_ptr (P := Try.prog) (h := h_7) (s := 51) (f := 0) (by kernel_rfl) e21) ?_
      replace hF := obind_some hF; obtain ⟨v28, e22, hF⟩ := hF
      replace hF := obind_some hF; obtain ⟨t28, c23, hF⟩ := hF
      have c23 := avBool_some c23
      subst c23
      refine WD.b 1 (some 28) (.bool t28) h_7 (load_cell (P := Try.prog) (h := h_7) (t := 4) (by kernel_rfl) e22) ?_
      replace hF := outK_some hF; obtain ⟨v24, h_24, e25, hF⟩ := hF
      replace hF := obind_some hF; obtain ⟨t24, c26, hF⟩ := hF
      have c26 := avStr_some c26
      subst c26
      obtain ⟨k27, hF⟩ := chk_some hF
      refine WD.val (d := (some 24)) (v := strA t24) (h' := h_24) (by kernel_rfl) (by kernel_rfl) (Eq.trans (by kernel_rfl) e25) (k := 2) (by kernel_rfl) (fun _ => (Eq.trans (by kernel_rfl) k27)) (by decide) ?_
      refine WD.a 0 (some 4) (strA t24) h_24 ?_
      refine WD.a 0 (some 5) (.bool t28) h_24 ?_
      refine WD.nil ?_
      refine gW [(4, strA t24), (5, .bool t28)] (n16 (oY ?_))
      exact lZ hF [.tmp 4, .tmp 5] [strA t24, .bool t28] (rT (rT res_nil))
  cases t8 with
  | true =>
    replace hF := ifB_t hF
    refine WL.o (some 10) ?_
    refine WL.o (some 11) ?_
    refine WL.o (some 12) ?_
    refine oA 13 (.bool true) ?_
    exact lW _ (J9 _ _ hF)
  | false =>
    replace hF := ifB_f hF
    refine oA 10 (.int .i64 t1) ?_
    refine oCb hc 11 hF fun t11 h_28 hF => ?_
    refine oB 12 hF fun t12 hF => ?_
    refine oA 13 (.bool t12) ?_
    exact lW _ (J9 _ _ hF)
noncomputable def disk_Disk_Loose (call : CallF) (_ : Nat) (t0 : AV) (t1 : Int) (h : AHeap) : R :=
  outK (opBin Try.prog h .eql 23 true (some t0) (some AV.nilp)) fun v6 h_4 =>
  obind (avBool v6) fun t6 =>
  lett (fun (t11 : Bool) (h_7 : AHeap) =>
    ifB t11
    (
      some (.ret (.int .i64 0), h_7))
    (
      obind (nilC t0) fun t14 =>
      obind (fldP 0 t14) fun t15 =>
      obind (idxA 32 5 t15 t1) fun t16 =>
      obind (fldP 4 t16) fun t17 =>
      obind (ldCell h_7 t17) fun v18 =>
      obind (lenL v18) fun t19 =>
      some (.ret (.int .i64 t19), h_7))) fun j11 =>
  ifB t6
  (
    j11 true h_4)
  (
    callN (call 31 [.int .i64 t1] h_4) fun r9 h_18 =>
    obind (avBool r9) fun t9 =>
    lett (!t9) fun (t10 : Bool) =>
    j11 t10 h_18)
set_option maxHeartbeats 4000000 in
set_option maxRecDepth 20000 in
theorem disk_Disk_Loose_ok {call : CallF} (hc : SaysAll Try.prog call) {n : Nat} {t0 : AV} {t1 : Int} {h : AHeap} {rR : ARes} {hR : AHeap} (hF : disk_Disk_Loose call n t0 t1 h = some (rR, hR)) : Says Try.prog 13 [t0, .int .i64 t1] h rR hR := by
  unfold disk_Disk_Loose at hF
  refine sO Try.func13 fun w0 m0 => ?_
  refine wW [(0, t0), (1, .int .i64 t1)] ?_
  refine oG fun n1 => W.r ?_
  refine oA 4 (.int .i64 0) ?_
  refine oV [(0, t0), (1, .int .i64 t1)] (n1 ?_)
  refine oH fun n2 q2 => ?_
  refine W.s (fun K3 n3 e3 q3 p3 => ?_)
  refine W.r ?_
  refine oA 5 t0 ?_
  replace hF := outK_some hF; obtain ⟨v6, h_4, e5, hF⟩ := hF
  replace hF := obind_some hF; obtain ⟨t6, c6, hF⟩ := hF
  have c6 := avBool_some c6
  subst c6
  refine WL.b (some 6) (.bool t6) h_4 e5 ?_
  refine oA 7 (.bool t6) ?_
  obtain ⟨j11, e8, hF⟩ := lett_some hF
  have J9 : ∀ (t11 : Bool) (h_7 : AHeap), j11 t11 h_7 = some (rR, hR) → WL Try.prog w0 m0 (Func.ntmps Try.f13) (Code.ops (Code.p1 (Code.p1 (Code.p2 (codeOf Try.f13))))) 7 K3 [(0, t0), (1, .int .i64 t1), (11, .bool t11)] [] h_7 := by
    intro t11 h_7 hF
    rw [e8] at hF
    refine oV [(0, t0), (1, .int .i64 t1), (11, .bool t11)] (n3 ?_)
    cases t11 with
    | true =>
      refine oT hF fun hF => ?_
      refine oG fun n10 => W.r ?_
      refine oA 4 (.int .i64 0) ?_
      refine oV [(4, .int .i64 0)] (n10 (oY (q2 ?_)))
      exact lZ hF [.tmp 4] [.int .i64 0] (rT res_nil)
    | false =>
      refine oU hF fun hF => ?_
      refine oZ (n2 ?_)
      refine oG fun n11 => W.r ?_
      refine oA 12 t0 ?_
      refine oA 13 (.int .i64 t1) ?_
      refine oC0 14 hF fun t14 hF => ?_
      refine oF 15 57 0 hF fun t15 hF => ?_
      refine oQ 16 55 54 .i64 hF fun t16 hF => ?_
      refine oF 17 54 2 hF fun t17 hF => ?_
      refine oL 18 52 hF fun v18 hF => ?_
      refine oM 19 52 61 hF fun t19 hF => ?_
      refine oA 4 (.int .i64 t19) ?_
      refine oV [(4, .int .i64 t19)] (n11 (oY ?_))
      exact lZ hF [.tmp 4] [.int .i64 t19] (rT res_nil)
  cases t6 with
  | true =>
    replace hF := ifB_t hF
    refine WL.o (some 8) ?_
    refine WL.o (some 9) ?_
    refine WL.o (some 10) ?_
    refine oA 11 (.bool true) ?_
    exact lW _ (J9 _ _ hF)
  | false =>
    replace hF := ifB_f hF
    refine oA 8 (.int .i64 t1) ?_
    refine oCb hc 9 hF fun t9 h_18 hF => ?_
    refine oB 10 hF fun t10 hF => ?_
    refine oA 11 (.bool t10) ?_
    exact lW _ (J9 _ _ hF)
noncomputable def disk_Disk_Crash_L0b (call : CallF) (t0 : AV) (t1 : AV) (t2 : Int) (k11 : AHeap → R) (self : Int → AHeap → R) (t11 : Int) (h_20 : AHeap) : R :=
  lett (decide (t11 < 32)) fun (t12 : Bool) =>
  ifB t12
  (
    obind (lenL t1) fun t16 =>
    lett (decide (t11 < t16)) fun (t17 : Bool) =>
    lett (fun (t8 : Int) (h_33 : AHeap) =>
      obind (nilC t0) fun t24 =>
      obind (fldP 0 t24) fun t25 =>
      obind (idxA 32 5 t25 t11) fun t26 =>
      callN (call 32 [t26, .int .i64 t8, .int .i64 t2] h_33) fun _ h_37 =>
      lett (IntKind.i64.wrap (t11 + 1)) fun (t30 : Int) =>
      self t30 h_37) fun k32 =>
    ifB t17
    (
      obind (idxP 1 t1 t11) fun t20 =>
      obind (ldCell h_20 t20) fun v21 =>
      obind (avInt .i64 v21) fun t21 =>
      k32 t21 h_20)
    (
      k32 0 h_20))
  (
    k11 h_20)
noncomputable def disk_Disk_Crash_L0 (call : CallF) (t0 : AV) (t1 : AV) (t2 : Int) (k11 : AHeap → R) : Nat → Int → AHeap → R := iterR (fun _ _ => none) (disk_Disk_Crash_L0b call t0 t1 t2 k11)
theorem disk_Disk_Crash_L0_s (call : CallF) (t0 : AV) (t1 : AV) (t2 : Int) (k11 : AHeap → R) (m : Nat) : disk_Disk_Crash_L0 call t0 t1 t2 k11 (m + 1) = disk_Disk_Crash_L0b call t0 t1 t2 k11 (disk_Disk_Crash_L0 call t0 t1 t2 k11 m) := rfl
noncomputable def disk_Disk_Crash (call : CallF) (n : Nat) (t0 : AV) (t1 : AV) (t2 : Int) (h : AHeap) : R :=
  outK (opBin Try.prog h .eql 23 true (some t0) (some AV.nilp)) fun v10 h_4 =>
  obind (avBool v10) fun t10 =>
  ifB t10
  (
    some (.ret (.int .i64 1), h_4))
  (
    lett (fun  (h_12 : AHeap) =>
      obind (nilC t0) fun t32 =>
      obind (fldP 160 t32) fun t33 =>
      obind (stRow h_12 1 [.int .i64 (-1)] t33) fun h_16 =>
      some (.ret (.int .i64 0), h_16)) fun k11 =>
    disk_Disk_Crash_L0 call t0 t1 t2 k11 n 0 h_4)
set_option maxHeartbeats 4000000 in
set_option maxRecDepth 20000 in
theorem disk_Disk_Crash_ok {call : CallF} (hc : SaysAll Try.prog call) {n : Nat} {t0 : AV} {t1 : AV} {t2 : Int} {h : AHeap} {rR : ARes} {hR : AHeap} (hF : disk_Disk_Crash call n t0 t1 t2 h = some (rR, hR)) : Says Try.prog 14 [t0, t1, .int .i64 t2] h rR hR := by
  unfold disk_Disk_Crash at hF
  refine sO Try.func14 fun w0 m0 => ?_
  refine wW [(0, t0), (1, t1), (2, .int .i64 t2)] ?_
  refine oG fun n1 => W.r ?_
  refine oA 6 (.int .i64 0) ?_
  refine oV [(0, t0), (1, t1), (2, .int .i64 t2)] (n1 ?_)
  refine oH fun n2 q2 => ?_
  refine oG fun n3 => W.r ?_
  refine oA 9 t0 ?_
  replace hF := outK_some hF; obtain ⟨v10, h_4, e5, hF⟩ := hF
  replace hF := obind_some hF; obtain ⟨t10, c6, hF⟩ := hF
  have c6 := avBool_some c6
  subst c6
  refine WL.b (some 10) (.bool t10) h_4 e5 ?_
  refine oV [(0, t0), (1, t1), (2, .int .i64 t2), (10, .bool t10)] (n3 ?_)
  cases t10 with
  | true =>
    refine oT hF fun hF => ?_
    refine oG fun n7 => W.r ?_
    refine oA 6 (.int .i64 1) ?_
    refine oV [(6, .int .i64 1)] (n7 (oY (q2 ?_)))
    exact lZ hF [.tmp 6] [.int .i64 1] (rT res_nil)
  | false =>
    refine oU hF fun hF => ?_
    refine oZ (n2 ?_)
    refine W.s (fun K8 n8 e8 q8 p8 => ?_)
    refine oG fun n9 => W.r ?_
    refine oA 11 (.int .i64 0) ?_
    refine oV [(0, t0), (1, t1), (2, .int .i64 t2), (11, .int .i64 0)] (n9 ?_)
    obtain ⟨k11, e11, hF⟩ := lett_some hF
    have J11 : ∀  (h_12 : AHeap), k11 h_12 = some (rR, hR) → Go w0 m0 (Func.ntmps Try.f14) (K8 .normal) [(0, t0)] [] h_12 := by
      intro  h_12 hF
      rw [e11] at hF
      refine n8 ?_
      refine oG fun n13 => W.r ?_
      refine oA 31 t0 ?_
      refine oC0 32 hF fun t32 hF => ?_
      refine oF 33 57 1 hF fun t33 hF => ?_
      refine oW 3 (.int .i64 (-1)) hF fun h_16 hF => ?_
      refine oV [] (n13 ?_)
      refine oG fun n18 => W.r ?_
      refine oA 6 (.int .i64 0) ?_
      refine oV [(6, .int .i64 0)] (n18 (oY ?_))
      exact lZ hF [.tmp 6] [.int .i64 0] (rT res_nil)
    refine W.blockK (by kernel_rfl) (fun K10 n10 s10 o10 q10 p10 => ?_)
    refine W.loopK (by kernel_rfl) (fun I19 K19 b19 n19 e19 q19 p19 => ?_)
    have L19 : ∀ (m : Nat) (t11 : Int) (h_20 : AHeap), disk_Disk_Crash_L0 call t0 t1 t2 k11 m t11 h_20 = some (rR, hR) → Go w0 m0 (Func.ntmps Try.f14) I19 [(0, t0), (1, t1), (2, .int .i64 t2), (11, .int .i64 t11)] [] h_20 := by
      intro m
      induction m with
      | zero => intro t11 h_20 hF; cases hF
      | succ m ih19 =>
        intro t11 h_20 hF
        rw [disk_Disk_Crash_L0_s] at hF; unfold disk_Disk_Crash_L0b at hF
        refine b19 ?_
        refine oG fun n21 => W.r ?_
        refine oB 12 hF fun t12 hF => ?_
        refine oV [(0, t0), (1, t1), (2, .int .i64 t2), (11, .int .i64 t11), (12, .bool t12)] (n21 ?_)
        refine W.s (fun K23 n23 e23 q23 p23 => ?_)
        cases t12 with
        | true =>
          refine oT hF fun hF => ?_
          refine oZ (n23 ?_)
          refine oG fun n24 => ?_
          refine W.blockK (by kernel_rfl) (fun K25 n25 s25 o25 q25 p25 => ?_)
          refine oG fun n26 => W.r ?_
          refine oA 13 (.int .i64 t11) ?_
          refine oA 7 (.int .i64 t11) ?_
          refine oV [(0, t0), (1, t1), (2, .int .i64 t2), (7, .int .i64 t11), (11, .int .i64 t11)] (n26 ?_)
          refine oG fun n27 => W.r ?_
          refine oA 8 (.int .i64 0) ?_
          refine oV [(0, t0), (1, t1), (2, .int .i64 t2), (7, .int .i64 t11), (8, .int .i64 0), (11, .int .i64 t11)] (n27 ?_)
          refine W.s (fun K28 n28 e28 q28 p28 => ?_)
          refine oG fun n29 => W.r ?_
          refine oA 14 (.int .i64 t11) ?_
          refine oA 15 t1 ?_
          refine oM 16 34 3 hF fun t16 hF => ?_
          refine oB 17 hF fun t17 hF => ?_
          refine oV [(0, t0), (1, t1), (2, .int .i64 t2), (7, .int .i64 t11), (8, .int .i64 0), (11, .int .i64 t11), (17, .bool t17)] (n29 ?_)
          obtain ⟨k32, e32, hF⟩ := lett_some hF
          have J32 : ∀ (t8 : Int) (h_33 : AHeap), k32 t8 h_33 = some (rR, hR) → Go w0 m0 (Func.ntmps Try.f14) (K28 .normal) [(0, t0), (1, t1), (2, .int .i64 t2), (7, .int .i64 t11), (8, .int .i64 t8), (11, .int .i64 t11)] [] h_33 := by
            intro t8 h_33 hF
            rw [e32] at hF
            refine n28 (W.r ?_)
            refine oA 22 t0 ?_
            refine oA 23 (.int .i64 t11) ?_
            refine oC0 24 hF fun t24 hF => ?_
            refine oF 25 57 0 hF fun t25 hF => ?_
            refine oQ 26 55 54 .i64 hF fun t26 hF => ?_
            refine oA 27 (.int .i64 t8) ?_
            refine oA 28 (.int .i64 t2) ?_
            refine oC hc (some 29) hF fun r29 h_37 hF => ?_
            refine oV [(0, t0), (1, t1), (2, .int .i64 t2), (11, .int .i64 t11)] (n25 (n24 (W.r ?_)))
            refine oI 30 .i64 hF fun t30 hF => ?_
            refine oA 11 (.int .i64 t30) ?_
            refine oV [(0, t0), (1, t1), (2, .int .i64 t2), (11, .int .i64 t30)] (n19 ?_)
            exact gW _ (ih19 _ _ hF)
          cases t17 with
          | true =>
            refine oT hF fun hF => ?_
            refine W.r ?_
            refine oA 18 t1 ?_
            refine oA 19 (.int .i64 t11) ?_
            refine oP 20 34 3 .i64 hF fun t20 hF => ?_
            refine oLi 21 3 hF fun t21 hF => ?_
            refine oA 8 (.int .i64 t21) ?_
            refine oV [(0, t0), (1, t1), (2, .int .i64 t2), (7, .int .i64 t11), (8, .int .i64 t21), (11, .int .i64 t11)] ?_
            exact gW _ (J32 _ _ hF)
          | false =>
            refine oU hF fun hF => ?_
            refine oZ ?_
            exact gW _ (J32 _ _ hF)
        | false =>
          refine oU hF fun hF => ?_
          refine W.exit (by kernel_rfl) ?_
          refine e23 (e19 ?_)
          refine s10 (by kernel_rfl) ?_
          exact gW _ (J11 _ hF)
    exact gW _ (L19 _ _ _ hF)
noncomputable def disk_file_crash (call : CallF) (_ : Nat) (t0 : AV) (t1 : Int) (t2 : Int) (h : AHeap) : R :=
  lett (if 0 > t1 then 0 else t1) fun (t8 : Int) =>
  obind (nilC t0) fun t10 =>
  obind (fldP 4 t10) fun t11 =>
  obind (ldCell h t11) fun v12 =>
  obind (lenL v12) fun t13 =>
  lett (if t13 < t8 then t13 else t8) fun (t14 : Int) =>
  obind (nilC t0) fun t16 =>
  obind (fldP 0 t16) fun t17 =>
  obind (nilC t0) fun t19 =>
  obind (fldP 4 t19) fun t20 =>
  obind (ldCell h t20) fun v21 =>
  outK (sliceA Try.prog h 52 v21 none (some (.int .i64 t14))) fun v23 h_14 =>
  callN (call 29 [t17, v23] h_14) fun _ h_16 =>
  obind (nilC t0) fun t27 =>
  obind (fldP 4 t27) fun t28 =>
  obind (ldCell h_16 t28) fun v29 =>
  obind (lenL v29) fun t30 =>
  lett (decide (t14 < t30)) fun (t31 : Bool) =>
  lett (fun (t35 : Bool) (h_25 : AHeap) =>
    lett (fun  (h_29 : AHeap) =>
      obind (nilC t0) fun t69 =>
      obind (fldP 0 t69) fun t70 =>
      callN (call 33 [t70] h_29) fun r71 h_33 =>
      obind (avAgg r71) fun t71 =>
      obind (nilC t0) fun t72 =>
      obind (fldP 2 t72) fun t73 =>
      obind (stRow h_33 2 t71 t73) fun h_38 =>
      obind (nilC t0) fun t75 =>
      obind (fldP 4 t75) fun t76 =>
      obind (stRow h_38 1 (AV.cells AV.nsl) t76) fun h_42 =>
      some (.ret (.tup []), h_42)) fun k28 =>
    ifB t35
    (
      obind (nilC t0) fun t37 =>
      obind (fldP 4 t37) fun t38 =>
      obind (ldCell h_25 t38) fun v39 =>
      obind (idxP 3 v39 t14) fun t41 =>
      obind (ldRow h_25 3 t41) fun t42 =>
      lett (newH h_25 61 [.int .i64 0, .str 0 0, .int .i64 0]) fun h_50 =>
      obind (stRow h_50 3 t42 (newP h_25)) fun h_52 =>
      obind (ldCell h_52 (AV.ptr (AHeap.next h_25) 0)) fun v44 =>
      obind (avInt .i64 v44) fun t44 =>
      lett ((t44 : Int) == 0) fun (t45 : Bool) =>
      lett (fun (t50 : Bool) (h_58 : AHeap) =>
        lett (fun  (h_62 : AHeap) =>
          k28 h_62) fun k61 =>
        ifB t50
        (
          obind (ldCell h_58 (AV.ptr (AHeap.next h_25) 1)) fun v52 =>
          obind (avStr v52) fun t52 =>
          obind (ldCell h_58 (AV.ptr (AHeap.next h_25) 1)) fun v55 =>
          obind (avStr v55) fun t55 =>
          lett (IntKind.i64.wrap ((lenS t55) - 1)) fun (t57 : Int) =>
          lett (if t57 < t2 then t57 else t2) fun (t58 : Int) =>
          obind (sliceS t52 0 t58) fun t59 =>
          obind (stRow h_58 1 [strA t59] (AV.ptr (AHeap.next h_25) 1)) fun h_71 =>
          obind (nilC t0) fun t62 =>
          obind (fldP 0 t62) fun t63 =>
          obind (ldRow h_71 3 (newP h_25)) fun t64 =>
          outK (bldSl Try.prog h_71 52 1 [(0, .agg t64)]) fun v65 h_76 =>
          callN (call 29 [t63, v65] h_76) fun _ h_78 =>
          k61 h_78)
        (
          k61 h_58)) fun j50 =>
      ifB t45
      (
        obind (ldCell h_52 (AV.ptr (AHeap.next h_25) 1)) fun v48 =>
        obind (avStr v48) fun t48 =>
        lett (!eqS t48 ([] : Bytes)) fun (t49 : Bool) =>
        j50 t49 h_52)
      (
        j50 false h_52))
    (
      k28 h_25)) fun j35 =>
  ifB t31
  (
    lett (decide (t2 > 0)) fun (t34 : Bool) =>
    j35 t34 h_16)
  (
    j35 false h_16)
set_option maxHeartbeats 4000000 in
set_option maxRecDepth 20000 in
theorem disk_file_crash_ok {call : CallF} (hc : SaysAll Try.prog call) {n : Nat} {t0 : AV} {t1 : Int} {t2 : Int} {h : AHeap} {rR : ARes} {hR : AHeap} (hF : disk_file_crash call n t0 t1 t2 h = some (rR, hR)) : Says Try.prog 32 [t0, .int .i64 t1, .int .i64 t2] h rR hR := by
  unfold disk_file_crash at hF
  refine sO Try.func32 fun w0 m0 => ?_
  refine wW [(0, t0), (1, .int .i64 t1), (2, .int .i64 t2)] ?_
  refine oG fun n1 => W.r ?_
  refine oA 7 (.int .i64 t1) ?_
  refine oI 8 .i64 hF fun t8 hF => ?_
  refine oA 9 t0 ?_
  refine oC0 10 hF fun t10 hF => ?_
  refine oF 11 54 2 hF fun t11 hF => ?_
  refine oL 12 52 hF fun v12 hF => ?_
  refine oM 13 52 61 hF fun t13 hF => ?_
  refine oI 14 .i64 hF fun t14 hF => ?_
  refine oA 1 (.int .i64 t14) ?_
  refine oV [(0, t0), (1, .int .i64 t14), (2, .int .i64 t2)] (n1 ?_)
  refine oG fun n8 => ?_
  refine W.draw (by kernel_rfl) (hc.ok w0) (plan := [0, 1, 2, 3, 4, 5, 6, 7, 8, 9]) (by kernel_rfl) (by kernel_rfl) (by kernel_rfl) ?_
  refine WD.a 0 (some 15) t0 h ?_
  obtain ⟨t16, e9, hF⟩ := obind_some hF
  refine WD.b 0 (some 16) t16 h (nil_chk (h := h) e9) ?_
  obtain ⟨t17, e10, hF⟩ := obind_some hF
  refine WD.b 0 (some 17) t17 h (field_ptr (P := Try.prog) (h := h) (s := 54) (f := 0) (by kernel_rfl) e10) ?_
  refine WD.a 0 (some 18) t0 h ?_
  obtain ⟨t19, e11, hF⟩ := obind_some hF
  refine WD.b 0 (some 19) t19 h (nil_chk (h := h) e11) ?_
  obtain ⟨t20, e12, hF⟩ := obind_some hF
  refine WD.b 0 (some 20) t20 h (field_ptr (P := Try.prog) (h := h) (s := 54) (f := 2) (by kernel_rfl) e12) ?_
  obtain ⟨v21, e13, hF⟩ := obind_some hF
  refine WD.b 1 (some 21) v21 h (load_cell (P := Try.prog) (h := h) (t := 52) (by kernel_rfl) e13) ?_
  refine WD.a 0 (some 22) (.int .i64 t14) h ?_
  obtain ⟨v23, h_14, e15, hF⟩ := outK_some hF
  refine WD.b 0 (some 23) v23 h_14 e15 ?_
  obtain ⟨r24, h_16, e17, hF⟩ := callN_some hF
  refine WD.call (d := (some 24)) (by kernel_rfl) (by kernel_rfl) (by kernel_rfl) e17 (k := 2) (by kernel_rfl) (fun _ => (by kernel_rfl)) (by decide) ?_
  refine WD.nil ?_
  refine gW [(0, t0), (1, .int .i64 t14), (2, .int .i64 t2)] (n8 ?_)
  refine W.s (fun K18 n18 e18 q18 p18 => ?_)
  refine W.s (fun K19 n19 e19 q19 p19 => ?_)
  refine W.r ?_
  refine oA 25 (.int .i64 t14) ?_
  refine oA 26 t0 ?_
  refine oC0 27 hF fun t27 hF => ?_
  refine oF 28 54 2 hF fun t28 hF => ?_
  refine oL 29 52 hF fun v29 hF => ?_
  refine oM 30 52 61 hF fun t30 hF => ?_
  refine oB 31 hF fun t31 hF => ?_
  refine oA 32 (.bool t31) ?_
  obtain ⟨j35, e26, hF⟩ := lett_some hF
  have J27 : ∀ (t35 : Bool) (h_25 : AHeap), j35 t35 h_25 = some (rR, hR) → WL Try.prog w0 m0 (Func.ntmps Try.f32) (Code.ops (Code.p1 (Code.p1 (Code.p2 (Code.p2 (codeOf Try.f32)))))) 11 K19 [(0, t0), (1, .int .i64 t14), (2, .int .i64 t2), (35, .bool t35)] [] h_25 := by
    intro t35 h_25 hF
    rw [e26] at hF
    refine oV [(0, t0), (1, .int .i64 t14), (2, .int .i64 t2), (35, .bool t35)] (n19 ?_)
    obtain ⟨k28, e28, hF⟩ := lett_some hF
    have J28 : ∀  (h_29 : AHeap), k28 h_29 = some (rR, hR) → Go w0 m0 (Func.ntmps Try.f32) (K18 .normal) [(0, t0)] [] h_29 := by
      intro  h_29 hF
      rw [e28] at hF
      refine n18 ?_
      refine oG fun n30 => W.r ?_
      refine oA 67 t0 ?_
      refine oA 68 t0 ?_
      refine oC0 69 hF fun t69 hF => ?_
      refine oF 70 54 0 hF fun t70 hF => ?_
      refine oCa hc 71 hF fun t71 h_33 hF => ?_
      refine oC0 72 hF fun t72 hF => ?_
      refine oF 73 54 1 hF fun t73 hF => ?_
      refine oW 51 (.agg t71) hF fun h_38 hF => ?_
      refine oV [(0, t0)] (n30 (W.r ?_))
      refine oA 74 t0 ?_
      refine oC0 75 hF fun t75 hF => ?_
      refine oF 76 54 2 hF fun t76 hF => ?_
      refine oW 52 AV.nsl hF fun h_42 hF => ?_
      refine oV [] ?_
      exact lY hF [] [] res_nil
    cases t35 with
    | true =>
      refine oT hF fun hF => ?_
      refine oG fun n44 => W.r ?_
      refine oA 36 t0 ?_
      refine oC0 37 hF fun t37 hF => ?_
      refine oF 38 54 2 hF fun t38 hF => ?_
      refine oL 39 52 hF fun v39 hF => ?_
      refine oA 40 (.int .i64 t14) ?_
      refine oP 41 52 61 .i64 hF fun t41 hF => ?_
      refine oR 42 61 hF fun t42 hF => ?_
      refine oN 6 hF fun h_50 hF => ?_
      refine oW 61 (.agg t42) hF fun h_52 hF => ?_
      refine oV [(0, t0), (2, .int .i64 t2), (6, (newP h_25))] (n44 ?_)
      refine W.s (fun K54 n54 e54 q54 p54 => ?_)
      refine W.r ?_
      refine oA 43 (AV.ptr (AHeap.next h_25) 0) ?_
      refine oLi 44 59 hF fun t44 hF => ?_
      refine oB 45 hF fun t45 hF => ?_
      refine oA 46 (.bool t45) ?_
      obtain ⟨j50, e59, hF⟩ := lett_some hF
      have J60 : ∀ (t50 : Bool) (h_58 : AHeap), j50 t50 h_58 = some (rR, hR) → WL Try.prog w0 m0 (Func.ntmps Try.f32) (Code.ops (Code.p1 (Code.p2 (Code.p1 (Code.p2 (Code.p1 (Code.p2 (Code.p2 (codeOf Try.f32))))))))) 8 K54 [(0, t0), (2, .int .i64 t2), (6, (newP h_25)), (50, .bool t50)] [] h_58 := by
        intro t50 h_58 hF
        rw [e59] at hF
        refine oV [(0, t0), (2, .int .i64 t2), (6, (newP h_25)), (50, .bool t50)] (n54 ?_)
        obtain ⟨k61, e61, hF⟩ := lett_some hF
        have J61 : ∀  (h_62 : AHeap), k61 h_62 = some (rR, hR) → Go w0 m0 (Func.ntmps Try.f32) (K18 .normal) [(0, t0)] [] h_62 := by
          intro  h_62 hF
          rw [e61] at hF
          exact gW _ (J28 _ hF)
        cases t50 with
        | true =>
          refine oT hF fun hF => ?_
          refine oG fun n63 => W.r ?_
          refine oA 51 (AV.ptr (AHeap.next h_25) 1) ?_
          refine oLs 52 9 hF fun t52 hF => ?_
          refine oA 53 (.int .i64 t2) ?_
          refine oA 54 (AV.ptr (AHeap.next h_25) 1) ?_
          refine oLs 55 9 hF fun t55 hF => ?_
          refine oA 56 (.int .i64 (lenS t55)) ?_
          refine oI 57 .i64 hF fun t57 hF => ?_
          refine oI 58 .i64 hF fun t58 hF => ?_
          obtain ⟨t59, e70, hF⟩ := obind_some hF
          refine WL.b (some 59) (strA t59) h_58 (slice_str (P := Try.prog) (h := h_58) (t := 9) (A := none) (B := (some (.int .i64 t58))) (by kernel_rfl) (.inr ⟨rfl, rfl⟩) (.inl ⟨_, rfl⟩) e70) ?_
          refine oA 60 (AV.ptr (AHeap.next h_25) 1) ?_
          refine oW 9 (strA t59) hF fun h_71 hF => ?_
          refine oV [(0, t0), (6, (newP h_25))] (n63 ?_)
          refine W.draw (by kernel_rfl) (hc.ok w0) (plan := [0, 1, 2, 3, 4, 5]) (by kernel_rfl) (by kernel_rfl) (by kernel_rfl) ?_
          refine WD.a 0 (some 61) t0 h_71 ?_
          obtain ⟨t62, e73, hF⟩ := obind_some hF
          refine WD.b 0 (some 62) t62 h_71 (nil_chk (h := h_71) e73) ?_
          obtain ⟨t63, e74, hF⟩ := obind_some hF
          refine WD.b 0 (some 63) t63 h_71 (field_ptr (P := Try.prog) (h := h_71) (s := 54) (f := 0) (by kernel_rfl) e74) ?_
          obtain ⟨t64, e75, hF⟩ := obind_some hF
          refine WD.b 1 (some 64) (.agg t64) h_71 (load_row (P := Try.prog) (h := h_71) (t := 61) (by kernel_rfl) (by kernel_rfl) e75) ?_
          obtain ⟨v65, h_76, e77, hF⟩ := outK_some hF
          refine WD.val (d := (some 65)) (v := v65) (h' := h_76) (by kernel_rfl) (by kernel_rfl) (Eq.trans (by kernel_rfl) e77) (k := 2) (by kernel_rfl) (fun _ => (by kernel_rfl)) (by decide) ?_
          obtain ⟨r66, h_78, e79, hF⟩ := callN_some hF
          refine WD.call (d := (some 66)) (by kernel_rfl) (by kernel_rfl) (by kernel_rfl) e79 (k := 2) (by kernel_rfl) (fun _ => (by kernel_rfl)) (by decide) ?_
          refine WD.nil ?_
          refine gW [(0, t0)] ?_
          exact gW _ (J61 _ hF)
        | false =>
          refine oU hF fun hF => ?_
          refine oZ ?_
          exact gW _ (J61 _ hF)
      cases t45 with
      | true =>
        replace hF := ifB_t hF
        refine oA 47 (AV.ptr (AHeap.next h_25) 1) ?_
        refine oLs 48 9 hF fun t48 hF => ?_
        refine oB 49 hF fun t49 hF => ?_
        refine oA 50 (.bool t49) ?_
        exact lW _ (J60 _ _ hF)
      | false =>
        replace hF := ifB_f hF
        refine WL.o (some 47) ?_
        refine WL.o (some 48) ?_
        refine WL.o (some 49) ?_
        refine oA 50 (.bool false) ?_
        exact lW _ (J60 _ _ hF)
    | false =>
      refine oU hF fun hF => ?_
      refine oZ ?_
      exact gW _ (J28 _ hF)
  cases t31 with
  | true =>
    replace hF := ifB_t hF
    refine oA 33 (.int .i64 t2) ?_
    refine oB 34 hF fun t34 hF => ?_
    refine oA 35 (.bool t34) ?_
    exact lW _ (J27 _ _ hF)
  | false =>
    replace hF := ifB_f hF
    refine WL.o (some 33) ?_
    refine WL.o (some 34) ?_
    refine oA 35 (.bool false) ?_
    exact lW _ (J27 _ _ hF)
noncomputable def disk_content_copy (call : CallF) (_ : Nat) (t0 : AV) (h : AHeap) : R :=
  lett (newH h 51 [.bool false, .nsl]) fun h_2 =>
  obind (nilC t0) fun t4 =>
  obind (fldP 0 t4) fun t5 =>
  obind (ldCell h_2 t5) fun v6 =>
  obind (avBool v6) fun t6 =>
  obind (nilC t0) fun t8 =>
  obind (fldP 1 t8) fun t9 =>
  obind (ldCell h_2 t9) fun v10 =>
  callN (call 42 [v10] h_2) fun r11 h_12 =>
  chk (true && (reLoad Try.prog h_12 4 t5 (.bool t6) && true)) <|
  obind (bldS Try.prog 51 [(0, .bool t6), (1, r11)]) fun t12 =>
  obind (stRow h_12 2 t12 (newP h)) fun h_16 =>
  obind (ldRow h_16 2 (newP h)) fun w2 =>
  some (.ret (.agg w2), h_16)
set_option maxHeartbeats 4000000 in
set_option maxRecDepth 20000 in
theorem disk_content_copy_ok {call : CallF} (hc : SaysAll Try.prog call) {n : Nat} {t0 : AV} {h : AHeap} {rR : ARes} {hR : AHeap} (hF : disk_content_copy call n t0 h = some (rR, hR)) : Says Try.prog 33 [t0] h rR hR := by
  unfold disk_content_copy at hF
  refine sO Try.func33 fun w0 m0 => ?_
  refine wW [(0, t0)] ?_
  refine oG fun n1 => W.r ?_
  refine oN 2 hF fun h_2 hF => ?_
  refine oV [(0, t0), (2, (newP h))] (n1 ?_)
  refine oG fun n4 => ?_
  refine W.draw (by kernel_rfl) (hc.ok w0) (plan := [0, 1, 2, 3, 4, 5, 6, 7, 8, 9, 10]) (by kernel_rfl) (by kernel_rfl) (by kernel_rfl) ?_
  refine WD.a 0 (some 3) t0 h_2 ?_
  obtain ⟨t4, e5, hF⟩ := obind_some hF
  refine WD.b 0 (some 4) t4 h_2 (nil_chk (h := h_2) e5) ?_
  obtain ⟨t5, e6, hF⟩ := obind_some hF
  refine WD.b 0 (some 5) t5 h_2 (field_ptr (P := Try.prog) (h := h_2) (s := 51) (f := 0) (by kernel_rfl) e6) ?_
  replace hF := obind_some hF; obtain ⟨v6, e7, hF⟩ := hF
  replace hF := obind_some hF; obtain ⟨t6, c8, hF⟩ := hF
  have c8 := avBool_some c8
  subst c8
  refine WD.b 1 (some 6) (.bool t6) h_2 (load_cell (P := Try.prog) (h := h_2) (t := 4) (by kernel_rfl) e7) ?_
  refine WD.a 0 (some 7) t0 h_2 ?_
  obtain ⟨t8, e9, hF⟩ := obind_some hF
  refine WD.b 0 (some 8) t8 h_2 (nil_chk (h := h_2) e9) ?_
  obtain ⟨t9, e10, hF⟩ := obind_some hF
  refine WD.b 0 (some 9) t9 h_2 (field_ptr (P := Try.prog) (h := h_2) (s := 51) (f := 1) (by kernel_rfl) e10) ?_
  obtain ⟨v10, e11, hF⟩ := obind_some hF
  refine WD.b 1 (some 10) v10 h_2 (load_cell (P := Try.prog) (h := h_2) (t := 49) (by kernel_rfl) e11) ?_
  obtain ⟨r11, h_12, e13, hF⟩ := callN_some hF
  obtain ⟨k14, hF⟩ := chk_some hF
  refine WD.call (d := (some 11)) (by kernel_rfl) (by kernel_rfl) (by kernel_rfl) e13 (k := 2) (by kernel_rfl) (fun _ => (Eq.trans (by kernel_rfl) k14)) (by decide) ?_
  obtain ⟨t12, e15, hF⟩ := obind_some hF
  refine WD.val (d := (some 12)) (v := .agg t12) (h' := h_12) (by kernel_rfl) (by kernel_rfl) (bld_ok (by kernel_rfl) e15) (k := 0) (by kernel_rfl) (fun e => absurd e (by decide)) (by decide) ?_
  obtain ⟨h_16, e17, hF⟩ := obind_some hF
  refine WD.eff (h' := h_16) (by kernel_rfl) (by kernel_rfl) (Eq.trans (by kernel_rfl) (store_row (P := Try.prog) (h := h_12) (t := 51) (v := (.agg t12)) (by kernel_rfl) (by kernel_rfl) e17)) (k := 2) (by kernel_rfl) (fun _ => (by kernel_rfl)) (by decide) ?_
  refine WD.nil ?_
  refine gW [(2, (newP h))] (n4 (oY ?_))
  obtain ⟨w2, e18, hF⟩ := obind_some hF
  exact lZ hF [.cell 2 51] [.agg w2] (rY e18 res_nil)
noncomputable def slices_Clone___byte_byte_ (_ : CallF) (_ : Nat) (t0 : AV) (h : AHeap) : R :=
  outK (opBin Try.prog h .eql 49 true (some t0) (some AV.nsl)) fun v4 h_4 =>
  obind (avBool v4) fun t4 =>
  ifB t4
  (
    some (.ret (AV.nsl), h_4))
  (
    outK (bldSl Try.prog h_4 49 0 []) fun v5 h_9 =>
    outK (opAppend Try.prog h_9 49 49 v5 t0) fun v7 h_11 =>
    some (.ret (v7), h_11))
set_option maxHeartbeats 4000000 in
set_option maxRecDepth 20000 in
theorem slices_Clone___byte_byte__ok {call : CallF} (_ : SaysAll Try.prog call) {n : Nat} {t0 : AV} {h : AHeap} {rR : ARes} {hR : AHeap} (hF : slices_Clone___byte_byte_ call n t0 h = some (rR, hR)) : Says Try.prog 42 [t0] h rR hR := by
  unfold slices_Clone___byte_byte_ at hF
  refine sO Try.func42 fun w0 m0 => ?_
  refine wW [(0, t0)] ?_
  refine oG fun n1 => W.r ?_
  refine oA 2 AV.nsl ?_
  refine oV [(0, t0)] (n1 ?_)
  refine oH fun n2 q2 => ?_
  refine oG fun n3 => W.r ?_
  refine oA 3 t0 ?_
  replace hF := outK_some hF; obtain ⟨v4, h_4, e5, hF⟩ := hF
  replace hF := obind_some hF; obtain ⟨t4, c6, hF⟩ := hF
  have c6 := avBool_some c6
  subst c6
  refine WL.b (some 4) (.bool t4) h_4 e5 ?_
  refine oV [(0, t0), (4, .bool t4)] (n3 ?_)
  cases t4 with
  | true =>
    refine oT hF fun hF => ?_
    refine oG fun n7 => W.r ?_
    refine oA 2 AV.nsl ?_
    refine oV [(2, AV.nsl)] (n7 (oY (q2 ?_)))
    exact lZ hF [.tmp 2] [AV.nsl] (rT res_nil)
  | false =>
    refine oU hF fun hF => ?_
    refine oZ (n2 ?_)
    refine oG fun n8 => W.r ?_
    refine oK 5 hF fun v5 h_9 hF => ?_
    refine oA 6 t0 ?_
    refine oK 7 hF fun v7 h_11 hF => ?_
    refine oA 2 v7 ?_
    refine oV [(2, v7)] (n8 (oY ?_))
    exact lZ hF [.tmp 2] [v7] (rT res_nil)
end Go.Proofs.Ytcbnpdfingfmgaa
