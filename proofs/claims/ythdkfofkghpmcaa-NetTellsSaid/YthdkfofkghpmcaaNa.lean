/- Plain functions in place of the program's, and that their calls come to what they say. -/
import Derived.Test.YthdkfofkghpmcaaFrame
import Derived.Test.YthdkfofkghpmcaaAbs54
namespace Go.Proofs.Ythdkfofkghpmcaa
open Go.RowKit Abs

noncomputable def net_New (_ : CallF) (_ : Nat)  (h : AHeap) : R :=
  lett (AHeap.new h (.map [])) fun h_3 =>
  obind (bldS Try.prog 63 [(2, (AV.mp (AHeap.next h)))]) fun t2 =>
  outK (opBox h_3 63 (some (.agg t2))) fun v3 h_6 =>
  some (.ret (v3), h_6)
set_option maxHeartbeats 4000000 in
set_option maxRecDepth 20000 in
theorem net_New_ok {call : CallF} (_ : SaysAll Try.prog call) {n : Nat}  {h : AHeap} {rR : ARes} {hR : AHeap} (hF : net_New call n  h = some (rR, hR)) : Says Try.prog 11 [] h rR hR := by
  unfold net_New at hF
  refine sO Try.func11 fun w0 m0 => ?_
  refine wW [] ?_
  refine oG fun n1 => W.r ?_
  refine oA 0 AV.nilp ?_
  refine oV [] (n1 ?_)
  refine oG fun n2 => W.r ?_
  obtain ⟨h_3, e4, hF⟩ := lett_some hF
  refine WL.val (d := (some 1)) (v := (AV.mp (AHeap.next h))) (h' := h_3) (by kernel_rfl) (by kernel_rfl) (val_ofH e4 (by kernel_rfl)) ?_
  obtain ⟨t2, e5, hF⟩ := obind_some hF
  refine WL.val (d := (some 2)) (v := .agg t2) (h' := h_3) (by kernel_rfl) (by kernel_rfl) (bld_ok (by kernel_rfl) e5) ?_
  refine oK 3 hF fun v3 h_6 hF => ?_
  refine oA 0 v3 ?_
  refine oV [(0, v3)] (n2 (oY ?_))
  exact lZ hF [.tmp 0] [v3] (rT res_nil)
noncomputable def net_Net_Flight (call : CallF) (_ : Nat) (t0 : AV) (h : AHeap) : R :=
  outK (opBin Try.prog h .eql 25 true (some t0) (some AV.nilp)) fun v4 h_4 =>
  obind (avBool v4) fun t4 =>
  ifB t4
  (
    some (.ret (AV.nsl), h_4))
  (
    obind (nilC t0) fun t6 =>
    obind (fldP 0 t6) fun t7 =>
    obind (ldCell h_4 t7) fun v8 =>
    callN (call 29 [v8] h_4) fun r9 h_12 =>
    some (.ret (r9), h_12))
set_option maxHeartbeats 4000000 in
set_option maxRecDepth 20000 in
theorem net_Net_Flight_ok {call : CallF} (hc : SaysAll Try.prog call) {n : Nat} {t0 : AV} {h : AHeap} {rR : ARes} {hR : AHeap} (hF : net_Net_Flight call n t0 h = some (rR, hR)) : Says Try.prog 15 [t0] h rR hR := by
  unfold net_Net_Flight at hF
  refine sO Try.func15 fun w0 m0 => ?_
  refine wW [(0, t0)] ?_
  refine oG fun n1 => W.r ?_
  refine oA 2 AV.nsl ?_
  refine oV [(0, t0)] (n1 ?_)
  refine oH fun n2 q2 => ?_
  refine oG fun n3 => W.r ?_
  refine oA 3 t0 ?_
  replace hF := outK_some hF; obtain ⟨v4, h_4, e5, hF⟩ := hF
  replace hF := obind_some hF; obtain ⟨t4, c6, hF⟩ := hF
  have c6 := avBool_some c6
  subst c6
  refine WL.b (some 4) (.bool t4) h_4 e5 ?_
  refine oV [(0, t0), (4, .bool t4)] (n3 ?_)
  cases t4 with
  | true =>
    refine oT hF fun hF => ?_
    refine oG fun n7 => W.r ?_
    refine oA 2 AV.nsl ?_
    refine oV [(2, AV.nsl)] (n7 (oY (q2 ?_)))
    exact lZ hF [.tmp 2] [AV.nsl] (rT res_nil)
  | false =>
    refine oU hF fun hF => ?_
    refine oZ (n2 ?_)
    refine oG fun n8 => W.r ?_
    refine oA 5 t0 ?_
    refine oC0 6 hF fun t6 hF => ?_
    refine oF 7 63 0 hF fun t7 hF => ?_
    refine oL 8 27 hF fun v8 hF => ?_
    refine oC hc (some 9) hF fun r9 h_12 hF => ?_
    refine oA 2 r9 ?_
    refine oV [(2, r9)] (n8 (oY ?_))
    exact lZ hF [.tmp 2] [r9] (rT res_nil)
noncomputable def net_Net_Copy (call : CallF) (_ : Nat) (t0 : AV) (h : AHeap) : R :=
  outK (opBin Try.prog h .eql 25 true (some t0) (some AV.nilp)) fun v4 h_4 =>
  obind (avBool v4) fun t4 =>
  ifB t4
  (
    some (.ret (AV.nilp), h_4))
  (
    obind (nilC t0) fun t8 =>
    obind (fldP 1 t8) fun t9 =>
    obind (ldCell h_4 t9) fun v10 =>
    obind (avInt .i64 v10) fun t10 =>
    obind (nilC t0) fun t12 =>
    obind (fldP 2 t12) fun t13 =>
    obind (ldCell h_4 t13) fun v14 =>
    callN (call 15 [t0] h_4) fun r6 h_16 =>
    chk (reLoad Try.prog h_16 61 t13 v14 && (reLoad Try.prog h_16 3 t9 (.int .i64 t10) && true)) <|
    callN (call 31 [v14] h_16) fun r15 h_19 =>
    chk (true && (reLoad Try.prog h_19 3 t9 (.int .i64 t10) && true)) <|
    obind (bldS Try.prog 63 [(0, r6), (1, .int .i64 t10), (2, r15)]) fun t16 =>
    outK (opBox h_19 63 (some (.agg t16))) fun v17 h_23 =>
    some (.ret (v17), h_23))
set_option maxHeartbeats 4000000 in
set_option maxRecDepth 20000 in
theorem net_Net_Copy_ok {call : CallF} (hc : SaysAll Try.prog call) {n : Nat} {t0 : AV} {h : AHeap} {rR : ARes} {hR : AHeap} (hF : net_Net_Copy call n t0 h = some (rR, hR)) : Says Try.prog 17 [t0] h rR hR := by
  unfold net_Net_Copy at hF
  refine sO Try.func17 fun w0 m0 => ?_
  refine wW [(0, t0)] ?_
  refine oG fun n1 => W.r ?_
  refine oA 2 AV.nilp ?_
  refine oV [(0, t0)] (n1 ?_)
  refine oH fun n2 q2 => ?_
  refine oG fun n3 => W.r ?_
  refine oA 3 t0 ?_
  replace hF := outK_some hF; obtain ⟨v4, h_4, e5, hF⟩ := hF
  replace hF := obind_some hF; obtain ⟨t4, c6, hF⟩ := hF
  have c6 := avBool_some c6
  subst c6
  refine WL.b (some 4) (.bool t4) h_4 e5 ?_
  refine oV [(0, t0), (4, .bool t4)] (n3 ?_)
  cases t4 with
  | true =>
    refine oT hF fun hF => ?_
    refine oG fun n7 => W.r ?_
    refine oA 2 AV.nilp ?_
    refine oV [(2, AV.nilp)] (n7 (oY (q2 ?_)))
    exact lZ hF [.tmp 2] [AV.nilp] (rT res_nil)
  | false =>
    refine oU hF fun hF => ?_
    refine oZ (n2 ?_)
    refine oG fun n8 => ?_
    refine W.draw (by kernel_rfl) (hc.ok w0) (plan := [0, 2, 3, 4, 5, 6, 7, 8, 9, 1, 10, 11, 12, 13]) (by kernel_rfl) (by kernel_rfl) (by kernel_rfl) ?_
    refine WD.a 0 (some 5) t0 h_4 ?_
    refine WD.a 0 (some 7) t0 h_4 ?_
    obtain ⟨t8, e9, hF⟩ := obind_some hF
    refine WD.b 0 (some 8) t8 h_4 (nil_chk (h := h_4) e9) ?_
    obtain ⟨t9, e10, hF⟩ := obind_some hF
    refine WD.b 0 (some 9) t9 h_4 (field_ptr (P := Try.prog) (h := h_4) (s := 63) (f := 1) (by kernel_rfl) e10) ?_
    replace hF := obind_some hF; obtain ⟨v10, e11, hF⟩ := hF
    replace hF := obind_some hF; obtain ⟨t10, c12, hF⟩ := hF
    have c12 := avInt_some c12
    subst c12
    refine WD.b 1 (some 10) (.int .i64 t10) h_4 (load_cell (P := Try.prog) (h := h_4) (t := 3) (by kernel_rfl) e11) ?_
    refine WD.a 0 (some 11) t0 h_4 ?_
    obtain ⟨t12, e13, hF⟩ := obind_some hF
    refine WD.b 0 (some 12) t12 h_4 (nil_chk (h := h_4) e13) ?_
    obtain ⟨t13, e14, hF⟩ := obind_some hF
    refine WD.b 0 (some 13) t13 h_4 (field_ptr (P := Try.prog) (h := h_4) (s := 63) (f := 2) (by kernel_rfl) e14) ?_
    obtain ⟨v14, e15, hF⟩ := obind_some hF
    refine WD.b 1 (some 14) v14 h_4 (load_cell (P := Try.prog) (h := h_4) (t := 61) (by kernel_rfl) e15) ?_
    obtain ⟨r6, h_16, e17, hF⟩ := callN_some hF
    obtain ⟨k18, hF⟩ := chk_some hF
    refine WD.call (d := (some 6)) (by kernel_rfl) (by kernel_rfl) (by kernel_rfl) e17 (k := 2) (by kernel_rfl) (fun _ => (Eq.trans (by kernel_rfl) k18)) (by decide) ?_
    obtain ⟨r15, h_19, e20, hF⟩ := callN_some hF
    obtain ⟨k21, hF⟩ := chk_some hF
    refine WD.call (d := (some 15)) (by kernel_rfl) (by kernel_rfl) (by kernel_rfl) e20 (k := 2) (by kernel_rfl) (fun _ => (Eq.trans (by kernel_rfl) k21)) (by decide) ?_
    obtain ⟨t16, e22, hF⟩ := obind_some hF
    refine WD.val (d := (some 16)) (v := .agg t16) (h' := h_19) (by kernel_rfl) (by kernel_rfl) (bld_ok (by kernel_rfl) e22) (k := 0) (by kernel_rfl) (fun e => absurd e (by decide)) (by decide) ?_
    obtain ⟨v17, h_23, e24, hF⟩ := outK_some hF
    refine WD.b 1 (some 17) v17 h_23 e24 ?_
    refine WD.a 0 (some 2) v17 h_23 ?_
    refine WD.nil ?_
    refine gW [(2, v17)] (n8 (oY ?_))
    exact lZ hF [.tmp 2] [v17] (rT res_nil)
noncomputable def net_Net_Send (call : CallF) (_ : Nat) (t0 : AV) (t1 : Int) (t2 : Int) (t3 : Bytes) (h : AHeap) : R :=
  outK (opBin Try.prog h .eql 25 true (some t0) (some AV.nilp)) fun v12 h_5 =>
  obind (avBool v12) fun t12 =>
  ifB t12
  (
    some (.ret (.tup [.int .i64 0, .int .i64 1]), h_5))
  (
    callN (call 32 [.int .i64 t1] h_5) fun r15 h_10 =>
    obind (avBool r15) fun t15 =>
    lett (!t15) fun (t16 : Bool) =>
    lett (fun (t21 : Bool) (h_14 : AHeap) =>
      ifB t21
      (
        some (.ret (.tup [.int .i64 0, .int .i64 2]), h_14))
      (
        lett (decide ((lenS t3) > 4108)) fun (t25 : Bool) =>
        ifB t25
        (
          some (.ret (.tup [.int .i64 0, .int .i64 3]), h_14))
        (
          callN (call 33 [t0, .int .i64 t1, .int .i64 t2] h_14) fun r30 h_22 =>
          obind (avBool r30) fun t30 =>
          ifB t30
          (
            some (.ret (.tup [.int .i64 0, .int .i64 50]), h_22))
          (
            callN (call 34 [t0, .int .i64 t1, .int .i64 t2, strA t3] h_22) fun r35 h_27 =>
            obind (extT 0 r35) fun v36 =>
            obind (avInt .i64 v36) fun t36 =>
            obind (extT 1 r35) fun v37 =>
            obind (avInt .i64 v37) fun t37 =>
            some (.ret (.tup [.int .i64 t36, .int .i64 t37]), h_27))))) fun j21 =>
    ifB t16
    (
      j21 true h_10)
    (
      callN (call 32 [.int .i64 t2] h_10) fun r19 h_33 =>
      obind (avBool r19) fun t19 =>
      lett (!t19) fun (t20 : Bool) =>
      j21 t20 h_33))
set_option maxHeartbeats 4000000 in
set_option maxRecDepth 20000 in
theorem net_Net_Send_ok {call : CallF} (hc : SaysAll Try.prog call) {n : Nat} {t0 : AV} {t1 : Int} {t2 : Int} {t3 : Bytes} {h : AHeap} {rR : ARes} {hR : AHeap} (hF : net_Net_Send call n t0 t1 t2 t3 h = some (rR, hR)) : Says Try.prog 18 [t0, .int .i64 t1, .int .i64 t2, strA t3] h rR hR := by
  unfold net_Net_Send at hF
  refine sO Try.func18 fun w0 m0 => ?_
  refine wW [(0, t0), (1, .int .i64 t1), (2, .int .i64 t2), (3, strA t3)] ?_
  refine oG fun n1 => W.r ?_
  refine oA 8 (.int .i64 0) ?_
  refine oA 9 (.int .i64 0) ?_
  refine oV [(0, t0), (1, .int .i64 t1), (2, .int .i64 t2), (3, strA t3)] (n1 ?_)
  refine oH fun n2 q2 => ?_
  refine W.blockK (by kernel_rfl) (fun K3 n3 s3 o3 q3 p3 => ?_)
  refine oG fun n4 => W.r ?_
  refine oA 11 t0 ?_
  replace hF := outK_some hF; obtain ⟨v12, h_5, e6, hF⟩ := hF
  replace hF := obind_some hF; obtain ⟨t12, c7, hF⟩ := hF
  have c7 := avBool_some c7
  subst c7
  refine WL.b (some 12) (.bool t12) h_5 e6 ?_
  refine oA 10 (.bool t12) ?_
  refine oV [(0, t0), (1, .int .i64 t1), (2, .int .i64 t2), (3, strA t3), (10, .bool t12)] (n4 ?_)
  cases t12 with
  | true =>
    refine oT hF fun hF => ?_
    refine oG fun n8 => W.r ?_
    refine oA 8 (.int .i64 0) ?_
    refine oA 9 (.int .i64 1) ?_
    refine oV [(8, .int .i64 0), (9, .int .i64 1)] (n8 (oY (q3 (q2 ?_))))
    exact lZ hF [.tmp 8, .tmp 9] [.int .i64 0, .int .i64 1] (rT (rT res_nil))
  | false =>
    refine oU hF fun hF => ?_
    refine W.s (fun K9 n9 e9 q9 p9 => ?_)
    refine W.r ?_
    refine oA 14 (.int .i64 t1) ?_
    refine oCb hc 15 hF fun t15 h_10 hF => ?_
    refine oB 16 hF fun t16 hF => ?_
    refine oA 17 (.bool t16) ?_
    obtain ⟨j21, e15, hF⟩ := lett_some hF
    have J16 : ∀ (t21 : Bool) (h_14 : AHeap), j21 t21 h_14 = some (rR, hR) → WL Try.prog w0 m0 (Func.ntmps Try.f18) (Code.ops (Code.p1 (Code.p2 (Code.p2 (Code.p1 (Code.p1 (Code.p2 (codeOf Try.f18)))))))) 8 K9 [(0, t0), (1, .int .i64 t1), (2, .int .i64 t2), (3, strA t3), (21, .bool t21)] [] h_14 := by
      intro t21 h_14 hF
      rw [e15] at hF
      refine oA 13 (.bool t21) ?_
      refine oV [(0, t0), (1, .int .i64 t1), (2, .int .i64 t2), (3, strA t3), (13, .bool t21)] (n9 ?_)
      cases t21 with
      | true =>
        refine oT hF fun hF => ?_
        refine oG fun n17 => W.r ?_
        refine oA 8 (.int .i64 0) ?_
        refine oA 9 (.int .i64 2) ?_
        refine oV [(8, .int .i64 0), (9, .int .i64 2)] (n17 (oY (q3 (q2 ?_))))
        exact lZ hF [.tmp 8, .tmp 9] [.int .i64 0, .int .i64 2] (rT (rT res_nil))
      | false =>
        refine oU hF fun hF => ?_
        refine oG fun n18 => W.r ?_
        refine oA 23 (strA t3) ?_
        refine oA 24 (.int .i64 (lenS t3)) ?_
        refine oB 25 hF fun t25 hF => ?_
        refine oA 22 (.bool t25) ?_
        refine oV [(0, t0), (1, .int .i64 t1), (2, .int .i64 t2), (3, strA t3), (22, .bool t25)] (n18 ?_)
        cases t25 with
        | true =>
          refine oT hF fun hF => ?_
          refine oG fun n20 => W.r ?_
          refine oA 8 (.int .i64 0) ?_
          refine oA 9 (.int .i64 3) ?_
          refine oV [(8, .int .i64 0), (9, .int .i64 3)] (n20 (oY (q3 (q2 ?_))))
          exact lZ hF [.tmp 8, .tmp 9] [.int .i64 0, .int .i64 3] (rT (rT res_nil))
        | false =>
          refine oU hF fun hF => ?_
          refine oG fun n21 => W.r ?_
          refine oA 27 t0 ?_
          refine oA 28 (.int .i64 t1) ?_
          refine oA 29 (.int .i64 t2) ?_
          refine oCb hc 30 hF fun t30 h_22 hF => ?_
          refine oA 26 (.bool t30) ?_
          refine oV [(0, t0), (1, .int .i64 t1), (2, .int .i64 t2), (3, strA t3), (26, .bool t30)] (n21 ?_)
          cases t30 with
          | true =>
            refine oT hF fun hF => ?_
            refine oG fun n25 => W.r ?_
            refine oA 8 (.int .i64 0) ?_
            refine oA 9 (.int .i64 50) ?_
            refine oV [(8, .int .i64 0), (9, .int .i64 50)] (n25 (oY (q3 (q2 ?_))))
            exact lZ hF [.tmp 8, .tmp 9] [.int .i64 0, .int .i64 50] (rT (rT res_nil))
          | false =>
            refine oU hF fun hF => ?_
            refine oZ (n3 (n2 ?_))
            refine oG fun n26 => W.r ?_
            refine oA 31 t0 ?_
            refine oA 32 (.int .i64 t1) ?_
            refine oA 33 (.int .i64 t2) ?_
            refine oA 34 (strA t3) ?_
            refine oC hc (some 35) hF fun r35 h_27 hF => ?_
            refine oEi 36 hF fun t36 hF => ?_
            refine oEi 37 hF fun t37 hF => ?_
            refine oA 8 (.int .i64 t36) ?_
            refine oA 9 (.int .i64 t37) ?_
            refine oV [(8, .int .i64 t36), (9, .int .i64 t37)] (n26 (oY ?_))
            exact lZ hF [.tmp 8, .tmp 9] [.int .i64 t36, .int .i64 t37] (rT (rT res_nil))
    cases t16 with
    | true =>
      replace hF := ifB_t hF
      refine WL.o (some 18) ?_
      refine WL.o (some 19) ?_
      refine WL.o (some 20) ?_
      refine oA 21 (.bool true) ?_
      exact lW _ (J16 _ _ hF)
    | false =>
      replace hF := ifB_f hF
      refine oA 18 (.int .i64 t2) ?_
      refine oCb hc 19 hF fun t19 h_33 hF => ?_
      refine oB 20 hF fun t20 hF => ?_
      refine oA 21 (.bool t20) ?_
      exact lW _ (J16 _ _ hF)
noncomputable def net_Net_Twice (call : CallF) (_ : Nat) (t0 : AV) (t1 : Int) (h : AHeap) : R :=
  callN (call 35 [t0, .int .i64 t1] h) fun r12 h_3 =>
  obind (extT 0 r12) fun v13 =>
  obind (avInt .i64 v13) fun t13 =>
  obind (extT 1 r12) fun v14 =>
  obind (avInt .i64 v14) fun t14 =>
  lett ((t14 : Int) != 0) fun (t16 : Bool) =>
  ifB t16
  (
    some (.ret (.tup [.int .i64 0, .int .i64 t14]), h_3))
  (
    obind (nilC t0) fun t19 =>
    obind (fldP 0 t19) fun t20 =>
    obind (ldCell h_3 t20) fun v21 =>
    obind (idxP 4 v21 t13) fun t23 =>
    obind (ldRow h_3 4 t23) fun t24 =>
    lett (newH h_3 32 [.int .i64 0, .int .i64 0, .int .i64 0, .str 0 0]) fun h_19 =>
    obind (stRow h_19 4 t24 (newP h_3)) fun h_21 =>
    obind (ldCell h_21 (AV.ptr (AHeap.next h_3) 1)) fun v27 =>
    obind (avInt .i64 v27) fun t27 =>
    obind (ldCell h_21 (AV.ptr (AHeap.next h_3) 2)) fun v29 =>
    obind (avInt .i64 v29) fun t29 =>
    obind (ldCell h_21 (AV.ptr (AHeap.next h_3) 3)) fun v31 =>
    obind (avStr v31) fun t31 =>
    callN (call 34 [t0, .int .i64 t27, .int .i64 t29, strA t31] h_21) fun r32 h_30 =>
    obind (extT 0 r32) fun v33 =>
    obind (avInt .i64 v33) fun t33 =>
    obind (extT 1 r32) fun v34 =>
    obind (avInt .i64 v34) fun t34 =>
    some (.ret (.tup [.int .i64 t33, .int .i64 t34]), h_30))
set_option maxHeartbeats 4000000 in
set_option maxRecDepth 20000 in
theorem net_Net_Twice_ok {call : CallF} (hc : SaysAll Try.prog call) {n : Nat} {t0 : AV} {t1 : Int} {h : AHeap} {rR : ARes} {hR : AHeap} (hF : net_Net_Twice call n t0 t1 h = some (rR, hR)) : Says Try.prog 19 [t0, .int .i64 t1] h rR hR := by
  unfold net_Net_Twice at hF
  refine sO Try.func19 fun w0 m0 => ?_
  refine wW [(0, t0), (1, .int .i64 t1)] ?_
  refine oG fun n1 => W.r ?_
  refine oA 4 (.int .i64 0) ?_
  refine oA 5 (.int .i64 0) ?_
  refine oV [(0, t0), (1, .int .i64 t1)] (n1 ?_)
  refine oG fun n2 => W.r ?_
  refine oA 10 t0 ?_
  refine oA 11 (.int .i64 t1) ?_
  refine oC hc (some 12) hF fun r12 h_3 hF => ?_
  refine oA 9 r12 ?_
  refine oEi 13 hF fun t13 hF => ?_
  refine oEi 14 hF fun t14 hF => ?_
  refine oA 6 (.int .i64 t13) ?_
  refine oA 7 (.int .i64 t14) ?_
  refine oV [(0, t0), (6, .int .i64 t13), (7, .int .i64 t14)] (n2 ?_)
  refine oH fun n9 q9 => ?_
  refine oG fun n10 => W.r ?_
  refine oA 15 (.int .i64 t14) ?_
  refine oB 16 hF fun t16 hF => ?_
  refine oV [(0, t0), (6, .int .i64 t13), (7, .int .i64 t14), (16, .bool t16)] (n10 ?_)
  cases t16 with
  | true =>
    refine oT hF fun hF => ?_
    refine oG fun n12 => W.r ?_
    refine oA 17 (.int .i64 t14) ?_
    refine oA 4 (.int .i64 0) ?_
    refine oA 5 (.int .i64 t14) ?_
    refine oV [(4, .int .i64 0), (5, .int .i64 t14)] (n12 (oY (q9 ?_)))
    exact lZ hF [.tmp 4, .tmp 5] [.int .i64 0, .int .i64 t14] (rT (rT res_nil))
  | false =>
    refine oU hF fun hF => ?_
    refine oZ (n9 ?_)
    refine oG fun n13 => W.r ?_
    refine oA 18 t0 ?_
    refine oC0 19 hF fun t19 hF => ?_
    refine oF 20 63 0 hF fun t20 hF => ?_
    refine oL 21 27 hF fun v21 hF => ?_
    refine oA 22 (.int .i64 t13) ?_
    refine oP 23 27 32 .i64 hF fun t23 hF => ?_
    refine oR 24 32 hF fun t24 hF => ?_
    refine oN 8 hF fun h_19 hF => ?_
    refine oW 32 (.agg t24) hF fun h_21 hF => ?_
    refine oV [(0, t0), (8, (newP h_3))] (n13 ?_)
    refine oG fun n23 => W.r ?_
    refine oA 25 t0 ?_
    refine oA 26 (AV.ptr (AHeap.next h_3) 1) ?_
    refine oLi 27 3 hF fun t27 hF => ?_
    refine oA 28 (AV.ptr (AHeap.next h_3) 2) ?_
    refine oLi 29 3 hF fun t29 hF => ?_
    refine oA 30 (AV.ptr (AHeap.next h_3) 3) ?_
    refine oLs 31 9 hF fun t31 hF => ?_
    refine oC hc (some 32) hF fun r32 h_30 hF => ?_
    refine oEi 33 hF fun t33 hF => ?_
    refine oEi 34 hF fun t34 hF => ?_
    refine oA 4 (.int .i64 t33) ?_
    refine oA 5 (.int .i64 t34) ?_
    refine oV [(4, .int .i64 t33), (5, .int .i64 t34)] (n23 (oY ?_))
    exact lZ hF [.tmp 4, .tmp 5] [.int .i64 t33, .int .i64 t34] (rT (rT res_nil))
noncomputable def net_Net_Cut (call : CallF) (_ : Nat) (t0 : AV) (t1 : Int) (t2 : Int) (h : AHeap) : R :=
  callN (call 36 [t0, .int .i64 t1, .int .i64 t2] h) fun r11 h_4 =>
  obind (avInt .i64 r11) fun t11 =>
  lett ((t11 : Int) != 0) fun (t13 : Bool) =>
  ifB t13
  (
    some (.ret (.int .i64 t11), h_4))
  (
    obind (nilC t0) fun t16 =>
    obind (fldP 2 t16) fun t17 =>
    obind (ldCell h_4 t17) fun v18 =>
    callN (call 37 [.int .i64 t1, .int .i64 t2] h_4) fun r21 h_14 =>
    obind (avAgg r21) fun t21 =>
    chk (reLoad Try.prog h_14 61 t17 v18 && true) <|
    effK (opMapUpdate Try.prog h_14 61 (some v18) (some (.agg t21)) (some (.agg ([] : List AV)))) fun h_18 =>
    some (.ret (.int .i64 0), h_18))
set_option maxHeartbeats 4000000 in
set_option maxRecDepth 20000 in
theorem net_Net_Cut_ok {call : CallF} (hc : SaysAll Try.prog call) {n : Nat} {t0 : AV} {t1 : Int} {t2 : Int} {h : AHeap} {rR : ARes} {hR : AHeap} (hF : net_Net_Cut call n t0 t1 t2 h = some (rR, hR)) : Says Try.prog 20 [t0, .int .i64 t1, .int .i64 t2] h rR hR := by
  unfold net_Net_Cut at hF
  refine sO Try.func20 fun w0 m0 => ?_
  refine wW [(0, t0), (1, .int .i64 t1), (2, .int .i64 t2)] ?_
  refine oG fun n1 => W.r ?_
  refine oA 6 (.int .i64 0) ?_
  refine oV [(0, t0), (1, .int .i64 t1), (2, .int .i64 t2)] (n1 ?_)
  refine oH fun n2 q2 => ?_
  refine oG fun n3 => W.r ?_
  refine oA 8 t0 ?_
  refine oA 9 (.int .i64 t1) ?_
  refine oA 10 (.int .i64 t2) ?_
  refine oCi hc 11 hF fun t11 h_4 hF => ?_
  refine oA 7 (.int .i64 t11) ?_
  refine oV [(0, t0), (1, .int .i64 t1), (2, .int .i64 t2), (7, .int .i64 t11)] (n3 ?_)
  refine oG fun n7 => W.r ?_
  refine oA 12 (.int .i64 t11) ?_
  refine oB 13 hF fun t13 hF => ?_
  refine oV [(0, t0), (1, .int .i64 t1), (2, .int .i64 t2), (7, .int .i64 t11), (13, .bool t13)] (n7 ?_)
  cases t13 with
  | true =>
    refine oT hF fun hF => ?_
    refine oG fun n9 => W.r ?_
    refine oA 14 (.int .i64 t11) ?_
    refine oA 6 (.int .i64 t11) ?_
    refine oV [(6, .int .i64 t11)] (n9 (oY (q2 ?_)))
    exact lZ hF [.tmp 6] [.int .i64 t11] (rT res_nil)
  | false =>
    refine oU hF fun hF => ?_
    refine oZ (n2 ?_)
    refine oG fun n10 => ?_
    refine W.draw (by kernel_rfl) (hc.ok w0) (plan := [0, 1, 2, 3, 4, 5, 7, 6, 8]) (by kernel_rfl) (by kernel_rfl) (by kernel_rfl) ?_
    refine WD.a 0 (some 15) t0 h_4 ?_
    obtain ⟨t16, e11, hF⟩ := obind_some hF
    refine WD.b 0 (some 16) t16 h_4 (nil_chk (h := h_4) e11) ?_
    obtain ⟨t17, e12, hF⟩ := obind_some hF
    refine WD.b 0 (some 17) t17 h_4 (field_ptr (P := Try.prog) (h := h_4) (s := 63) (f := 2) (by kernel_rfl) e12) ?_
    obtain ⟨v18, e13, hF⟩ := obind_some hF
    refine WD.b 1 (some 18) v18 h_4 (load_cell (P := Try.prog) (h := h_4) (t := 61) (by kernel_rfl) e13) ?_
    refine WD.a 0 (some 19) (.int .i64 t1) h_4 ?_
    refine WD.a 0 (some 20) (.int .i64 t2) h_4 ?_
    refine WD.a 0 (some 22) (.agg ([] : List AV)) h_4 ?_
    replace hF := callN_some hF; obtain ⟨r21, h_14, e15, hF⟩ := hF
    replace hF := obind_some hF; obtain ⟨t21, c16, hF⟩ := hF
    have c16 := avAgg_some c16
    subst c16
    obtain ⟨k17, hF⟩ := chk_some hF
    refine WD.call (d := (some 21)) (by kernel_rfl) (by kernel_rfl) (by kernel_rfl) e15 (k := 2) (by kernel_rfl) (fun _ => (Eq.trans (by kernel_rfl) k17)) (by decide) ?_
    obtain ⟨h_18, e19, hF⟩ := effK_some hF
    refine WD.eff (h' := h_18) (by kernel_rfl) (by kernel_rfl) (Eq.trans (by kernel_rfl) e19) (k := 2) (by kernel_rfl) (fun _ => (by kernel_rfl)) (by decide) ?_
    refine WD.nil ?_
    refine gW [] (n10 ?_)
    refine oG fun n20 => W.r ?_
    refine oA 6 (.int .i64 0) ?_
    refine oV [(6, .int .i64 0)] (n20 (oY ?_))
    exact lZ hF [.tmp 6] [.int .i64 0] (rT res_nil)
noncomputable def net_Net_Drop (call : CallF) (_ : Nat) (t0 : AV) (t1 : Int) (h : AHeap) : R :=
  callN (call 22 [t0, .int .i64 t1] h) fun r10 h_3 =>
  obind (extT 0 r10) fun v11 =>
  obind (avAgg v11) fun t11 =>
  obind (extT 1 r10) fun v12 =>
  obind (avInt .i64 v12) fun t12 =>
  lett (newH h_3 32 [.int .i64 0, .int .i64 0, .int .i64 0, .str 0 0]) fun h_9 =>
  obind (stRow h_9 4 t11 (newP h_3)) fun h_11 =>
  some (.ret (.int .i64 t12), h_11)
set_option maxHeartbeats 4000000 in
set_option maxRecDepth 20000 in
theorem net_Net_Drop_ok {call : CallF} (hc : SaysAll Try.prog call) {n : Nat} {t0 : AV} {t1 : Int} {h : AHeap} {rR : ARes} {hR : AHeap} (hF : net_Net_Drop call n t0 t1 h = some (rR, hR)) : Says Try.prog 21 [t0, .int .i64 t1] h rR hR := by
  unfold net_Net_Drop at hF
  refine sO Try.func21 fun w0 m0 => ?_
  refine wW [(0, t0), (1, .int .i64 t1)] ?_
  refine oG fun n1 => W.r ?_
  refine oA 4 (.int .i64 0) ?_
  refine oV [(0, t0), (1, .int .i64 t1)] (n1 ?_)
  refine oG fun n2 => W.r ?_
  refine oA 8 t0 ?_
  refine oA 9 (.int .i64 t1) ?_
  refine oC hc (some 10) hF fun r10 h_3 hF => ?_
  refine oA 7 r10 ?_
  refine oEa 11 hF fun t11 hF => ?_
  refine oEi 12 hF fun t12 hF => ?_
  refine oN 5 hF fun h_9 hF => ?_
  refine oW 32 (.agg t11) hF fun h_11 hF => ?_
  refine oA 6 (.int .i64 t12) ?_
  refine oV [(6, .int .i64 t12)] (n2 ?_)
  refine oG fun n13 => W.r ?_
  refine oA 13 (.int .i64 t12) ?_
  refine oA 4 (.int .i64 t12) ?_
  refine oV [(4, .int .i64 t12)] (n13 (oY ?_))
  exact lZ hF [.tmp 4] [.int .i64 t12] (rT res_nil)
noncomputable def net_Net_Deliver (call : CallF) (_ : Nat) (t0 : AV) (t1 : Int) (h : AHeap) : R :=
  lett (newH h 32 [.int .i64 0, .int .i64 0, .int .i64 0, .str 0 0]) fun h_2 =>
  callN (call 35 [t0, .int .i64 t1] h_2) fun r12 h_5 =>
  obind (extT 0 r12) fun v13 =>
  obind (avInt .i64 v13) fun t13 =>
  obind (extT 1 r12) fun v14 =>
  obind (avInt .i64 v14) fun t14 =>
  lett ((t14 : Int) != 0) fun (t16 : Bool) =>
  ifB t16
  (
    obind (stRow h_5 4 ([.int .i64 0, .int .i64 0, .int .i64 0, .str 0 0] : List AV) (newP h)) fun h_15 =>
    obind (ldRow h_15 4 (newP h)) fun w4 =>
    some (.ret (.tup [.agg w4, .int .i64 t14]), h_15))
  (
    obind (nilC t0) fun t20 =>
    obind (fldP 0 t20) fun t21 =>
    obind (ldCell h_5 t21) fun v22 =>
    obind (idxP 4 v22 t13) fun t24 =>
    obind (ldRow h_5 4 t24) fun t25 =>
    lett (newH h_5 32 [.int .i64 0, .int .i64 0, .int .i64 0, .str 0 0]) fun h_24 =>
    obind (stRow h_24 4 t25 (newP h_5)) fun h_26 =>
    obind (nilC t0) fun t28 =>
    obind (fldP 0 t28) fun t29 =>
    obind (ldCell h_26 t29) fun v30 =>
    lett (IntKind.i64.wrap (t13 + 1)) fun (t33 : Int) =>
    callN (call 38 [v30, .int .i64 t13, .int .i64 t33] h_26) fun r34 h_33 =>
    obind (nilC t0) fun t35 =>
    obind (fldP 0 t35) fun t36 =>
    obind (stRow h_33 1 (AV.cells r34) t36) fun h_37 =>
    obind (ldRow h_37 4 (newP h_5)) fun t37 =>
    obind (stRow h_37 4 t37 (newP h)) fun h_41 =>
    obind (ldRow h_41 4 (newP h)) fun w4_44 =>
    some (.ret (.tup [.agg w4_44, .int .i64 0]), h_41))
set_option maxHeartbeats 4000000 in
set_option maxRecDepth 20000 in
theorem net_Net_Deliver_ok {call : CallF} (hc : SaysAll Try.prog call) {n : Nat} {t0 : AV} {t1 : Int} {h : AHeap} {rR : ARes} {hR : AHeap} (hF : net_Net_Deliver call n t0 t1 h = some (rR, hR)) : Says Try.prog 22 [t0, .int .i64 t1] h rR hR := by
  unfold net_Net_Deliver at hF
  refine sO Try.func22 fun w0 m0 => ?_
  refine wW [(0, t0), (1, .int .i64 t1)] ?_
  refine oG fun n1 => W.r ?_
  refine oN 4 hF fun h_2 hF => ?_
  refine oA 5 (.int .i64 0) ?_
  refine oV [(0, t0), (1, .int .i64 t1), (4, (newP h))] (n1 ?_)
  refine oG fun n4 => W.r ?_
  refine oA 10 t0 ?_
  refine oA 11 (.int .i64 t1) ?_
  refine oC hc (some 12) hF fun r12 h_5 hF => ?_
  refine oA 9 r12 ?_
  refine oEi 13 hF fun t13 hF => ?_
  refine oEi 14 hF fun t14 hF => ?_
  refine oA 6 (.int .i64 t13) ?_
  refine oA 7 (.int .i64 t14) ?_
  refine oV [(0, t0), (4, (newP h)), (6, .int .i64 t13), (7, .int .i64 t14)] (n4 ?_)
  refine oH fun n11 q11 => ?_
  refine oG fun n12 => W.r ?_
  refine oA 15 (.int .i64 t14) ?_
  refine oB 16 hF fun t16 hF => ?_
  refine oV [(0, t0), (4, (newP h)), (6, .int .i64 t13), (7, .int .i64 t14), (16, .bool t16)] (n12 ?_)
  cases t16 with
  | true =>
    refine oT hF fun hF => ?_
    refine oG fun n14 => W.r ?_
    refine oA 17 (.agg ([.int .i64 0, .int .i64 0, .int .i64 0, .str 0 0] : List AV)) ?_
    refine oA 18 (.int .i64 t14) ?_
    refine oW 32 (.agg ([.int .i64 0, .int .i64 0, .int .i64 0, .str 0 0] : List AV)) hF fun h_15 hF => ?_
    refine oA 5 (.int .i64 t14) ?_
    refine oV [(4, (newP h)), (5, .int .i64 t14)] (n14 (oY (q11 ?_)))
    obtain ⟨w4, e17, hF⟩ := obind_some hF
    exact lZ hF [.cell 4 32, .tmp 5] [.agg w4, .int .i64 t14] (rY e17 (rT res_nil))
  | false =>
    refine oU hF fun hF => ?_
    refine oZ (n11 ?_)
    refine oG fun n18 => W.r ?_
    refine oA 19 t0 ?_
    refine oC0 20 hF fun t20 hF => ?_
    refine oF 21 63 0 hF fun t21 hF => ?_
    refine oL 22 27 hF fun v22 hF => ?_
    refine oA 23 (.int .i64 t13) ?_
    refine oP 24 27 32 .i64 hF fun t24 hF => ?_
    refine oR 25 32 hF fun t25 hF => ?_
    refine oN 8 hF fun h_24 hF => ?_
    refine oW 32 (.agg t25) hF fun h_26 hF => ?_
    refine oV [(0, t0), (4, (newP h)), (6, .int .i64 t13), (8, (newP h_5))] (n18 ?_)
    refine oG fun n28 => W.r ?_
    refine oA 26 t0 ?_
    refine oA 27 t0 ?_
    refine oC0 28 hF fun t28 hF => ?_
    refine oF 29 63 0 hF fun t29 hF => ?_
    refine oL 30 27 hF fun v30 hF => ?_
    refine oA 31 (.int .i64 t13) ?_
    refine oA 32 (.int .i64 t13) ?_
    refine oI 33 .i64 hF fun t33 hF => ?_
    refine oC hc (some 34) hF fun r34 h_33 hF => ?_
    refine oC0 35 hF fun t35 hF => ?_
    refine oF 36 63 0 hF fun t36 hF => ?_
    refine oW 27 r34 hF fun h_37 hF => ?_
    refine oV [(4, (newP h)), (8, (newP h_5))] (n28 ?_)
    refine oG fun n39 => W.r ?_
    refine oR 37 32 hF fun t37 hF => ?_
    refine oW 32 (.agg t37) hF fun h_41 hF => ?_
    refine oA 5 (.int .i64 0) ?_
    refine oV [(4, (newP h)), (5, .int .i64 0)] (n39 (oY ?_))
    obtain ⟨w4_44, e43, hF⟩ := obind_some hF
    exact lZ hF [.cell 4 32, .tmp 5] [.agg w4_44, .int .i64 0] (rY e43 (rT res_nil))
noncomputable def net_Net_Heal (call : CallF) (_ : Nat) (t0 : AV) (t1 : Int) (t2 : Int) (h : AHeap) : R :=
  callN (call 36 [t0, .int .i64 t1, .int .i64 t2] h) fun r11 h_4 =>
  obind (avInt .i64 r11) fun t11 =>
  lett ((t11 : Int) != 0) fun (t13 : Bool) =>
  ifB t13
  (
    some (.ret (.int .i64 t11), h_4))
  (
    obind (nilC t0) fun t16 =>
    obind (fldP 2 t16) fun t17 =>
    obind (ldCell h_4 t17) fun v18 =>
    callN (call 37 [.int .i64 t1, .int .i64 t2] h_4) fun r21 h_14 =>
    obind (avAgg r21) fun t21 =>
    chk (reLoad Try.prog h_14 61 t17 v18 && true) <|
    outK (opDelete Try.prog h_14 61 v18 (.agg t21)) fun _ h_18 =>
    some (.ret (.int .i64 0), h_18))
set_option maxHeartbeats 4000000 in
set_option maxRecDepth 20000 in
theorem net_Net_Heal_ok {call : CallF} (hc : SaysAll Try.prog call) {n : Nat} {t0 : AV} {t1 : Int} {t2 : Int} {h : AHeap} {rR : ARes} {hR : AHeap} (hF : net_Net_Heal call n t0 t1 t2 h = some (rR, hR)) : Says Try.prog 23 [t0, .int .i64 t1, .int .i64 t2] h rR hR := by
  unfold net_Net_Heal at hF
  refine sO Try.func23 fun w0 m0 => ?_
  refine wW [(0, t0), (1, .int .i64 t1), (2, .int .i64 t2)] ?_
  refine oG fun n1 => W.r ?_
  refine oA 6 (.int .i64 0) ?_
  refine oV [(0, t0), (1, .int .i64 t1), (2, .int .i64 t2)] (n1 ?_)
  refine oH fun n2 q2 => ?_
  refine oG fun n3 => W.r ?_
  refine oA 8 t0 ?_
  refine oA 9 (.int .i64 t1) ?_
  refine oA 10 (.int .i64 t2) ?_
  refine oCi hc 11 hF fun t11 h_4 hF => ?_
  refine oA 7 (.int .i64 t11) ?_
  refine oV [(0, t0), (1, .int .i64 t1), (2, .int .i64 t2), (7, .int .i64 t11)] (n3 ?_)
  refine oG fun n7 => W.r ?_
  refine oA 12 (.int .i64 t11) ?_
  refine oB 13 hF fun t13 hF => ?_
  refine oV [(0, t0), (1, .int .i64 t1), (2, .int .i64 t2), (7, .int .i64 t11), (13, .bool t13)] (n7 ?_)
  cases t13 with
  | true =>
    refine oT hF fun hF => ?_
    refine oG fun n9 => W.r ?_
    refine oA 14 (.int .i64 t11) ?_
    refine oA 6 (.int .i64 t11) ?_
    refine oV [(6, .int .i64 t11)] (n9 (oY (q2 ?_)))
    exact lZ hF [.tmp 6] [.int .i64 t11] (rT res_nil)
  | false =>
    refine oU hF fun hF => ?_
    refine oZ (n2 ?_)
    refine oG fun n10 => ?_
    refine W.draw (by kernel_rfl) (hc.ok w0) (plan := [0, 1, 2, 3, 4, 5, 6, 7]) (by kernel_rfl) (by kernel_rfl) (by kernel_rfl) ?_
    refine WD.a 0 (some 15) t0 h_4 ?_
    obtain ⟨t16, e11, hF⟩ := obind_some hF
    refine WD.b 0 (some 16) t16 h_4 (nil_chk (h := h_4) e11) ?_
    obtain ⟨t17, e12, hF⟩ := obind_some hF
    refine WD.b 0 (some 17) t17 h_4 (field_ptr (P := Try.prog) (h := h_4) (s := 63) (f := 2) (by kernel_rfl) e12) ?_
    obtain ⟨v18, e13, hF⟩ := obind_some hF
    refine WD.b 1 (some 18) v18 h_4 (load_cell (P := Try.prog) (h := h_4) (t := 61) (by kernel_rfl) e13) ?_
    refine WD.a 0 (some 19) (.int .i64 t1) h_4 ?_
    refine WD.a 0 (some 20) (.int .i64 t2) h_4 ?_
    replace hF := callN_some hF; obtain ⟨r21, h_14, e15, hF⟩ := hF
    replace hF := obind_some hF; obtain ⟨t21, c16, hF⟩ := hF
    have c16 := avAgg_some c16
    subst c16
    obtain ⟨k17, hF⟩ := chk_some hF
    refine WD.call (d := (some 21)) (by kernel_rfl) (by kernel_rfl) (by kernel_rfl) e15 (k := 2) (by kernel_rfl) (fun _ => (Eq.trans (by kernel_rfl) k17)) (by decide) ?_
    obtain ⟨v, h_18, e19, hF⟩ := outK_some hF
    refine WD.val (d := none) (v := v) (h' := h_18) (by kernel_rfl) (by kernel_rfl) (Eq.trans (by kernel_rfl) e19) (k := 2) (by kernel_rfl) (fun _ => (by kernel_rfl)) (by decide) ?_
    refine WD.nil ?_
    refine gW [] (n10 ?_)
    refine oG fun n20 => W.r ?_
    refine oA 6 (.int .i64 0) ?_
    refine oV [(6, .int .i64 0)] (n20 (oY ?_))
    exact lZ hF [.tmp 6] [.int .i64 0] (rT res_nil)
noncomputable def net_Net_isCut (call : CallF) (_ : Nat) (t0 : AV) (t1 : Int) (t2 : Int) (h : AHeap) : R :=
  obind (nilC t0) fun t11 =>
  obind (fldP 2 t11) fun t12 =>
  obind (ldCell h t12) fun v13 =>
  lett (newH h 76 []) fun h_6 =>
  callN (call 37 [.int .i64 t1, .int .i64 t2] h_6) fun r16 h_8 =>
  obind (avAgg r16) fun t16 =>
  chk (rowSame h_8 (AHeap.next h) 76 [] && (reLoad Try.prog h_8 61 t12 v13 && true)) <|
  outK (opLookup Try.prog h_8 61 true (some v13) (some (.agg t16))) fun v17 h_12 =>
  obind (extT 0 v17) fun v18 =>
  obind (avAgg v18) fun t18 =>
  obind (extT 1 v17) fun v19 =>
  obind (avBool v19) fun t19 =>
  obind (stRow h_12 0 t18 (newP h)) fun h_18 =>
  some (.ret (.bool t19), h_18)
set_option maxHeartbeats 4000000 in
set_option maxRecDepth 20000 in
theorem net_Net_isCut_ok {call : CallF} (hc : SaysAll Try.prog call) {n : Nat} {t0 : AV} {t1 : Int} {t2 : Int} {h : AHeap} {rR : ARes} {hR : AHeap} (hF : net_Net_isCut call n t0 t1 t2 h = some (rR, hR)) : Says Try.prog 33 [t0, .int .i64 t1, .int .i64 t2] h rR hR := by
  unfold net_Net_isCut at hF
  refine sO Try.func33 fun w0 m0 => ?_
  refine wW [(0, t0), (1, .int .i64 t1), (2, .int .i64 t2)] ?_
  refine oG fun n1 => W.r ?_
  refine oA 6 (.bool false) ?_
  refine oV [(0, t0), (1, .int .i64 t1), (2, .int .i64 t2)] (n1 ?_)
  refine oG fun n2 => ?_
  refine W.draw (by kernel_rfl) (hc.ok w0) (plan := [0, 1, 2, 3, 4, 5, 11, 6, 7, 8, 9, 10, 12, 13]) (by kernel_rfl) (by kernel_rfl) (by kernel_rfl) ?_
  refine WD.a 0 (some 10) t0 h ?_
  obtain ⟨t11, e3, hF⟩ := obind_some hF
  refine WD.b 0 (some 11) t11 h (nil_chk (h := h) e3) ?_
  obtain ⟨t12, e4, hF⟩ := obind_some hF
  refine WD.b 0 (some 12) t12 h (field_ptr (P := Try.prog) (h := h) (s := 63) (f := 2) (by kernel_rfl) e4) ?_
  obtain ⟨v13, e5, hF⟩ := obind_some hF
  refine WD.b 1 (some 13) v13 h (load_cell (P := Try.prog) (h := h) (t := 61) (by kernel_rfl) e5) ?_
  refine WD.a 0 (some 14) (.int .i64 t1) h ?_
  refine WD.a 0 (some 15) (.int .i64 t2) h ?_
  obtain ⟨h_6, e7, hF⟩ := lett_some hF
  refine WD.val (d := (some 7)) (v := (newP h)) (h' := h_6) (by kernel_rfl) (by kernel_rfl) (val_ofH e7 (by kernel_rfl)) (k := 1) (by kernel_rfl) (fun e => absurd e (by decide)) (by decide) ?_
  replace hF := callN_some hF; obtain ⟨r16, h_8, e9, hF⟩ := hF
  replace hF := obind_some hF; obtain ⟨t16, c10, hF⟩ := hF
  have c10 := avAgg_some c10
  subst c10
  obtain ⟨k11, hF⟩ := chk_some hF
  refine WD.call (d := (some 16)) (by kernel_rfl) (by kernel_rfl) (by kernel_rfl) e9 (k := 2) (by kernel_rfl) (fun _ => (Eq.trans (by kernel_rfl) k11)) (by decide) ?_
  obtain ⟨v17, h_12, e13, hF⟩ := outK_some hF
  refine WD.b 1 (some 17) v17 h_12 e13 ?_
  refine WD.a 0 (some 9) v17 h_12 ?_
  replace hF := obind_some hF; obtain ⟨v18, e14, hF⟩ := hF
  replace hF := obind_some hF; obtain ⟨t18, c15, hF⟩ := hF
  have c15 := avAgg_some c15
  subst c15
  refine WD.b 0 (some 18) (.agg t18) h_12 (extract_tup (h := h_12) e14) ?_
  replace hF := obind_some hF; obtain ⟨v19, e16, hF⟩ := hF
  replace hF := obind_some hF; obtain ⟨t19, c17, hF⟩ := hF
  have c17 := avBool_some c17
  subst c17
  refine WD.b 0 (some 19) (.bool t19) h_12 (extract_tup (h := h_12) e16) ?_
  obtain ⟨h_18, e19, hF⟩ := obind_some hF
  refine WD.eff (h' := h_18) (by kernel_rfl) (by kernel_rfl) (Eq.trans (by kernel_rfl) (store_row (P := Try.prog) (h := h_12) (t := 76) (v := (.agg t18)) (by kernel_rfl) (by kernel_rfl) e19)) (k := 2) (by kernel_rfl) (fun _ => (by kernel_rfl)) (by decide) ?_
  refine WD.a 0 (some 8) (.bool t19) h_18 ?_
  refine WD.nil ?_
  refine gW [(8, .bool t19)] (n2 ?_)
  refine oG fun n20 => W.r ?_
  refine oA 20 (.bool t19) ?_
  refine oA 6 (.bool t19) ?_
  refine oV [(6, .bool t19)] (n20 (oY ?_))
  exact lZ hF [.tmp 6] [.bool t19] (rT res_nil)
noncomputable def net_Net_add (_ : CallF) (_ : Nat) (t0 : AV) (t1 : Int) (t2 : Int) (t3 : Bytes) (h : AHeap) : R :=
  obind (nilC t0) fun t11 =>
  obind (fldP 0 t11) fun t12 =>
  obind (ldCell h t12) fun v13 =>
  obind (lenL v13) fun t14 =>
  lett (decide (t14 ≥ 256)) fun (t15 : Bool) =>
  ifB t15
  (
    some (.ret (.tup [.int .i64 0, .int .i64 8]), h))
  (
    obind (nilC t0) fun t17 =>
    obind (fldP 1 t17) fun t18 =>
    obind (ldCell h t18) fun v19 =>
    obind (avInt .i64 v19) fun t19 =>
    lett (IntKind.i64.wrap (t19 + 1)) fun (t20 : Int) =>
    obind (nilC t0) fun t21 =>
    obind (fldP 1 t21) fun t22 =>
    obind (stRow h 1 [.int .i64 t20] t22) fun h_18 =>
    obind (nilC t0) fun t25 =>
    obind (fldP 0 t25) fun t26 =>
    obind (ldCell h_18 t26) fun v27 =>
    obind (nilC t0) fun t29 =>
    obind (fldP 1 t29) fun t30 =>
    obind (ldCell h_18 t30) fun v31 =>
    obind (avInt .i64 v31) fun t31 =>
    outK (bldSl Try.prog h_18 27 1 [(0, .agg ([.int .i64 t31, .int .i64 t1, .int .i64 t2, strA t3] : List AV))]) fun v36 h_28 =>
    chk (true && (reLoad Try.prog h_28 27 t26 v27 && true)) <|
    outK (opAppend Try.prog h_28 27 27 v27 v36) fun v37 h_31 =>
    obind (nilC t0) fun t38 =>
    obind (fldP 0 t38) fun t39 =>
    obind (stRow h_31 1 (AV.cells v37) t39) fun h_35 =>
    obind (nilC t0) fun t41 =>
    obind (fldP 1 t41) fun t42 =>
    obind (ldCell h_35 t42) fun v43 =>
    obind (avInt .i64 v43) fun t43 =>
    some (.ret (.tup [.int .i64 t43, .int .i64 0]), h_35))
set_option maxHeartbeats 4000000 in
set_option maxRecDepth 20000 in
theorem net_Net_add_ok {call : CallF} (hc : SaysAll Try.prog call) {n : Nat} {t0 : AV} {t1 : Int} {t2 : Int} {t3 : Bytes} {h : AHeap} {rR : ARes} {hR : AHeap} (hF : net_Net_add call n t0 t1 t2 t3 h = some (rR, hR)) : Says Try.prog 34 [t0, .int .i64 t1, .int .i64 t2, strA t3] h rR hR := by
  unfold net_Net_add at hF
  refine sO Try.func34 fun w0 m0 => ?_
  refine wW [(0, t0), (1, .int .i64 t1), (2, .int .i64 t2), (3, strA t3)] ?_
  refine oG fun n1 => W.r ?_
  refine oA 8 (.int .i64 0) ?_
  refine oA 9 (.int .i64 0) ?_
  refine oV [(0, t0), (1, .int .i64 t1), (2, .int .i64 t2), (3, strA t3)] (n1 ?_)
  refine oH fun n2 q2 => ?_
  refine oG fun n3 => W.r ?_
  refine oA 10 t0 ?_
  refine oC0 11 hF fun t11 hF => ?_
  refine oF 12 63 0 hF fun t12 hF => ?_
  refine oL 13 27 hF fun v13 hF => ?_
  refine oM 14 27 32 hF fun t14 hF => ?_
  refine oB 15 hF fun t15 hF => ?_
  refine oV [(0, t0), (1, .int .i64 t1), (2, .int .i64 t2), (3, strA t3), (15, .bool t15)] (n3 ?_)
  cases t15 with
  | true =>
    refine oT hF fun hF => ?_
    refine oG fun n9 => W.r ?_
    refine oA 8 (.int .i64 0) ?_
    refine oA 9 (.int .i64 8) ?_
    refine oV [(8, .int .i64 0), (9, .int .i64 8)] (n9 (oY (q2 ?_)))
    exact lZ hF [.tmp 8, .tmp 9] [.int .i64 0, .int .i64 8] (rT (rT res_nil))
  | false =>
    refine oU hF fun hF => ?_
    refine oZ (n2 ?_)
    refine oG fun n10 => W.r ?_
    refine oA 16 t0 ?_
    refine oC0 17 hF fun t17 hF => ?_
    refine oF 18 63 1 hF fun t18 hF => ?_
    refine oLi 19 3 hF fun t19 hF => ?_
    refine oI 20 .i64 hF fun t20 hF => ?_
    refine oC0 21 hF fun t21 hF => ?_
    refine oF 22 63 1 hF fun t22 hF => ?_
    refine oW 3 (.int .i64 t20) hF fun h_18 hF => ?_
    refine oV [(0, t0), (1, .int .i64 t1), (2, .int .i64 t2), (3, strA t3)] (n10 ?_)
    refine oG fun n20 => ?_
    refine W.draw (by kernel_rfl) (hc.ok w0) (plan := [0, 1, 2, 3, 4, 5, 6, 7, 8, 9, 10, 11, 12, 13, 14, 15, 16, 17]) (by kernel_rfl) (by kernel_rfl) (by kernel_rfl) ?_
    refine WD.a 0 (some 23) t0 h_18 ?_
    refine WD.a 0 (some 24) t0 h_18 ?_
    obtain ⟨t25, e21, hF⟩ := obind_some hF
    refine WD.b 0 (some 25) t25 h_18 (nil_chk (h := h_18) e21) ?_
    obtain ⟨t26, e22, hF⟩ := obind_some hF
    refine WD.b 0 (some 26) t26 h_18 (field_ptr (P := Try.prog) (h := h_18) (s := 63) (f := 0) (by kernel_rfl) e22) ?_
    obtain ⟨v27, e23, hF⟩ := obind_some hF
    refine WD.b 1 (some 27) v27 h_18 (load_cell (P := Try.prog) (h := h_18) (t := 27) (by kernel_rfl) e23) ?_
    refine WD.a 0 (some 28) t0 h_18 ?_
    obtain ⟨t29, e24, hF⟩ := obind_some hF
    refine WD.b 0 (some 29) t29 h_18 (nil_chk (h := h_18) e24) ?_
    obtain ⟨t30, e25, hF⟩ := obind_some hF
    refine WD.b 0 (some 30) t30 h_18 (field_ptr (P := Try.prog) (h := h_18) (s := 63) (f := 1) (by kernel_rfl) e25) ?_
    replace hF := obind_some hF; obtain ⟨v31, e26, hF⟩ := hF
    replace hF := obind_some hF; obtain ⟨t31, c27, hF⟩ := hF
    have c27 := avInt_some c27
    subst c27
    refine WD.b 1 (some 31) (.int .i64 t31) h_18 (load_cell (P := Try.prog) (h := h_18) (t := 3) (by kernel_rfl) e26) ?_
    refine WD.a 0 (some 32) (.int .i64 t1) h_18 ?_
    refine WD.a 0 (some 33) (.int .i64 t2) h_18 ?_
    refine WD.a 0 (some 34) (strA t3) h_18 ?_
    refine WD.a 0 (some 35) (.agg ([.int .i64 t31, .int .i64 t1, .int .i64 t2, strA t3] : List AV)) h_18 ?_
    obtain ⟨v36, h_28, e29, hF⟩ := outK_some hF
    obtain ⟨k30, hF⟩ := chk_some hF
    refine WD.val (d := (some 36)) (v := v36) (h' := h_28) (by kernel_rfl) (by kernel_rfl) (Eq.trans (by kernel_rfl) e29) (k := 2) (by kernel_rfl) (fun _ => (Eq.trans (by kernel_rfl) k30)) (by decide) ?_
    obtain ⟨v37, h_31, e32, hF⟩ := outK_some hF
    refine WD.val (d := (some 37)) (v := v37) (h' := h_31) (by kernel_rfl) (by kernel_rfl) (Eq.trans (by kernel_rfl) e32) (k := 2) (by kernel_rfl) (fun _ => (by kernel_rfl)) (by decide) ?_
    obtain ⟨t38, e33, hF⟩ := obind_some hF
    refine WD.b 0 (some 38) t38 h_31 (nil_chk (h := h_31) e33) ?_
    obtain ⟨t39, e34, hF⟩ := obind_some hF
    refine WD.b 0 (some 39) t39 h_31 (field_ptr (P := Try.prog) (h := h_31) (s := 63) (f := 0) (by kernel_rfl) e34) ?_
    obtain ⟨h_35, e36, hF⟩ := obind_some hF
    refine WD.eff (h' := h_35) (by kernel_rfl) (by kernel_rfl) (Eq.trans (by kernel_rfl) (store_row (P := Try.prog) (h := h_31) (t := 27) (v := v37) (by kernel_rfl) (by kernel_rfl) e36)) (k := 2) (by kernel_rfl) (fun _ => (by kernel_rfl)) (by decide) ?_
    refine WD.nil ?_
    refine gW [(0, t0)] (n20 ?_)
    refine oG fun n37 => W.r ?_
    refine oA 40 t0 ?_
    refine oC0 41 hF fun t41 hF => ?_
    refine oF 42 63 1 hF fun t42 hF => ?_
    refine oLi 43 3 hF fun t43 hF => ?_
    refine oA 8 (.int .i64 t43) ?_
    refine oA 9 (.int .i64 0) ?_
    refine oV [(8, .int .i64 t43), (9, .int .i64 0)] (n37 (oY ?_))
    exact lZ hF [.tmp 8, .tmp 9] [.int .i64 t43, .int .i64 0] (rT (rT res_nil))
noncomputable def net_Net_find (call : CallF) (_ : Nat) (t0 : AV) (t1 : Int) (h : AHeap) : R :=
  outK (opBin Try.prog h .eql 25 true (some t0) (some AV.nilp)) fun v9 h_4 =>
  obind (avBool v9) fun t9 =>
  ifB t9
  (
    some (.ret (.tup [.int .i64 0, .int .i64 1]), h_4))
  (
    obind (nilC t0) fun t12 =>
    obind (fldP 0 t12) fun t13 =>
    obind (ldCell h_4 t13) fun v14 =>
    callN (call 44 [v14, .int .i64 t1, (AV.fn 45 [] [])] h_4) fun r16 h_12 =>
    obind (extT 0 r16) fun v17 =>
    obind (avInt .i64 v17) fun t17 =>
    obind (extT 1 r16) fun v18 =>
    obind (avBool v18) fun t18 =>
    lett (!t18) fun (t20 : Bool) =>
    ifB t20
    (
      some (.ret (.tup [.int .i64 0, .int .i64 4]), h_12))
    (
      some (.ret (.tup [.int .i64 t17, .int .i64 0]), h_12)))
set_option maxHeartbeats 4000000 in
set_option maxRecDepth 20000 in
theorem net_Net_find_ok {call : CallF} (hc : SaysAll Try.prog call) {n : Nat} {t0 : AV} {t1 : Int} {h : AHeap} {rR : ARes} {hR : AHeap} (hF : net_Net_find call n t0 t1 h = some (rR, hR)) : Says Try.prog 35 [t0, .int .i64 t1] h rR hR := by
  unfold net_Net_find at hF
  refine sO Try.func35 fun w0 m0 => ?_
  refine wW [(0, t0), (1, .int .i64 t1)] ?_
  refine oG fun n1 => W.r ?_
  refine oA 4 (.int .i64 0) ?_
  refine oA 5 (.int .i64 0) ?_
  refine oV [(0, t0), (1, .int .i64 t1)] (n1 ?_)
  refine oH fun n2 q2 => ?_
  refine oG fun n3 => W.r ?_
  refine oA 8 t0 ?_
  replace hF := outK_some hF; obtain ⟨v9, h_4, e5, hF⟩ := hF
  replace hF := obind_some hF; obtain ⟨t9, c6, hF⟩ := hF
  have c6 := avBool_some c6
  subst c6
  refine WL.b (some 9) (.bool t9) h_4 e5 ?_
  refine oV [(0, t0), (1, .int .i64 t1), (9, .bool t9)] (n3 ?_)
  cases t9 with
  | true =>
    refine oT hF fun hF => ?_
    refine oG fun n7 => W.r ?_
    refine oA 4 (.int .i64 0) ?_
    refine oA 5 (.int .i64 1) ?_
    refine oV [(4, .int .i64 0), (5, .int .i64 1)] (n7 (oY (q2 ?_)))
    exact lZ hF [.tmp 4, .tmp 5] [.int .i64 0, .int .i64 1] (rT (rT res_nil))
  | false =>
    refine oU hF fun hF => ?_
    refine oZ (n2 ?_)
    refine oG fun n8 => W.r ?_
    refine oA 11 t0 ?_
    refine oC0 12 hF fun t12 hF => ?_
    refine oF 13 63 0 hF fun t13 hF => ?_
    refine oL 14 27 hF fun v14 hF => ?_
    refine oA 15 (.int .i64 t1) ?_
    refine oC hc (some 16) hF fun r16 h_12 hF => ?_
    refine oA 10 r16 ?_
    refine oEi 17 hF fun t17 hF => ?_
    refine oEb 18 hF fun t18 hF => ?_
    refine oA 6 (.int .i64 t17) ?_
    refine oA 7 (.bool t18) ?_
    refine oV [(6, .int .i64 t17), (7, .bool t18)] (n8 ?_)
    refine oH fun n18 q18 => ?_
    refine oG fun n19 => W.r ?_
    refine oA 19 (.bool t18) ?_
    refine oB 20 hF fun t20 hF => ?_
    refine oV [(6, .int .i64 t17), (20, .bool t20)] (n19 ?_)
    cases t20 with
    | true =>
      refine oT hF fun hF => ?_
      refine oG fun n21 => W.r ?_
      refine oA 4 (.int .i64 0) ?_
      refine oA 5 (.int .i64 4) ?_
      refine oV [(4, .int .i64 0), (5, .int .i64 4)] (n21 (oY (q18 ?_)))
      exact lZ hF [.tmp 4, .tmp 5] [.int .i64 0, .int .i64 4] (rT (rT res_nil))
    | false =>
      refine oU hF fun hF => ?_
      refine oZ (n18 ?_)
      refine oG fun n22 => W.r ?_
      refine oA 21 (.int .i64 t17) ?_
      refine oA 4 (.int .i64 t17) ?_
      refine oA 5 (.int .i64 0) ?_
      refine oV [(4, .int .i64 t17), (5, .int .i64 0)] (n22 (oY ?_))
      exact lZ hF [.tmp 4, .tmp 5] [.int .i64 t17, .int .i64 0] (rT (rT res_nil))
noncomputable def net_Net_refuses (call : CallF) (_ : Nat) (t0 : AV) (t1 : Int) (t2 : Int) (h : AHeap) : R :=
  outK (opBin Try.prog h .eql 25 true (some t0) (some AV.nilp)) fun v8 h_4 =>
  obind (avBool v8) fun t8 =>
  ifB t8
  (
    some (.ret (.int .i64 1), h_4))
  (
    callN (call 32 [.int .i64 t1] h_4) fun r10 h_10 =>
    obind (avBool r10) fun t10 =>
    lett (!t10) fun (t11 : Bool) =>
    lett (fun (t16 : Bool) (h_14 : AHeap) =>
      lett (fun (t21 : Bool) (h_17 : AHeap) =>
        ifB t21
        (
          some (.ret (.int .i64 2), h_17))
        (
          some (.ret (.int .i64 0), h_17))) fun j21 =>
      ifB t16
      (
        j21 true h_14)
      (
        lett ((t1 : Int) == t2) fun (t20 : Bool) =>
        j21 t20 h_14)) fun j16 =>
    ifB t11
    (
      j16 true h_10)
    (
      callN (call 32 [.int .i64 t2] h_10) fun r14 h_23 =>
      obind (avBool r14) fun t14 =>
      lett (!t14) fun (t15 : Bool) =>
      j16 t15 h_23))
set_option maxHeartbeats 4000000 in
set_option maxRecDepth 20000 in
theorem net_Net_refuses_ok {call : CallF} (hc : SaysAll Try.prog call) {n : Nat} {t0 : AV} {t1 : Int} {t2 : Int} {h : AHeap} {rR : ARes} {hR : AHeap} (hF : net_Net_refuses call n t0 t1 t2 h = some (rR, hR)) : Says Try.prog 36 [t0, .int .i64 t1, .int .i64 t2] h rR hR := by
  unfold net_Net_refuses at hF
  refine sO Try.func36 fun w0 m0 => ?_
  refine wW [(0, t0), (1, .int .i64 t1), (2, .int .i64 t2)] ?_
  refine oG fun n1 => W.r ?_
  refine oA 6 (.int .i64 0) ?_
  refine oV [(0, t0), (1, .int .i64 t1), (2, .int .i64 t2)] (n1 ?_)
  refine oH fun n2 q2 => ?_
  refine oG fun n3 => W.r ?_
  refine oA 7 t0 ?_
  replace hF := outK_some hF; obtain ⟨v8, h_4, e5, hF⟩ := hF
  replace hF := obind_some hF; obtain ⟨t8, c6, hF⟩ := hF
  have c6 := avBool_some c6
  subst c6
  refine WL.b (some 8) (.bool t8) h_4 e5 ?_
  refine oV [(1, .int .i64 t1), (2, .int .i64 t2), (8, .bool t8)] (n3 ?_)
  cases t8 with
  | true =>
    refine oT hF fun hF => ?_
    refine oG fun n7 => W.r ?_
    refine oA 6 (.int .i64 1) ?_
    refine oV [(6, .int .i64 1)] (n7 (oY (q2 ?_)))
    exact lZ hF [.tmp 6] [.int .i64 1] (rT res_nil)
  | false =>
    refine oU hF fun hF => ?_
    refine oZ (n2 ?_)
    refine oH fun n8 q8 => ?_
    refine W.s (fun K9 n9 e9 q9 p9 => ?_)
    refine W.r ?_
    refine oA 9 (.int .i64 t1) ?_
    refine oCb hc 10 hF fun t10 h_10 hF => ?_
    refine oB 11 hF fun t11 hF => ?_
    refine oA 12 (.bool t11) ?_
    obtain ⟨j16, e15, hF⟩ := lett_some hF
    have J16 : ∀ (t16 : Bool) (h_14 : AHeap), j16 t16 h_14 = some (rR, hR) → WL Try.prog w0 m0 (Func.ntmps Try.f36) (Code.ops (Code.p1 (Code.p1 (Code.p2 (Code.p2 (codeOf Try.f36)))))) 8 K9 [(1, .int .i64 t1), (2, .int .i64 t2), (16, .bool t16)] [] h_14 := by
      intro t16 h_14 hF
      rw [e15] at hF
      refine oA 17 (.bool t16) ?_
      obtain ⟨j21, e18, hF⟩ := lett_some hF
      have J19 : ∀ (t21 : Bool) (h_17 : AHeap), j21 t21 h_17 = some (rR, hR) → WL Try.prog w0 m0 (Func.ntmps Try.f36) (Code.ops (Code.p1 (Code.p1 (Code.p2 (Code.p2 (codeOf Try.f36)))))) 13 K9 [(21, .bool t21)] [] h_17 := by
        intro t21 h_17 hF
        rw [e18] at hF
        refine oV [(21, .bool t21)] (n9 ?_)
        cases t21 with
        | true =>
          refine oT hF fun hF => ?_
          refine oG fun n20 => W.r ?_
          refine oA 6 (.int .i64 2) ?_
          refine oV [(6, .int .i64 2)] (n20 (oY (q8 ?_)))
          exact lZ hF [.tmp 6] [.int .i64 2] (rT res_nil)
        | false =>
          refine oU hF fun hF => ?_
          refine oZ (n8 ?_)
          refine oG fun n21 => W.r ?_
          refine oA 6 (.int .i64 0) ?_
          refine oV [(6, .int .i64 0)] (n21 (oY ?_))
          exact lZ hF [.tmp 6] [.int .i64 0] (rT res_nil)
      cases t16 with
      | true =>
        replace hF := ifB_t hF
        refine WL.o (some 18) ?_
        refine WL.o (some 19) ?_
        refine WL.o (some 20) ?_
        refine oA 21 (.bool true) ?_
        exact lW _ (J19 _ _ hF)
      | false =>
        replace hF := ifB_f hF
        refine oA 18 (.int .i64 t1) ?_
        refine oA 19 (.int .i64 t2) ?_
        refine oB 20 hF fun t20 hF => ?_
        refine oA 21 (.bool t20) ?_
        exact lW _ (J19 _ _ hF)
    cases t11 with
    | true =>
      replace hF := ifB_t hF
      refine WL.o (some 13) ?_
      refine WL.o (some 14) ?_
      refine WL.o (some 15) ?_
      refine oA 16 (.bool true) ?_
      exact lW _ (J16 _ _ hF)
    | false =>
      replace hF := ifB_f hF
      refine oA 13 (.int .i64 t2) ?_
      refine oCb hc 14 hF fun t14 h_23 hF => ?_
      refine oB 15 hF fun t15 hF => ?_
      refine oA 16 (.bool t15) ?_
      exact lW _ (J16 _ _ hF)
noncomputable def net_between (_ : CallF) (_ : Nat) (t0 : Int) (t1 : Int) (h : AHeap) : R :=
  lett (newH h 75 [.int .i64 0, .int .i64 0]) fun h_2 =>
  lett (if t1 < t0 then t1 else t0) fun (t7 : Int) =>
  lett (if t1 > t0 then t1 else t0) fun (t10 : Int) =>
  obind (stRow h_2 2 ([.int .i64 t7, .int .i64 t10] : List AV) (newP h)) fun h_7 =>
  obind (ldRow h_7 2 (newP h)) fun w4 =>
  some (.ret (.agg w4), h_7)
set_option maxHeartbeats 4000000 in
set_option maxRecDepth 20000 in
theorem net_between_ok {call : CallF} (_ : SaysAll Try.prog call) {n : Nat} {t0 : Int} {t1 : Int} {h : AHeap} {rR : ARes} {hR : AHeap} (hF : net_between call n t0 t1 h = some (rR, hR)) : Says Try.prog 37 [.int .i64 t0, .int .i64 t1] h rR hR := by
  unfold net_between at hF
  refine sO Try.func37 fun w0 m0 => ?_
  refine wW [(0, .int .i64 t0), (1, .int .i64 t1)] ?_
  refine oG fun n1 => W.r ?_
  refine oN 4 hF fun h_2 hF => ?_
  refine oV [(0, .int .i64 t0), (1, .int .i64 t1), (4, (newP h))] (n1 ?_)
  refine oG fun n4 => W.r ?_
  refine oA 5 (.int .i64 t0) ?_
  refine oA 6 (.int .i64 t1) ?_
  refine oI 7 .i64 hF fun t7 hF => ?_
  refine oA 8 (.int .i64 t0) ?_
  refine oA 9 (.int .i64 t1) ?_
  refine oI 10 .i64 hF fun t10 hF => ?_
  refine oA 11 (.agg ([.int .i64 t7, .int .i64 t10] : List AV)) ?_
  refine oW 75 (.agg ([.int .i64 t7, .int .i64 t10] : List AV)) hF fun h_7 hF => ?_
  refine oV [(4, (newP h))] (n4 (oY ?_))
  obtain ⟨w4, e9, hF⟩ := obind_some hF
  exact lZ hF [.cell 4 75] [.agg w4] (rY e9 res_nil)
noncomputable def net_isAddress (_ : CallF) (_ : Nat) (t0 : Int) (h : AHeap) : R :=
  lett (decide (t0 ≥ 0)) fun (t4 : Bool) =>
  lett (fun (t8 : Bool) (h_4 : AHeap) =>
    some (.ret (.bool t8), h_4)) fun j8 =>
  ifB t4
  (
    lett (decide (t0 < 16)) fun (t7 : Bool) =>
    j8 t7 h)
  (
    j8 false h)
set_option maxHeartbeats 4000000 in
set_option maxRecDepth 20000 in
theorem net_isAddress_ok {call : CallF} (_ : SaysAll Try.prog call) {n : Nat} {t0 : Int} {h : AHeap} {rR : ARes} {hR : AHeap} (hF : net_isAddress call n t0 h = some (rR, hR)) : Says Try.prog 32 [.int .i64 t0] h rR hR := by
  unfold net_isAddress at hF
  refine sO Try.func32 fun w0 m0 => ?_
  refine wW [(0, .int .i64 t0)] ?_
  refine oG fun n1 => W.r ?_
  refine oA 2 (.bool false) ?_
  refine oV [(0, .int .i64 t0)] (n1 ?_)
  refine W.s (fun K2 n2 e2 q2 p2 => ?_)
  refine W.r ?_
  refine oA 3 (.int .i64 t0) ?_
  refine oB 4 hF fun t4 hF => ?_
  refine oA 5 (.bool t4) ?_
  obtain ⟨j8, e5, hF⟩ := lett_some hF
  have J6 : ∀ (t8 : Bool) (h_4 : AHeap), j8 t8 h_4 = some (rR, hR) → WL Try.prog w0 m0 (Func.ntmps Try.f32) (Code.ops (Code.p1 (Code.p2 (codeOf Try.f32)))) 6 K2 [(8, .bool t8)] [] h_4 := by
    intro t8 h_4 hF
    rw [e5] at hF
    refine oA 2 (.bool t8) ?_
    refine oV [(2, .bool t8)] (n2 (oY ?_))
    exact lZ hF [.tmp 2] [.bool t8] (rT res_nil)
  cases t4 with
  | true =>
    replace hF := ifB_t hF
    refine oA 6 (.int .i64 t0) ?_
    refine oB 7 hF fun t7 hF => ?_
    refine oA 8 (.bool t7) ?_
    exact lW _ (J6 _ _ hF)
  | false =>
    replace hF := ifB_f hF
    refine WL.o (some 6) ?_
    refine WL.o (some 7) ?_
    refine oA 8 (.bool false) ?_
    exact lW _ (J6 _ _ hF)
noncomputable def maps_Clone_map_net_link_struct___net_link_struct___ (_ : CallF) (_ : Nat) (t0 : AV) (h : AHeap) : R :=
  outK (opBin Try.prog h .eql 61 true (some t0) (some AV.nmp)) fun v4 h_4 =>
  obind (avBool v4) fun t4 =>
  ifB t4
  (
    some (.ret (AV.nmp), h_4))
  (
    outK (externM Try.prog h_4 43 [(AV.ifc 61 t0)]) fun v7 h_11 =>
    outK (opAssert Try.prog h_11 61 false (some v7)) fun v8 h_13 =>
    some (.ret (v8), h_13))
set_option maxHeartbeats 4000000 in
set_option maxRecDepth 20000 in
theorem maps_Clone_map_net_link_struct___net_link_struct____ok {call : CallF} (_ : SaysAll Try.prog call) {n : Nat} {t0 : AV} {h : AHeap} {rR : ARes} {hR : AHeap} (hF : maps_Clone_map_net_link_struct___net_link_struct___ call n t0 h = some (rR, hR)) : Says Try.prog 31 [t0] h rR hR := by
  unfold maps_Clone_map_net_link_struct___net_link_struct___ at hF
  refine sO Try.func31 fun w0 m0 => ?_
  refine wW [(0, t0)] ?_
  refine oG fun n1 => W.r ?_
  refine oA 2 AV.nmp ?_
  refine oV [(0, t0)] (n1 ?_)
  refine oH fun n2 q2 => ?_
  refine oG fun n3 => W.r ?_
  refine oA 3 t0 ?_
  replace hF := outK_some hF; obtain ⟨v4, h_4, e5, hF⟩ := hF
  replace hF := obind_some hF; obtain ⟨t4, c6, hF⟩ := hF
  have c6 := avBool_some c6
  subst c6
  refine WL.b (some 4) (.bool t4) h_4 e5 ?_
  refine oV [(0, t0), (4, .bool t4)] (n3 ?_)
  cases t4 with
  | true =>
    refine oT hF fun hF => ?_
    refine oG fun n7 => W.r ?_
    refine oA 2 AV.nmp ?_
    refine oV [(2, AV.nmp)] (n7 (oY (q2 ?_)))
    exact lZ hF [.tmp 2] [AV.nmp] (rT res_nil)
  | false =>
    refine oU hF fun hF => ?_
    refine oZ (n2 ?_)
    refine oG fun n8 => W.r ?_
    refine oA 5 t0 ?_
    refine oA 6 (AV.ifc 61 t0) ?_
    refine oK 7 hF fun v7 h_11 hF => ?_
    refine oK 8 hF fun v8 h_13 hF => ?_
    refine oA 2 v8 ?_
    refine oV [(2, v8)] (n8 (oY ?_))
    exact lZ hF [.tmp 2] [v8] (rT res_nil)
noncomputable def slices_Clone___api_Letter_api_Letter_ (_ : CallF) (_ : Nat) (t0 : AV) (h : AHeap) : R :=
  outK (opBin Try.prog h .eql 27 true (some t0) (some AV.nsl)) fun v4 h_4 =>
  obind (avBool v4) fun t4 =>
  ifB t4
  (
    some (.ret (AV.nsl), h_4))
  (
    outK (bldSl Try.prog h_4 27 0 []) fun v5 h_9 =>
    outK (opAppend Try.prog h_9 27 27 v5 t0) fun v7 h_11 =>
    some (.ret (v7), h_11))
set_option maxHeartbeats 4000000 in
set_option maxRecDepth 20000 in
theorem slices_Clone___api_Letter_api_Letter__ok {call : CallF} (_ : SaysAll Try.prog call) {n : Nat} {t0 : AV} {h : AHeap} {rR : ARes} {hR : AHeap} (hF : slices_Clone___api_Letter_api_Letter_ call n t0 h = some (rR, hR)) : Says Try.prog 29 [t0] h rR hR := by
  unfold slices_Clone___api_Letter_api_Letter_ at hF
  refine sO Try.func29 fun w0 m0 => ?_
  refine wW [(0, t0)] ?_
  refine oG fun n1 => W.r ?_
  refine oA 2 AV.nsl ?_
  refine oV [(0, t0)] (n1 ?_)
  refine oH fun n2 q2 => ?_
  refine oG fun n3 => W.r ?_
  refine oA 3 t0 ?_
  replace hF := outK_some hF; obtain ⟨v4, h_4, e5, hF⟩ := hF
  replace hF := obind_some hF; obtain ⟨t4, c6, hF⟩ := hF
  have c6 := avBool_some c6
  subst c6
  refine WL.b (some 4) (.bool t4) h_4 e5 ?_
  refine oV [(0, t0), (4, .bool t4)] (n3 ?_)
  cases t4 with
  | true =>
    refine oT hF fun hF => ?_
    refine oG fun n7 => W.r ?_
    refine oA 2 AV.nsl ?_
    refine oV [(2, AV.nsl)] (n7 (oY (q2 ?_)))
    exact lZ hF [.tmp 2] [AV.nsl] (rT res_nil)
  | false =>
    refine oU hF fun hF => ?_
    refine oZ (n2 ?_)
    refine oG fun n8 => W.r ?_
    refine oK 5 hF fun v5 h_9 hF => ?_
    refine oA 6 t0 ?_
    refine oK 7 hF fun v7 h_11 hF => ?_
    refine oA 2 v7 ?_
    refine oV [(2, v7)] (n8 (oY ?_))
    exact lZ hF [.tmp 2] [v7] (rT res_nil)
noncomputable def net_Net_find_1 (call : CallF) (_ : Nat) (t0 : List AV) (t1 : Int) (h : AHeap) : R :=
  outK (opBox h 32 (some (.agg t0))) fun v2 h_2 =>
  obind (fldP 0 v2) fun t5 =>
  obind (ldCell h_2 t5) fun v6 =>
  obind (avInt .i64 v6) fun t6 =>
  callN (call 46 [.int .i64 t6, .int .i64 t1] h_2) fun r8 h_8 =>
  obind (avInt .i64 r8) fun t8 =>
  some (.ret (.int .i64 t8), h_8)
set_option maxHeartbeats 4000000 in
set_option maxRecDepth 20000 in
theorem net_Net_find_1_ok {call : CallF} (hc : SaysAll Try.prog call) {n : Nat} {t0 : List AV} {t1 : Int} {h : AHeap} {rR : ARes} {hR : AHeap} (hF : net_Net_find_1 call n t0 t1 h = some (rR, hR)) : Says Try.prog 45 [.agg t0, .int .i64 t1] h rR hR := by
  unfold net_Net_find_1 at hF
  refine sO Try.func45 fun w0 m0 => ?_
  refine wW [(0, .agg t0), (1, .int .i64 t1)] ?_
  refine oG fun n1 => W.r ?_
  refine oK 2 hF fun v2 h_2 hF => ?_
  refine oA 4 (.int .i64 0) ?_
  refine oV [(1, .int .i64 t1), (2, v2)] (n1 ?_)
  refine oG fun n4 => W.r ?_
  refine oF 5 32 0 hF fun t5 hF => ?_
  refine oLi 6 3 hF fun t6 hF => ?_
  refine oA 7 (.int .i64 t1) ?_
  refine oCi hc 8 hF fun t8 h_8 hF => ?_
  refine oA 4 (.int .i64 t8) ?_
  refine oV [(4, .int .i64 t8)] (n4 (oY ?_))
  exact lZ hF [.tmp 4] [.int .i64 t8] (rT res_nil)
end Go.Proofs.Ythdkfofkghpmcaa
