/- Plain functions in place of the program's, and that their calls come to what they say. -/
import Derived.Test.YtikaeeaepnflnaaFrame
import Derived.Test.YtikaeeaepnflnaaAbs54
namespace Go.Proofs.Ytikaeeaepnflnaa
open Go.RowKit Abs

noncomputable def sum_More_L0b (t1 : Bytes) (h : AHeap) (k13 : Int → AHeap → R) (self : Int → Int → AHeap → R) (t6_18 : Int) (t13 : Int) (h_19 : AHeap) : R :=
  lett (decide (t13 < (lenS t1))) fun (t14 : Bool) =>
  ifB t14
  (
    obind (idxS t1 t13) fun t19 =>
    lett (IntKind.u32.wrap t19) fun (t20 : Int) =>
    lett (xorI .u32 t6_18 t20) fun (t21 : Int) =>
    obind (shrI .u32 t21 4) fun t23 =>
    obind (remI .u32 t21 16) fun t25 =>
    obind (idxA 16 1 (newP h) t25) fun t26 =>
    obind (ldCell h_19 t26) fun v27 =>
    obind (avInt .u32 v27) fun t27 =>
    lett (xorI .u32 t23 t27) fun (t28 : Int) =>
    obind (shrI .u32 t28 4) fun t30 =>
    obind (remI .u32 t28 16) fun t32 =>
    obind (idxA 16 1 (newP h) t32) fun t33 =>
    obind (ldCell h_19 t33) fun v34 =>
    obind (avInt .u32 v34) fun t34 =>
    lett (xorI .u32 t30 t34) fun (t35 : Int) =>
    lett (IntKind.i64.wrap (t13 + 1)) fun (t36 : Int) =>
    self t35 t36 h_19)
  (
    k13 t6_18 h_19)
noncomputable def sum_More_L0 (t1 : Bytes) (h : AHeap) (k13 : Int → AHeap → R) : Nat → Int → Int → AHeap → R := iterR (fun _ _ _ => none) (sum_More_L0b t1 h k13)
theorem sum_More_L0_s (t1 : Bytes) (h : AHeap) (k13 : Int → AHeap → R) (m : Nat) : sum_More_L0 t1 h k13 (m + 1) = sum_More_L0b t1 h k13 (sum_More_L0 t1 h k13 m) := rfl
noncomputable def sum_More (_ : CallF) (n : Nat) (t0 : Int) (t1 : Bytes) (h : AHeap) : R :=
  obind (bldS Try.prog 64 [(0, .int .u32 0), (1, .int .u32 274646895), (2, .int .u32 549293790), (3, .int .u32 820201905), (4, .int .u32 1098587580), (5, .int .u32 1361435347), (6, .int .u32 1640403810), (7, .int .u32 1905808397), (8, .int .u32 2197175160), (9, .int .u32 2460548119), (10, .int .u32 2722870694), (11, .int .u32 2987750089), (12, .int .u32 3280807620), (13, .int .u32 3553878443), (14, .int .u32 3811616794), (15, .int .u32 4084100981)]) fun t8 =>
  lett (newH h 64 [.int .u32 0, .int .u32 0, .int .u32 0, .int .u32 0, .int .u32 0, .int .u32 0, .int .u32 0, .int .u32 0, .int .u32 0, .int .u32 0, .int .u32 0, .int .u32 0, .int .u32 0, .int .u32 0, .int .u32 0, .int .u32 0]) fun h_4 =>
  obind (stRow h_4 16 t8 (newP h)) fun h_6 =>
  lett (comI .u32 t0) fun (t10 : Int) =>
  lett (fun (t6 : Int) (h_14 : AHeap) =>
    lett (comI .u32 t6) fun (t38 : Int) =>
    some (.ret (.int .u32 t38), h_14)) fun k13 =>
  sum_More_L0 t1 h k13 n t10 0 h_6
set_option maxHeartbeats 4000000 in
set_option maxRecDepth 20000 in
theorem sum_More_ok {call : CallF} (_ : SaysAll Try.prog call) {n : Nat} {t0 : Int} {t1 : Bytes} {h : AHeap} {rR : ARes} {hR : AHeap} (hF : sum_More call n t0 t1 h = some (rR, hR)) : Says Try.prog 30 [.int .u32 t0, strA t1] h rR hR := by
  unfold sum_More at hF
  refine sO Try.func30 fun w0 m0 => ?_
  refine wW [(0, .int .u32 t0), (1, strA t1)] ?_
  refine oG fun n1 => W.r ?_
  refine oA 4 (.int .u32 0) ?_
  refine oV [(0, .int .u32 t0), (1, strA t1)] (n1 ?_)
  refine oG fun n2 => W.r ?_
  obtain ⟨t8, e3, hF⟩ := obind_some hF
  refine WL.val (d := (some 8)) (v := .agg t8) (h' := h) (by kernel_rfl) (by kernel_rfl) (bld_ok (by kernel_rfl) e3) ?_
  refine oN 5 hF fun h_4 hF => ?_
  refine oW 64 (.agg t8) hF fun h_6 hF => ?_
  refine oV [(0, .int .u32 t0), (1, strA t1), (5, (newP h))] (n2 ?_)
  refine oG fun n8 => W.r ?_
  refine oA 9 (.int .u32 t0) ?_
  refine oI 10 .u32 hF fun t10 hF => ?_
  refine oA 6 (.int .u32 t10) ?_
  refine oV [(1, strA t1), (5, (newP h)), (6, .int .u32 t10)] (n8 ?_)
  refine W.s (fun K10 n10 e10 q10 p10 => ?_)
  refine oG fun n11 => W.r ?_
  refine oA 11 (strA t1) ?_
  refine oA 12 (.int .i64 (lenS t1)) ?_
  refine oA 13 (.int .i64 0) ?_
  refine oV [(1, strA t1), (5, (newP h)), (6, .int .u32 t10), (12, .int .i64 (lenS t1)), (13, .int .i64 0)] (n11 ?_)
  obtain ⟨k13, e13, hF⟩ := lett_some hF
  have J13 : ∀ (t6 : Int) (h_14 : AHeap), k13 t6 h_14 = some (rR, hR) → Go w0 m0 (Func.ntmps Try.f30) (K10 .normal) [(6, .int .u32 t6)] [] h_14 := by
    intro t6 h_14 hF
    rw [e13] at hF
    refine n10 ?_
    refine oG fun n15 => W.r ?_
    refine oA 37 (.int .u32 t6) ?_
    refine oI 38 .u32 hF fun t38 hF => ?_
    refine oA 4 (.int .u32 t38) ?_
    refine oV [(4, .int .u32 t38)] (n15 (oY ?_))
    exact lZ hF [.tmp 4] [.int .u32 t38] (rT res_nil)
  refine W.blockK (by kernel_rfl) (fun K12 n12 s12 o12 q12 p12 => ?_)
  refine W.loopK (by kernel_rfl) (fun I17 K17 b17 n17 e17 q17 p17 => ?_)
  have L17 : ∀ (m : Nat) (t6_18 : Int) (t13 : Int) (h_19 : AHeap), sum_More_L0 t1 h k13 m t6_18 t13 h_19 = some (rR, hR) → Go w0 m0 (Func.ntmps Try.f30) I17 [(1, strA t1), (5, (newP h)), (6, .int .u32 t6_18), (12, .int .i64 (lenS t1)), (13, .int .i64 t13)] [] h_19 := by
    intro m
    induction m with
    | zero => intro t6_18 t13 h_19 hF; cases hF
    | succ m ih17 =>
      intro t6_18 t13 h_19 hF
      rw [sum_More_L0_s] at hF; unfold sum_More_L0b at hF
      refine b17 ?_
      refine oG fun n20 => W.r ?_
      refine oB 14 hF fun t14 hF => ?_
      refine oV [(1, strA t1), (5, (newP h)), (6, .int .u32 t6_18), (12, .int .i64 (lenS t1)), (13, .int .i64 t13), (14, .bool t14)] (n20 ?_)
      refine W.s (fun K22 n22 e22 q22 p22 => ?_)
      cases t14 with
      | true =>
        refine oT hF fun hF => ?_
        refine oZ (n22 ?_)
        refine oG fun n23 => ?_
        refine W.blockK (by kernel_rfl) (fun K24 n24 s24 o24 q24 p24 => ?_)
        refine oG fun n25 => W.r ?_
        refine oA 15 (.int .i64 t13) ?_
        refine oA 7 (.int .i64 t13) ?_
        refine oV [(1, strA t1), (5, (newP h)), (6, .int .u32 t6_18), (7, .int .i64 t13), (12, .int .i64 (lenS t1)), (13, .int .i64 t13)] (n25 ?_)
        refine oG fun n26 => W.r ?_
        refine oA 16 (.int .u32 t6_18) ?_
        refine oA 17 (strA t1) ?_
        refine oA 18 (.int .i64 t13) ?_
        refine oX 19 9 .i64 hF fun t19 hF => ?_
        refine oI 20 .u32 hF fun t20 hF => ?_
        refine oI 21 .u32 hF fun t21 hF => ?_
        refine oA 6 (.int .u32 t21) ?_
        refine oV [(1, strA t1), (5, (newP h)), (6, .int .u32 t21), (12, .int .i64 (lenS t1)), (13, .int .i64 t13)] (n26 ?_)
        refine oG fun n30 => W.r ?_
        refine oA 22 (.int .u32 t21) ?_
        obtain ⟨t23, e31, hF⟩ := obind_some hF
        refine WL.b (some 23) (.int .u32 t23) h_19 (shr_int (P := Try.prog) (h := h_19) (t := 47) (k' := .u64) (lit := true) e31) ?_
        refine oA 24 (.int .u32 t21) ?_
        obtain ⟨t25, e32, hF⟩ := obind_some hF
        refine WL.b (some 25) (.int .u32 t25) h_19 (rem_int (P := Try.prog) (h := h_19) (t := 47) (lit := true) e32) ?_
        refine oQ 26 64 47 .u32 hF fun t26 hF => ?_
        refine oLi 27 47 hF fun t27 hF => ?_
        refine oI 28 .u32 hF fun t28 hF => ?_
        refine oA 6 (.int .u32 t28) ?_
        refine oV [(1, strA t1), (5, (newP h)), (6, .int .u32 t28), (12, .int .i64 (lenS t1)), (13, .int .i64 t13)] (n30 (W.r ?_))
        refine oA 29 (.int .u32 t28) ?_
        obtain ⟨t30, e37, hF⟩ := obind_some hF
        refine WL.b (some 30) (.int .u32 t30) h_19 (shr_int (P := Try.prog) (h := h_19) (t := 47) (k' := .u64) (lit := true) e37) ?_
        refine oA 31 (.int .u32 t28) ?_
        obtain ⟨t32, e38, hF⟩ := obind_some hF
        refine WL.b (some 32) (.int .u32 t32) h_19 (rem_int (P := Try.prog) (h := h_19) (t := 47) (lit := true) e38) ?_
        refine oQ 33 64 47 .u32 hF fun t33 hF => ?_
        refine oLi 34 47 hF fun t34 hF => ?_
        refine oI 35 .u32 hF fun t35 hF => ?_
        refine oA 6 (.int .u32 t35) ?_
        refine oV [(1, strA t1), (5, (newP h)), (6, .int .u32 t35), (12, .int .i64 (lenS t1)), (13, .int .i64 t13)] (n24 (n23 (W.r ?_)))
        refine oI 36 .i64 hF fun t36 hF => ?_
        refine oA 13 (.int .i64 t36) ?_
        refine oV [(1, strA t1), (5, (newP h)), (6, .int .u32 t35), (12, .int .i64 (lenS t1)), (13, .int .i64 t36)] (n17 ?_)
        exact gW _ (ih17 _ _ _ hF)
      | false =>
        refine oU hF fun hF => ?_
        refine W.exit (by kernel_rfl) ?_
        refine e22 (e17 ?_)
        refine s12 (by kernel_rfl) ?_
        exact gW _ (J13 _ _ hF)
  exact gW _ (L17 _ _ _ _ hF)
noncomputable def sum_Of (call : CallF) (_ : Nat) (t0 : Bytes) (h : AHeap) : R :=
  callN (call 30 [.int .u32 0, strA t0] h) fun r4 h_3 =>
  obind (avInt .u32 r4) fun t4 =>
  some (.ret (.int .u32 t4), h_3)
set_option maxHeartbeats 4000000 in
set_option maxRecDepth 20000 in
theorem sum_Of_ok {call : CallF} (hc : SaysAll Try.prog call) {n : Nat} {t0 : Bytes} {h : AHeap} {rR : ARes} {hR : AHeap} (hF : sum_Of call n t0 h = some (rR, hR)) : Says Try.prog 26 [strA t0] h rR hR := by
  unfold sum_Of at hF
  refine sO Try.func26 fun w0 m0 => ?_
  refine wW [(0, strA t0)] ?_
  refine oG fun n1 => W.r ?_
  refine oA 2 (.int .u32 0) ?_
  refine oV [(0, strA t0)] (n1 ?_)
  refine oG fun n2 => W.r ?_
  refine oA 3 (strA t0) ?_
  refine oCi hc 4 hF fun t4 h_3 hF => ?_
  refine oA 2 (.int .u32 t4) ?_
  refine oV [(2, .int .u32 t4)] (n2 (oY ?_))
  exact lZ hF [.tmp 2] [.int .u32 t4] (rT res_nil)
noncomputable def frame_summed (call : CallF) (_ : Nat) (t0 : Bytes) (h : AHeap) : R :=
  callN (call 26 [strA t0] h) fun r5 h_3 =>
  obind (avInt .u32 r5) fun t5 =>
  callN (call 19 [.int .u32 t5] h_3) fun r6 h_6 =>
  obind (avStr r6) fun t6 =>
  obind (addS t0 t6) fun t7 =>
  some (.ret (strA t7), h_6)
set_option maxHeartbeats 4000000 in
set_option maxRecDepth 20000 in
theorem frame_summed_ok {call : CallF} (hc : SaysAll Try.prog call) {n : Nat} {t0 : Bytes} {h : AHeap} {rR : ARes} {hR : AHeap} (hF : frame_summed call n t0 h = some (rR, hR)) : Says Try.prog 18 [strA t0] h rR hR := by
  unfold frame_summed at hF
  refine sO Try.func18 fun w0 m0 => ?_
  refine wW [(0, strA t0)] ?_
  refine oG fun n1 => W.r ?_
  refine oA 2 (strA ([] : Bytes)) ?_
  refine oV [(0, strA t0)] (n1 ?_)
  refine oG fun n2 => W.r ?_
  refine oA 3 (strA t0) ?_
  refine oA 4 (strA t0) ?_
  refine oCi hc 5 hF fun t5 h_3 hF => ?_
  refine oCs hc 6 hF fun t6 h_6 hF => ?_
  obtain ⟨t7, e9, hF⟩ := obind_some hF
  refine WL.b (some 7) (strA t7) h_6 (add_str (P := Try.prog) (h := h_6) (t := 9) (lit := false) e9) ?_
  refine oA 2 (strA t7) ?_
  refine oV [(2, strA t7)] (n2 (oY ?_))
  exact lZ hF [.tmp 2] [strA t7] (rT res_nil)
noncomputable def frame_whole (call : CallF) (_ : Nat) (t0 : Bytes) (h : AHeap) : R :=
  lett (IntKind.i64.wrap ((lenS t0) - 4)) fun (t6 : Int) =>
  obind (sliceS t0 t6 (lenS t0)) fun t9 =>
  obind (sliceS t0 0 t6) fun t14 =>
  callN (call 20 [strA t9] h) fun r10 h_7 =>
  callN (call 21 [r10] h_7) fun r11 h_9 =>
  obind (avInt .u32 r11) fun t11 =>
  callN (call 26 [strA t14] h_9) fun r15 h_12 =>
  obind (avInt .u32 r15) fun t15 =>
  lett ((t11 : Int) == t15) fun (t16 : Bool) =>
  some (.ret (.bool t16), h_12)
set_option maxHeartbeats 4000000 in
set_option maxRecDepth 20000 in
theorem frame_whole_ok {call : CallF} (hc : SaysAll Try.prog call) {n : Nat} {t0 : Bytes} {h : AHeap} {rR : ARes} {hR : AHeap} (hF : frame_whole call n t0 h = some (rR, hR)) : Says Try.prog 22 [strA t0] h rR hR := by
  unfold frame_whole at hF
  refine sO Try.func22 fun w0 m0 => ?_
  refine wW [(0, strA t0)] ?_
  refine oG fun n1 => W.r ?_
  refine oA 2 (.bool false) ?_
  refine oV [(0, strA t0)] (n1 ?_)
  refine oG fun n2 => W.r ?_
  refine oA 4 (strA t0) ?_
  refine oA 5 (.int .i64 (lenS t0)) ?_
  refine oI 6 .i64 hF fun t6 hF => ?_
  refine oA 3 (.int .i64 t6) ?_
  refine oV [(0, strA t0), (3, .int .i64 t6)] (n2 ?_)
  refine oG fun n4 => ?_
  refine W.draw (by kernel_rfl) (hc.ok w0) (plan := [0, 1, 2, 5, 6, 7, 3, 4, 8, 9, 10]) (by kernel_rfl) (by kernel_rfl) (by kernel_rfl) ?_
  refine WD.a 0 (some 7) (strA t0) h ?_
  refine WD.a 0 (some 8) (.int .i64 t6) h ?_
  obtain ⟨t9, e5, hF⟩ := obind_some hF
  refine WD.b 0 (some 9) (strA t9) h (slice_str (P := Try.prog) (h := h) (t := 9) (A := (some (.int .i64 t6))) (B := none) (by kernel_rfl) (.inl ⟨_, rfl⟩) (.inr ⟨rfl, rfl⟩) e5) ?_
  refine WD.a 0 (some 12) (strA t0) h ?_
  refine WD.a 0 (some 13) (.int .i64 t6) h ?_
  obtain ⟨t14, e6, hF⟩ := obind_some hF
  refine WD.b 0 (some 14) (strA t14) h (slice_str (P := Try.prog) (h := h) (t := 9) (A := none) (B := (some (.int .i64 t6))) (by kernel_rfl) (.inr ⟨rfl, rfl⟩) (.inl ⟨_, rfl⟩) e6) ?_
  obtain ⟨r10, h_7, e8, hF⟩ := callN_some hF
  refine WD.call (d := (some 10)) (by kernel_rfl) (by kernel_rfl) (by kernel_rfl) e8 (k := 2) (by kernel_rfl) (fun _ => (by kernel_rfl)) (by decide) ?_
  replace hF := callN_some hF; obtain ⟨r11, h_9, e10, hF⟩ := hF
  replace hF := obind_some hF; obtain ⟨t11, c11, hF⟩ := hF
  have c11 := avInt_some c11
  subst c11
  refine WD.call (d := (some 11)) (by kernel_rfl) (by kernel_rfl) (by kernel_rfl) e10 (k := 2) (by kernel_rfl) (fun _ => (by kernel_rfl)) (by decide) ?_
  replace hF := callN_some hF; obtain ⟨r15, h_12, e13, hF⟩ := hF
  replace hF := obind_some hF; obtain ⟨t15, c14, hF⟩ := hF
  have c14 := avInt_some c14
  subst c14
  refine WD.call (d := (some 15)) (by kernel_rfl) (by kernel_rfl) (by kernel_rfl) e13 (k := 2) (by kernel_rfl) (fun _ => (by kernel_rfl)) (by decide) ?_
  obtain ⟨t16, e15, hF⟩ := lett_some hF
  refine WD.val (d := (some 16)) (v := .bool t16) (h' := h_12) (by kernel_rfl) (by kernel_rfl) (val_of AV.bool e15 (by kernel_rfl)) (k := 0) (by kernel_rfl) (fun e => absurd e (by decide)) (by decide) ?_
  refine WD.a 0 (some 2) (.bool t16) h_12 ?_
  refine WD.nil ?_
  refine gW [(2, .bool t16)] (n4 (oY ?_))
  exact lZ hF [.tmp 2] [.bool t16] (rT res_nil)
noncomputable def frame_Put (call : CallF) (_ : Nat) (t0 : Bytes) (h : AHeap) : R :=
  lett (decide ((lenS t0) > 4096)) fun (t6 : Bool) =>
  ifB t6
  (
    some (.ret (.tup [strA ([] : Bytes), .int .i64 3]), h))
  (
    lett (IntKind.u32.wrap (lenS t0)) fun (t9 : Int) =>
    callN (call 19 [.int .u32 t9] h) fun r10 h_8 =>
    obind (avStr r10) fun t10 =>
    callN (call 18 [strA t10] h_8) fun r11 h_11 =>
    obind (avStr r11) fun t11 =>
    callN (call 18 [strA t0] h_11) fun r13 h_14 =>
    obind (avStr r13) fun t13 =>
    obind (addS t11 t13) fun t14 =>
    some (.ret (.tup [strA t14, .int .i64 0]), h_14))
set_option maxHeartbeats 4000000 in
set_option maxRecDepth 20000 in
theorem frame_Put_ok {call : CallF} (hc : SaysAll Try.prog call) {n : Nat} {t0 : Bytes} {h : AHeap} {rR : ARes} {hR : AHeap} (hF : frame_Put call n t0 h = some (rR, hR)) : Says Try.prog 9 [strA t0] h rR hR := by
  unfold frame_Put at hF
  refine sO Try.func9 fun w0 m0 => ?_
  refine wW [(0, strA t0)] ?_
  refine oG fun n1 => W.r ?_
  refine oA 2 (strA ([] : Bytes)) ?_
  refine oA 3 (.int .i64 0) ?_
  refine oV [(0, strA t0)] (n1 ?_)
  refine oH fun n2 q2 => ?_
  refine oG fun n3 => W.r ?_
  refine oA 4 (strA t0) ?_
  refine oA 5 (.int .i64 (lenS t0)) ?_
  refine oB 6 hF fun t6 hF => ?_
  refine oV [(0, strA t0), (6, .bool t6)] (n3 ?_)
  cases t6 with
  | true =>
    refine oT hF fun hF => ?_
    refine oG fun n5 => W.r ?_
    refine oA 2 (strA ([] : Bytes)) ?_
    refine oA 3 (.int .i64 3) ?_
    refine oV [(2, strA ([] : Bytes)), (3, .int .i64 3)] (n5 (oY (q2 ?_)))
    exact lZ hF [.tmp 2, .tmp 3] [strA ([] : Bytes), .int .i64 3] (rT (rT res_nil))
  | false =>
    refine oU hF fun hF => ?_
    refine oZ (n2 ?_)
    refine oG fun n6 => W.r ?_
    refine oA 7 (strA t0) ?_
    refine oA 8 (.int .i64 (lenS t0)) ?_
    refine oI 9 .u32 hF fun t9 hF => ?_
    refine oCs hc 10 hF fun t10 h_8 hF => ?_
    refine oCs hc 11 hF fun t11 h_11 hF => ?_
    refine oA 12 (strA t0) ?_
    refine oCs hc 13 hF fun t13 h_14 hF => ?_
    obtain ⟨t14, e17, hF⟩ := obind_some hF
    refine WL.b (some 14) (strA t14) h_14 (add_str (P := Try.prog) (h := h_14) (t := 9) (lit := false) e17) ?_
    refine oA 2 (strA t14) ?_
    refine oA 3 (.int .i64 0) ?_
    refine oV [(2, strA t14), (3, .int .i64 0)] (n6 (oY ?_))
    exact lZ hF [.tmp 2, .tmp 3] [strA t14, .int .i64 0] (rT (rT res_nil))
noncomputable def frame_Take (call : CallF) (_ : Nat) (t0 : Bytes) (h : AHeap) : R :=
  lett (decide ((lenS t0) < 8)) fun (t9 : Bool) =>
  ifB t9
  (
    some (.ret (.tup [strA ([] : Bytes), .int .i64 0, .int .i64 30]), h))
  (
    callN (call 20 [strA t0] h) fun r11 h_7 =>
    callN (call 21 [r11] h_7) fun r12 h_9 =>
    obind (avInt .u32 r12) fun t12 =>
    lett (decide (t12 > 4096)) fun (t14 : Bool) =>
    lett (fun (t20 : Bool) (h_15 : AHeap) =>
      ifB t20
      (
        some (.ret (.tup [strA ([] : Bytes), .int .i64 0, .int .i64 7]), h_15))
      (
        lett (IntKind.i64.wrap t12) fun (t22 : Int) =>
        lett (IntKind.i64.wrap (8 + t22)) fun (t23 : Int) =>
        lett (IntKind.i64.wrap (t23 + 4)) fun (t24 : Int) =>
        lett (decide ((lenS t0) < t24)) fun (t28 : Bool) =>
        ifB t28
        (
          some (.ret (.tup [strA ([] : Bytes), .int .i64 0, .int .i64 30]), h_15))
        (
          obind (sliceS t0 8 t24) fun t31 =>
          callN (call 22 [strA t31] h_15) fun r32 h_30 =>
          obind (avBool r32) fun t32 =>
          lett (!t32) fun (t33 : Bool) =>
          ifB t33
          (
            some (.ret (.tup [strA ([] : Bytes), .int .i64 0, .int .i64 7]), h_30))
          (
            lett (IntKind.i64.wrap (t24 - 4)) fun (t36 : Int) =>
            obind (sliceS t0 8 t36) fun t37 =>
            some (.ret (.tup [strA t37, .int .i64 t24, .int .i64 0]), h_30))))) fun j20 =>
    ifB t14
    (
      j20 true h_9)
    (
      obind (sliceS t0 0 8) fun t17 =>
      callN (call 22 [strA t17] h_9) fun r18 h_39 =>
      obind (avBool r18) fun t18 =>
      lett (!t18) fun (t19 : Bool) =>
      j20 t19 h_39))
set_option maxHeartbeats 4000000 in
set_option maxRecDepth 20000 in
theorem frame_Take_ok {call : CallF} (hc : SaysAll Try.prog call) {n : Nat} {t0 : Bytes} {h : AHeap} {rR : ARes} {hR : AHeap} (hF : frame_Take call n t0 h = some (rR, hR)) : Says Try.prog 10 [strA t0] h rR hR := by
  unfold frame_Take at hF
  refine sO Try.func10 fun w0 m0 => ?_
  refine wW [(0, strA t0)] ?_
  refine oG fun n1 => W.r ?_
  refine oA 2 (strA ([] : Bytes)) ?_
  refine oA 3 (.int .i64 0) ?_
  refine oA 4 (.int .i64 0) ?_
  refine oV [(0, strA t0)] (n1 ?_)
  refine oH fun n2 q2 => ?_
  refine oG fun n3 => W.r ?_
  refine oA 7 (strA t0) ?_
  refine oA 8 (.int .i64 (lenS t0)) ?_
  refine oB 9 hF fun t9 hF => ?_
  refine oV [(0, strA t0), (9, .bool t9)] (n3 ?_)
  cases t9 with
  | true =>
    refine oT hF fun hF => ?_
    refine oG fun n5 => W.r ?_
    refine oA 2 (strA ([] : Bytes)) ?_
    refine oA 3 (.int .i64 0) ?_
    refine oA 4 (.int .i64 30) ?_
    refine oV [(2, strA ([] : Bytes)), (3, .int .i64 0), (4, .int .i64 30)] (n5 (oY (q2 ?_)))
    exact lZ hF [.tmp 2, .tmp 3, .tmp 4] [strA ([] : Bytes), .int .i64 0, .int .i64 30] (rT (rT (rT res_nil)))
  | false =>
    refine oU hF fun hF => ?_
    refine oZ (n2 ?_)
    refine oG fun n6 => W.r ?_
    refine oA 10 (strA t0) ?_
    refine oC hc (some 11) hF fun r11 h_7 hF => ?_
    refine oCi hc 12 hF fun t12 h_9 hF => ?_
    refine oA 5 (.int .u32 t12) ?_
    refine oV [(0, strA t0), (5, .int .u32 t12)] (n6 ?_)
    refine oH fun n12 q12 => ?_
    refine W.s (fun K13 n13 e13 q13 p13 => ?_)
    refine W.r ?_
    refine oA 13 (.int .u32 t12) ?_
    refine oB 14 hF fun t14 hF => ?_
    refine oA 15 (.bool t14) ?_
    obtain ⟨j20, e16, hF⟩ := lett_some hF
    have J17 : ∀ (t20 : Bool) (h_15 : AHeap), j20 t20 h_15 = some (rR, hR) → WL Try.prog w0 m0 (Func.ntmps Try.f10) (Code.ops (Code.p1 (Code.p1 (Code.p2 (Code.p2 (Code.p2 (codeOf Try.f10))))))) 8 K13 [(0, strA t0), (5, .int .u32 t12), (20, .bool t20)] [] h_15 := by
      intro t20 h_15 hF
      rw [e16] at hF
      refine oV [(0, strA t0), (5, .int .u32 t12), (20, .bool t20)] (n13 ?_)
      cases t20 with
      | true =>
        refine oT hF fun hF => ?_
        refine oG fun n18 => W.r ?_
        refine oA 2 (strA ([] : Bytes)) ?_
        refine oA 3 (.int .i64 0) ?_
        refine oA 4 (.int .i64 7) ?_
        refine oV [(2, strA ([] : Bytes)), (3, .int .i64 0), (4, .int .i64 7)] (n18 (oY (q12 ?_)))
        exact lZ hF [.tmp 2, .tmp 3, .tmp 4] [strA ([] : Bytes), .int .i64 0, .int .i64 7] (rT (rT (rT res_nil)))
      | false =>
        refine oU hF fun hF => ?_
        refine oZ (n12 ?_)
        refine oG fun n19 => W.r ?_
        refine oA 21 (.int .u32 t12) ?_
        refine oI 22 .i64 hF fun t22 hF => ?_
        refine oI 23 .i64 hF fun t23 hF => ?_
        refine oI 24 .i64 hF fun t24 hF => ?_
        refine oA 6 (.int .i64 t24) ?_
        refine oV [(0, strA t0), (6, .int .i64 t24)] (n19 ?_)
        refine oH fun n23 q23 => ?_
        refine oG fun n24 => W.r ?_
        refine oA 25 (strA t0) ?_
        refine oA 26 (.int .i64 (lenS t0)) ?_
        refine oA 27 (.int .i64 t24) ?_
        refine oB 28 hF fun t28 hF => ?_
        refine oV [(0, strA t0), (6, .int .i64 t24), (28, .bool t28)] (n24 ?_)
        cases t28 with
        | true =>
          refine oT hF fun hF => ?_
          refine oG fun n26 => W.r ?_
          refine oA 2 (strA ([] : Bytes)) ?_
          refine oA 3 (.int .i64 0) ?_
          refine oA 4 (.int .i64 30) ?_
          refine oV [(2, strA ([] : Bytes)), (3, .int .i64 0), (4, .int .i64 30)] (n26 (oY (q23 ?_)))
          exact lZ hF [.tmp 2, .tmp 3, .tmp 4] [strA ([] : Bytes), .int .i64 0, .int .i64 30] (rT (rT (rT res_nil)))
        | false =>
          refine oU hF fun hF => ?_
          refine oZ (n23 ?_)
          refine oH fun n27 q27 => ?_
          refine oG fun n28 => W.r ?_
          refine oA 29 (strA t0) ?_
          refine oA 30 (.int .i64 t24) ?_
          obtain ⟨t31, e29, hF⟩ := obind_some hF
          refine WL.b (some 31) (strA t31) h_15 (slice_str (P := Try.prog) (h := h_15) (t := 9) (A := (some (.int .i64 8))) (B := (some (.int .i64 t24))) (by kernel_rfl) (.inl ⟨_, rfl⟩) (.inl ⟨_, rfl⟩) e29) ?_
          refine oCb hc 32 hF fun t32 h_30 hF => ?_
          refine oB 33 hF fun t33 hF => ?_
          refine oV [(0, strA t0), (6, .int .i64 t24), (33, .bool t33)] (n28 ?_)
          cases t33 with
          | true =>
            refine oT hF fun hF => ?_
            refine oG fun n34 => W.r ?_
            refine oA 2 (strA ([] : Bytes)) ?_
            refine oA 3 (.int .i64 0) ?_
            refine oA 4 (.int .i64 7) ?_
            refine oV [(2, strA ([] : Bytes)), (3, .int .i64 0), (4, .int .i64 7)] (n34 (oY (q27 ?_)))
            exact lZ hF [.tmp 2, .tmp 3, .tmp 4] [strA ([] : Bytes), .int .i64 0, .int .i64 7] (rT (rT (rT res_nil)))
          | false =>
            refine oU hF fun hF => ?_
            refine oZ (n27 ?_)
            refine oG fun n35 => W.r ?_
            refine oA 34 (strA t0) ?_
            refine oA 35 (.int .i64 t24) ?_
            refine oI 36 .i64 hF fun t36 hF => ?_
            obtain ⟨t37, e37, hF⟩ := obind_some hF
            refine WL.b (some 37) (strA t37) h_30 (slice_str (P := Try.prog) (h := h_30) (t := 9) (A := (some (.int .i64 8))) (B := (some (.int .i64 t36))) (by kernel_rfl) (.inl ⟨_, rfl⟩) (.inl ⟨_, rfl⟩) e37) ?_
            refine oA 38 (.int .i64 t24) ?_
            refine oA 2 (strA t37) ?_
            refine oA 3 (.int .i64 t24) ?_
            refine oA 4 (.int .i64 0) ?_
            refine oV [(2, strA t37), (3, .int .i64 t24), (4, .int .i64 0)] (n35 (oY ?_))
            exact lZ hF [.tmp 2, .tmp 3, .tmp 4] [strA t37, .int .i64 t24, .int .i64 0] (rT (rT (rT res_nil)))
    cases t14 with
    | true =>
      replace hF := ifB_t hF
      refine WL.o (some 16) ?_
      refine WL.o (some 17) ?_
      refine WL.o (some 18) ?_
      refine WL.o (some 19) ?_
      refine oA 20 (.bool true) ?_
      exact lW _ (J17 _ _ hF)
    | false =>
      replace hF := ifB_f hF
      refine oA 16 (strA t0) ?_
      obtain ⟨t17, e38, hF⟩ := obind_some hF
      refine WL.b (some 17) (strA t17) h_9 (slice_str (P := Try.prog) (h := h_9) (t := 9) (A := none) (B := (some (.int .i64 8))) (by kernel_rfl) (.inr ⟨rfl, rfl⟩) (.inl ⟨_, rfl⟩) e38) ?_
      refine oCb hc 18 hF fun t18 h_39 hF => ?_
      refine oB 19 hF fun t19 hF => ?_
      refine oA 20 (.bool t19) ?_
      exact lW _ (J17 _ _ hF)
noncomputable def frame_All (_ : CallF) (_ : Nat) (t0 : Bytes) (h : AHeap) : R :=
  lett (newH h 9 [strA t0]) fun h_2 =>
  some (.ret (AV.fn 25 [] [(newP h)]), h_2)
set_option maxHeartbeats 4000000 in
set_option maxRecDepth 20000 in
theorem frame_All_ok {call : CallF} (_ : SaysAll Try.prog call) {n : Nat} {t0 : Bytes} {h : AHeap} {rR : ARes} {hR : AHeap} (hF : frame_All call n t0 h = some (rR, hR)) : Says Try.prog 16 [strA t0] h rR hR := by
  unfold frame_All at hF
  refine sO Try.func16 fun w0 m0 => ?_
  refine wW [(0, strA t0)] ?_
  refine oG fun n1 => W.r ?_
  refine oN 1 hF fun h_2 hF => ?_
  refine oA 2 AV.nfn ?_
  refine oV [(1, (newP h))] (n1 ?_)
  refine oG fun n4 => W.r ?_
  refine oA 3 (AV.fn 25 [] [(newP h)]) ?_
  refine oA 2 (AV.fn 25 [] [(newP h)]) ?_
  refine oV [(2, (AV.fn 25 [] [(newP h)]))] (n4 (oY ?_))
  exact lZ hF [.tmp 2] [(AV.fn 25 [] [(newP h)])] (rT res_nil)
noncomputable def wire_U32 (call : CallF) (_ : Nat) (t0 : Int) (h : AHeap) : R :=
  lett (IntKind.u64.wrap t0) fun (t4 : Int) =>
  callN (call 27 [.int .u64 t4, .int .i64 4] h) fun r5 h_4 =>
  obind (avStr r5) fun t5 =>
  some (.ret (strA t5), h_4)
set_option maxHeartbeats 4000000 in
set_option maxRecDepth 20000 in
theorem wire_U32_ok {call : CallF} (hc : SaysAll Try.prog call) {n : Nat} {t0 : Int} {h : AHeap} {rR : ARes} {hR : AHeap} (hF : wire_U32 call n t0 h = some (rR, hR)) : Says Try.prog 19 [.int .u32 t0] h rR hR := by
  unfold wire_U32 at hF
  refine sO Try.func19 fun w0 m0 => ?_
  refine wW [(0, .int .u32 t0)] ?_
  refine oG fun n1 => W.r ?_
  refine oA 2 (strA ([] : Bytes)) ?_
  refine oV [(0, .int .u32 t0)] (n1 ?_)
  refine oG fun n2 => W.r ?_
  refine oA 3 (.int .u32 t0) ?_
  refine oI 4 .u64 hF fun t4 hF => ?_
  refine oCs hc 5 hF fun t5 h_4 hF => ?_
  refine oA 2 (strA t5) ?_
  refine oV [(2, strA t5)] (n2 (oY ?_))
  exact lZ hF [.tmp 2] [strA t5] (rT res_nil)
noncomputable def wire_New (_ : CallF) (_ : Nat) (t0 : Bytes) (h : AHeap) : R :=
  outK (opBox h 58 (some (.agg ([strA t0, .int .i64 0, .int .i64 0, .int .i64 0] : List AV)))) fun v5 h_3 =>
  some (.ret (v5), h_3)
set_option maxHeartbeats 4000000 in
set_option maxRecDepth 20000 in
theorem wire_New_ok {call : CallF} (_ : SaysAll Try.prog call) {n : Nat} {t0 : Bytes} {h : AHeap} {rR : ARes} {hR : AHeap} (hF : wire_New call n t0 h = some (rR, hR)) : Says Try.prog 20 [strA t0] h rR hR := by
  unfold wire_New at hF
  refine sO Try.func20 fun w0 m0 => ?_
  refine wW [(0, strA t0)] ?_
  refine oG fun n1 => W.r ?_
  refine oA 2 AV.nilp ?_
  refine oV [(0, strA t0)] (n1 ?_)
  refine oG fun n2 => W.r ?_
  refine oA 3 (strA t0) ?_
  refine oA 4 (.agg ([strA t0, .int .i64 0, .int .i64 0, .int .i64 0] : List AV)) ?_
  refine oK 5 hF fun v5 h_3 hF => ?_
  refine oA 2 v5 ?_
  refine oV [(2, v5)] (n2 (oY ?_))
  exact lZ hF [.tmp 2] [v5] (rT res_nil)
noncomputable def wire_number_L0b (v8 : AV) (k9 : AHeap → R) (self : Int → Int → AHeap → R) (t0_16 : Int) (t6 : Int) (h_17 : AHeap) : R :=
  lett (decide (t6 ≥ 0)) fun (t12 : Bool) =>
  ifB t12
  (
    lett (IntKind.u8.wrap t0_16) fun (t18 : Int) =>
    obind (idxP 1 v8 t6) fun t19 =>
    obind (stRow h_17 1 [.int .u8 t18] t19) fun h_26 =>
    obind (shrI .u64 t0_16 8) fun t21 =>
    lett (IntKind.i64.wrap (t6 - 1)) fun (t14 : Int) =>
    self t21 t14 h_26)
  (
    k9 h_17)
noncomputable def wire_number_L0 (v8 : AV) (k9 : AHeap → R) : Nat → Int → Int → AHeap → R := iterR (fun _ _ _ => none) (wire_number_L0b v8 k9)
theorem wire_number_L0_s (v8 : AV) (k9 : AHeap → R) (m : Nat) : wire_number_L0 v8 k9 (m + 1) = wire_number_L0b v8 k9 (wire_number_L0 v8 k9 m) := rfl
noncomputable def wire_number (_ : CallF) (n : Nat) (t0 : Int) (t1 : Int) (h : AHeap) : R :=
  outK (opMakeSlice Try.prog h 31 (some (.int .i64 t1)) (some (.int .i64 t1))) fun v8 h_3 =>
  lett (IntKind.i64.wrap (t1 - 1)) fun (t10 : Int) =>
  lett (fun  (h_10 : AHeap) =>
    outK (opConv Try.prog h_10 31 9 (some v8)) fun v23 h_12 =>
    obind (avStr v23) fun t23 =>
    some (.ret (strA t23), h_12)) fun k9 =>
  wire_number_L0 v8 k9 n t0 t10 h_3
set_option maxHeartbeats 4000000 in
set_option maxRecDepth 20000 in
theorem wire_number_ok {call : CallF} (_ : SaysAll Try.prog call) {n : Nat} {t0 : Int} {t1 : Int} {h : AHeap} {rR : ARes} {hR : AHeap} (hF : wire_number call n t0 t1 h = some (rR, hR)) : Says Try.prog 27 [.int .u64 t0, .int .i64 t1] h rR hR := by
  unfold wire_number at hF
  refine sO Try.func27 fun w0 m0 => ?_
  refine wW [(0, .int .u64 t0), (1, .int .i64 t1)] ?_
  refine oG fun n1 => W.r ?_
  refine oA 4 (strA ([] : Bytes)) ?_
  refine oV [(0, .int .u64 t0), (1, .int .i64 t1)] (n1 ?_)
  refine oG fun n2 => W.r ?_
  refine oA 7 (.int .i64 t1) ?_
  refine oK 8 hF fun v8 h_3 hF => ?_
  refine oA 5 v8 ?_
  refine oV [(0, .int .u64 t0), (1, .int .i64 t1), (5, v8)] (n2 ?_)
  refine W.s (fun K5 n5 e5 q5 p5 => ?_)
  refine oG fun n6 => W.r ?_
  refine oA 9 (.int .i64 t1) ?_
  refine oI 10 .i64 hF fun t10 hF => ?_
  refine oA 6 (.int .i64 t10) ?_
  refine oV [(0, .int .u64 t0), (5, v8), (6, .int .i64 t10)] (n6 ?_)
  obtain ⟨k9, e9, hF⟩ := lett_some hF
  have J9 : ∀  (h_10 : AHeap), k9 h_10 = some (rR, hR) → Go w0 m0 (Func.ntmps Try.f27) (K5 .normal) [(5, v8)] [] h_10 := by
    intro  h_10 hF
    rw [e9] at hF
    refine n5 ?_
    refine oG fun n11 => W.r ?_
    refine oA 22 v8 ?_
    replace hF := outK_some hF; obtain ⟨v23, h_12, e13, hF⟩ := hF
    replace hF := obind_some hF; obtain ⟨t23, c14, hF⟩ := hF
    have c14 := avStr_some c14
    subst c14
    refine WL.b (some 23) (strA t23) h_12 e13 ?_
    refine oA 4 (strA t23) ?_
    refine oV [(4, strA t23)] (n11 (oY ?_))
    exact lZ hF [.tmp 4] [strA t23] (rT res_nil)
  refine W.blockK (by kernel_rfl) (fun K8 n8 s8 o8 q8 p8 => ?_)
  refine W.loopK (by kernel_rfl) (fun I15 K15 b15 n15 e15 q15 p15 => ?_)
  have L15 : ∀ (m : Nat) (t0_16 : Int) (t6 : Int) (h_17 : AHeap), wire_number_L0 v8 k9 m t0_16 t6 h_17 = some (rR, hR) → Go w0 m0 (Func.ntmps Try.f27) I15 [(0, .int .u64 t0_16), (5, v8), (6, .int .i64 t6)] [] h_17 := by
    intro m
    induction m with
    | zero => intro t0_16 t6 h_17 hF; cases hF
    | succ m ih15 =>
      intro t0_16 t6 h_17 hF
      rw [wire_number_L0_s] at hF; unfold wire_number_L0b at hF
      refine b15 ?_
      refine W.s (fun K18 n18 e18 q18 p18 => ?_)
      refine oG fun n19 => W.r ?_
      refine oA 11 (.int .i64 t6) ?_
      refine oB 12 hF fun t12 hF => ?_
      refine oV [(0, .int .u64 t0_16), (5, v8), (6, .int .i64 t6), (12, .bool t12)] (n19 ?_)
      cases t12 with
      | true =>
        refine oT hF fun hF => ?_
        refine oZ (n18 ?_)
        refine oG fun n21 => ?_
        refine W.blockK (by kernel_rfl) (fun K22 n22 s22 o22 q22 p22 => ?_)
        refine oG fun n23 => W.r ?_
        refine oA 15 v8 ?_
        refine oA 16 (.int .i64 t6) ?_
        refine oA 17 (.int .u64 t0_16) ?_
        refine oI 18 .u8 hF fun t18 hF => ?_
        refine oP 19 31 5 .i64 hF fun t19 hF => ?_
        refine oW 5 (.int .u8 t18) hF fun h_26 hF => ?_
        refine oV [(0, .int .u64 t0_16), (5, v8), (6, .int .i64 t6)] (n23 (W.r ?_))
        refine oA 20 (.int .u64 t0_16) ?_
        obtain ⟨t21, e28, hF⟩ := obind_some hF
        refine WL.b (some 21) (.int .u64 t21) h_26 (shr_int (P := Try.prog) (h := h_26) (t := 52) (k' := .u64) (lit := true) e28) ?_
        refine oA 0 (.int .u64 t21) ?_
        refine oV [(0, .int .u64 t21), (5, v8), (6, .int .i64 t6)] (n22 (n21 (W.r ?_)))
        refine oA 13 (.int .i64 t6) ?_
        refine oI 14 .i64 hF fun t14 hF => ?_
        refine oA 6 (.int .i64 t14) ?_
        refine oV [(0, .int .u64 t21), (5, v8), (6, .int .i64 t14)] (n15 ?_)
        exact gW _ (ih15 _ _ _ hF)
      | false =>
        refine oU hF fun hF => ?_
        refine W.exit (by kernel_rfl) ?_
        refine e18 (e15 ?_)
        refine s8 (by kernel_rfl) ?_
        exact gW _ (J9 _ hF)
  exact gW _ (L15 _ _ _ _ hF)
noncomputable def wire_Reader_U32 (call : CallF) (_ : Nat) (t0 : AV) (h : AHeap) : R :=
  callN (call 28 [t0, .int .i64 4] h) fun r4 h_3 =>
  obind (avInt .u64 r4) fun t4 =>
  lett (IntKind.u32.wrap t4) fun (t5 : Int) =>
  some (.ret (.int .u32 t5), h_3)
set_option maxHeartbeats 4000000 in
set_option maxRecDepth 20000 in
theorem wire_Reader_U32_ok {call : CallF} (hc : SaysAll Try.prog call) {n : Nat} {t0 : AV} {h : AHeap} {rR : ARes} {hR : AHeap} (hF : wire_Reader_U32 call n t0 h = some (rR, hR)) : Says Try.prog 21 [t0] h rR hR := by
  unfold wire_Reader_U32 at hF
  refine sO Try.func21 fun w0 m0 => ?_
  refine wW [(0, t0)] ?_
  refine oG fun n1 => W.r ?_
  refine oA 2 (.int .u32 0) ?_
  refine oV [(0, t0)] (n1 ?_)
  refine oG fun n2 => W.r ?_
  refine oA 3 t0 ?_
  refine oCi hc 4 hF fun t4 h_3 hF => ?_
  refine oI 5 .u32 hF fun t5 hF => ?_
  refine oA 2 (.int .u32 t5) ?_
  refine oV [(2, .int .u32 t5)] (n2 (oY ?_))
  exact lZ hF [.tmp 2] [.int .u32 t5] (rT res_nil)
noncomputable def wire_Reader_number_L0b (t0 : AV) (t1 : Int) (k33 : Int → AHeap → R) (self : Int → Int → AHeap → R) (t5_37 : Int) (t28 : Int) (h_38 : AHeap) : R :=
  lett (decide (t28 < t1)) fun (t29 : Bool) =>
  ifB t29
  (
    obind (shlI .u64 t5_37 8) fun t31 =>
    obind (nilC t0) fun t33 =>
    obind (fldP 0 t33) fun t34 =>
    obind (ldCell h_38 t34) fun v35 =>
    obind (avStr v35) fun t35 =>
    obind (nilC t0) fun t37 =>
    obind (fldP 1 t37) fun t38 =>
    obind (ldCell h_38 t38) fun v39 =>
    obind (avInt .i64 v39) fun t39 =>
    obind (idxS t35 t39) fun t40 =>
    lett (IntKind.u64.wrap t40) fun (t41 : Int) =>
    lett (orI .u64 t31 t41) fun (t42 : Int) =>
    obind (nilC t0) fun t44 =>
    obind (fldP 1 t44) fun t45 =>
    obind (ldCell h_38 t45) fun v46 =>
    obind (avInt .i64 v46) fun t46 =>
    lett (IntKind.i64.wrap (t46 + 1)) fun (t47 : Int) =>
    obind (nilC t0) fun t48 =>
    obind (fldP 1 t48) fun t49 =>
    obind (stRow h_38 1 [.int .i64 t47] t49) fun h_64 =>
    lett (IntKind.i64.wrap (t28 + 1)) fun (t50 : Int) =>
    self t42 t50 h_64)
  (
    k33 t5_37 h_38)
noncomputable def wire_Reader_number_L0 (t0 : AV) (t1 : Int) (k33 : Int → AHeap → R) : Nat → Int → Int → AHeap → R := iterR (fun _ _ _ => none) (wire_Reader_number_L0b t0 t1 k33)
theorem wire_Reader_number_L0_s (t0 : AV) (t1 : Int) (k33 : Int → AHeap → R) (m : Nat) : wire_Reader_number_L0 t0 t1 k33 (m + 1) = wire_Reader_number_L0b t0 t1 k33 (wire_Reader_number_L0 t0 t1 k33 m) := rfl
noncomputable def wire_Reader_number (call : CallF) (n : Nat) (t0 : AV) (t1 : Int) (h : AHeap) : R :=
  callN (call 31 [t0] h) fun r7 h_4 =>
  obind (avBool r7) fun t7 =>
  lett (!t7) fun (t8 : Bool) =>
  ifB t8
  (
    some (.ret (.int .u64 0), h_4))
  (
    obind (nilC t0) fun t10 =>
    obind (fldP 0 t10) fun t11 =>
    obind (ldCell h_4 t11) fun v12 =>
    obind (avStr v12) fun t12 =>
    obind (nilC t0) fun t15 =>
    obind (fldP 1 t15) fun t16 =>
    obind (ldCell h_4 t16) fun v17 =>
    obind (avInt .i64 v17) fun t17 =>
    lett (IntKind.i64.wrap ((lenS t12) - t17)) fun (t18 : Int) =>
    lett (decide (t18 < t1)) fun (t20 : Bool) =>
    ifB t20
    (
      obind (nilC t0) fun t23 =>
      obind (fldP 1 t23) fun t24 =>
      obind (ldCell h_4 t24) fun v25 =>
      obind (avInt .i64 v25) fun t25 =>
      callN (call 32 [t0, .int .i64 7, .int .i64 t25] h_4) fun _ h_26 =>
      some (.ret (.int .u64 0), h_26))
    (
      lett (fun (t5 : Int) (h_34 : AHeap) =>
        some (.ret (.int .u64 t5), h_34)) fun k33 =>
      wire_Reader_number_L0 t0 t1 k33 n 0 0 h_4))
set_option maxHeartbeats 4000000 in
set_option maxRecDepth 20000 in
theorem wire_Reader_number_ok {call : CallF} (hc : SaysAll Try.prog call) {n : Nat} {t0 : AV} {t1 : Int} {h : AHeap} {rR : ARes} {hR : AHeap} (hF : wire_Reader_number call n t0 t1 h = some (rR, hR)) : Says Try.prog 28 [t0, .int .i64 t1] h rR hR := by
  unfold wire_Reader_number at hF
  refine sO Try.func28 fun w0 m0 => ?_
  refine wW [(0, t0), (1, .int .i64 t1)] ?_
  refine oG fun n1 => W.r ?_
  refine oA 4 (.int .u64 0) ?_
  refine oV [(0, t0), (1, .int .i64 t1)] (n1 ?_)
  refine oH fun n2 q2 => ?_
  refine oG fun n3 => W.r ?_
  refine oA 6 t0 ?_
  refine oCb hc 7 hF fun t7 h_4 hF => ?_
  refine oB 8 hF fun t8 hF => ?_
  refine oV [(0, t0), (1, .int .i64 t1), (8, .bool t8)] (n3 ?_)
  cases t8 with
  | true =>
    refine oT hF fun hF => ?_
    refine oG fun n8 => W.r ?_
    refine oA 4 (.int .u64 0) ?_
    refine oV [(4, .int .u64 0)] (n8 (oY (q2 ?_)))
    exact lZ hF [.tmp 4] [.int .u64 0] (rT res_nil)
  | false =>
    refine oU hF fun hF => ?_
    refine oZ (n2 ?_)
    refine oH fun n9 q9 => ?_
    refine oG fun n10 => ?_
    refine W.draw (by kernel_rfl) (hc.ok w0) (plan := [0, 1, 2, 3, 4, 5, 6, 7, 8, 9, 10, 11]) (by kernel_rfl) (by kernel_rfl) (by kernel_rfl) ?_
    refine WD.a 0 (some 9) t0 h_4 ?_
    obtain ⟨t10, e11, hF⟩ := obind_some hF
    refine WD.b 0 (some 10) t10 h_4 (nil_chk (h := h_4) e11) ?_
    obtain ⟨t11, e12, hF⟩ := obind_some hF
    refine WD.b 0 (some 11) t11 h_4 (field_ptr (P := Try.prog) (h := h_4) (s := 58) (f := 0) (by kernel_rfl) e12) ?_
    replace hF := obind_some hF; obtain ⟨v12, e13, hF⟩ := hF
    replace hF := obind_some hF; obtain ⟨t12, c14, hF⟩ := hF
    have c14 := avStr_some c14
    subst c14
    refine WD.b 1 (some 12) (strA t12) h_4 (load_cell (P := Try.prog) (h := h_4) (t := 9) (by kernel_rfl) e13) ?_
    refine WD.a 0 (some 13) (.int .i64 (lenS t12)) h_4 ?_
    refine WD.a 0 (some 14) t0 h_4 ?_
    obtain ⟨t15, e15, hF⟩ := obind_some hF
    refine WD.b 0 (some 15) t15 h_4 (nil_chk (h := h_4) e15) ?_
    obtain ⟨t16, e16, hF⟩ := obind_some hF
    refine WD.b 0 (some 16) t16 h_4 (field_ptr (P := Try.prog) (h := h_4) (s := 58) (f := 1) (by kernel_rfl) e16) ?_
    replace hF := obind_some hF; obtain ⟨v17, e17, hF⟩ := hF
    replace hF := obind_some hF; obtain ⟨t17, c18, hF⟩ := hF
    have c18 := avInt_some c18
    subst c18
    refine WD.b 1 (some 17) (.int .i64 t17) h_4 (load_cell (P := Try.prog) (h := h_4) (t := 3) (by kernel_rfl) e17) ?_
    obtain ⟨t18, e19, hF⟩ := lett_some hF
    refine WD.val (d := (some 18)) (v := .int .i64 t18) (h' := h_4) (by kernel_rfl) (by kernel_rfl) (val_of (AV.int .i64) e19 (by kernel_rfl)) (k := 0) (by kernel_rfl) (fun e => absurd e (by decide)) (by decide) ?_
    refine WD.a 0 (some 19) (.int .i64 t1) h_4 ?_
    obtain ⟨t20, e20, hF⟩ := lett_some hF
    refine WD.val (d := (some 20)) (v := .bool t20) (h' := h_4) (by kernel_rfl) (by kernel_rfl) (val_of AV.bool e20 (by kernel_rfl)) (k := 0) (by kernel_rfl) (fun e => absurd e (by decide)) (by decide) ?_
    refine WD.nil ?_
    refine gW [(0, t0), (1, .int .i64 t1), (20, .bool t20)] (n10 ?_)
    cases t20 with
    | true =>
      refine oT hF fun hF => ?_
      refine oG fun n21 => W.r ?_
      refine oA 21 t0 ?_
      refine oA 22 t0 ?_
      refine oC0 23 hF fun t23 hF => ?_
      refine oF 24 58 1 hF fun t24 hF => ?_
      refine oLi 25 3 hF fun t25 hF => ?_
      refine oC hc (some 26) hF fun r26 h_26 hF => ?_
      refine oV [] (n21 ?_)
      refine oG fun n28 => W.r ?_
      refine oA 4 (.int .u64 0) ?_
      refine oV [(4, .int .u64 0)] (n28 (oY (q9 ?_)))
      exact lZ hF [.tmp 4] [.int .u64 0] (rT res_nil)
    | false =>
      refine oU hF fun hF => ?_
      refine oZ (n9 ?_)
      refine oG fun n29 => W.r ?_
      refine oA 5 (.int .u64 0) ?_
      refine oV [(0, t0), (1, .int .i64 t1), (5, .int .u64 0)] (n29 ?_)
      refine W.s (fun K30 n30 e30 q30 p30 => ?_)
      refine oG fun n31 => W.r ?_
      refine oA 27 (.int .i64 t1) ?_
      refine oA 28 (.int .i64 0) ?_
      refine oV [(0, t0), (5, .int .u64 0), (27, .int .i64 t1), (28, .int .i64 0)] (n31 ?_)
      obtain ⟨k33, e33, hF⟩ := lett_some hF
      have J33 : ∀ (t5 : Int) (h_34 : AHeap), k33 t5 h_34 = some (rR, hR) → Go w0 m0 (Func.ntmps Try.f28) (K30 .normal) [(5, .int .u64 t5)] [] h_34 := by
        intro t5 h_34 hF
        rw [e33] at hF
        refine n30 ?_
        refine oG fun n35 => W.r ?_
        refine oA 51 (.int .u64 t5) ?_
        refine oA 4 (.int .u64 t5) ?_
        refine oV [(4, .int .u64 t5)] (n35 (oY ?_))
        exact lZ hF [.tmp 4] [.int .u64 t5] (rT res_nil)
      refine W.blockK (by kernel_rfl) (fun K32 n32 s32 o32 q32 p32 => ?_)
      refine W.loopK (by kernel_rfl) (fun I36 K36 b36 n36 e36 q36 p36 => ?_)
      have L36 : ∀ (m : Nat) (t5_37 : Int) (t28 : Int) (h_38 : AHeap), wire_Reader_number_L0 t0 t1 k33 m t5_37 t28 h_38 = some (rR, hR) → Go w0 m0 (Func.ntmps Try.f28) I36 [(0, t0), (5, .int .u64 t5_37), (27, .int .i64 t1), (28, .int .i64 t28)] [] h_38 := by
        intro m
        induction m with
        | zero => intro t5_37 t28 h_38 hF; cases hF
        | succ m ih36 =>
          intro t5_37 t28 h_38 hF
          rw [wire_Reader_number_L0_s] at hF; unfold wire_Reader_number_L0b at hF
          refine b36 ?_
          refine oG fun n39 => W.r ?_
          refine oB 29 hF fun t29 hF => ?_
          refine oV [(0, t0), (5, .int .u64 t5_37), (27, .int .i64 t1), (28, .int .i64 t28), (29, .bool t29)] (n39 ?_)
          refine W.s (fun K41 n41 e41 q41 p41 => ?_)
          cases t29 with
          | true =>
            refine oT hF fun hF => ?_
            refine oZ (n41 ?_)
            refine oG fun n42 => ?_
            refine W.blockK (by kernel_rfl) (fun K43 n43 s43 o43 q43 p43 => ?_)
            refine oG fun n44 => ?_
            refine W.draw (by kernel_rfl) (hc.ok w0) (plan := [0, 1, 2, 3, 4, 5, 6, 7, 8, 9, 10, 11, 12, 13]) (by kernel_rfl) (by kernel_rfl) (by kernel_rfl) ?_
            refine WD.a 0 (some 30) (.int .u64 t5_37) h_38 ?_
            obtain ⟨t31, e45, hF⟩ := obind_some hF
            refine WD.b 0 (some 31) (.int .u64 t31) h_38 (shl_int (P := Try.prog) (h := h_38) (t := 52) (k' := .u64) (lit := true) e45) ?_
            refine WD.a 0 (some 32) t0 h_38 ?_
            obtain ⟨t33, e46, hF⟩ := obind_some hF
            refine WD.b 0 (some 33) t33 h_38 (nil_chk (h := h_38) e46) ?_
            obtain ⟨t34, e47, hF⟩ := obind_some hF
            refine WD.b 0 (some 34) t34 h_38 (field_ptr (P := Try.prog) (h := h_38) (s := 58) (f := 0) (by kernel_rfl) e47) ?_
            replace hF := obind_some hF; obtain ⟨v35, e48, hF⟩ := hF
            replace hF := obind_some hF; obtain ⟨t35, c49, hF⟩ := hF
            have c49 := avStr_some c49
            subst c49
            refine WD.b 1 (some 35) (strA t35) h_38 (load_cell (P := Try.prog) (h := h_38) (t := 9) (by kernel_rfl) e48) ?_
            refine WD.a 0 (some 36) t0 h_38 ?_
            obtain ⟨t37, e50, hF⟩ := obind_some hF
            refine WD.b 0 (some 37) t37 h_38 (nil_chk (h := h_38) e50) ?_
            obtain ⟨t38, e51, hF⟩ := obind_some hF
            refine WD.b 0 (some 38) t38 h_38 (field_ptr (P := Try.prog) (h := h_38) (s := 58) (f := 1) (by kernel_rfl) e51) ?_
            replace hF := obind_some hF; obtain ⟨v39, e52, hF⟩ := hF
            replace hF := obind_some hF; obtain ⟨t39, c53, hF⟩ := hF
            have c53 := avInt_some c53
            subst c53
            refine WD.b 1 (some 39) (.int .i64 t39) h_38 (load_cell (P := Try.prog) (h := h_38) (t := 3) (by kernel_rfl) e52) ?_
            obtain ⟨t40, e54, hF⟩ := obind_some hF
            refine WD.b 0 (some 40) (.int .u8 t40) h_38 (index_str (P := Try.prog) (h := h_38) (t := 9) (k := .i64) (by kernel_rfl) e54) ?_
            obtain ⟨t41, e55, hF⟩ := lett_some hF
            refine WD.val (d := (some 41)) (v := .int .u64 t41) (h' := h_38) (by kernel_rfl) (by kernel_rfl) (val_of (AV.int .u64) e55 (by kernel_rfl)) (k := 0) (by kernel_rfl) (fun e => absurd e (by decide)) (by decide) ?_
            obtain ⟨t42, e56, hF⟩ := lett_some hF
            refine WD.val (d := (some 42)) (v := .int .u64 t42) (h' := h_38) (by kernel_rfl) (by kernel_rfl) (val_of (AV.int .u64) e56 (by kernel_rfl)) (k := 0) (by kernel_rfl) (fun e => absurd e (by decide)) (by decide) ?_
            refine WD.val (d := (some 5)) (v := .int .u64 t42) (h' := h_38) (by kernel_rfl) (by kernel_rfl) (by kernel_rfl) (k := 2) (by kernel_rfl) (fun _ => (by kernel_rfl)) (by decide) ?_
            refine WD.nil ?_
            refine gW [(0, t0), (5, .int .u64 t42), (27, .int .i64 t1), (28, .int .i64 t28)] (n44 (W.r ?_))
            refine oA 43 t0 ?_
            refine oC0 44 hF fun t44 hF => ?_
            refine oF 45 58 1 hF fun t45 hF => ?_
            refine oLi 46 3 hF fun t46 hF => ?_
            refine oI 47 .i64 hF fun t47 hF => ?_
            refine oC0 48 hF fun t48 hF => ?_
            refine oF 49 58 1 hF fun t49 hF => ?_
            refine oW 3 (.int .i64 t47) hF fun h_64 hF => ?_
            refine oV [(0, t0), (5, .int .u64 t42), (27, .int .i64 t1), (28, .int .i64 t28)] (n43 (n42 (W.r ?_)))
            refine oI 50 .i64 hF fun t50 hF => ?_
            refine oA 28 (.int .i64 t50) ?_
            refine oV [(0, t0), (5, .int .u64 t42), (27, .int .i64 t1), (28, .int .i64 t50)] (n36 ?_)
            exact gW _ (ih36 _ _ _ hF)
          | false =>
            refine oU hF fun hF => ?_
            refine W.exit (by kernel_rfl) ?_
            refine e41 (e36 ?_)
            refine s32 (by kernel_rfl) ?_
            exact gW _ (J33 _ _ hF)
      exact gW _ (L36 _ _ _ _ hF)
noncomputable def wire_Reader_whole (_ : CallF) (_ : Nat) (t0 : AV) (h : AHeap) : R :=
  outK (opBin Try.prog h .neq 48 true (some t0) (some AV.nilp)) fun v4 h_3 =>
  obind (avBool v4) fun t4 =>
  lett (fun (t12 : Bool) (h_6 : AHeap) =>
    some (.ret (.bool t12), h_6)) fun j12 =>
  ifB t4
  (
    obind (nilC t0) fun t7 =>
    obind (fldP 2 t7) fun t8 =>
    obind (fldP 0 t8) fun t9 =>
    obind (ldCell h_3 t9) fun v10 =>
    obind (avInt .i64 v10) fun t10 =>
    lett ((t10 : Int) == 0) fun (t11 : Bool) =>
    j12 t11 h_3)
  (
    j12 false h_3)
set_option maxHeartbeats 4000000 in
set_option maxRecDepth 20000 in
theorem wire_Reader_whole_ok {call : CallF} (_ : SaysAll Try.prog call) {n : Nat} {t0 : AV} {h : AHeap} {rR : ARes} {hR : AHeap} (hF : wire_Reader_whole call n t0 h = some (rR, hR)) : Says Try.prog 31 [t0] h rR hR := by
  unfold wire_Reader_whole at hF
  refine sO Try.func31 fun w0 m0 => ?_
  refine wW [(0, t0)] ?_
  refine oG fun n1 => W.r ?_
  refine oA 2 (.bool false) ?_
  refine oV [(0, t0)] (n1 ?_)
  refine W.s (fun K2 n2 e2 q2 p2 => ?_)
  refine W.r ?_
  refine oA 3 t0 ?_
  replace hF := outK_some hF; obtain ⟨v4, h_3, e4, hF⟩ := hF
  replace hF := obind_some hF; obtain ⟨t4, c5, hF⟩ := hF
  have c5 := avBool_some c5
  subst c5
  refine WL.b (some 4) (.bool t4) h_3 e4 ?_
  refine oA 5 (.bool t4) ?_
  obtain ⟨j12, e7, hF⟩ := lett_some hF
  have J8 : ∀ (t12 : Bool) (h_6 : AHeap), j12 t12 h_6 = some (rR, hR) → WL Try.prog w0 m0 (Func.ntmps Try.f31) (Code.ops (Code.p1 (Code.p2 (codeOf Try.f31)))) 10 K2 [(12, .bool t12)] [] h_6 := by
    intro t12 h_6 hF
    rw [e7] at hF
    refine oA 2 (.bool t12) ?_
    refine oV [(2, .bool t12)] (n2 (oY ?_))
    exact lZ hF [.tmp 2] [.bool t12] (rT res_nil)
  cases t4 with
  | true =>
    replace hF := ifB_t hF
    refine oA 6 t0 ?_
    refine oC0 7 hF fun t7 hF => ?_
    refine oF 8 58 2 hF fun t8 hF => ?_
    refine oF 9 56 0 hF fun t9 hF => ?_
    refine oLi 10 23 hF fun t10 hF => ?_
    refine oB 11 hF fun t11 hF => ?_
    refine oA 12 (.bool t11) ?_
    exact lW _ (J8 _ _ hF)
  | false =>
    replace hF := ifB_f hF
    refine WL.o (some 6) ?_
    refine WL.o (some 7) ?_
    refine WL.o (some 8) ?_
    refine WL.o (some 9) ?_
    refine WL.o (some 10) ?_
    refine WL.o (some 11) ?_
    refine oA 12 (.bool false) ?_
    exact lW _ (J8 _ _ hF)
noncomputable def wire_Reader_fail (_ : CallF) (_ : Nat) (t0 : AV) (t1 : Int) (t2 : Int) (h : AHeap) : R :=
  obind (nilC t0) fun t10 =>
  obind (fldP 2 t10) fun t11 =>
  obind (stRow h 2 ([.int .i64 t1, .int .i64 t2] : List AV) t11) fun h_3 =>
  some (.ret (.tup []), h_3)
set_option maxHeartbeats 4000000 in
set_option maxRecDepth 20000 in
theorem wire_Reader_fail_ok {call : CallF} (_ : SaysAll Try.prog call) {n : Nat} {t0 : AV} {t1 : Int} {t2 : Int} {h : AHeap} {rR : ARes} {hR : AHeap} (hF : wire_Reader_fail call n t0 t1 t2 h = some (rR, hR)) : Says Try.prog 32 [t0, .int .i64 t1, .int .i64 t2] h rR hR := by
  unfold wire_Reader_fail at hF
  refine sO Try.func32 fun w0 m0 => ?_
  refine wW [(0, t0), (1, .int .i64 t1), (2, .int .i64 t2)] ?_
  refine W.r ?_
  refine oA 6 t0 ?_
  refine oA 7 (.int .i64 t1) ?_
  refine oA 8 (.int .i64 t2) ?_
  refine oA 9 (.agg ([.int .i64 t1, .int .i64 t2] : List AV)) ?_
  refine oC0 10 hF fun t10 hF => ?_
  refine oF 11 58 2 hF fun t11 hF => ?_
  refine oW 56 (.agg ([.int .i64 t1, .int .i64 t2] : List AV)) hF fun h_3 hF => ?_
  refine oV [] ?_
  exact lY hF [] [] res_nil
end Go.Proofs.Ytikaeeaepnflnaa
