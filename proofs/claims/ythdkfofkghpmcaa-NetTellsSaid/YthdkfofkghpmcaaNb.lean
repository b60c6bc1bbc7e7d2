/- Plain functions in place of the program's, and that their calls come to what they say. -/
import Derived.Test.YthdkfofkghpmcaaFrame
import Derived.Test.YthdkfofkghpmcaaAbs54
namespace Go.Proofs.Ythdkfofkghpmcaa
open Go.RowKit Abs

noncomputable def slices_BinarySearchFunc___api_Letter_api_Letter_int__L0b (call : CallF) (t0 : AV) (t1 : Int) (t2 : AV) (k7 : Int → AHeap → R) (self : Int → Int → AHeap → R) (t9_22 : Int) (t10 : Int) (h_23 : AHeap) : R :=
  lett (decide (t9_22 < t10)) fun (t17 : Bool) =>
  ifB t17
  (
    lett (IntKind.i64.wrap (t9_22 + t10)) fun (t20 : Int) =>
    lett (IntKind.u64.wrap t20) fun (t21 : Int) =>
    obind (shrI .u64 t21 1) fun t22 =>
    lett (IntKind.i64.wrap t22) fun (t23 : Int) =>
    obind (idxP 4 t0 t23) fun t27 =>
    obind (ldRow h_23 4 t27) fun t28 =>
    callN (dynC Try.prog call t2 [.agg t28, .int .i64 t1] h_23) fun r30 h_36 =>
    obind (avInt .i64 r30) fun t30 =>
    lett (decide (t30 < 0)) fun (t31 : Bool) =>
    lett (fun (t9_41 : Int) (t10_42 : Int) (h_43 : AHeap) =>
      self t9_41 t10_42 h_43) fun k40 =>
    ifB t31
    (
      lett (IntKind.i64.wrap (t23 + 1)) fun (t33 : Int) =>
      k40 t33 t10 h_36)
    (
      k40 t9_22 t23 h_36))
  (
    k7 t9_22 h_23)
noncomputable def slices_BinarySearchFunc___api_Letter_api_Letter_int__L0 (call : CallF) (t0 : AV) (t1 : Int) (t2 : AV) (k7 : Int → AHeap → R) : Nat → Int → Int → AHeap → R := iterR (fun _ _ _ => none) (slices_BinarySearchFunc___api_Letter_api_Letter_int__L0b call t0 t1 t2 k7)
theorem slices_BinarySearchFunc___api_Letter_api_Letter_int__L0_s (call : CallF) (t0 : AV) (t1 : Int) (t2 : AV) (k7 : Int → AHeap → R) (m : Nat) : slices_BinarySearchFunc___api_Letter_api_Letter_int__L0 call t0 t1 t2 k7 (m + 1) = slices_BinarySearchFunc___api_Letter_api_Letter_int__L0b call t0 t1 t2 k7 (slices_BinarySearchFunc___api_Letter_api_Letter_int__L0 call t0 t1 t2 k7 m) := rfl
noncomputable def slices_BinarySearchFunc___api_Letter_api_Letter_int_ (call : CallF) (n : Nat) (t0 : AV) (t1 : Int) (t2 : AV) (h : AHeap) : R :=
  obind (lenL t0) fun t13 =>
  lett (fun (t9 : Int) (h_8 : AHeap) =>
    lett (decide (t9 < t13)) fun (t38 : Bool) =>
    lett (fun (t48 : Bool) (h_11 : AHeap) =>
      some (.ret (.tup [.int .i64 t9, .bool t48]), h_11)) fun j48 =>
    ifB t38
    (
      obind (idxP 4 t0 t9) fun t43 =>
      obind (ldRow h_8 4 t43) fun t44 =>
      callN (dynC Try.prog call t2 [.agg t44, .int .i64 t1] h_8) fun r46 h_16 =>
      obind (avInt .i64 r46) fun t46 =>
      lett ((t46 : Int) == 0) fun (t47 : Bool) =>
      j48 t47 h_16)
    (
      j48 false h_8)) fun k7 =>
  slices_BinarySearchFunc___api_Letter_api_Letter_int__L0 call t0 t1 t2 k7 n 0 t13 h
set_option maxHeartbeats 4000000 in
set_option maxRecDepth 20000 in
theorem slices_BinarySearchFunc___api_Letter_api_Letter_int__ok {call : CallF} (hc : SaysAll Try.prog call) {n : Nat} {t0 : AV} {t1 : Int} {t2 : AV} {h : AHeap} {rR : ARes} {hR : AHeap} (hF : slices_BinarySearchFunc___api_Letter_api_Letter_int_ call n t0 t1 t2 h = some (rR, hR)) : Says Try.prog 44 [t0, .int .i64 t1, t2] h rR hR := by
  unfold slices_BinarySearchFunc___api_Letter_api_Letter_int_ at hF
  refine sO Try.func44 fun w0 m0 => ?_
  refine wW [(0, t0), (1, .int .i64 t1), (2, t2)] ?_
  refine oG fun n1 => W.r ?_
  refine oA 6 (.int .i64 0) ?_
  refine oA 7 (.bool false) ?_
  refine oV [(0, t0), (1, .int .i64 t1), (2, t2)] (n1 ?_)
  refine oG fun n2 => W.r ?_
  refine oA 12 t0 ?_
  refine oM 13 27 32 hF fun t13 hF => ?_
  refine oA 8 (.int .i64 t13) ?_
  refine oV [(0, t0), (1, .int .i64 t1), (2, t2), (8, .int .i64 t13)] (n2 ?_)
  refine oG fun n4 => W.r ?_
  refine oA 14 (.int .i64 t13) ?_
  refine oA 9 (.int .i64 0) ?_
  refine oA 10 (.int .i64 t13) ?_
  refine oV [(0, t0), (1, .int .i64 t1), (2, t2), (8, .int .i64 t13), (9, .int .i64 0), (10, .int .i64 t13)] (n4 ?_)
  refine W.s (fun K5 n5 e5 q5 p5 => ?_)
  obtain ⟨k7, e7, hF⟩ := lett_some hF
  have J7 : ∀ (t9 : Int) (h_8 : AHeap), k7 t9 h_8 = some (rR, hR) → Go w0 m0 (Func.ntmps Try.f44) (K5 .normal) [(0, t0), (1, .int .i64 t1), (2, t2), (8, .int .i64 t13), (9, .int .i64 t9)] [] h_8 := by
    intro t9 h_8 hF
    rw [e7] at hF
    refine n5 ?_
    refine W.s (fun K9 n9 e9 q9 p9 => ?_)
    refine W.r ?_
    refine oA 35 (.int .i64 t9) ?_
    refine oA 36 (.int .i64 t9) ?_
    refine oA 37 (.int .i64 t13) ?_
    refine oB 38 hF fun t38 hF => ?_
    refine oA 39 (.bool t38) ?_
    obtain ⟨j48, e12, hF⟩ := lett_some hF
    have J13 : ∀ (t48 : Bool) (h_11 : AHeap), j48 t48 h_11 = some (rR, hR) → WL Try.prog w0 m0 (Func.ntmps Try.f44) (Code.ops (Code.p1 (Code.p2 (Code.p2 (Code.p2 (Code.p2 (codeOf Try.f44))))))) 14 K9 [(35, .int .i64 t9), (48, .bool t48)] [] h_11 := by
      intro t48 h_11 hF
      rw [e12] at hF
      refine oA 6 (.int .i64 t9) ?_
      refine oA 7 (.bool t48) ?_
      refine oV [(6, .int .i64 t9), (7, .bool t48)] (n9 (oY ?_))
      exact lZ hF [.tmp 6, .tmp 7] [.int .i64 t9, .bool t48] (rT (rT res_nil))
    cases t38 with
    | true =>
      replace hF := ifB_t hF
      refine oA 40 t2 ?_
      refine oA 41 t0 ?_
      refine oA 42 (.int .i64 t9) ?_
      refine oP 43 27 32 .i64 hF fun t43 hF => ?_
      refine oR 44 32 hF fun t44 hF => ?_
      refine oA 45 (.int .i64 t1) ?_
      replace hF := callN_some hF; obtain ⟨r46, h_16, e17, hF⟩ := hF
      replace hF := obind_some hF; obtain ⟨t46, c18, hF⟩ := hF
      have c18 := avInt_some c18
      subst c18
      rcases dynC_some e17 with ⟨d20g, d20as, d20h, d201, d202⟩ | ⟨d20v, d20h, d201, d202⟩
      rotate_left
      · cases d202
        refine WL.val (d := (some 46)) (by kernel_rfl) (by kernel_rfl) (Eq.trans (by kernel_rfl) d201) ?_
        obtain ⟨t47, e19, hF⟩ := lett_some hF
        refine WL.val (d := (some 47)) (v := .bool t47) (h' := h_16) (by kernel_rfl) (by kernel_rfl) (val_of AV.bool e19 (by kernel_rfl)) ?_
        refine oA 48 (.bool t47) ?_
        exact lW _ (J13 _ _ hF)
      · refine WL.call (hc.ok w0) (d := (some 46)) (by kernel_rfl) (by kernel_rfl) (Eq.trans (by kernel_rfl) d201) d202 ?_
        obtain ⟨t47, e19, hF⟩ := lett_some hF
        refine WL.val (d := (some 47)) (v := .bool t47) (h' := h_16) (by kernel_rfl) (by kernel_rfl) (val_of AV.bool e19 (by kernel_rfl)) ?_
        refine oA 48 (.bool t47) ?_
        exact lW _ (J13 _ _ hF)
    | false =>
      replace hF := ifB_f hF
      refine WL.o (some 40) ?_
      refine WL.o (some 41) ?_
      refine WL.o (some 42) ?_
      refine WL.o (some 43) ?_
      refine WL.o (some 44) ?_
      refine WL.o (some 45) ?_
      refine WL.o (some 46) ?_
      refine WL.o (some 47) ?_
      refine oA 48 (.bool false) ?_
      exact lW _ (J13 _ _ hF)
  refine W.blockK (by kernel_rfl) (fun K6 n6 s6 o6 q6 p6 => ?_)
  refine W.loopK (by kernel_rfl) (fun I21 K21 b21 n21 e21 q21 p21 => ?_)
  have L21 : ∀ (m : Nat) (t9_22 : Int) (t10 : Int) (h_23 : AHeap), slices_BinarySearchFunc___api_Letter_api_Letter_int__L0 call t0 t1 t2 k7 m t9_22 t10 h_23 = some (rR, hR) → Go w0 m0 (Func.ntmps Try.f44) I21 [(0, t0), (1, .int .i64 t1), (2, t2), (8, .int .i64 t13), (9, .int .i64 t9_22), (10, .int .i64 t10)] [] h_23 := by
    intro m
    induction m with
    | zero => intro t9_22 t10 h_23 hF; cases hF
    | succ m ih21 =>
      intro t9_22 t10 h_23 hF
      rw [slices_BinarySearchFunc___api_Letter_api_Letter_int__L0_s] at hF; unfold slices_BinarySearchFunc___api_Letter_api_Letter_int__L0b at hF
      refine b21 ?_
      refine W.s (fun K24 n24 e24 q24 p24 => ?_)
      refine oG fun n25 => W.r ?_
      refine oA 15 (.int .i64 t9_22) ?_
      refine oA 16 (.int .i64 t10) ?_
      refine oB 17 hF fun t17 hF => ?_
      refine oV [(0, t0), (1, .int .i64 t1), (2, t2), (8, .int .i64 t13), (9, .int .i64 t9_22), (10, .int .i64 t10), (17, .bool t17)] (n25 ?_)
      cases t17 with
      | true =>
        refine oT hF fun hF => ?_
        refine oZ (n24 ?_)
        refine W.blockK (by kernel_rfl) (fun K27 n27 s27 o27 q27 p27 => ?_)
        refine oG fun n28 => W.r ?_
        refine oA 18 (.int .i64 t9_22) ?_
        refine oA 19 (.int .i64 t10) ?_
        refine oI 20 .i64 hF fun t20 hF => ?_
        refine oI 21 .u64 hF fun t21 hF => ?_
        obtain ⟨t22, e31, hF⟩ := obind_some hF
        refine WL.b (some 22) (.int .u64 t22) h_23 (shr_int (P := Try.prog) (h := h_23) (t := 91) (k' := .u64) (lit := true) e31) ?_
        refine oI 23 .i64 hF fun t23 hF => ?_
        refine oA 11 (.int .i64 t23) ?_
        refine oV [(0, t0), (1, .int .i64 t1), (2, t2), (8, .int .i64 t13), (9, .int .i64 t9_22), (10, .int .i64 t10), (11, .int .i64 t23)] (n28 ?_)
        refine oG fun n33 => W.r ?_
        refine oA 24 t2 ?_
        refine oA 25 t0 ?_
        refine oA 26 (.int .i64 t23) ?_
        refine oP 27 27 32 .i64 hF fun t27 hF => ?_
        refine oR 28 32 hF fun t28 hF => ?_
        refine oA 29 (.int .i64 t1) ?_
        replace hF := callN_some hF; obtain ⟨r30, h_36, e37, hF⟩ := hF
        replace hF := obind_some hF; obtain ⟨t30, c38, hF⟩ := hF
        have c38 := avInt_some c38
        subst c38
        rcases dynC_some e37 with ⟨d45g, d45as, d45h, d451, d452⟩ | ⟨d45v, d45h, d451, d452⟩
        rotate_left
        · cases d452
          refine WL.val (d := (some 30)) (by kernel_rfl) (by kernel_rfl) (Eq.trans (by kernel_rfl) d451) ?_
          obtain ⟨t31, e39, hF⟩ := lett_some hF
          refine WL.val (d := (some 31)) (v := .bool t31) (h' := h_36) (by kernel_rfl) (by kernel_rfl) (val_of AV.bool e39 (by kernel_rfl)) ?_
          refine oV [(0, t0), (1, .int .i64 t1), (2, t2), (8, .int .i64 t13), (9, .int .i64 t9_22), (10, .int .i64 t10), (11, .int .i64 t23), (31, .bool t31)] (n33 ?_)
          obtain ⟨k40, e40, hF⟩ := lett_some hF
          have J40 : ∀ (t9_41 : Int) (t10_42 : Int) (h_43 : AHeap), k40 t9_41 t10_42 h_43 = some (rR, hR) → Go w0 m0 (Func.ntmps Try.f44) (K27 .normal) [(0, t0), (1, .int .i64 t1), (2, t2), (8, .int .i64 t13), (9, .int .i64 t9_41), (10, .int .i64 t10_42)] [] h_43 := by
            intro t9_41 t10_42 h_43 hF
            rw [e40] at hF
            refine n27 (n21 ?_)
            exact gW _ (ih21 _ _ _ hF)
          cases t31 with
          | true =>
            refine oT hF fun hF => ?_
            refine W.r ?_
            refine oA 32 (.int .i64 t23) ?_
            obtain ⟨t33, e44, hF⟩ := lett_some hF
            refine WL.val (d := (some 33)) (v := .int .i64 t33) (h' := h_36) (by kernel_rfl) (by kernel_rfl) (val_of (AV.int .i64) e44 (by kernel_rfl)) ?_
            refine oA 9 (.int .i64 t33) ?_
            refine oV [(0, t0), (1, .int .i64 t1), (2, t2), (8, .int .i64 t13), (9, .int .i64 t33), (10, .int .i64 t10)] ?_
            exact gW _ (J40 _ _ _ hF)
          | false =>
            refine oU hF fun hF => ?_
            refine W.r ?_
            refine oA 34 (.int .i64 t23) ?_
            refine oA 10 (.int .i64 t23) ?_
            refine oV [(0, t0), (1, .int .i64 t1), (2, t2), (8, .int .i64 t13), (9, .int .i64 t9_22), (10, .int .i64 t23)] ?_
            exact gW _ (J40 _ _ _ hF)
        · refine WL.call (hc.ok w0) (d := (some 30)) (by kernel_rfl) (by kernel_rfl) (Eq.trans (by kernel_rfl) d451) d452 ?_
          obtain ⟨t31, e39, hF⟩ := lett_some hF
          refine WL.val (d := (some 31)) (v := .bool t31) (h' := h_36) (by kernel_rfl) (by kernel_rfl) (val_of AV.bool e39 (by kernel_rfl)) ?_
          refine oV [(0, t0), (1, .int .i64 t1), (2, t2), (8, .int .i64 t13), (9, .int .i64 t9_22), (10, .int .i64 t10), (11, .int .i64 t23), (31, .bool t31)] (n33 ?_)
          obtain ⟨k40, e40, hF⟩ := lett_some hF
          have J40 : ∀ (t9_41 : Int) (t10_42 : Int) (h_43 : AHeap), k40 t9_41 t10_42 h_43 = some (rR, hR) → Go w0 m0 (Func.ntmps Try.f44) (K27 .normal) [(0, t0), (1, .int .i64 t1), (2, t2), (8, .int .i64 t13), (9, .int .i64 t9_41), (10, .int .i64 t10_42)] [] h_43 := by
            intro t9_41 t10_42 h_43 hF
            rw [e40] at hF
            refine n27 (n21 ?_)
            exact gW _ (ih21 _ _ _ hF)
          cases t31 with
          | true =>
            refine oT hF fun hF => ?_
            refine W.r ?_
            refine oA 32 (.int .i64 t23) ?_
            obtain ⟨t33, e44, hF⟩ := lett_some hF
            refine WL.val (d := (some 33)) (v := .int .i64 t33) (h' := h_36) (by kernel_rfl) (by kernel_rfl) (val_of (AV.int .i64) e44 (by kernel_rfl)) ?_
            refine oA 9 (.int .i64 t33) ?_
            refine oV [(0, t0), (1, .int .i64 t1), (2, t2), (8, .int .i64 t13), (9, .int .i64 t33), (10, .int .i64 t10)] ?_
            exact gW _ (J40 _ _ _ hF)
          | false =>
            refine oU hF fun hF => ?_
            refine W.r ?_
            refine oA 34 (.int .i64 t23) ?_
            refine oA 10 (.int .i64 t23) ?_
            refine oV [(0, t0), (1, .int .i64 t1), (2, t2), (8, .int .i64 t13), (9, .int .i64 t9_22), (10, .int .i64 t23)] ?_
            exact gW _ (J40 _ _ _ hF)
      | false =>
        refine oU hF fun hF => ?_
        refine W.exit (by kernel_rfl) ?_
        refine e24 (e21 ?_)
        refine s6 (by kernel_rfl) ?_
        exact gW _ (J7 _ _ hF)
  exact gW _ (L21 _ _ _ _ hF)
noncomputable def cmp_Compare_int_ (call : CallF) (_ : Nat) (t0 : Int) (t1 : Int) (h : AHeap) : R :=
  callN (call 47 [.int .i64 t0] h) fun r8 h_3 =>
  obind (avBool r8) fun t8 =>
  callN (call 47 [.int .i64 t1] h_3) fun r10 h_7 =>
  obind (avBool r10) fun t10 =>
  ifB t8
  (
    ifB t10
    (
      some (.ret (.int .i64 0), h_7))
    (
      some (.ret (.int .i64 (-1)), h_7)))
  (
    ifB t10
    (
      some (.ret (.int .i64 1), h_7))
    (
      lett (decide (t0 < t1)) fun (t16 : Bool) =>
      ifB t16
      (
        some (.ret (.int .i64 (-1)), h_7))
      (
        lett (decide (t0 > t1)) fun (t19 : Bool) =>
        ifB t19
        (
          some (.ret (.int .i64 1), h_7))
        (
          some (.ret (.int .i64 0), h_7)))))
set_option maxHeartbeats 4000000 in
set_option maxRecDepth 20000 in
theorem cmp_Compare_int__ok {call : CallF} (hc : SaysAll Try.prog call) {n : Nat} {t0 : Int} {t1 : Int} {h : AHeap} {rR : ARes} {hR : AHeap} (hF : cmp_Compare_int_ call n t0 t1 h = some (rR, hR)) : Says Try.prog 46 [.int .i64 t0, .int .i64 t1] h rR hR := by
  unfold cmp_Compare_int_ at hF
  refine sO Try.func46 fun w0 m0 => ?_
  refine wW [(0, .int .i64 t0), (1, .int .i64 t1)] ?_
  refine oG fun n1 => W.r ?_
  refine oA 4 (.int .i64 0) ?_
  refine oV [(0, .int .i64 t0), (1, .int .i64 t1)] (n1 ?_)
  refine oG fun n2 => W.r ?_
  refine oA 7 (.int .i64 t0) ?_
  refine oCb hc 8 hF fun t8 h_3 hF => ?_
  refine oA 5 (.bool t8) ?_
  refine oV [(0, .int .i64 t0), (1, .int .i64 t1), (5, .bool t8)] (n2 ?_)
  refine oG fun n6 => W.r ?_
  refine oA 9 (.int .i64 t1) ?_
  refine oCb hc 10 hF fun t10 h_7 hF => ?_
  refine oA 6 (.bool t10) ?_
  refine oV [(0, .int .i64 t0), (1, .int .i64 t1), (5, .bool t8), (6, .bool t10)] (n6 ?_)
  refine oH fun n10 q10 => ?_
  refine oG fun n11 => W.r ?_
  refine oA 11 (.bool t8) ?_
  refine oV [(0, .int .i64 t0), (1, .int .i64 t1), (6, .bool t10), (11, .bool t8)] (n11 ?_)
  cases t8 with
  | true =>
    refine oT hF fun hF => ?_
    refine oH fun n12 q12 => ?_
    refine oG fun n13 => W.r ?_
    refine oA 12 (.bool t10) ?_
    refine oV [(12, .bool t10)] (n13 ?_)
    cases t10 with
    | true =>
      refine oT hF fun hF => ?_
      refine oG fun n14 => W.r ?_
      refine oA 4 (.int .i64 0) ?_
      refine oV [(4, .int .i64 0)] (n14 (oY (q12 (q10 ?_))))
      exact lZ hF [.tmp 4] [.int .i64 0] (rT res_nil)
    | false =>
      refine oU hF fun hF => ?_
      refine oZ (n12 ?_)
      refine oG fun n15 => W.r ?_
      refine oA 4 (.int .i64 (-1)) ?_
      refine oV [(4, .int .i64 (-1))] (n15 (oY (q10 ?_)))
      exact lZ hF [.tmp 4] [.int .i64 (-1)] (rT res_nil)
  | false =>
    refine oU hF fun hF => ?_
    refine oZ (n10 ?_)
    refine oH fun n16 q16 => ?_
    refine oG fun n17 => W.r ?_
    refine oA 13 (.bool t10) ?_
    refine oV [(0, .int .i64 t0), (1, .int .i64 t1), (13, .bool t10)] (n17 ?_)
    cases t10 with
    | true =>
      refine oT hF fun hF => ?_
      refine oG fun n18 => W.r ?_
      refine oA 4 (.int .i64 1) ?_
      refine oV [(4, .int .i64 1)] (n18 (oY (q16 ?_)))
      exact lZ hF [.tmp 4] [.int .i64 1] (rT res_nil)
    | false =>
      refine oU hF fun hF => ?_
      refine oZ (n16 ?_)
      refine oH fun n19 q19 => ?_
      refine oG fun n20 => W.r ?_
      refine oA 14 (.int .i64 t0) ?_
      refine oA 15 (.int .i64 t1) ?_
      refine oB 16 hF fun t16 hF => ?_
      refine oV [(0, .int .i64 t0), (1, .int .i64 t1), (16, .bool t16)] (n20 ?_)
      cases t16 with
      | true =>
        refine oT hF fun hF => ?_
        refine oG fun n22 => W.r ?_
        refine oA 4 (.int .i64 (-1)) ?_
        refine oV [(4, .int .i64 (-1))] (n22 (oY (q19 ?_)))
        exact lZ hF [.tmp 4] [.int .i64 (-1)] (rT res_nil)
      | false =>
        refine oU hF fun hF => ?_
        refine oZ (n19 ?_)
        refine oH fun n23 q23 => ?_
        refine oG fun n24 => W.r ?_
        refine oA 17 (.int .i64 t0) ?_
        refine oA 18 (.int .i64 t1) ?_
        refine oB 19 hF fun t19 hF => ?_
        refine oV [(19, .bool t19)] (n24 ?_)
        cases t19 with
        | true =>
          refine oT hF fun hF => ?_
          refine oG fun n26 => W.r ?_
          refine oA 4 (.int .i64 1) ?_
          refine oV [(4, .int .i64 1)] (n26 (oY (q23 ?_)))
          exact lZ hF [.tmp 4] [.int .i64 1] (rT res_nil)
        | false =>
          refine oU hF fun hF => ?_
          refine oZ (n23 ?_)
          refine oG fun n27 => W.r ?_
          refine oA 4 (.int .i64 0) ?_
          refine oV [(4, .int .i64 0)] (n27 (oY ?_))
          exact lZ hF [.tmp 4] [.int .i64 0] (rT res_nil)
noncomputable def cmp_isNaN_int_ (_ : CallF) (_ : Nat) (t0 : Int) (h : AHeap) : R :=
  lett ((t0 : Int) != t0) fun (t5 : Bool) =>
  some (.ret (.bool t5), h)
set_option maxHeartbeats 4000000 in
set_option maxRecDepth 20000 in
theorem cmp_isNaN_int__ok {call : CallF} (_ : SaysAll Try.prog call) {n : Nat} {t0 : Int} {h : AHeap} {rR : ARes} {hR : AHeap} (hF : cmp_isNaN_int_ call n t0 h = some (rR, hR)) : Says Try.prog 47 [.int .i64 t0] h rR hR := by
  unfold cmp_isNaN_int_ at hF
  refine sO Try.func47 fun w0 m0 => ?_
  refine wW [(0, .int .i64 t0)] ?_
  refine oG fun n1 => W.r ?_
  refine oA 2 (.bool false) ?_
  refine oV [(0, .int .i64 t0)] (n1 ?_)
  refine oG fun n2 => W.r ?_
  refine oA 3 (.int .i64 t0) ?_
  refine oA 4 (.int .i64 t0) ?_
  refine oB 5 hF fun t5 hF => ?_
  refine oA 2 (.bool t5) ?_
  refine oV [(2, .bool t5)] (n2 (oY ?_))
  exact lZ hF [.tmp 2] [.bool t5] (rT res_nil)
noncomputable def net_Net_All (_ : CallF) (_ : Nat) (t0 : AV) (h : AHeap) : R :=
  outK (opBox h 25 (some t0)) fun v1 h_2 =>
  some (.ret (AV.fn 30 [] [v1]), h_2)
set_option maxHeartbeats 4000000 in
set_option maxRecDepth 20000 in
theorem net_Net_All_ok {call : CallF} (_ : SaysAll Try.prog call) {n : Nat} {t0 : AV} {h : AHeap} {rR : ARes} {hR : AHeap} (hF : net_Net_All call n t0 h = some (rR, hR)) : Says Try.prog 16 [t0] h rR hR := by
  unfold net_Net_All at hF
  refine sO Try.func16 fun w0 m0 => ?_
  refine wW [(0, t0)] ?_
  refine oG fun n1 => W.r ?_
  refine oK 1 hF fun v1 h_2 hF => ?_
  refine oA 2 AV.nfn ?_
  refine oV [(1, v1)] (n1 ?_)
  refine oG fun n4 => W.r ?_
  refine oA 3 (AV.fn 30 [] [v1]) ?_
  refine oA 2 (AV.fn 30 [] [v1]) ?_
  refine oV [(2, (AV.fn 30 [] [v1]))] (n4 (oY ?_))
  exact lZ hF [.tmp 2] [(AV.fn 30 [] [v1])] (rT res_nil)
noncomputable def law05_works (call : CallF) (_ : Nat)  (h : AHeap) : R :=
  callN (call 11 [] h) fun r6 h_3 =>
  outK (opBin Try.prog h_3 .eql 25 true (some r6) (some AV.nilp)) fun v8 h_7 =>
  obind (avBool v8) fun t8 =>
  lett (fun (t13 : Bool) (h_10 : AHeap) =>
    ifB t13
    (
      some (.ret (.bool false), h_10))
    (
      callN (call 18 [r6, .int .i64 1, .int .i64 2, strA ([120] : Bytes)] h_10) fun r16 h_15 =>
      obind (extT 0 r16) fun v17 =>
      obind (avInt .i64 v17) fun t17 =>
      obind (extT 1 r16) fun v18 =>
      obind (avInt .i64 v18) fun t18 =>
      callN (call 22 [r6, .int .i64 1] h_15) fun r21 h_22 =>
      obind (extT 0 r21) fun v22 =>
      obind (avAgg v22) fun t22 =>
      obind (extT 1 r21) fun v23 =>
      obind (avInt .i64 v23) fun t23 =>
      lett (newH h_22 32 [.int .i64 0, .int .i64 0, .int .i64 0, .str 0 0]) fun h_28 =>
      obind (stRow h_28 4 t22 (newP h_22)) fun h_30 =>
      lett ((t17 : Int) == 1) fun (t25 : Bool) =>
      lett (fun (t29 : Bool) (h_34 : AHeap) =>
        lett (fun (t34 : Bool) (h_37 : AHeap) =>
          lett (fun (t38 : Bool) (h_40 : AHeap) =>
            some (.ret (.bool t38), h_40)) fun j38 =>
          ifB t34
          (
            lett ((t23 : Int) == 0) fun (t37 : Bool) =>
            j38 t37 h_37)
          (
            j38 false h_37)) fun j34 =>
        ifB t29
        (
          obind (ldRow h_34 4 (newP h_22)) fun t31 =>
          obind (eqOther Try.prog 32 (.agg t31) (.agg ([.int .i64 1, .int .i64 1, .int .i64 2, strA ([120] : Bytes)] : List AV))) fun t33 =>
          j34 t33 h_34)
        (
          j34 false h_34)) fun j29 =>
      ifB t25
      (
        lett ((t18 : Int) == 0) fun (t28 : Bool) =>
        j29 t28 h_30)
      (
        j29 false h_30))) fun j13 =>
  ifB t8
  (
    j13 true h_7)
  (
    callN (call 16 [r6] h_7) fun r11 h_47 =>
    outK (opBin Try.prog h_47 .eql 45 true (some r11) (some AV.nfn)) fun v12 h_49 =>
    obind (avBool v12) fun t12 =>
    j13 t12 h_49)
set_option maxHeartbeats 4000000 in
set_option maxRecDepth 20000 in
theorem law05_works_ok {call : CallF} (hc : SaysAll Try.prog call) {n : Nat}  {h : AHeap} {rR : ARes} {hR : AHeap} (hF : law05_works call n  h = some (rR, hR)) : Says Try.prog 9 [] h rR hR := by
  unfold law05_works at hF
  refine sO Try.func9 fun w0 m0 => ?_
  refine wW [] ?_
  refine oG fun n1 => W.r ?_
  refine oA 0 (.bool false) ?_
  refine oV [] (n1 ?_)
  refine oG fun n2 => W.r ?_
  refine oC hc (some 6) hF fun r6 h_3 hF => ?_
  refine oA 1 r6 ?_
  refine oV [(1, r6)] (n2 ?_)
  refine oH fun n5 q5 => ?_
  refine W.s (fun K6 n6 e6 q6 p6 => ?_)
  refine W.r ?_
  refine oA 7 r6 ?_
  replace hF := outK_some hF; obtain ⟨v8, h_7, e8, hF⟩ := hF
  replace hF := obind_some hF; obtain ⟨t8, c9, hF⟩ := hF
  have c9 := avBool_some c9
  subst c9
  refine WL.b (some 8) (.bool t8) h_7 e8 ?_
  refine oA 9 (.bool t8) ?_
  obtain ⟨j13, e11, hF⟩ := lett_some hF
  have J12 : ∀ (t13 : Bool) (h_10 : AHeap), j13 t13 h_10 = some (rR, hR) → WL Try.prog w0 m0 (Func.ntmps Try.f9) (Code.ops (Code.p1 (Code.p1 (Code.p2 (Code.p2 (codeOf Try.f9)))))) 7 K6 [(1, r6), (13, .bool t13)] [] h_10 := by
    intro t13 h_10 hF
    rw [e11] at hF
    refine oV [(1, r6), (13, .bool t13)] (n6 ?_)
    cases t13 with
    | true =>
      refine oT hF fun hF => ?_
      refine oG fun n13 => W.r ?_
      refine oA 0 (.bool false) ?_
      refine oV [(0, .bool false)] (n13 (oY (q5 ?_)))
      exact lZ hF [.tmp 0] [.bool false] (rT res_nil)
    | false =>
      refine oU hF fun hF => ?_
      refine oZ (n5 ?_)
      refine oG fun n14 => W.r ?_
      refine oA 15 r6 ?_
      refine oC hc (some 16) hF fun r16 h_15 hF => ?_
      refine oA 14 r16 ?_
      refine oEi 17 hF fun t17 hF => ?_
      refine oEi 18 hF fun t18 hF => ?_
      refine oA 2 (.int .i64 t17) ?_
      refine oA 3 (.int .i64 t18) ?_
      refine oV [(1, r6), (2, .int .i64 t17), (3, .int .i64 t18)] (n14 ?_)
      refine oG fun n21 => W.r ?_
      refine oA 20 r6 ?_
      refine oC hc (some 21) hF fun r21 h_22 hF => ?_
      refine oA 19 r21 ?_
      refine oEa 22 hF fun t22 hF => ?_
      refine oEi 23 hF fun t23 hF => ?_
      refine oN 4 hF fun h_28 hF => ?_
      refine oW 32 (.agg t22) hF fun h_30 hF => ?_
      refine oA 5 (.int .i64 t23) ?_
      refine oV [(2, .int .i64 t17), (3, .int .i64 t18), (4, (newP h_22)), (5, .int .i64 t23)] (n21 ?_)
      refine W.s (fun K32 n32 e32 q32 p32 => ?_)
      refine W.r ?_
      refine oA 24 (.int .i64 t17) ?_
      refine oB 25 hF fun t25 hF => ?_
      refine oA 26 (.bool t25) ?_
      obtain ⟨j29, e35, hF⟩ := lett_some hF
      have J36 : ∀ (t29 : Bool) (h_34 : AHeap), j29 t29 h_34 = some (rR, hR) → WL Try.prog w0 m0 (Func.ntmps Try.f9) (Code.ops (Code.p1 (Code.p2 (Code.p2 (Code.p2 (Code.p2 (Code.p2 (codeOf Try.f9)))))))) 6 K32 [(4, (newP h_22)), (5, .int .i64 t23), (29, .bool t29)] [] h_34 := by
        intro t29 h_34 hF
        rw [e35] at hF
        refine oA 30 (.bool t29) ?_
        obtain ⟨j34, e38, hF⟩ := lett_some hF
        have J39 : ∀ (t34 : Bool) (h_37 : AHeap), j34 t34 h_37 = some (rR, hR) → WL Try.prog w0 m0 (Func.ntmps Try.f9) (Code.ops (Code.p1 (Code.p2 (Code.p2 (Code.p2 (Code.p2 (Code.p2 (codeOf Try.f9)))))))) 11 K32 [(5, .int .i64 t23), (34, .bool t34)] [] h_37 := by
          intro t34 h_37 hF
          rw [e38] at hF
          refine oA 35 (.bool t34) ?_
          obtain ⟨j38, e41, hF⟩ := lett_some hF
          have J42 : ∀ (t38 : Bool) (h_40 : AHeap), j38 t38 h_40 = some (rR, hR) → WL Try.prog w0 m0 (Func.ntmps Try.f9) (Code.ops (Code.p1 (Code.p2 (Code.p2 (Code.p2 (Code.p2 (Code.p2 (codeOf Try.f9)))))))) 15 K32 [(38, .bool t38)] [] h_40 := by
            intro t38 h_40 hF
            rw [e41] at hF
            refine oA 0 (.bool t38) ?_
            refine oV [(0, .bool t38)] (n32 (oY ?_))
            exact lZ hF [.tmp 0] [.bool t38] (rT res_nil)
          cases t34 with
          | true =>
            replace hF := ifB_t hF
            refine oA 36 (.int .i64 t23) ?_
            refine oB 37 hF fun t37 hF => ?_
            refine oA 38 (.bool t37) ?_
            exact lW _ (J42 _ _ hF)
          | false =>
            replace hF := ifB_f hF
            refine WL.o (some 36) ?_
            refine WL.o (some 37) ?_
            refine oA 38 (.bool false) ?_
            exact lW _ (J42 _ _ hF)
        cases t29 with
        | true =>
          replace hF := ifB_t hF
          refine oR 31 32 hF fun t31 hF => ?_
          refine oA 32 (.agg ([.int .i64 1, .int .i64 1, .int .i64 2, strA ([120] : Bytes)] : List AV)) ?_
          obtain ⟨t33, e45, hF⟩ := obind_some hF
          refine WL.b (some 33) (.bool t33) h_34 (eq_other (P := Try.prog) (h := h_34) (t := 32) (lit := false) (by kernel_rfl) e45) ?_
          refine oA 34 (.bool t33) ?_
          exact lW _ (J39 _ _ hF)
        | false =>
          replace hF := ifB_f hF
          refine WL.o (some 31) ?_
          refine WL.o (some 32) ?_
          refine WL.o (some 33) ?_
          refine oA 34 (.bool false) ?_
          exact lW _ (J39 _ _ hF)
      cases t25 with
      | true =>
        replace hF := ifB_t hF
        refine oA 27 (.int .i64 t18) ?_
        refine oB 28 hF fun t28 hF => ?_
        refine oA 29 (.bool t28) ?_
        exact lW _ (J36 _ _ hF)
      | false =>
        replace hF := ifB_f hF
        refine WL.o (some 27) ?_
        refine WL.o (some 28) ?_
        refine oA 29 (.bool false) ?_
        exact lW _ (J36 _ _ hF)
  cases t8 with
  | true =>
    replace hF := ifB_t hF
    refine WL.o (some 10) ?_
    refine WL.o (some 11) ?_
    refine WL.o (some 12) ?_
    refine oA 13 (.bool true) ?_
    exact lW _ (J12 _ _ hF)
  | false =>
    replace hF := ifB_f hF
    refine oA 10 r6 ?_
    refine oC hc (some 11) hF fun r11 h_47 hF => ?_
    replace hF := outK_some hF; obtain ⟨v12, h_49, e50, hF⟩ := hF
    replace hF := obind_some hF; obtain ⟨t12, c51, hF⟩ := hF
    have c51 := avBool_some c51
    subst c51
    refine WL.b (some 12) (.bool t12) h_49 e50 ?_
    refine oA 13 (.bool t12) ?_
    exact lW _ (J12 _ _ hF)
noncomputable def law05_great_L0b (t0 : AV) (k6 : AHeap → R) (self : Int → Int → AHeap → R) (t3 : Int) (t4 : Int) (h_12 : AHeap) : R :=
  obind (lenL t0) fun t7 =>
  lett (decide (t4 < t7)) fun (t8 : Bool) =>
  ifB t8
  (
    obind (idxP 4 t0 t4) fun t14 =>
    obind (fldP 3 t14) fun t15 =>
    obind (ldCell h_12 t15) fun v16 =>
    obind (avStr v16) fun t16 =>
    lett (IntKind.i64.wrap (1 + (lenS t16))) fun (t18 : Int) =>
    lett (IntKind.i64.wrap (t3 + t18)) fun (t19 : Int) =>
    lett (decide (t19 > 65536)) fun (t21 : Bool) =>
    ifB t21
    (
      some (.ret (.bool true), h_12))
    (
      lett (IntKind.i64.wrap (t4 + 1)) fun (t10 : Int) =>
      self t19 t10 h_12))
  (
    k6 h_12)
noncomputable def law05_great_L0 (t0 : AV) (k6 : AHeap → R) : Nat → Int → Int → AHeap → R := iterR (fun _ _ _ => none) (law05_great_L0b t0 k6)
theorem law05_great_L0_s (t0 : AV) (k6 : AHeap → R) (m : Nat) : law05_great_L0 t0 k6 (m + 1) = law05_great_L0b t0 k6 (law05_great_L0 t0 k6 m) := rfl
noncomputable def law05_great (_ : CallF) (n : Nat) (t0 : AV) (h : AHeap) : R :=
  lett (fun  (h_7 : AHeap) =>
    obind (lenL t0) fun t23 =>
    lett (decide (t23 > 400)) fun (t24 : Bool) =>
    some (.ret (.bool t24), h_7)) fun k6 =>
  law05_great_L0 t0 k6 n 0 0 h
set_option maxHeartbeats 4000000 in
set_option maxRecDepth 20000 in
theorem law05_great_ok {call : CallF} (_ : SaysAll Try.prog call) {n : Nat} {t0 : AV} {h : AHeap} {rR : ARes} {hR : AHeap} (hF : law05_great call n t0 h = some (rR, hR)) : Says Try.prog 10 [t0] h rR hR := by
  unfold law05_great at hF
  refine sO Try.func10 fun w0 m0 => ?_
  refine wW [(0, t0)] ?_
  refine oG fun n1 => W.r ?_
  refine oA 2 (.bool false) ?_
  refine oV [(0, t0)] (n1 ?_)
  refine oG fun n2 => W.r ?_
  refine oA 3 (.int .i64 0) ?_
  refine oV [(0, t0), (3, .int .i64 0)] (n2 ?_)
  refine W.s (fun K3 n3 e3 q3 p3 => ?_)
  refine oG fun n4 => W.r ?_
  refine oA 4 (.int .i64 0) ?_
  refine oV [(0, t0), (3, .int .i64 0), (4, .int .i64 0)] (n4 ?_)
  obtain ⟨k6, e6, hF⟩ := lett_some hF
  have J6 : ∀  (h_7 : AHeap), k6 h_7 = some (rR, hR) → Go w0 m0 (Func.ntmps Try.f10) (K3 .normal) [(0, t0)] [] h_7 := by
    intro  h_7 hF
    rw [e6] at hF
    refine n3 ?_
    refine oG fun n8 => W.r ?_
    refine oA 22 t0 ?_
    refine oM 23 22 39 hF fun t23 hF => ?_
    refine oB 24 hF fun t24 hF => ?_
    refine oA 2 (.bool t24) ?_
    refine oV [(2, .bool t24)] (n8 (oY ?_))
    exact lZ hF [.tmp 2] [.bool t24] (rT res_nil)
  refine W.blockK (by kernel_rfl) (fun K5 n5 s5 o5 q5 p5 => ?_)
  refine W.loopK (by kernel_rfl) (fun I11 K11 b11 n11 e11 q11 p11 => ?_)
  have L11 : ∀ (m : Nat) (t3 : Int) (t4 : Int) (h_12 : AHeap), law05_great_L0 t0 k6 m t3 t4 h_12 = some (rR, hR) → Go w0 m0 (Func.ntmps Try.f10) I11 [(0, t0), (3, .int .i64 t3), (4, .int .i64 t4)] [] h_12 := by
    intro m
    induction m with
    | zero => intro t3 t4 h_12 hF; cases hF
    | succ m ih11 =>
      intro t3 t4 h_12 hF
      rw [law05_great_L0_s] at hF; unfold law05_great_L0b at hF
      refine b11 ?_
      refine W.s (fun K13 n13 e13 q13 p13 => ?_)
      refine oG fun n14 => W.r ?_
      refine oA 5 (.int .i64 t4) ?_
      refine oA 6 t0 ?_
      refine oM 7 22 39 hF fun t7 hF => ?_
      refine oB 8 hF fun t8 hF => ?_
      refine oV [(0, t0), (3, .int .i64 t3), (4, .int .i64 t4), (8, .bool t8)] (n14 ?_)
      cases t8 with
      | true =>
        refine oT hF fun hF => ?_
        refine oZ (n13 ?_)
        refine oH fun n17 q17 => ?_
        refine W.blockK (by kernel_rfl) (fun K18 n18 s18 o18 q18 p18 => ?_)
        refine oG fun n19 => W.r ?_
        refine oA 11 (.int .i64 t3) ?_
        refine oA 12 t0 ?_
        refine oA 13 (.int .i64 t4) ?_
        refine oP 14 22 39 .i64 hF fun t14 hF => ?_
        refine oF 15 39 3 hF fun t15 hF => ?_
        refine oLs 16 9 hF fun t16 hF => ?_
        refine oA 17 (.int .i64 (lenS t16)) ?_
        refine oI 18 .i64 hF fun t18 hF => ?_
        refine oI 19 .i64 hF fun t19 hF => ?_
        refine oA 3 (.int .i64 t19) ?_
        refine oV [(0, t0), (3, .int .i64 t19), (4, .int .i64 t4)] (n19 ?_)
        refine oG fun n26 => W.r ?_
        refine oA 20 (.int .i64 t19) ?_
        refine oB 21 hF fun t21 hF => ?_
        refine oV [(0, t0), (3, .int .i64 t19), (4, .int .i64 t4), (21, .bool t21)] (n26 ?_)
        cases t21 with
        | true =>
          refine oT hF fun hF => ?_
          refine oG fun n28 => W.r ?_
          refine oA 2 (.bool true) ?_
          refine oV [(2, .bool true)] (n28 (oY (q18 (q17 (q11 (q5 (q3 ?_)))))))
          exact lZ hF [.tmp 2] [.bool true] (rT res_nil)
        | false =>
          refine oU hF fun hF => ?_
          refine oZ (n18 (n17 (W.r ?_)))
          refine oA 9 (.int .i64 t4) ?_
          refine oI 10 .i64 hF fun t10 hF => ?_
          refine oA 4 (.int .i64 t10) ?_
          refine oV [(0, t0), (3, .int .i64 t19), (4, .int .i64 t10)] (n11 ?_)
          exact gW _ (ih11 _ _ _ hF)
      | false =>
        refine oU hF fun hF => ?_
        refine W.exit (by kernel_rfl) ?_
        refine e13 (e11 ?_)
        refine s5 (by kernel_rfl) ?_
        exact gW _ (J6 _ hF)
  exact gW _ (L11 _ _ _ _ hF)
noncomputable def law05_play (call : CallF) (_ : Nat) (t0 : AV) (t1 : List AV) (h : AHeap) : R :=
  outK (opBox h 39 (some (.agg t1))) fun v3 h_2 =>
  lett (newH h_2 35 [.int .i64 0, .int .i64 0, .int .i64 0, .int .i64 0, .str 0 0, .int .i64 0]) fun h_4 =>
  lett (newH h_4 35 [.int .i64 0, .int .i64 0, .int .i64 0, .int .i64 0, .str 0 0, .int .i64 0]) fun h_7 =>
  obind (stRow h_7 6 ([.int .i64 0, .int .i64 0, .int .i64 0, .int .i64 0, .str 0 0, .int .i64 0] : List AV) (newP h_4)) fun h_9 =>
  obind (fldP 0 v3) fun t9 =>
  obind (ldCell h_9 t9) fun v10 =>
  obind (avInt .i64 v10) fun t10 =>
  lett ((t10 : Int) == 1) fun (t12 : Bool) =>
  lett (fun  (h_20 : AHeap) =>
    obind (ldRow h_20 6 (newP h_4)) fun t80 =>
    obind (stRow h_20 6 t80 (newP h_2)) fun h_23 =>
    obind (ldRow h_23 6 (newP h_2)) fun w5 =>
    some (.ret (.tup [t0, .agg w5]), h_23)) fun k19 =>
  ifB t12
  (
    obind (fldP 1 v3) fun t15 =>
    obind (ldCell h_9 t15) fun v16 =>
    obind (avInt .i64 v16) fun t16 =>
    obind (fldP 2 v3) fun t17 =>
    obind (ldCell h_9 t17) fun v18 =>
    obind (avInt .i64 v18) fun t18 =>
    obind (fldP 3 v3) fun t19 =>
    obind (ldCell h_9 t19) fun v20 =>
    obind (avStr v20) fun t20 =>
    callN (call 18 [t0, .int .i64 t16, .int .i64 t18, strA t20] h_9) fun r21 h_35 =>
    obind (extT 0 r21) fun v22 =>
    obind (avInt .i64 v22) fun t22 =>
    obind (extT 1 r21) fun v23 =>
    obind (avInt .i64 v23) fun t23 =>
    obind (stRow h_35 1 [.int .i64 t22] (AV.ptr (AHeap.next h_4) 0)) fun h_41 =>
    obind (stRow h_41 1 [.int .i64 t23] (AV.ptr (AHeap.next h_4) 5)) fun h_43 =>
    k19 h_43)
  (
    lett ((t10 : Int) == 2) fun (t27 : Bool) =>
    lett (fun  (h_48 : AHeap) =>
      k19 h_48) fun k47 =>
    ifB t27
    (
      obind (fldP 1 v3) fun t30 =>
      obind (ldCell h_9 t30) fun v31 =>
      obind (avInt .i64 v31) fun t31 =>
      callN (call 22 [t0, .int .i64 t31] h_9) fun r32 h_52 =>
      obind (extT 0 r32) fun v33 =>
      obind (avAgg v33) fun t33 =>
      obind (extT 1 r32) fun v34 =>
      obind (avInt .i64 v34) fun t34 =>
      obind (stRow h_52 4 t33 (AV.ptr (AHeap.next h_4) 1)) fun h_58 =>
      obind (stRow h_58 1 [.int .i64 t34] (AV.ptr (AHeap.next h_4) 5)) fun h_60 =>
      k47 h_60)
    (
      lett ((t10 : Int) == 3) fun (t38 : Bool) =>
      lett (fun  (h_65 : AHeap) =>
        k47 h_65) fun k64 =>
      ifB t38
      (
        obind (fldP 1 v3) fun t40 =>
        obind (ldCell h_9 t40) fun v41 =>
        obind (avInt .i64 v41) fun t41 =>
        callN (call 21 [t0, .int .i64 t41] h_9) fun r42 h_69 =>
        obind (avInt .i64 r42) fun t42 =>
        obind (stRow h_69 1 [.int .i64 t42] (AV.ptr (AHeap.next h_4) 5)) fun h_72 =>
        k64 h_72)
      (
        lett ((t10 : Int) == 4) fun (t45 : Bool) =>
        lett (fun  (h_77 : AHeap) =>
          k64 h_77) fun k76 =>
        ifB t45
        (
          obind (fldP 1 v3) fun t48 =>
          obind (ldCell h_9 t48) fun v49 =>
          obind (avInt .i64 v49) fun t49 =>
          callN (call 19 [t0, .int .i64 t49] h_9) fun r50 h_81 =>
          obind (extT 0 r50) fun v51 =>
          obind (avInt .i64 v51) fun t51 =>
          obind (extT 1 r50) fun v52 =>
          obind (avInt .i64 v52) fun t52 =>
          obind (stRow h_81 1 [.int .i64 t51] (AV.ptr (AHeap.next h_4) 0)) fun h_87 =>
          obind (stRow h_87 1 [.int .i64 t52] (AV.ptr (AHeap.next h_4) 5)) fun h_89 =>
          k76 h_89)
        (
          lett ((t10 : Int) == 5) fun (t56 : Bool) =>
          lett (fun  (h_94 : AHeap) =>
            k76 h_94) fun k93 =>
          ifB t56
          (
            obind (fldP 1 v3) fun t58 =>
            obind (ldCell h_9 t58) fun v59 =>
            obind (avInt .i64 v59) fun t59 =>
            obind (fldP 2 v3) fun t60 =>
            obind (ldCell h_9 t60) fun v61 =>
            obind (avInt .i64 v61) fun t61 =>
            callN (call 20 [t0, .int .i64 t59, .int .i64 t61] h_9) fun r62 h_101 =>
            obind (avInt .i64 r62) fun t62 =>
            obind (stRow h_101 1 [.int .i64 t62] (AV.ptr (AHeap.next h_4) 5)) fun h_104 =>
            k93 h_104)
          (
            lett ((t10 : Int) == 6) fun (t65 : Bool) =>
            lett (fun  (h_109 : AHeap) =>
              k93 h_109) fun k108 =>
            ifB t65
            (
              obind (fldP 1 v3) fun t67 =>
              obind (ldCell h_9 t67) fun v68 =>
              obind (avInt .i64 v68) fun t68 =>
              obind (fldP 2 v3) fun t69 =>
              obind (ldCell h_9 t69) fun v70 =>
              obind (avInt .i64 v70) fun t70 =>
              callN (call 23 [t0, .int .i64 t68, .int .i64 t70] h_9) fun r71 h_116 =>
              obind (avInt .i64 r71) fun t71 =>
              obind (stRow h_116 1 [.int .i64 t71] (AV.ptr (AHeap.next h_4) 5)) fun h_119 =>
              k108 h_119)
            (
              lett ((t10 : Int) == 7) fun (t74 : Bool) =>
              ifB t74
              (
                callN (call 17 [t0] h_9) fun r76 h_124 =>
                obind (ldRow h_124 6 (newP h_4)) fun t78 =>
                obind (stRow h_124 6 t78 (newP h_2)) fun h_128 =>
                obind (ldRow h_128 6 (newP h_2)) fun w5_131 =>
                some (.ret (.tup [r76, .agg w5_131]), h_128))
              (
                k108 h_9)))))))
set_option maxHeartbeats 4000000 in
set_option maxRecDepth 20000 in
theorem law05_play_ok {call : CallF} (hc : SaysAll Try.prog call) {n : Nat} {t0 : AV} {t1 : List AV} {h : AHeap} {rR : ARes} {hR : AHeap} (hF : law05_play call n t0 t1 h = some (rR, hR)) : Says Try.prog 12 [t0, .agg t1] h rR hR := by
  unfold law05_play at hF
  refine sO Try.func12 fun w0 m0 => ?_
  refine wW [(0, t0), (1, .agg t1)] ?_
  refine oG fun n1 => W.r ?_
  refine oK 3 hF fun v3 h_2 hF => ?_
  refine oA 4 AV.nilp ?_
  refine oN 5 hF fun h_4 hF => ?_
  refine oV [(0, t0), (3, v3), (5, (newP h_2))] (n1 ?_)
  refine oG fun n6 => W.r ?_
  refine oA 8 (.agg ([.int .i64 0, .int .i64 0, .int .i64 0, .int .i64 0, .str 0 0, .int .i64 0] : List AV)) ?_
  refine oN 6 hF fun h_7 hF => ?_
  refine oW 35 (.agg ([.int .i64 0, .int .i64 0, .int .i64 0, .int .i64 0, .str 0 0, .int .i64 0] : List AV)) hF fun h_9 hF => ?_
  refine oV [(0, t0), (3, v3), (5, (newP h_2)), (6, (newP h_4))] (n6 ?_)
  refine oH fun n11 q11 => ?_
  refine oG fun n12 => W.r ?_
  refine oF 9 39 0 hF fun t9 hF => ?_
  refine oLi 10 3 hF fun t10 hF => ?_
  refine oV [(0, t0), (3, v3), (5, (newP h_2)), (6, (newP h_4)), (10, .int .i64 t10)] (n12 ?_)
  refine W.blockK (by kernel_rfl) (fun K16 n16 s16 o16 q16 p16 => ?_)
  refine oG fun n17 => W.r ?_
  refine oB 12 hF fun t12 hF => ?_
  refine oA 11 (.bool t12) ?_
  refine oV [(0, t0), (3, v3), (5, (newP h_2)), (6, (newP h_4)), (10, .int .i64 t10), (11, .bool t12)] (n17 ?_)
  obtain ⟨k19, e19, hF⟩ := lett_some hF
  have J19 : ∀  (h_20 : AHeap), k19 h_20 = some (rR, hR) → Go w0 m0 (Func.ntmps Try.f12) (K16 .normal) [(0, t0), (5, (newP h_2)), (6, (newP h_4))] [] h_20 := by
    intro  h_20 hF
    rw [e19] at hF
    refine n16 (n11 ?_)
    refine oG fun n21 => ?_
    refine W.draw (by kernel_rfl) (hc.ok w0) (plan := [0, 1, 2, 3]) (by kernel_rfl) (by kernel_rfl) (by kernel_rfl) ?_
    refine WD.a 0 (some 79) t0 h_20 ?_
    obtain ⟨t80, e22, hF⟩ := obind_some hF
    refine WD.b 1 (some 80) (.agg t80) h_20 (load_row (P := Try.prog) (h := h_20) (t := 35) (by kernel_rfl) (by kernel_rfl) e22) ?_
    refine WD.a 0 (some 4) t0 h_20 ?_
    obtain ⟨h_23, e24, hF⟩ := obind_some hF
    refine WD.eff (h' := h_23) (by kernel_rfl) (by kernel_rfl) (Eq.trans (by kernel_rfl) (store_row (P := Try.prog) (h := h_20) (t := 35) (v := (.agg t80)) (by kernel_rfl) (by kernel_rfl) e24)) (k := 2) (by kernel_rfl) (fun _ => (by kernel_rfl)) (by decide) ?_
    refine WD.nil ?_
    refine gW [(4, t0), (5, (newP h_2))] (n21 (oY ?_))
    obtain ⟨w5, e25, hF⟩ := obind_some hF
    exact lZ hF [.tmp 4, .cell 5 35] [t0, .agg w5] (rT (rY e25 res_nil))
  cases t12 with
  | true =>
    refine oT hF fun hF => ?_
    refine W.r ?_
    refine oA 14 t0 ?_
    refine oF 15 39 1 hF fun t15 hF => ?_
    refine oLi 16 3 hF fun t16 hF => ?_
    refine oF 17 39 2 hF fun t17 hF => ?_
    refine oLi 18 3 hF fun t18 hF => ?_
    refine oF 19 39 3 hF fun t19 hF => ?_
    refine oLs 20 9 hF fun t20 hF => ?_
    refine oC hc (some 21) hF fun r21 h_35 hF => ?_
    refine oA 13 r21 ?_
    refine oEi 22 hF fun t22 hF => ?_
    refine oEi 23 hF fun t23 hF => ?_
    refine oA 24 (AV.ptr (AHeap.next h_4) 0) ?_
    refine oW 3 (.int .i64 t22) hF fun h_41 hF => ?_
    refine oA 25 (AV.ptr (AHeap.next h_4) 5) ?_
    refine oW 33 (.int .i64 t23) hF fun h_43 hF => ?_
    refine oV [(0, t0), (5, (newP h_2)), (6, (newP h_4))] ?_
    exact gW _ (J19 _ hF)
  | false =>
    refine oU hF fun hF => ?_
    refine oG fun n45 => W.r ?_
    refine oB 27 hF fun t27 hF => ?_
    refine oA 26 (.bool t27) ?_
    refine oV [(0, t0), (3, v3), (5, (newP h_2)), (6, (newP h_4)), (10, .int .i64 t10), (26, .bool t27)] (n45 ?_)
    obtain ⟨k47, e47, hF⟩ := lett_some hF
    have J47 : ∀  (h_48 : AHeap), k47 h_48 = some (rR, hR) → Go w0 m0 (Func.ntmps Try.f12) (K16 .normal) [(0, t0), (5, (newP h_2)), (6, (newP h_4))] [] h_48 := by
      intro  h_48 hF
      rw [e47] at hF
      exact gW _ (J19 _ hF)
    cases t27 with
    | true =>
      refine oT hF fun hF => ?_
      refine W.r ?_
      refine oA 29 t0 ?_
      refine oF 30 39 1 hF fun t30 hF => ?_
      refine oLi 31 3 hF fun t31 hF => ?_
      refine oC hc (some 32) hF fun r32 h_52 hF => ?_
      refine oA 28 r32 ?_
      refine oEa 33 hF fun t33 hF => ?_
      refine oEi 34 hF fun t34 hF => ?_
      refine oA 35 (AV.ptr (AHeap.next h_4) 1) ?_
      refine oW 32 (.agg t33) hF fun h_58 hF => ?_
      refine oA 36 (AV.ptr (AHeap.next h_4) 5) ?_
      refine oW 33 (.int .i64 t34) hF fun h_60 hF => ?_
      refine oV [(0, t0), (5, (newP h_2)), (6, (newP h_4))] ?_
      exact gW _ (J47 _ hF)
    | false =>
      refine oU hF fun hF => ?_
      refine oG fun n62 => W.r ?_
      refine oB 38 hF fun t38 hF => ?_
      refine oA 37 (.bool t38) ?_
      refine oV [(0, t0), (3, v3), (5, (newP h_2)), (6, (newP h_4)), (10, .int .i64 t10), (37, .bool t38)] (n62 ?_)
      obtain ⟨k64, e64, hF⟩ := lett_some hF
      have J64 : ∀  (h_65 : AHeap), k64 h_65 = some (rR, hR) → Go w0 m0 (Func.ntmps Try.f12) (K16 .normal) [(0, t0), (5, (newP h_2)), (6, (newP h_4))] [] h_65 := by
        intro  h_65 hF
        rw [e64] at hF
        exact gW _ (J47 _ hF)
      cases t38 with
      | true =>
        refine oT hF fun hF => ?_
        refine W.r ?_
        refine oA 39 t0 ?_
        refine oF 40 39 1 hF fun t40 hF => ?_
        refine oLi 41 3 hF fun t41 hF => ?_
        refine oCi hc 42 hF fun t42 h_69 hF => ?_
        refine oA 43 (AV.ptr (AHeap.next h_4) 5) ?_
        refine oW 33 (.int .i64 t42) hF fun h_72 hF => ?_
        refine oV [(0, t0), (5, (newP h_2)), (6, (newP h_4))] ?_
        exact gW _ (J64 _ hF)
      | false =>
        refine oU hF fun hF => ?_
        refine oG fun n74 => W.r ?_
        refine oB 45 hF fun t45 hF => ?_
        refine oA 44 (.bool t45) ?_
        refine oV [(0, t0), (3, v3), (5, (newP h_2)), (6, (newP h_4)), (10, .int .i64 t10), (44, .bool t45)] (n74 ?_)
        obtain ⟨k76, e76, hF⟩ := lett_some hF
        have J76 : ∀  (h_77 : AHeap), k76 h_77 = some (rR, hR) → Go w0 m0 (Func.ntmps Try.f12) (K16 .normal) [(0, t0), (5, (newP h_2)), (6, (newP h_4))] [] h_77 := by
          intro  h_77 hF
          rw [e76] at hF
          exact gW _ (J64 _ hF)
        cases t45 with
        | true =>
          refine oT hF fun hF => ?_
          refine W.r ?_
          refine oA 47 t0 ?_
          refine oF 48 39 1 hF fun t48 hF => ?_
          refine oLi 49 3 hF fun t49 hF => ?_
          refine oC hc (some 50) hF fun r50 h_81 hF => ?_
          refine oA 46 r50 ?_
          refine oEi 51 hF fun t51 hF => ?_
          refine oEi 52 hF fun t52 hF => ?_
          refine oA 53 (AV.ptr (AHeap.next h_4) 0) ?_
          refine oW 3 (.int .i64 t51) hF fun h_87 hF => ?_
          refine oA 54 (AV.ptr (AHeap.next h_4) 5) ?_
          refine oW 33 (.int .i64 t52) hF fun h_89 hF => ?_
          refine oV [(0, t0), (5, (newP h_2)), (6, (newP h_4))] ?_
          exact gW _ (J76 _ hF)
        | false =>
          refine oU hF fun hF => ?_
          refine oG fun n91 => W.r ?_
          refine oB 56 hF fun t56 hF => ?_
          refine oA 55 (.bool t56) ?_
          refine oV [(0, t0), (3, v3), (5, (newP h_2)), (6, (newP h_4)), (10, .int .i64 t10), (55, .bool t56)] (n91 ?_)
          obtain ⟨k93, e93, hF⟩ := lett_some hF
          have J93 : ∀  (h_94 : AHeap), k93 h_94 = some (rR, hR) → Go w0 m0 (Func.ntmps Try.f12) (K16 .normal) [(0, t0), (5, (newP h_2)), (6, (newP h_4))] [] h_94 := by
            intro  h_94 hF
            rw [e93] at hF
            exact gW _ (J76 _ hF)
          cases t56 with
          | true =>
            refine oT hF fun hF => ?_
            refine W.r ?_
            refine oA 57 t0 ?_
            refine oF 58 39 1 hF fun t58 hF => ?_
            refine oLi 59 3 hF fun t59 hF => ?_
            refine oF 60 39 2 hF fun t60 hF => ?_
            refine oLi 61 3 hF fun t61 hF => ?_
            refine oCi hc 62 hF fun t62 h_101 hF => ?_
            refine oA 63 (AV.ptr (AHeap.next h_4) 5) ?_
            refine oW 33 (.int .i64 t62) hF fun h_104 hF => ?_
            refine oV [(0, t0), (5, (newP h_2)), (6, (newP h_4))] ?_
            exact gW _ (J93 _ hF)
          | false =>
            refine oU hF fun hF => ?_
            refine oG fun n106 => W.r ?_
            refine oB 65 hF fun t65 hF => ?_
            refine oA 64 (.bool t65) ?_
            refine oV [(0, t0), (3, v3), (5, (newP h_2)), (6, (newP h_4)), (10, .int .i64 t10), (64, .bool t65)] (n106 ?_)
            obtain ⟨k108, e108, hF⟩ := lett_some hF
            have J108 : ∀  (h_109 : AHeap), k108 h_109 = some (rR, hR) → Go w0 m0 (Func.ntmps Try.f12) (K16 .normal) [(0, t0), (5, (newP h_2)), (6, (newP h_4))] [] h_109 := by
              intro  h_109 hF
              rw [e108] at hF
              exact gW _ (J93 _ hF)
            cases t65 with
            | true =>
              refine oT hF fun hF => ?_
              refine W.r ?_
              refine oA 66 t0 ?_
              refine oF 67 39 1 hF fun t67 hF => ?_
              refine oLi 68 3 hF fun t68 hF => ?_
              refine oF 69 39 2 hF fun t69 hF => ?_
              refine oLi 70 3 hF fun t70 hF => ?_
              refine oCi hc 71 hF fun t71 h_116 hF => ?_
              refine oA 72 (AV.ptr (AHeap.next h_4) 5) ?_
              refine oW 33 (.int .i64 t71) hF fun h_119 hF => ?_
              refine oV [(0, t0), (5, (newP h_2)), (6, (newP h_4))] ?_
              exact gW _ (J108 _ hF)
            | false =>
              refine oU hF fun hF => ?_
              refine oG fun n121 => W.r ?_
              refine oB 74 hF fun t74 hF => ?_
              refine oA 73 (.bool t74) ?_
              refine oV [(0, t0), (5, (newP h_2)), (6, (newP h_4)), (73, .bool t74)] (n121 ?_)
              cases t74 with
              | true =>
                refine oT hF fun hF => ?_
                refine oG fun n123 => W.r ?_
                refine oA 75 t0 ?_
                refine oC hc (some 76) hF fun r76 h_124 hF => ?_
                refine oA 7 r76 ?_
                refine oV [(5, (newP h_2)), (6, (newP h_4)), (7, r76)] (n123 ?_)
                refine oG fun n126 => ?_
                refine W.draw (by kernel_rfl) (hc.ok w0) (plan := [0, 1, 2, 3]) (by kernel_rfl) (by kernel_rfl) (by kernel_rfl) ?_
                refine WD.a 0 (some 77) r76 h_124 ?_
                obtain ⟨t78, e127, hF⟩ := obind_some hF
                refine WD.b 1 (some 78) (.agg t78) h_124 (load_row (P := Try.prog) (h := h_124) (t := 35) (by kernel_rfl) (by kernel_rfl) e127) ?_
                refine WD.a 0 (some 4) r76 h_124 ?_
                obtain ⟨h_128, e129, hF⟩ := obind_some hF
                refine WD.eff (h' := h_128) (by kernel_rfl) (by kernel_rfl) (Eq.trans (by kernel_rfl) (store_row (P := Try.prog) (h := h_124) (t := 35) (v := (.agg t78)) (by kernel_rfl) (by kernel_rfl) e129)) (k := 2) (by kernel_rfl) (fun _ => (by kernel_rfl)) (by decide) ?_
                refine WD.nil ?_
                refine gW [(4, r76), (5, (newP h_2))] (n126 (oY (q16 (q11 ?_))))
                obtain ⟨w5_131, e130, hF⟩ := obind_some hF
                exact lZ hF [.tmp 4, .cell 5 35] [r76, .agg w5_131] (rT (rY e130 res_nil))
              | false =>
                refine oU hF fun hF => ?_
                refine oZ ?_
                exact gW _ (J108 _ hF)
noncomputable def ref05_Same_L0b (t0 : AV) (t1 : AV) (k11 : AHeap → R) (self : Int → AHeap → R) (t5 : Int) (h_15 : AHeap) : R :=
  obind (lenL t0) fun t13 =>
  lett (decide (t5 < t13)) fun (t14 : Bool) =>
  ifB t14
  (
    obind (idxP 4 t0 t5) fun t19 =>
    obind (ldRow h_15 4 t19) fun t20 =>
    obind (idxP 4 t1 t5) fun t23 =>
    obind (ldRow h_15 4 t23) fun t24 =>
    obind (eqOther Try.prog 32 (.agg t20) (.agg t24)) fun t25 =>
    lett (!t25) fun (t25_28 : Bool) =>
    ifB t25_28
    (
      some (.ret (.bool false), h_15))
    (
      lett (IntKind.i64.wrap (t5 + 1)) fun (t16 : Int) =>
      self t16 h_15))
  (
    k11 h_15)
noncomputable def ref05_Same_L0 (t0 : AV) (t1 : AV) (k11 : AHeap → R) : Nat → Int → AHeap → R := iterR (fun _ _ => none) (ref05_Same_L0b t0 t1 k11)
theorem ref05_Same_L0_s (t0 : AV) (t1 : AV) (k11 : AHeap → R) (m : Nat) : ref05_Same_L0 t0 t1 k11 (m + 1) = ref05_Same_L0b t0 t1 k11 (ref05_Same_L0 t0 t1 k11 m) := rfl
noncomputable def ref05_Same (_ : CallF) (n : Nat) (t0 : AV) (t1 : AV) (h : AHeap) : R :=
  obind (lenL t0) fun t7 =>
  obind (lenL t1) fun t9 =>
  lett ((t7 : Int) != t9) fun (t10 : Bool) =>
  ifB t10
  (
    some (.ret (.bool false), h))
  (
    lett (fun  (h_12 : AHeap) =>
      some (.ret (.bool true), h_12)) fun k11 =>
    ref05_Same_L0 t0 t1 k11 n 0 h)
set_option maxHeartbeats 4000000 in
set_option maxRecDepth 20000 in
theorem ref05_Same_ok {call : CallF} (hc : SaysAll Try.prog call) {n : Nat} {t0 : AV} {t1 : AV} {h : AHeap} {rR : ARes} {hR : AHeap} (hF : ref05_Same call n t0 t1 h = some (rR, hR)) : Says Try.prog 14 [t0, t1] h rR hR := by
  unfold ref05_Same at hF
  refine sO Try.func14 fun w0 m0 => ?_
  refine wW [(0, t0), (1, t1)] ?_
  refine oG fun n1 => W.r ?_
  refine oA 4 (.bool false) ?_
  refine oV [(0, t0), (1, t1)] (n1 ?_)
  refine oH fun n2 q2 => ?_
  refine oG fun n3 => W.r ?_
  refine oA 6 t0 ?_
  refine oM 7 27 32 hF fun t7 hF => ?_
  refine oA 8 t1 ?_
  refine oM 9 27 32 hF fun t9 hF => ?_
  refine oB 10 hF fun t10 hF => ?_
  refine oV [(0, t0), (1, t1), (10, .bool t10)] (n3 ?_)
  cases t10 with
  | true =>
    refine oT hF fun hF => ?_
    refine oG fun n7 => W.r ?_
    refine oA 4 (.bool false) ?_
    refine oV [(4, .bool false)] (n7 (oY (q2 ?_)))
    exact lZ hF [.tmp 4] [.bool false] (rT res_nil)
  | false =>
    refine oU hF fun hF => ?_
    refine oZ (n2 ?_)
    refine W.s (fun K8 n8 e8 q8 p8 => ?_)
    refine oG fun n9 => W.r ?_
    refine oA 5 (.int .i64 0) ?_
    refine oV [(0, t0), (1, t1), (5, .int .i64 0)] (n9 ?_)
    obtain ⟨k11, e11, hF⟩ := lett_some hF
    have J11 : ∀  (h_12 : AHeap), k11 h_12 = some (rR, hR) → Go w0 m0 (Func.ntmps Try.f14) (K8 .normal) [] [] h_12 := by
      intro  h_12 hF
      rw [e11] at hF
      refine n8 ?_
      refine oG fun n13 => W.r ?_
      refine oA 4 (.bool true) ?_
      refine oV [(4, .bool true)] (n13 (oY ?_))
      exact lZ hF [.tmp 4] [.bool true] (rT res_nil)
    refine W.blockK (by kernel_rfl) (fun K10 n10 s10 o10 q10 p10 => ?_)
    refine W.loopK (by kernel_rfl) (fun I14 K14 b14 n14 e14 q14 p14 => ?_)
    have L14 : ∀ (m : Nat) (t5 : Int) (h_15 : AHeap), ref05_Same_L0 t0 t1 k11 m t5 h_15 = some (rR, hR) → Go w0 m0 (Func.ntmps Try.f14) I14 [(0, t0), (1, t1), (5, .int .i64 t5)] [] h_15 := by
      intro m
      induction m with
      | zero => intro t5 h_15 hF; cases hF
      | succ m ih14 =>
        intro t5 h_15 hF
        rw [ref05_Same_L0_s] at hF; unfold ref05_Same_L0b at hF
        refine b14 ?_
        refine W.s (fun K16 n16 e16 q16 p16 => ?_)
        refine oG fun n17 => W.r ?_
        refine oA 11 (.int .i64 t5) ?_
        refine oA 12 t0 ?_
        refine oM 13 27 32 hF fun t13 hF => ?_
        refine oB 14 hF fun t14 hF => ?_
        refine oV [(0, t0), (1, t1), (5, .int .i64 t5), (14, .bool t14)] (n17 ?_)
        cases t14 with
        | true =>
          refine oT hF fun hF => ?_
          refine oZ (n16 ?_)
          refine oH fun n20 q20 => ?_
          refine W.blockK (by kernel_rfl) (fun K21 n21 s21 o21 q21 p21 => ?_)
          refine oG fun n22 => ?_
          refine W.draw (by kernel_rfl) (hc.ok w0) (plan := [0, 1, 2, 3, 4, 5, 6, 7, 8]) (by kernel_rfl) (by kernel_rfl) (by kernel_rfl) ?_
          refine WD.a 0 (some 17) t0 h_15 ?_
          refine WD.a 0 (some 18) (.int .i64 t5) h_15 ?_
          obtain ⟨t19, e23, hF⟩ := obind_some hF
          refine WD.b 0 (some 19) t19 h_15 (index_row (P := Try.prog) (h := h_15) (t := 27) (e' := 32) (k := .i64) (by kernel_rfl) (by kernel_rfl) (by kernel_rfl) e23) ?_
          obtain ⟨t20, e24, hF⟩ := obind_some hF
          refine WD.b 1 (some 20) (.agg t20) h_15 (load_row (P := Try.prog) (h := h_15) (t := 32) (by kernel_rfl) (by kernel_rfl) e24) ?_
          refine WD.a 0 (some 21) t1 h_15 ?_
          refine WD.a 0 (some 22) (.int .i64 t5) h_15 ?_
          obtain ⟨t23, e25, hF⟩ := obind_some hF
          refine WD.b 0 (some 23) t23 h_15 (index_row (P := Try.prog) (h := h_15) (t := 27) (e' := 32) (k := .i64) (by kernel_rfl) (by kernel_rfl) (by kernel_rfl) e25) ?_
          obtain ⟨t24, e26, hF⟩ := obind_some hF
          refine WD.b 1 (some 24) (.agg t24) h_15 (load_row (P := Try.prog) (h := h_15) (t := 32) (by kernel_rfl) (by kernel_rfl) e26) ?_
          obtain ⟨t25, e27, hF⟩ := obind_some hF
          obtain ⟨t25_28, e29, hF⟩ := lett_some hF
          refine WD.val (d := (some 25)) (v := .bool t25_28) (h' := h_15) (by kernel_rfl) (by kernel_rfl) (val_of AV.bool e29 (Eq.trans (by kernel_rfl) (neq_other (P := Try.prog) (h := h_15) (t := 32) (lit := false) (by kernel_rfl) e27))) (k := 0) (by kernel_rfl) (fun e => absurd e (by decide)) (by decide) ?_
          refine WD.nil ?_
          refine gW [(0, t0), (1, t1), (5, .int .i64 t5), (25, .bool t25_28)] (n22 ?_)
          cases t25_28 with
          | true =>
            refine oT hF fun hF => ?_
            refine oG fun n30 => W.r ?_
            refine oA 4 (.bool false) ?_
            refine oV [(4, .bool false)] (n30 (oY (q21 (q20 (q14 (q10 (q8 ?_)))))))
            exact lZ hF [.tmp 4] [.bool false] (rT res_nil)
          | false =>
            refine oU hF fun hF => ?_
            refine oZ (n21 (n20 (W.r ?_)))
            refine oA 15 (.int .i64 t5) ?_
            refine oI 16 .i64 hF fun t16 hF => ?_
            refine oA 5 (.int .i64 t16) ?_
            refine oV [(0, t0), (1, t1), (5, .int .i64 t16)] (n14 ?_)
            exact gW _ (ih14 _ _ hF)
        | false =>
          refine oU hF fun hF => ?_
          refine W.exit (by kernel_rfl) ?_
          refine e16 (e14 ?_)
          refine s10 (by kernel_rfl) ?_
          exact gW _ (J11 _ hF)
    exact gW _ (L14 _ _ _ hF)
end Go.Proofs.Ythdkfofkghpmcaa
