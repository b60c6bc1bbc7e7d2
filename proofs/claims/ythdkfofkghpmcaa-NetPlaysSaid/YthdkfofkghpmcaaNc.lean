/- Plain functions in place of the program's, and that their calls come to what they say. -/
import Derived.Test.YthdkfofkghpmcaaFrame
import Derived.Test.YthdkfofkghpmcaaAbs54
namespace Go.Proofs.Ythdkfofkghpmcaa
open Go.RowKit Abs

noncomputable def ref05_address (_ : CallF) (_ : Nat) (t0 : Int) (h : AHeap) : R :=
  lett (decide (t0 ≥ 0)) fun (t4 : Bool) =>
  lett (fun (t8 : Bool) (h_4 : AHeap) =>
    some (.ret (.bool t8), h_4)) fun j8 =>
  ifB t4
  (
    lett (decide (t0 < 16)) fun (t7 : Bool) =>
    j8 t7 h)
  (
    j8 false h)
set_option maxHeartbeats 4000000 in
set_option maxRecDepth 20000 in
theorem ref05_address_ok {call : CallF} (_ : SaysAll Try.prog call) {n : Nat} {t0 : Int} {h : AHeap} {rR : ARes} {hR : AHeap} (hF : ref05_address call n t0 h = some (rR, hR)) : Says Try.prog 39 [.int .i64 t0] h rR hR := by
  unfold ref05_address at hF
  refine sO Try.func39 fun w0 m0 => ?_
  refine wW [(0, .int .i64 t0)] ?_
  refine oG fun n1 => W.r ?_
  refine oA 2 (.bool false) ?_
  refine oV [(0, .int .i64 t0)] (n1 ?_)
  refine W.s (fun K2 n2 e2 q2 p2 => ?_)
  refine W.r ?_
  refine oA 3 (.int .i64 t0) ?_
  refine oB 4 hF fun t4 hF => ?_
  refine oA 5 (.bool t4) ?_
  obtain ⟨j8, e5, hF⟩ := lett_some hF
  have J6 : ∀ (t8 : Bool) (h_4 : AHeap), j8 t8 h_4 = some (rR, hR) → WL Try.prog w0 m0 (Func.ntmps Try.f39) (Code.ops (Code.p1 (Code.p2 (codeOf Try.f39)))) 6 K2 [(8, .bool t8)] [] h_4 := by
    intro t8 h_4 hF
    rw [e5] at hF
    refine oA 2 (.bool t8) ?_
    refine oV [(2, .bool t8)] (n2 (oY ?_))
    exact lZ hF [.tmp 2] [.bool t8] (rT res_nil)
  cases t4 with
  | true =>
    replace hF := ifB_t hF
    refine oA 6 (.int .i64 t0) ?_
    refine oB 7 hF fun t7 hF => ?_
    refine oA 8 (.bool t7) ?_
    exact lW _ (J6 _ _ hF)
  | false =>
    replace hF := ifB_f hF
    refine WL.o (some 6) ?_
    refine WL.o (some 7) ?_
    refine oA 8 (.bool false) ?_
    exact lW _ (J6 _ _ hF)
noncomputable def ref05_cut_L0b (t1 : Int) (t2 : Int) (v3 : AV) (k7 : AHeap → R) (self : Int → AHeap → R) (t7 : Int) (h_11 : AHeap) : R :=
  obind (fldP 1 v3) fun t9 =>
  obind (ldCell h_11 t9) fun v10 =>
  obind (lenL v10) fun t11 =>
  lett (decide (t7 < t11)) fun (t12 : Bool) =>
  ifB t12
  (
    obind (fldP 1 v3) fun t15 =>
    obind (ldCell h_11 t15) fun v16 =>
    obind (idxP 2 v16 t7) fun t18 =>
    obind (ldRow h_11 2 t18) fun t19 =>
    obind (bldS Try.prog 84 [(0, .int .i64 t1), (1, .int .i64 t2)]) fun t22 =>
    obind (eqOther Try.prog 84 (.agg t19) (.agg t22)) fun t23 =>
    lett (fun (t34 : Bool) (h_27 : AHeap) =>
      ifB t34
      (
        some (.ret (.int .i64 t7), h_27))
      (
        lett (IntKind.i64.wrap (t7 + 1)) fun (t14 : Int) =>
        self t14 h_27)) fun j34 =>
    ifB t23
    (
      j34 true h_11)
    (
      obind (fldP 1 v3) fun t25 =>
      obind (ldCell h_11 t25) fun v26 =>
      obind (idxP 2 v26 t7) fun t28 =>
      obind (ldRow h_11 2 t28) fun t29 =>
      obind (bldS Try.prog 84 [(0, .int .i64 t2), (1, .int .i64 t1)]) fun t32 =>
      obind (eqOther Try.prog 84 (.agg t29) (.agg t32)) fun t33 =>
      j34 t33 h_11))
  (
    k7 h_11)
noncomputable def ref05_cut_L0 (t1 : Int) (t2 : Int) (v3 : AV) (k7 : AHeap → R) : Nat → Int → AHeap → R := iterR (fun _ _ => none) (ref05_cut_L0b t1 t2 v3 k7)
theorem ref05_cut_L0_s (t1 : Int) (t2 : Int) (v3 : AV) (k7 : AHeap → R) (m : Nat) : ref05_cut_L0 t1 t2 v3 k7 (m + 1) = ref05_cut_L0b t1 t2 v3 k7 (ref05_cut_L0 t1 t2 v3 k7 m) := rfl
noncomputable def ref05_cut (_ : CallF) (n : Nat) (t0 : List AV) (t1 : Int) (t2 : Int) (h : AHeap) : R :=
  outK (opBox h 30 (some (.agg t0))) fun v3 h_2 =>
  lett (fun  (h_8 : AHeap) =>
    some (.ret (.int .i64 (-1)), h_8)) fun k7 =>
  ref05_cut_L0 t1 t2 v3 k7 n 0 h_2
set_option maxHeartbeats 4000000 in
set_option maxRecDepth 20000 in
theorem ref05_cut_ok {call : CallF} (_ : SaysAll Try.prog call) {n : Nat} {t0 : List AV} {t1 : Int} {t2 : Int} {h : AHeap} {rR : ARes} {hR : AHeap} (hF : ref05_cut call n t0 t1 t2 h = some (rR, hR)) : Says Try.prog 40 [.agg t0, .int .i64 t1, .int .i64 t2] h rR hR := by
  unfold ref05_cut at hF
  refine sO Try.func40 fun w0 m0 => ?_
  refine wW [(0, .agg t0), (1, .int .i64 t1), (2, .int .i64 t2)] ?_
  refine oG fun n1 => W.r ?_
  refine oK 3 hF fun v3 h_2 hF => ?_
  refine oA 6 (.int .i64 0) ?_
  refine oV [(1, .int .i64 t1), (2, .int .i64 t2), (3, v3)] (n1 ?_)
  refine W.s (fun K4 n4 e4 q4 p4 => ?_)
  refine oG fun n5 => W.r ?_
  refine oA 7 (.int .i64 0) ?_
  refine oV [(1, .int .i64 t1), (2, .int .i64 t2), (3, v3), (7, .int .i64 0)] (n5 ?_)
  obtain ⟨k7, e7, hF⟩ := lett_some hF
  have J7 : ∀  (h_8 : AHeap), k7 h_8 = some (rR, hR) → Go w0 m0 (Func.ntmps Try.f40) (K4 .normal) [] [] h_8 := by
    intro  h_8 hF
    rw [e7] at hF
    refine n4 ?_
    refine oG fun n9 => W.r ?_
    refine oA 6 (.int .i64 (-1)) ?_
    refine oV [(6, .int .i64 (-1))] (n9 (oY ?_))
    exact lZ hF [.tmp 6] [.int .i64 (-1)] (rT res_nil)
  refine W.blockK (by kernel_rfl) (fun K6 n6 s6 o6 q6 p6 => ?_)
  refine W.loopK (by kernel_rfl) (fun I10 K10 b10 n10 e10 q10 p10 => ?_)
  have L10 : ∀ (m : Nat) (t7 : Int) (h_11 : AHeap), ref05_cut_L0 t1 t2 v3 k7 m t7 h_11 = some (rR, hR) → Go w0 m0 (Func.ntmps Try.f40) I10 [(1, .int .i64 t1), (2, .int .i64 t2), (3, v3), (7, .int .i64 t7)] [] h_11 := by
    intro m
    induction m with
    | zero => intro t7 h_11 hF; cases hF
    | succ m ih10 =>
      intro t7 h_11 hF
      rw [ref05_cut_L0_s] at hF; unfold ref05_cut_L0b at hF
      refine b10 ?_
      refine W.s (fun K12 n12 e12 q12 p12 => ?_)
      refine oG fun n13 => W.r ?_
      refine oA 8 (.int .i64 t7) ?_
      refine oF 9 30 1 hF fun t9 hF => ?_
      refine oL 10 28 hF fun v10 hF => ?_
      refine oM 11 28 84 hF fun t11 hF => ?_
      refine oB 12 hF fun t12 hF => ?_
      refine oV [(1, .int .i64 t1), (2, .int .i64 t2), (3, v3), (7, .int .i64 t7), (12, .bool t12)] (n13 ?_)
      cases t12 with
      | true =>
        refine oT hF fun hF => ?_
        refine oZ (n12 ?_)
        refine oH fun n18 q18 => ?_
        refine W.blockK (by kernel_rfl) (fun K19 n19 s19 o19 q19 p19 => ?_)
        refine W.s (fun K20 n20 e20 q20 p20 => ?_)
        refine W.r ?_
        refine oF 15 30 1 hF fun t15 hF => ?_
        refine oL 16 28 hF fun v16 hF => ?_
        refine oA 17 (.int .i64 t7) ?_
        refine oP 18 28 84 .i64 hF fun t18 hF => ?_
        refine oR 19 84 hF fun t19 hF => ?_
        refine oA 20 (.int .i64 t1) ?_
        refine oA 21 (.int .i64 t2) ?_
        obtain ⟨t22, e25, hF⟩ := obind_some hF
        refine WL.val (d := (some 22)) (v := .agg t22) (h' := h_11) (by kernel_rfl) (by kernel_rfl) (bld_ok (by kernel_rfl) e25) ?_
        obtain ⟨t23, e26, hF⟩ := obind_some hF
        refine WL.b (some 23) (.bool t23) h_11 (eq_other (P := Try.prog) (h := h_11) (t := 84) (lit := false) (by kernel_rfl) e26) ?_
        refine oA 24 (.bool t23) ?_
        obtain ⟨j34, e28, hF⟩ := lett_some hF
        have J29 : ∀ (t34 : Bool) (h_27 : AHeap), j34 t34 h_27 = some (rR, hR) → WL Try.prog w0 m0 (Func.ntmps Try.f40) (Code.ops (Code.p1 (Code.p1 (Code.p1 (Code.p2 (Code.p1 (Code.p1 (Code.p2 (Code.p1 (Code.p2 (codeOf Try.f40))))))))))) 20 K20 [(1, .int .i64 t1), (2, .int .i64 t2), (3, v3), (7, .int .i64 t7), (34, .bool t34)] [] h_27 := by
          intro t34 h_27 hF
          rw [e28] at hF
          refine oV [(1, .int .i64 t1), (2, .int .i64 t2), (3, v3), (7, .int .i64 t7), (34, .bool t34)] (n20 ?_)
          cases t34 with
          | true =>
            refine oT hF fun hF => ?_
            refine oG fun n30 => W.r ?_
            refine oA 35 (.int .i64 t7) ?_
            refine oA 6 (.int .i64 t7) ?_
            refine oV [(6, .int .i64 t7)] (n30 (oY (q19 (q18 (q10 (q6 (q4 ?_)))))))
            exact lZ hF [.tmp 6] [.int .i64 t7] (rT res_nil)
          | false =>
            refine oU hF fun hF => ?_
            refine oZ (n19 (n18 (W.r ?_)))
            refine oA 13 (.int .i64 t7) ?_
            refine oI 14 .i64 hF fun t14 hF => ?_
            refine oA 7 (.int .i64 t14) ?_
            refine oV [(1, .int .i64 t1), (2, .int .i64 t2), (3, v3), (7, .int .i64 t14)] (n10 ?_)
            exact gW _ (ih10 _ _ hF)
        cases t23 with
        | true =>
          replace hF := ifB_t hF
          refine WL.o (some 25) ?_
          refine WL.o (some 26) ?_
          refine WL.o (some 27) ?_
          refine WL.o (some 28) ?_
          refine WL.o (some 29) ?_
          refine WL.o (some 30) ?_
          refine WL.o (some 31) ?_
          refine WL.o (some 32) ?_
          refine WL.o (some 33) ?_
          refine oA 34 (.bool true) ?_
          exact lW _ (J29 _ _ hF)
        | false =>
          replace hF := ifB_f hF
          refine oF 25 30 1 hF fun t25 hF => ?_
          refine oL 26 28 hF fun v26 hF => ?_
          refine oA 27 (.int .i64 t7) ?_
          refine oP 28 28 84 .i64 hF fun t28 hF => ?_
          refine oR 29 84 hF fun t29 hF => ?_
          refine oA 30 (.int .i64 t2) ?_
          refine oA 31 (.int .i64 t1) ?_
          obtain ⟨t32, e36, hF⟩ := obind_some hF
          refine WL.val (d := (some 32)) (v := .agg t32) (h' := h_11) (by kernel_rfl) (by kernel_rfl) (bld_ok (by kernel_rfl) e36) ?_
          obtain ⟨t33, e37, hF⟩ := obind_some hF
          refine WL.b (some 33) (.bool t33) h_11 (eq_other (P := Try.prog) (h := h_11) (t := 84) (lit := false) (by kernel_rfl) e37) ?_
          refine oA 34 (.bool t33) ?_
          exact lW _ (J29 _ _ hF)
      | false =>
        refine oU hF fun hF => ?_
        refine W.exit (by kernel_rfl) ?_
        refine e12 (e10 ?_)
        refine s6 (by kernel_rfl) ?_
        exact gW _ (J7 _ hF)
  exact gW _ (L10 _ _ _ hF)
noncomputable def ref05_find_L0b (t1 : Int) (v2 : AV) (k7 : AHeap → R) (self : Int → AHeap → R) (t5 : Int) (h_11 : AHeap) : R :=
  obind (fldP 0 v2) fun t7 =>
  obind (ldCell h_11 t7) fun v8 =>
  obind (lenL v8) fun t9 =>
  lett (decide (t5 < t9)) fun (t10 : Bool) =>
  ifB t10
  (
    obind (fldP 0 v2) fun t13 =>
    obind (ldCell h_11 t13) fun v14 =>
    obind (idxP 4 v14 t5) fun t16 =>
    obind (fldP 0 t16) fun t17 =>
    obind (ldCell h_11 t17) fun v18 =>
    obind (avInt .i64 v18) fun t18 =>
    lett ((t18 : Int) == t1) fun (t20 : Bool) =>
    ifB t20
    (
      some (.ret (.int .i64 t5), h_11))
    (
      lett (IntKind.i64.wrap (t5 + 1)) fun (t12 : Int) =>
      self t12 h_11))
  (
    k7 h_11)
noncomputable def ref05_find_L0 (t1 : Int) (v2 : AV) (k7 : AHeap → R) : Nat → Int → AHeap → R := iterR (fun _ _ => none) (ref05_find_L0b t1 v2 k7)
theorem ref05_find_L0_s (t1 : Int) (v2 : AV) (k7 : AHeap → R) (m : Nat) : ref05_find_L0 t1 v2 k7 (m + 1) = ref05_find_L0b t1 v2 k7 (ref05_find_L0 t1 v2 k7 m) := rfl
noncomputable def ref05_find (_ : CallF) (n : Nat) (t0 : List AV) (t1 : Int) (h : AHeap) : R :=
  outK (opBox h 30 (some (.agg t0))) fun v2 h_2 =>
  lett (fun  (h_8 : AHeap) =>
    some (.ret (.int .i64 (-1)), h_8)) fun k7 =>
  ref05_find_L0 t1 v2 k7 n 0 h_2
set_option maxHeartbeats 4000000 in
set_option maxRecDepth 20000 in
theorem ref05_find_ok {call : CallF} (_ : SaysAll Try.prog call) {n : Nat} {t0 : List AV} {t1 : Int} {h : AHeap} {rR : ARes} {hR : AHeap} (hF : ref05_find call n t0 t1 h = some (rR, hR)) : Says Try.prog 42 [.agg t0, .int .i64 t1] h rR hR := by
  unfold ref05_find at hF
  refine sO Try.func42 fun w0 m0 => ?_
  refine wW [(0, .agg t0), (1, .int .i64 t1)] ?_
  refine oG fun n1 => W.r ?_
  refine oK 2 hF fun v2 h_2 hF => ?_
  refine oA 4 (.int .i64 0) ?_
  refine oV [(1, .int .i64 t1), (2, v2)] (n1 ?_)
  refine W.s (fun K4 n4 e4 q4 p4 => ?_)
  refine oG fun n5 => W.r ?_
  refine oA 5 (.int .i64 0) ?_
  refine oV [(1, .int .i64 t1), (2, v2), (5, .int .i64 0)] (n5 ?_)
  obtain ⟨k7, e7, hF⟩ := lett_some hF
  have J7 : ∀  (h_8 : AHeap), k7 h_8 = some (rR, hR) → Go w0 m0 (Func.ntmps Try.f42) (K4 .normal) [] [] h_8 := by
    intro  h_8 hF
    rw [e7] at hF
    refine n4 ?_
    refine oG fun n9 => W.r ?_
    refine oA 4 (.int .i64 (-1)) ?_
    refine oV [(4, .int .i64 (-1))] (n9 (oY ?_))
    exact lZ hF [.tmp 4] [.int .i64 (-1)] (rT res_nil)
  refine W.blockK (by kernel_rfl) (fun K6 n6 s6 o6 q6 p6 => ?_)
  refine W.loopK (by kernel_rfl) (fun I10 K10 b10 n10 e10 q10 p10 => ?_)
  have L10 : ∀ (m : Nat) (t5 : Int) (h_11 : AHeap), ref05_find_L0 t1 v2 k7 m t5 h_11 = some (rR, hR) → Go w0 m0 (Func.ntmps Try.f42) I10 [(1, .int .i64 t1), (2, v2), (5, .int .i64 t5)] [] h_11 := by
    intro m
    induction m with
    | zero => intro t5 h_11 hF; cases hF
    | succ m ih10 =>
      intro t5 h_11 hF
      rw [ref05_find_L0_s] at hF; unfold ref05_find_L0b at hF
      refine b10 ?_
      refine W.s (fun K12 n12 e12 q12 p12 => ?_)
      refine oG fun n13 => W.r ?_
      refine oA 6 (.int .i64 t5) ?_
      refine oF 7 30 0 hF fun t7 hF => ?_
      refine oL 8 27 hF fun v8 hF => ?_
      refine oM 9 27 32 hF fun t9 hF => ?_
      refine oB 10 hF fun t10 hF => ?_
      refine oV [(1, .int .i64 t1), (2, v2), (5, .int .i64 t5), (10, .bool t10)] (n13 ?_)
      cases t10 with
      | true =>
        refine oT hF fun hF => ?_
        refine oZ (n12 ?_)
        refine oH fun n18 q18 => ?_
        refine W.blockK (by kernel_rfl) (fun K19 n19 s19 o19 q19 p19 => ?_)
        refine oG fun n20 => W.r ?_
        refine oF 13 30 0 hF fun t13 hF => ?_
        refine oL 14 27 hF fun v14 hF => ?_
        refine oA 15 (.int .i64 t5) ?_
        refine oP 16 27 32 .i64 hF fun t16 hF => ?_
        refine oF 17 32 0 hF fun t17 hF => ?_
        refine oLi 18 3 hF fun t18 hF => ?_
        refine oA 19 (.int .i64 t1) ?_
        refine oB 20 hF fun t20 hF => ?_
        refine oV [(1, .int .i64 t1), (2, v2), (5, .int .i64 t5), (20, .bool t20)] (n20 ?_)
        cases t20 with
        | true =>
          refine oT hF fun hF => ?_
          refine oG fun n28 => W.r ?_
          refine oA 21 (.int .i64 t5) ?_
          refine oA 4 (.int .i64 t5) ?_
          refine oV [(4, .int .i64 t5)] (n28 (oY (q19 (q18 (q10 (q6 (q4 ?_)))))))
          exact lZ hF [.tmp 4] [.int .i64 t5] (rT res_nil)
        | false =>
          refine oU hF fun hF => ?_
          refine oZ (n19 (n18 (W.r ?_)))
          refine oA 11 (.int .i64 t5) ?_
          refine oI 12 .i64 hF fun t12 hF => ?_
          refine oA 5 (.int .i64 t12) ?_
          refine oV [(1, .int .i64 t1), (2, v2), (5, .int .i64 t12)] (n10 ?_)
          exact gW _ (ih10 _ _ hF)
      | false =>
        refine oU hF fun hF => ?_
        refine W.exit (by kernel_rfl) ?_
        refine e12 (e10 ?_)
        refine s6 (by kernel_rfl) ?_
        exact gW _ (J7 _ hF)
  exact gW _ (L10 _ _ _ hF)
noncomputable def ref05_put (_ : CallF) (_ : Nat) (t0 : List AV) (t1 : List AV) (h : AHeap) : R :=
  outK (opBox h 30 (some (.agg t0))) fun v2 h_2 =>
  outK (opBox h_2 32 (some (.agg t1))) fun v3 h_4 =>
  lett (newH h_4 30 [.nsl, .nsl, .int .i64 0]) fun h_6 =>
  obind (fldP 0 v2) fun t8 =>
  obind (ldCell h_6 t8) fun v9 =>
  obind (lenL v9) fun t10 =>
  lett (decide (t10 ≥ 256)) fun (t11 : Bool) =>
  ifB t11
  (
    obind (ldRow h_6 3 v2) fun t12 =>
    obind (stRow h_6 3 t12 (newP h_4)) fun h_16 =>
    obind (ldRow h_16 3 (newP h_4)) fun w4 =>
    some (.ret (.tup [.agg w4, .int .i64 0, .int .i64 8]), h_16))
  (
    obind (fldP 2 v2) fun t13 =>
    obind (ldCell h_6 t13) fun v14 =>
    obind (avInt .i64 v14) fun t14 =>
    lett (IntKind.i64.wrap (t14 + 1)) fun (t15 : Int) =>
    obind (fldP 0 v3) fun t16 =>
    obind (stRow h_6 1 [.int .i64 t15] t16) fun h_25 =>
    obind (fldP 1 v2) fun t17 =>
    obind (ldCell h_25 t17) fun v18 =>
    obind (fldP 2 v2) fun t19 =>
    obind (ldCell h_25 t19) fun v20 =>
    obind (avInt .i64 v20) fun t20 =>
    lett (IntKind.i64.wrap (t20 + 1)) fun (t21 : Int) =>
    obind (bldS Try.prog 30 [(1, v18), (2, .int .i64 t21)]) fun t22 =>
    lett (newH h_25 30 [.nsl, .nsl, .int .i64 0]) fun h_35 =>
    obind (stRow h_35 3 t22 (newP h_25)) fun h_37 =>
    obind (ldCell h_37 (AV.ptr (AHeap.next h_25) 0)) fun v24 =>
    obind (fldP 0 v2) fun t25 =>
    obind (ldCell h_37 t25) fun v26 =>
    outK (opAppend Try.prog h_37 27 27 v24 v26) fun v27 h_43 =>
    obind (stRow h_43 1 (AV.cells v27) (AV.ptr (AHeap.next h_25) 0)) fun h_45 =>
    obind (ldCell h_45 (AV.ptr (AHeap.next h_25) 0)) fun v30 =>
    obind (ldRow h_45 4 v3) fun t31 =>
    outK (bldSl Try.prog h_45 27 1 [(0, .agg t31)]) fun v32 h_50 =>
    outK (opAppend Try.prog h_50 27 27 v30 v32) fun v33 h_52 =>
    obind (stRow h_52 1 (AV.cells v33) (AV.ptr (AHeap.next h_25) 0)) fun h_54 =>
    obind (ldRow h_54 3 (newP h_25)) fun t35 =>
    obind (fldP 0 v3) fun t36 =>
    obind (ldCell h_54 t36) fun v37 =>
    obind (avInt .i64 v37) fun t37 =>
    obind (stRow h_54 3 t35 (newP h_4)) fun h_61 =>
    chk (reLoad Try.prog h_61 3 t36 (.int .i64 t37) && (true && true)) <|
    obind (ldRow h_61 3 (newP h_4)) fun w4_65 =>
    some (.ret (.tup [.agg w4_65, .int .i64 t37, .int .i64 0]), h_61))
set_option maxHeartbeats 4000000 in
set_option maxRecDepth 20000 in
theorem ref05_put_ok {call : CallF} (hc : SaysAll Try.prog call) {n : Nat} {t0 : List AV} {t1 : List AV} {h : AHeap} {rR : ARes} {hR : AHeap} (hF : ref05_put call n t0 t1 h = some (rR, hR)) : Says Try.prog 41 [.agg t0, .agg t1] h rR hR := by
  unfold ref05_put at hF
  refine sO Try.func41 fun w0 m0 => ?_
  refine wW [(0, .agg t0), (1, .agg t1)] ?_
  refine oG fun n1 => W.r ?_
  refine oK 2 hF fun v2 h_2 hF => ?_
  refine oK 3 hF fun v3 h_4 hF => ?_
  refine oN 4 hF fun h_6 hF => ?_
  refine oA 5 (.int .i64 0) ?_
  refine oA 6 (.int .i64 0) ?_
  refine oV [(2, v2), (3, v3), (4, (newP h_4))] (n1 ?_)
  refine oH fun n8 q8 => ?_
  refine oG fun n9 => W.r ?_
  refine oF 8 30 0 hF fun t8 hF => ?_
  refine oL 9 27 hF fun v9 hF => ?_
  refine oM 10 27 32 hF fun t10 hF => ?_
  refine oB 11 hF fun t11 hF => ?_
  refine oV [(2, v2), (3, v3), (4, (newP h_4)), (11, .bool t11)] (n9 ?_)
  cases t11 with
  | true =>
    refine oT hF fun hF => ?_
    refine oG fun n14 => W.r ?_
    refine oR 12 30 hF fun t12 hF => ?_
    refine oW 30 (.agg t12) hF fun h_16 hF => ?_
    refine oA 5 (.int .i64 0) ?_
    refine oA 6 (.int .i64 8) ?_
    refine oV [(4, (newP h_4)), (5, .int .i64 0), (6, .int .i64 8)] (n14 (oY (q8 ?_)))
    obtain ⟨w4, e18, hF⟩ := obind_some hF
    exact lZ hF [.cell 4 30, .tmp 5, .tmp 6] [.agg w4, .int .i64 0, .int .i64 8] (rY e18 (rT (rT res_nil)))
  | false =>
    refine oU hF fun hF => ?_
    refine oZ (n8 ?_)
    refine oG fun n19 => W.r ?_
    refine oF 13 30 2 hF fun t13 hF => ?_
    refine oLi 14 3 hF fun t14 hF => ?_
    refine oI 15 .i64 hF fun t15 hF => ?_
    refine oF 16 32 0 hF fun t16 hF => ?_
    refine oW 3 (.int .i64 t15) hF fun h_25 hF => ?_
    refine oV [(2, v2), (3, v3), (4, (newP h_4))] (n19 ?_)
    refine oG fun n27 => W.r ?_
    refine oF 17 30 1 hF fun t17 hF => ?_
    refine oL 18 28 hF fun v18 hF => ?_
    refine oF 19 30 2 hF fun t19 hF => ?_
    refine oLi 20 3 hF fun t20 hF => ?_
    refine oI 21 .i64 hF fun t21 hF => ?_
    obtain ⟨t22, e34, hF⟩ := obind_some hF
    refine WL.val (d := (some 22)) (v := .agg t22) (h' := h_25) (by kernel_rfl) (by kernel_rfl) (bld_ok (by kernel_rfl) e34) ?_
    refine oN 7 hF fun h_35 hF => ?_
    refine oW 30 (.agg t22) hF fun h_37 hF => ?_
    refine oV [(2, v2), (3, v3), (4, (newP h_4)), (7, (newP h_25))] (n27 ?_)
    refine oG fun n39 => W.r ?_
    refine oA 23 (AV.ptr (AHeap.next h_25) 0) ?_
    refine oL 24 27 hF fun v24 hF => ?_
    refine oF 25 30 0 hF fun t25 hF => ?_
    refine oL 26 27 hF fun v26 hF => ?_
    refine oK 27 hF fun v27 h_43 hF => ?_
    refine oA 28 (AV.ptr (AHeap.next h_25) 0) ?_
    refine oW 27 v27 hF fun h_45 hF => ?_
    refine oV [(3, v3), (4, (newP h_4)), (7, (newP h_25))] (n39 ?_)
    refine oG fun n47 => W.r ?_
    refine oA 29 (AV.ptr (AHeap.next h_25) 0) ?_
    refine oL 30 27 hF fun v30 hF => ?_
    refine oR 31 32 hF fun t31 hF => ?_
    refine oK 32 hF fun v32 h_50 hF => ?_
    refine oK 33 hF fun v33 h_52 hF => ?_
    refine oA 34 (AV.ptr (AHeap.next h_25) 0) ?_
    refine oW 27 v33 hF fun h_54 hF => ?_
    refine oV [(3, v3), (4, (newP h_4)), (7, (newP h_25))] (n47 ?_)
    refine oG fun n56 => ?_
    refine W.draw (by kernel_rfl) (hc.ok w0) (plan := [0, 1, 2, 3, 4, 5]) (by kernel_rfl) (by kernel_rfl) (by kernel_rfl) ?_
    obtain ⟨t35, e57, hF⟩ := obind_some hF
    refine WD.b 1 (some 35) (.agg t35) h_54 (load_row (P := Try.prog) (h := h_54) (t := 30) (by kernel_rfl) (by kernel_rfl) e57) ?_
    obtain ⟨t36, e58, hF⟩ := obind_some hF
    refine WD.b 0 (some 36) t36 h_54 (field_ptr (P := Try.prog) (h := h_54) (s := 32) (f := 0) (by kernel_rfl) e58) ?_
    replace hF := obind_some hF; obtain ⟨v37, e59, hF⟩ := hF
    replace hF := obind_some hF; obtain ⟨t37, c60, hF⟩ := hF
    have c60 := avInt_some c60
    subst c60
    refine WD.b 1 (some 37) (.int .i64 t37) h_54 (load_cell (P := Try.prog) (h := h_54) (t := 3) (by kernel_rfl) e59) ?_
    obtain ⟨h_61, e62, hF⟩ := obind_some hF
    obtain ⟨k63, hF⟩ := chk_some hF
    refine WD.eff (h' := h_61) (by kernel_rfl) (by kernel_rfl) (Eq.trans (by kernel_rfl) (store_row (P := Try.prog) (h := h_54) (t := 30) (v := (.agg t35)) (by kernel_rfl) (by kernel_rfl) e62)) (k := 2) (by kernel_rfl) (fun _ => (Eq.trans (by kernel_rfl) k63)) (by decide) ?_
    refine WD.a 0 (some 5) (.int .i64 t37) h_61 ?_
    refine WD.a 0 (some 6) (.int .i64 0) h_61 ?_
    refine WD.nil ?_
    refine gW [(4, (newP h_4)), (5, .int .i64 t37), (6, .int .i64 0)] (n56 (oY ?_))
    obtain ⟨w4_65, e64, hF⟩ := obind_some hF
    exact lZ hF [.cell 4 30, .tmp 5, .tmp 6] [.agg w4_65, .int .i64 t37, .int .i64 0] (rY e64 (rT (rT res_nil)))
noncomputable def ref05_Send (call : CallF) (_ : Nat) (t0 : List AV) (t1 : Int) (t2 : Int) (t3 : Bytes) (h : AHeap) : R :=
  outK (opBox h 30 (some (.agg t0))) fun v4 h_2 =>
  lett (newH h_2 30 [.nsl, .nsl, .int .i64 0]) fun h_4 =>
  callN (call 39 [.int .i64 t1] h_4) fun r13 h_9 =>
  obind (avBool r13) fun t13 =>
  lett (!t13) fun (t14 : Bool) =>
  lett (fun (t19 : Bool) (h_13 : AHeap) =>
    ifB t19
    (
      obind (ldRow h_13 3 v4) fun t20 =>
      obind (stRow h_13 3 t20 (newP h_2)) fun h_18 =>
      obind (ldRow h_18 3 (newP h_2)) fun w8 =>
      some (.ret (.tup [.agg w8, .int .i64 0, .int .i64 2]), h_18))
    (
      lett (decide ((lenS t3) > 4108)) fun (t24 : Bool) =>
      ifB t24
      (
        obind (ldRow h_13 3 v4) fun t25 =>
        obind (stRow h_13 3 t25 (newP h_2)) fun h_25 =>
        obind (ldRow h_25 3 (newP h_2)) fun w8_28 =>
        some (.ret (.tup [.agg w8_28, .int .i64 0, .int .i64 3]), h_25))
      (
        obind (ldRow h_13 3 v4) fun t27 =>
        callN (call 40 [.agg t27, .int .i64 t1, .int .i64 t2] h_13) fun r30 h_31 =>
        obind (avInt .i64 r30) fun t30 =>
        lett (decide (t30 ≥ 0)) fun (t31 : Bool) =>
        ifB t31
        (
          obind (ldRow h_31 3 v4) fun t32 =>
          obind (stRow h_31 3 t32 (newP h_2)) fun h_37 =>
          obind (ldRow h_37 3 (newP h_2)) fun w8_40 =>
          some (.ret (.tup [.agg w8_40, .int .i64 0, .int .i64 50]), h_37))
        (
          obind (ldRow h_31 3 v4) fun t33 =>
          callN (call 41 [.agg t33, .agg ([.int .i64 0, .int .i64 t1, .int .i64 t2, strA t3] : List AV)] h_31) fun r38 h_43 =>
          obind (extT 0 r38) fun v39 =>
          obind (avAgg v39) fun t39 =>
          obind (extT 1 r38) fun v40 =>
          obind (avInt .i64 v40) fun t40 =>
          obind (extT 2 r38) fun v41 =>
          obind (avInt .i64 v41) fun t41 =>
          obind (stRow h_43 3 t39 (newP h_2)) fun h_51 =>
          obind (ldRow h_51 3 (newP h_2)) fun w8_54 =>
          some (.ret (.tup [.agg w8_54, .int .i64 t40, .int .i64 t41]), h_51))))) fun j19 =>
  ifB t14
  (
    j19 true h_9)
  (
    callN (call 39 [.int .i64 t2] h_9) fun r17 h_55 =>
    obind (avBool r17) fun t17 =>
    lett (!t17) fun (t18 : Bool) =>
    j19 t18 h_55)
set_option maxHeartbeats 4000000 in
set_option maxRecDepth 20000 in
theorem ref05_Send_ok {call : CallF} (hc : SaysAll Try.prog call) {n : Nat} {t0 : List AV} {t1 : Int} {t2 : Int} {t3 : Bytes} {h : AHeap} {rR : ARes} {hR : AHeap} (hF : ref05_Send call n t0 t1 t2 t3 h = some (rR, hR)) : Says Try.prog 24 [.agg t0, .int .i64 t1, .int .i64 t2, strA t3] h rR hR := by
  unfold ref05_Send at hF
  refine sO Try.func24 fun w0 m0 => ?_
  refine wW [(0, .agg t0), (1, .int .i64 t1), (2, .int .i64 t2), (3, strA t3)] ?_
  refine oG fun n1 => W.r ?_
  refine oK 4 hF fun v4 h_2 hF => ?_
  refine oN 8 hF fun h_4 hF => ?_
  refine oA 9 (.int .i64 0) ?_
  refine oA 10 (.int .i64 0) ?_
  refine oV [(1, .int .i64 t1), (2, .int .i64 t2), (3, strA t3), (4, v4), (8, (newP h_2))] (n1 ?_)
  refine oH fun n6 q6 => ?_
  refine W.blockK (by kernel_rfl) (fun K7 n7 s7 o7 q7 p7 => ?_)
  refine W.s (fun K8 n8 e8 q8 p8 => ?_)
  refine W.r ?_
  refine oA 12 (.int .i64 t1) ?_
  refine oCb hc 13 hF fun t13 h_9 hF => ?_
  refine oB 14 hF fun t14 hF => ?_
  refine oA 15 (.bool t14) ?_
  obtain ⟨j19, e14, hF⟩ := lett_some hF
  have J15 : ∀ (t19 : Bool) (h_13 : AHeap), j19 t19 h_13 = some (rR, hR) → WL Try.prog w0 m0 (Func.ntmps Try.f24) (Code.ops (Code.p1 (Code.p1 (Code.p1 (Code.p2 (codeOf Try.f24)))))) 8 K8 [(1, .int .i64 t1), (2, .int .i64 t2), (3, strA t3), (4, v4), (8, (newP h_2)), (19, .bool t19)] [] h_13 := by
    intro t19 h_13 hF
    rw [e14] at hF
    refine oA 11 (.bool t19) ?_
    refine oV [(1, .int .i64 t1), (2, .int .i64 t2), (3, strA t3), (4, v4), (8, (newP h_2)), (11, .bool t19)] (n8 ?_)
    cases t19 with
    | true =>
      refine oT hF fun hF => ?_
      refine oG fun n16 => W.r ?_
      refine oR 20 30 hF fun t20 hF => ?_
      refine oW 30 (.agg t20) hF fun h_18 hF => ?_
      refine oA 9 (.int .i64 0) ?_
      refine oA 10 (.int .i64 2) ?_
      refine oV [(8, (newP h_2)), (9, .int .i64 0), (10, .int .i64 2)] (n16 (oY (q7 (q6 ?_))))
      obtain ⟨w8, e20, hF⟩ := obind_some hF
      exact lZ hF [.cell 8 30, .tmp 9, .tmp 10] [.agg w8, .int .i64 0, .int .i64 2] (rY e20 (rT (rT res_nil)))
    | false =>
      refine oU hF fun hF => ?_
      refine oG fun n21 => W.r ?_
      refine oA 22 (strA t3) ?_
      refine oA 23 (.int .i64 (lenS t3)) ?_
      refine oB 24 hF fun t24 hF => ?_
      refine oA 21 (.bool t24) ?_
      refine oV [(1, .int .i64 t1), (2, .int .i64 t2), (3, strA t3), (4, v4), (8, (newP h_2)), (21, .bool t24)] (n21 ?_)
      cases t24 with
      | true =>
        refine oT hF fun hF => ?_
        refine oG fun n23 => W.r ?_
        refine oR 25 30 hF fun t25 hF => ?_
        refine oW 30 (.agg t25) hF fun h_25 hF => ?_
        refine oA 9 (.int .i64 0) ?_
        refine oA 10 (.int .i64 3) ?_
        refine oV [(8, (newP h_2)), (9, .int .i64 0), (10, .int .i64 3)] (n23 (oY (q7 (q6 ?_))))
        obtain ⟨w8_28, e27, hF⟩ := obind_some hF
        exact lZ hF [.cell 8 30, .tmp 9, .tmp 10] [.agg w8_28, .int .i64 0, .int .i64 3] (rY e27 (rT (rT res_nil)))
      | false =>
        refine oU hF fun hF => ?_
        refine oG fun n29 => W.r ?_
        refine oR 27 30 hF fun t27 hF => ?_
        refine oA 28 (.int .i64 t1) ?_
        refine oA 29 (.int .i64 t2) ?_
        refine oCi hc 30 hF fun t30 h_31 hF => ?_
        refine oB 31 hF fun t31 hF => ?_
        refine oA 26 (.bool t31) ?_
        refine oV [(1, .int .i64 t1), (2, .int .i64 t2), (3, strA t3), (4, v4), (8, (newP h_2)), (26, .bool t31)] (n29 ?_)
        cases t31 with
        | true =>
          refine oT hF fun hF => ?_
          refine oG fun n35 => W.r ?_
          refine oR 32 30 hF fun t32 hF => ?_
          refine oW 30 (.agg t32) hF fun h_37 hF => ?_
          refine oA 9 (.int .i64 0) ?_
          refine oA 10 (.int .i64 50) ?_
          refine oV [(8, (newP h_2)), (9, .int .i64 0), (10, .int .i64 50)] (n35 (oY (q7 (q6 ?_))))
          obtain ⟨w8_40, e39, hF⟩ := obind_some hF
          exact lZ hF [.cell 8 30, .tmp 9, .tmp 10] [.agg w8_40, .int .i64 0, .int .i64 50] (rY e39 (rT (rT res_nil)))
        | false =>
          refine oU hF fun hF => ?_
          refine oZ (n7 (n6 ?_))
          refine oG fun n41 => W.r ?_
          refine oR 33 30 hF fun t33 hF => ?_
          refine oA 34 (.int .i64 t1) ?_
          refine oA 35 (.int .i64 t2) ?_
          refine oA 36 (strA t3) ?_
          refine oA 37 (.agg ([.int .i64 0, .int .i64 t1, .int .i64 t2, strA t3] : List AV)) ?_
          refine oC hc (some 38) hF fun r38 h_43 hF => ?_
          refine oEa 39 hF fun t39 hF => ?_
          refine oEi 40 hF fun t40 hF => ?_
          refine oEi 41 hF fun t41 hF => ?_
          refine oW 30 (.agg t39) hF fun h_51 hF => ?_
          refine oA 9 (.int .i64 t40) ?_
          refine oA 10 (.int .i64 t41) ?_
          refine oV [(8, (newP h_2)), (9, .int .i64 t40), (10, .int .i64 t41)] (n41 (oY ?_))
          obtain ⟨w8_54, e53, hF⟩ := obind_some hF
          exact lZ hF [.cell 8 30, .tmp 9, .tmp 10] [.agg w8_54, .int .i64 t40, .int .i64 t41] (rY e53 (rT (rT res_nil)))
  cases t14 with
  | true =>
    replace hF := ifB_t hF
    refine WL.o (some 16) ?_
    refine WL.o (some 17) ?_
    refine WL.o (some 18) ?_
    refine oA 19 (.bool true) ?_
    exact lW _ (J15 _ _ hF)
  | false =>
    replace hF := ifB_f hF
    refine oA 16 (.int .i64 t2) ?_
    refine oCb hc 17 hF fun t17 h_55 hF => ?_
    refine oB 18 hF fun t18 hF => ?_
    refine oA 19 (.bool t18) ?_
    exact lW _ (J15 _ _ hF)
noncomputable def ref05_Deliver (call : CallF) (_ : Nat) (t0 : List AV) (t1 : Int) (h : AHeap) : R :=
  outK (opBox h 30 (some (.agg t0))) fun v2 h_2 =>
  lett (newH h_2 30 [.nsl, .nsl, .int .i64 0]) fun h_4 =>
  lett (newH h_4 32 [.int .i64 0, .int .i64 0, .int .i64 0, .str 0 0]) fun h_6 =>
  obind (ldRow h_6 3 v2) fun t9 =>
  callN (call 42 [.agg t9, .int .i64 t1] h_6) fun r11 h_10 =>
  obind (avInt .i64 r11) fun t11 =>
  lett (decide (t11 < 0)) fun (t13 : Bool) =>
  ifB t13
  (
    obind (ldRow h_10 3 v2) fun t14 =>
    obind (stRow h_10 3 t14 (newP h_2)) fun h_18 =>
    obind (stRow h_18 4 ([.int .i64 0, .int .i64 0, .int .i64 0, .str 0 0] : List AV) (newP h_4)) fun h_20 =>
    obind (ldRow h_20 3 (newP h_2)) fun w4 =>
    obind (ldRow h_20 4 (newP h_4)) fun w5 =>
    some (.ret (.tup [.agg w4, .agg w5, .int .i64 4]), h_20))
  (
    obind (fldP 1 v2) fun t16 =>
    obind (ldCell h_10 t16) fun v17 =>
    obind (fldP 2 v2) fun t18 =>
    obind (ldCell h_10 t18) fun v19 =>
    obind (avInt .i64 v19) fun t19 =>
    obind (bldS Try.prog 30 [(1, v17), (2, .int .i64 t19)]) fun t20 =>
    lett (newH h_10 30 [.nsl, .nsl, .int .i64 0]) fun h_31 =>
    obind (stRow h_31 3 t20 (newP h_10)) fun h_33 =>
    obind (ldCell h_33 (AV.ptr (AHeap.next h_10) 0)) fun v22 =>
    obind (fldP 0 v2) fun t23 =>
    obind (ldCell h_33 t23) fun v24 =>
    outK (sliceA Try.prog h_33 27 v24 none (some (.int .i64 t11))) fun v26 h_39 =>
    outK (opAppend Try.prog h_39 27 27 v22 v26) fun v27 h_41 =>
    obind (stRow h_41 1 (AV.cells v27) (AV.ptr (AHeap.next h_10) 0)) fun h_43 =>
    obind (ldCell h_43 (AV.ptr (AHeap.next h_10) 0)) fun v30 =>
    obind (fldP 0 v2) fun t31 =>
    obind (ldCell h_43 t31) fun v32 =>
    lett (IntKind.i64.wrap (t11 + 1)) fun (t34 : Int) =>
    outK (sliceA Try.prog h_43 27 v32 (some (.int .i64 t34)) none) fun v35 h_50 =>
    outK (opAppend Try.prog h_50 27 27 v30 v35) fun v36 h_52 =>
    obind (stRow h_52 1 (AV.cells v36) (AV.ptr (AHeap.next h_10) 0)) fun h_54 =>
    obind (ldRow h_54 3 (newP h_10)) fun t38 =>
    obind (fldP 0 v2) fun t39 =>
    obind (ldCell h_54 t39) fun v40 =>
    obind (idxP 4 v40 t11) fun t42 =>
    obind (ldRow h_54 4 t42) fun t43 =>
    obind (stRow h_54 3 t38 (newP h_2)) fun h_62 =>
    chk (reLoad Try.prog h_62 32 t42 (.agg t43) && (reLoad Try.prog h_62 27 t39 v40 && (true && true))) <|
    obind (stRow h_62 4 t43 (newP h_4)) fun h_65 =>
    obind (ldRow h_65 3 (newP h_2)) fun w4_68 =>
    obind (ldRow h_65 4 (newP h_4)) fun w5_70 =>
    some (.ret (.tup [.agg w4_68, .agg w5_70, .int .i64 0]), h_65))
set_option maxHeartbeats 4000000 in
set_option maxRecDepth 20000 in
theorem ref05_Deliver_ok {call : CallF} (hc : SaysAll Try.prog call) {n : Nat} {t0 : List AV} {t1 : Int} {h : AHeap} {rR : ARes} {hR : AHeap} (hF : ref05_Deliver call n t0 t1 h = some (rR, hR)) : Says Try.prog 25 [.agg t0, .int .i64 t1] h rR hR := by
  unfold ref05_Deliver at hF
  refine sO Try.func25 fun w0 m0 => ?_
  refine wW [(0, .agg t0), (1, .int .i64 t1)] ?_
  refine oG fun n1 => W.r ?_
  refine oK 2 hF fun v2 h_2 hF => ?_
  refine oN 4 hF fun h_4 hF => ?_
  refine oN 5 hF fun h_6 hF => ?_
  refine oA 6 (.int .i64 0) ?_
  refine oV [(1, .int .i64 t1), (2, v2), (4, (newP h_2)), (5, (newP h_4))] (n1 ?_)
  refine oG fun n8 => W.r ?_
  refine oR 9 30 hF fun t9 hF => ?_
  refine oA 10 (.int .i64 t1) ?_
  refine oCi hc 11 hF fun t11 h_10 hF => ?_
  refine oA 7 (.int .i64 t11) ?_
  refine oV [(2, v2), (4, (newP h_2)), (5, (newP h_4)), (7, .int .i64 t11)] (n8 ?_)
  refine oH fun n13 q13 => ?_
  refine oG fun n14 => W.r ?_
  refine oA 12 (.int .i64 t11) ?_
  refine oB 13 hF fun t13 hF => ?_
  refine oV [(2, v2), (4, (newP h_2)), (5, (newP h_4)), (7, .int .i64 t11), (13, .bool t13)] (n14 ?_)
  cases t13 with
  | true =>
    refine oT hF fun hF => ?_
    refine oG fun n16 => W.r ?_
    refine oR 14 30 hF fun t14 hF => ?_
    refine oA 15 (.agg ([.int .i64 0, .int .i64 0, .int .i64 0, .str 0 0] : List AV)) ?_
    refine oW 30 (.agg t14) hF fun h_18 hF => ?_
    refine oW 32 (.agg ([.int .i64 0, .int .i64 0, .int .i64 0, .str 0 0] : List AV)) hF fun h_20 hF => ?_
    refine oA 6 (.int .i64 4) ?_
    refine oV [(4, (newP h_2)), (5, (newP h_4)), (6, .int .i64 4)] (n16 (oY (q13 ?_)))
    obtain ⟨w4, e22, hF⟩ := obind_some hF
    obtain ⟨w5, e23, hF⟩ := obind_some hF
    exact lZ hF [.cell 4 30, .cell 5 32, .tmp 6] [.agg w4, .agg w5, .int .i64 4] (rY e22 (rY e23 (rT res_nil)))
  | false =>
    refine oU hF fun hF => ?_
    refine oZ (n13 ?_)
    refine oG fun n24 => W.r ?_
    refine oF 16 30 1 hF fun t16 hF => ?_
    refine oL 17 28 hF fun v17 hF => ?_
    refine oF 18 30 2 hF fun t18 hF => ?_
    refine oLi 19 3 hF fun t19 hF => ?_
    obtain ⟨t20, e30, hF⟩ := obind_some hF
    refine WL.val (d := (some 20)) (v := .agg t20) (h' := h_10) (by kernel_rfl) (by kernel_rfl) (bld_ok (by kernel_rfl) e30) ?_
    refine oN 8 hF fun h_31 hF => ?_
    refine oW 30 (.agg t20) hF fun h_33 hF => ?_
    refine oV [(2, v2), (4, (newP h_2)), (5, (newP h_4)), (7, .int .i64 t11), (8, (newP h_10))] (n24 ?_)
    refine oG fun n35 => ?_
    refine W.draw (by kernel_rfl) (hc.ok w0) (plan := [0, 1, 2, 3, 4, 5, 6, 7, 8]) (by kernel_rfl) (by kernel_rfl) (by kernel_rfl) ?_
    refine WD.a 0 (some 21) (AV.ptr (AHeap.next h_10) 0) h_33 ?_
    obtain ⟨v22, e36, hF⟩ := obind_some hF
    refine WD.b 1 (some 22) v22 h_33 (load_cell (P := Try.prog) (h := h_33) (t := 27) (by kernel_rfl) e36) ?_
    obtain ⟨t23, e37, hF⟩ := obind_some hF
    refine WD.b 0 (some 23) t23 h_33 (field_ptr (P := Try.prog) (h := h_33) (s := 30) (f := 0) (by kernel_rfl) e37) ?_
    obtain ⟨v24, e38, hF⟩ := obind_some hF
    refine WD.b 1 (some 24) v24 h_33 (load_cell (P := Try.prog) (h := h_33) (t := 27) (by kernel_rfl) e38) ?_
    refine WD.a 0 (some 25) (.int .i64 t11) h_33 ?_
    obtain ⟨v26, h_39, e40, hF⟩ := outK_some hF
    refine WD.b 0 (some 26) v26 h_39 e40 ?_
    obtain ⟨v27, h_41, e42, hF⟩ := outK_some hF
    refine WD.val (d := (some 27)) (v := v27) (h' := h_41) (by kernel_rfl) (by kernel_rfl) (Eq.trans (by kernel_rfl) e42) (k := 2) (by kernel_rfl) (fun _ => (by kernel_rfl)) (by decide) ?_
    refine WD.a 0 (some 28) (AV.ptr (AHeap.next h_10) 0) h_41 ?_
    obtain ⟨h_43, e44, hF⟩ := obind_some hF
    refine WD.eff (h' := h_43) (by kernel_rfl) (by kernel_rfl) (Eq.trans (by kernel_rfl) (store_row (P := Try.prog) (h := h_41) (t := 27) (v := v27) (by kernel_rfl) (by kernel_rfl) e44)) (k := 2) (by kernel_rfl) (fun _ => (by kernel_rfl)) (by decide) ?_
    refine WD.nil ?_
    refine gW [(2, v2), (4, (newP h_2)), (5, (newP h_4)), (7, .int .i64 t11), (8, (newP h_10))] (n35 ?_)
    refine oG fun n45 => ?_
    refine W.draw (by kernel_rfl) (hc.ok w0) (plan := [0, 1, 2, 3, 4, 5, 6, 7, 8, 9]) (by kernel_rfl) (by kernel_rfl) (by kernel_rfl) ?_
    refine WD.a 0 (some 29) (AV.ptr (AHeap.next h_10) 0) h_43 ?_
    obtain ⟨v30, e46, hF⟩ := obind_some hF
    refine WD.b 1 (some 30) v30 h_43 (load_cell (P := Try.prog) (h := h_43) (t := 27) (by kernel_rfl) e46) ?_
    obtain ⟨t31, e47, hF⟩ := obind_some hF
    refine WD.b 0 (some 31) t31 h_43 (field_ptr (P := Try.prog) (h := h_43) (s := 30) (f := 0) (by kernel_rfl) e47) ?_
    obtain ⟨v32, e48, hF⟩ := obind_some hF
    refine WD.b 1 (some 32) v32 h_43 (load_cell (P := Try.prog) (h := h_43) (t := 27) (by kernel_rfl) e48) ?_
    refine WD.a 0 (some 33) (.int .i64 t11) h_43 ?_
    obtain ⟨t34, e49, hF⟩ := lett_some hF
    refine WD.val (d := (some 34)) (v := .int .i64 t34) (h' := h_43) (by kernel_rfl) (by kernel_rfl) (val_of (AV.int .i64) e49 (by kernel_rfl)) (k := 0) (by kernel_rfl) (fun e => absurd e (by decide)) (by decide) ?_
    obtain ⟨v35, h_50, e51, hF⟩ := outK_some hF
    refine WD.b 0 (some 35) v35 h_50 e51 ?_
    obtain ⟨v36, h_52, e53, hF⟩ := outK_some hF
    refine WD.val (d := (some 36)) (v := v36) (h' := h_52) (by kernel_rfl) (by kernel_rfl) (Eq.trans (by kernel_rfl) e53) (k := 2) (by kernel_rfl) (fun _ => (by kernel_rfl)) (by decide) ?_
    refine WD.a 0 (some 37) (AV.ptr (AHeap.next h_10) 0) h_52 ?_
    obtain ⟨h_54, e55, hF⟩ := obind_some hF
    refine WD.eff (h' := h_54) (by kernel_rfl) (by kernel_rfl) (Eq.trans (by kernel_rfl) (store_row (P := Try.prog) (h := h_52) (t := 27) (v := v36) (by kernel_rfl) (by kernel_rfl) e55)) (k := 2) (by kernel_rfl) (fun _ => (by kernel_rfl)) (by decide) ?_
    refine WD.nil ?_
    refine gW [(2, v2), (4, (newP h_2)), (5, (newP h_4)), (7, .int .i64 t11), (8, (newP h_10))] (n45 ?_)
    refine oG fun n56 => ?_
    refine W.draw (by kernel_rfl) (hc.ok w0) (plan := [0, 1, 2, 3, 4, 5, 6, 7, 8]) (by kernel_rfl) (by kernel_rfl) (by kernel_rfl) ?_
    obtain ⟨t38, e57, hF⟩ := obind_some hF
    refine WD.b 1 (some 38) (.agg t38) h_54 (load_row (P := Try.prog) (h := h_54) (t := 30) (by kernel_rfl) (by kernel_rfl) e57) ?_
    obtain ⟨t39, e58, hF⟩ := obind_some hF
    refine WD.b 0 (some 39) t39 h_54 (field_ptr (P := Try.prog) (h := h_54) (s := 30) (f := 0) (by kernel_rfl) e58) ?_
    obtain ⟨v40, e59, hF⟩ := obind_some hF
    refine WD.b 1 (some 40) v40 h_54 (load_cell (P := Try.prog) (h := h_54) (t := 27) (by kernel_rfl) e59) ?_
    refine WD.a 0 (some 41) (.int .i64 t11) h_54 ?_
    obtain ⟨t42, e60, hF⟩ := obind_some hF
    refine WD.b 0 (some 42) t42 h_54 (index_row (P := Try.prog) (h := h_54) (t := 27) (e' := 32) (k := .i64) (by kernel_rfl) (by kernel_rfl) (by kernel_rfl) e60) ?_
    obtain ⟨t43, e61, hF⟩ := obind_some hF
    refine WD.b 1 (some 43) (.agg t43) h_54 (load_row (P := Try.prog) (h := h_54) (t := 32) (by kernel_rfl) (by kernel_rfl) e61) ?_
    obtain ⟨h_62, e63, hF⟩ := obind_some hF
    obtain ⟨k64, hF⟩ := chk_some hF
    refine WD.eff (h' := h_62) (by kernel_rfl) (by kernel_rfl) (Eq.trans (by kernel_rfl) (store_row (P := Try.prog) (h := h_54) (t := 30) (v := (.agg t38)) (by kernel_rfl) (by kernel_rfl) e63)) (k := 2) (by kernel_rfl) (fun _ => (Eq.trans (by kernel_rfl) k64)) (by decide) ?_
    obtain ⟨h_65, e66, hF⟩ := obind_some hF
    refine WD.eff (h' := h_65) (by kernel_rfl) (by kernel_rfl) (Eq.trans (by kernel_rfl) (store_row (P := Try.prog) (h := h_62) (t := 32) (v := (.agg t43)) (by kernel_rfl) (by kernel_rfl) e66)) (k := 2) (by kernel_rfl) (fun _ => (by kernel_rfl)) (by decide) ?_
    refine WD.a 0 (some 6) (.int .i64 0) h_65 ?_
    refine WD.nil ?_
    refine gW [(4, (newP h_2)), (5, (newP h_4)), (6, .int .i64 0)] (n56 (oY ?_))
    obtain ⟨w4_68, e67, hF⟩ := obind_some hF
    obtain ⟨w5_70, e69, hF⟩ := obind_some hF
    exact lZ hF [.cell 4 30, .cell 5 32, .tmp 6] [.agg w4_68, .agg w5_70, .int .i64 0] (rY e67 (rY e69 (rT res_nil)))
noncomputable def ref05_Twice (call : CallF) (_ : Nat) (t0 : List AV) (t1 : Int) (h : AHeap) : R :=
  outK (opBox h 30 (some (.agg t0))) fun v2 h_2 =>
  lett (newH h_2 30 [.nsl, .nsl, .int .i64 0]) fun h_4 =>
  obind (ldRow h_4 3 v2) fun t8 =>
  callN (call 42 [.agg t8, .int .i64 t1] h_4) fun r10 h_8 =>
  obind (avInt .i64 r10) fun t10 =>
  lett (decide (t10 < 0)) fun (t12 : Bool) =>
  ifB t12
  (
    obind (ldRow h_8 3 v2) fun t13 =>
    obind (stRow h_8 3 t13 (newP h_2)) fun h_16 =>
    obind (ldRow h_16 3 (newP h_2)) fun w4 =>
    some (.ret (.tup [.agg w4, .int .i64 0, .int .i64 4]), h_16))
  (
    obind (ldRow h_8 3 v2) fun t14 =>
    obind (fldP 0 v2) fun t15 =>
    obind (ldCell h_8 t15) fun v16 =>
    obind (idxP 4 v16 t10) fun t18 =>
    obind (ldRow h_8 4 t18) fun t19 =>
    callN (call 41 [.agg t14, .agg t19] h_8) fun r20 h_25 =>
    obind (extT 0 r20) fun v21 =>
    obind (avAgg v21) fun t21 =>
    obind (extT 1 r20) fun v22 =>
    obind (avInt .i64 v22) fun t22 =>
    obind (extT 2 r20) fun v23 =>
    obind (avInt .i64 v23) fun t23 =>
    obind (stRow h_25 3 t21 (newP h_2)) fun h_33 =>
    obind (ldRow h_33 3 (newP h_2)) fun w4_36 =>
    some (.ret (.tup [.agg w4_36, .int .i64 t22, .int .i64 t23]), h_33))
set_option maxHeartbeats 4000000 in
set_option maxRecDepth 20000 in
theorem ref05_Twice_ok {call : CallF} (hc : SaysAll Try.prog call) {n : Nat} {t0 : List AV} {t1 : Int} {h : AHeap} {rR : ARes} {hR : AHeap} (hF : ref05_Twice call n t0 t1 h = some (rR, hR)) : Says Try.prog 26 [.agg t0, .int .i64 t1] h rR hR := by
  unfold ref05_Twice at hF
  refine sO Try.func26 fun w0 m0 => ?_
  refine wW [(0, .agg t0), (1, .int .i64 t1)] ?_
  refine oG fun n1 => W.r ?_
  refine oK 2 hF fun v2 h_2 hF => ?_
  refine oN 4 hF fun h_4 hF => ?_
  refine oA 5 (.int .i64 0) ?_
  refine oA 6 (.int .i64 0) ?_
  refine oV [(1, .int .i64 t1), (2, v2), (4, (newP h_2))] (n1 ?_)
  refine oG fun n6 => W.r ?_
  refine oR 8 30 hF fun t8 hF => ?_
  refine oA 9 (.int .i64 t1) ?_
  refine oCi hc 10 hF fun t10 h_8 hF => ?_
  refine oA 7 (.int .i64 t10) ?_
  refine oV [(2, v2), (4, (newP h_2)), (7, .int .i64 t10)] (n6 ?_)
  refine oH fun n11 q11 => ?_
  refine oG fun n12 => W.r ?_
  refine oA 11 (.int .i64 t10) ?_
  refine oB 12 hF fun t12 hF => ?_
  refine oV [(2, v2), (4, (newP h_2)), (7, .int .i64 t10), (12, .bool t12)] (n12 ?_)
  cases t12 with
  | true =>
    refine oT hF fun hF => ?_
    refine oG fun n14 => W.r ?_
    refine oR 13 30 hF fun t13 hF => ?_
    refine oW 30 (.agg t13) hF fun h_16 hF => ?_
    refine oA 5 (.int .i64 0) ?_
    refine oA 6 (.int .i64 4) ?_
    refine oV [(4, (newP h_2)), (5, .int .i64 0), (6, .int .i64 4)] (n14 (oY (q11 ?_)))
    obtain ⟨w4, e18, hF⟩ := obind_some hF
    exact lZ hF [.cell 4 30, .tmp 5, .tmp 6] [.agg w4, .int .i64 0, .int .i64 4] (rY e18 (rT (rT res_nil)))
  | false =>
    refine oU hF fun hF => ?_
    refine oZ (n11 ?_)
    refine oG fun n19 => ?_
    refine W.draw (by kernel_rfl) (hc.ok w0) (plan := [0, 1, 2, 3, 4, 5, 6, 7, 8, 9, 10, 11, 12]) (by kernel_rfl) (by kernel_rfl) (by kernel_rfl) ?_
    obtain ⟨t14, e20, hF⟩ := obind_some hF
    refine WD.b 1 (some 14) (.agg t14) h_8 (load_row (P := Try.prog) (h := h_8) (t := 30) (by kernel_rfl) (by kernel_rfl) e20) ?_
    obtain ⟨t15, e21, hF⟩ := obind_some hF
    refine WD.b 0 (some 15) t15 h_8 (field_ptr (P := Try.prog) (h := h_8) (s := 30) (f := 0) (by kernel_rfl) e21) ?_
    obtain ⟨v16, e22, hF⟩ := obind_some hF
    refine WD.b 1 (some 16) v16 h_8 (load_cell (P := Try.prog) (h := h_8) (t := 27) (by kernel_rfl) e22) ?_
    refine WD.a 0 (some 17) (.int .i64 t10) h_8 ?_
    obtain ⟨t18, e23, hF⟩ := obind_some hF
    refine WD.b 0 (some 18) t18 h_8 (index_row (P := Try.prog) (h := h_8) (t := 27) (e' := 32) (k := .i64) (by kernel_rfl) (by kernel_rfl) (by kernel_rfl) e23) ?_
    obtain ⟨t19, e24, hF⟩ := obind_some hF
    refine WD.b 1 (some 19) (.agg t19) h_8 (load_row (P := Try.prog) (h := h_8) (t := 32) (by kernel_rfl) (by kernel_rfl) e24) ?_
    obtain ⟨r20, h_25, e26, hF⟩ := callN_some hF
    refine WD.call (d := (some 20)) (by kernel_rfl) (by kernel_rfl) (by kernel_rfl) e26 (k := 2) (by kernel_rfl) (fun _ => (by kernel_rfl)) (by decide) ?_
    replace hF := obind_some hF; obtain ⟨v21, e27, hF⟩ := hF
    replace hF := obind_some hF; obtain ⟨t21, c28, hF⟩ := hF
    have c28 := avAgg_some c28
    subst c28
    refine WD.b 0 (some 21) (.agg t21) h_25 (extract_tup (h := h_25) e27) ?_
    replace hF := obind_some hF; obtain ⟨v22, e29, hF⟩ := hF
    replace hF := obind_some hF; obtain ⟨t22, c30, hF⟩ := hF
    have c30 := avInt_some c30
    subst c30
    refine WD.b 0 (some 22) (.int .i64 t22) h_25 (extract_tup (h := h_25) e29) ?_
    replace hF := obind_some hF; obtain ⟨v23, e31, hF⟩ := hF
    replace hF := obind_some hF; obtain ⟨t23, c32, hF⟩ := hF
    have c32 := avInt_some c32
    subst c32
    refine WD.b 0 (some 23) (.int .i64 t23) h_25 (extract_tup (h := h_25) e31) ?_
    obtain ⟨h_33, e34, hF⟩ := obind_some hF
    refine WD.eff (h' := h_33) (by kernel_rfl) (by kernel_rfl) (Eq.trans (by kernel_rfl) (store_row (P := Try.prog) (h := h_25) (t := 30) (v := (.agg t21)) (by kernel_rfl) (by kernel_rfl) e34)) (k := 2) (by kernel_rfl) (fun _ => (by kernel_rfl)) (by decide) ?_
    refine WD.a 0 (some 5) (.int .i64 t22) h_33 ?_
    refine WD.a 0 (some 6) (.int .i64 t23) h_33 ?_
    refine WD.nil ?_
    refine gW [(4, (newP h_2)), (5, .int .i64 t22), (6, .int .i64 t23)] (n19 (oY ?_))
    obtain ⟨w4_36, e35, hF⟩ := obind_some hF
    exact lZ hF [.cell 4 30, .tmp 5, .tmp 6] [.agg w4_36, .int .i64 t22, .int .i64 t23] (rY e35 (rT (rT res_nil)))
noncomputable def ref05_Cut (call : CallF) (_ : Nat) (t0 : List AV) (t1 : Int) (t2 : Int) (h : AHeap) : R :=
  outK (opBox h 30 (some (.agg t0))) fun v3 h_2 =>
  lett (newH h_2 30 [.nsl, .nsl, .int .i64 0]) fun h_4 =>
  callN (call 39 [.int .i64 t1] h_4) fun r10 h_8 =>
  obind (avBool r10) fun t10 =>
  lett (!t10) fun (t11 : Bool) =>
  lett (fun (t16 : Bool) (h_12 : AHeap) =>
    lett (fun (t21 : Bool) (h_15 : AHeap) =>
      ifB t21
      (
        obind (ldRow h_15 3 v3) fun t22 =>
        obind (stRow h_15 3 t22 (newP h_2)) fun h_20 =>
        obind (ldRow h_20 3 (newP h_2)) fun w6 =>
        some (.ret (.tup [.agg w6, .int .i64 2]), h_20))
      (
        obind (ldRow h_15 3 v3) fun t23 =>
        callN (call 40 [.agg t23, .int .i64 t1, .int .i64 t2] h_15) fun r26 h_26 =>
        obind (avInt .i64 r26) fun t26 =>
        lett (decide (t26 ≥ 0)) fun (t27 : Bool) =>
        ifB t27
        (
          obind (ldRow h_26 3 v3) fun t28 =>
          obind (stRow h_26 3 t28 (newP h_2)) fun h_32 =>
          obind (ldRow h_32 3 (newP h_2)) fun w6_35 =>
          some (.ret (.tup [.agg w6_35, .int .i64 0]), h_32))
        (
          obind (fldP 0 v3) fun t29 =>
          obind (ldCell h_26 t29) fun v30 =>
          obind (fldP 2 v3) fun t31 =>
          obind (ldCell h_26 t31) fun v32 =>
          obind (avInt .i64 v32) fun t32 =>
          obind (bldS Try.prog 30 [(0, v30), (2, .int .i64 t32)]) fun t33 =>
          lett (newH h_26 30 [.nsl, .nsl, .int .i64 0]) fun h_43 =>
          obind (stRow h_43 3 t33 (newP h_26)) fun h_45 =>
          obind (ldCell h_45 (AV.ptr (AHeap.next h_26) 1)) fun v35 =>
          obind (fldP 1 v3) fun t36 =>
          obind (ldCell h_45 t36) fun v37 =>
          outK (opAppend Try.prog h_45 28 28 v35 v37) fun v38 h_51 =>
          obind (stRow h_51 1 (AV.cells v38) (AV.ptr (AHeap.next h_26) 1)) fun h_53 =>
          obind (ldCell h_53 (AV.ptr (AHeap.next h_26) 1)) fun v41 =>
          obind (bldS Try.prog 84 [(0, .int .i64 t1), (1, .int .i64 t2)]) fun t44 =>
          outK (bldSl Try.prog h_53 28 1 [(0, .agg t44)]) fun v45 h_58 =>
          outK (opAppend Try.prog h_58 28 28 v41 v45) fun v46 h_60 =>
          obind (stRow h_60 1 (AV.cells v46) (AV.ptr (AHeap.next h_26) 1)) fun h_62 =>
          obind (ldRow h_62 3 (newP h_26)) fun t48 =>
          obind (stRow h_62 3 t48 (newP h_2)) fun h_66 =>
          obind (ldRow h_66 3 (newP h_2)) fun w6_69 =>
          some (.ret (.tup [.agg w6_69, .int .i64 0]), h_66)))) fun j21 =>
    ifB t16
    (
      j21 true h_12)
    (
      lett ((t1 : Int) == t2) fun (t20 : Bool) =>
      j21 t20 h_12)) fun j16 =>
  ifB t11
  (
    j16 true h_8)
  (
    callN (call 39 [.int .i64 t2] h_8) fun r14 h_71 =>
    obind (avBool r14) fun t14 =>
    lett (!t14) fun (t15 : Bool) =>
    j16 t15 h_71)
set_option maxHeartbeats 4000000 in
set_option maxRecDepth 20000 in
theorem ref05_Cut_ok {call : CallF} (hc : SaysAll Try.prog call) {n : Nat} {t0 : List AV} {t1 : Int} {t2 : Int} {h : AHeap} {rR : ARes} {hR : AHeap} (hF : ref05_Cut call n t0 t1 t2 h = some (rR, hR)) : Says Try.prog 27 [.agg t0, .int .i64 t1, .int .i64 t2] h rR hR := by
  unfold ref05_Cut at hF
  refine sO Try.func27 fun w0 m0 => ?_
  refine wW [(0, .agg t0), (1, .int .i64 t1), (2, .int .i64 t2)] ?_
  refine oG fun n1 => W.r ?_
  refine oK 3 hF fun v3 h_2 hF => ?_
  refine oN 6 hF fun h_4 hF => ?_
  refine oA 7 (.int .i64 0) ?_
  refine oV [(1, .int .i64 t1), (2, .int .i64 t2), (3, v3), (6, (newP h_2))] (n1 ?_)
  refine oH fun n6 q6 => ?_
  refine W.s (fun K7 n7 e7 q7 p7 => ?_)
  refine W.r ?_
  refine oA 9 (.int .i64 t1) ?_
  refine oCb hc 10 hF fun t10 h_8 hF => ?_
  refine oB 11 hF fun t11 hF => ?_
  refine oA 12 (.bool t11) ?_
  obtain ⟨j16, e13, hF⟩ := lett_some hF
  have J14 : ∀ (t16 : Bool) (h_12 : AHeap), j16 t16 h_12 = some (rR, hR) → WL Try.prog w0 m0 (Func.ntmps Try.f27) (Code.ops (Code.p1 (Code.p1 (Code.p2 (codeOf Try.f27))))) 8 K7 [(1, .int .i64 t1), (2, .int .i64 t2), (3, v3), (6, (newP h_2)), (16, .bool t16)] [] h_12 := by
    intro t16 h_12 hF
    rw [e13] at hF
    refine oA 17 (.bool t16) ?_
    obtain ⟨j21, e16, hF⟩ := lett_some hF
    have J17 : ∀ (t21 : Bool) (h_15 : AHeap), j21 t21 h_15 = some (rR, hR) → WL Try.prog w0 m0 (Func.ntmps Try.f27) (Code.ops (Code.p1 (Code.p1 (Code.p2 (codeOf Try.f27))))) 13 K7 [(1, .int .i64 t1), (2, .int .i64 t2), (3, v3), (6, (newP h_2)), (21, .bool t21)] [] h_15 := by
      intro t21 h_15 hF
      rw [e16] at hF
      refine oV [(1, .int .i64 t1), (2, .int .i64 t2), (3, v3), (6, (newP h_2)), (21, .bool t21)] (n7 ?_)
      cases t21 with
      | true =>
        refine oT hF fun hF => ?_
        refine oG fun n18 => W.r ?_
        refine oR 22 30 hF fun t22 hF => ?_
        refine oW 30 (.agg t22) hF fun h_20 hF => ?_
        refine oA 7 (.int .i64 2) ?_
        refine oV [(6, (newP h_2)), (7, .int .i64 2)] (n18 (oY (q6 ?_)))
        obtain ⟨w6, e22, hF⟩ := obind_some hF
        exact lZ hF [.cell 6 30, .tmp 7] [.agg w6, .int .i64 2] (rY e22 (rT res_nil))
      | false =>
        refine oU hF fun hF => ?_
        refine oZ (n6 ?_)
        refine oH fun n23 q23 => ?_
        refine oG fun n24 => W.r ?_
        refine oR 23 30 hF fun t23 hF => ?_
        refine oA 24 (.int .i64 t1) ?_
        refine oA 25 (.int .i64 t2) ?_
        refine oCi hc 26 hF fun t26 h_26 hF => ?_
        refine oB 27 hF fun t27 hF => ?_
        refine oV [(1, .int .i64 t1), (2, .int .i64 t2), (3, v3), (6, (newP h_2)), (27, .bool t27)] (n24 ?_)
        cases t27 with
        | true =>
          refine oT hF fun hF => ?_
          refine oG fun n30 => W.r ?_
          refine oR 28 30 hF fun t28 hF => ?_
          refine oW 30 (.agg t28) hF fun h_32 hF => ?_
          refine oA 7 (.int .i64 0) ?_
          refine oV [(6, (newP h_2)), (7, .int .i64 0)] (n30 (oY (q23 ?_)))
          obtain ⟨w6_35, e34, hF⟩ := obind_some hF
          exact lZ hF [.cell 6 30, .tmp 7] [.agg w6_35, .int .i64 0] (rY e34 (rT res_nil))
        | false =>
          refine oU hF fun hF => ?_
          refine oZ (n23 ?_)
          refine oG fun n36 => W.r ?_
          refine oF 29 30 0 hF fun t29 hF => ?_
          refine oL 30 27 hF fun v30 hF => ?_
          refine oF 31 30 2 hF fun t31 hF => ?_
          refine oLi 32 3 hF fun t32 hF => ?_
          obtain ⟨t33, e42, hF⟩ := obind_some hF
          refine WL.val (d := (some 33)) (v := .agg t33) (h' := h_26) (by kernel_rfl) (by kernel_rfl) (bld_ok (by kernel_rfl) e42) ?_
          refine oN 8 hF fun h_43 hF => ?_
          refine oW 30 (.agg t33) hF fun h_45 hF => ?_
          refine oV [(1, .int .i64 t1), (2, .int .i64 t2), (3, v3), (6, (newP h_2)), (8, (newP h_26))] (n36 ?_)
          refine oG fun n47 => W.r ?_
          refine oA 34 (AV.ptr (AHeap.next h_26) 1) ?_
          refine oL 35 28 hF fun v35 hF => ?_
          refine oF 36 30 1 hF fun t36 hF => ?_
          refine oL 37 28 hF fun v37 hF => ?_
          refine oK 38 hF fun v38 h_51 hF => ?_
          refine oA 39 (AV.ptr (AHeap.next h_26) 1) ?_
          refine oW 28 v38 hF fun h_53 hF => ?_
          refine oV [(1, .int .i64 t1), (2, .int .i64 t2), (6, (newP h_2)), (8, (newP h_26))] (n47 ?_)
          refine oG fun n55 => W.r ?_
          refine oA 40 (AV.ptr (AHeap.next h_26) 1) ?_
          refine oL 41 28 hF fun v41 hF => ?_
          refine oA 42 (.int .i64 t1) ?_
          refine oA 43 (.int .i64 t2) ?_
          obtain ⟨t44, e57, hF⟩ := obind_some hF
          refine WL.val (d := (some 44)) (v := .agg t44) (h' := h_53) (by kernel_rfl) (by kernel_rfl) (bld_ok (by kernel_rfl) e57) ?_
          refine oK 45 hF fun v45 h_58 hF => ?_
          refine oK 46 hF fun v46 h_60 hF => ?_
          refine oA 47 (AV.ptr (AHeap.next h_26) 1) ?_
          refine oW 28 v46 hF fun h_62 hF => ?_
          refine oV [(6, (newP h_2)), (8, (newP h_26))] (n55 ?_)
          refine oG fun n64 => W.r ?_
          refine oR 48 30 hF fun t48 hF => ?_
          refine oW 30 (.agg t48) hF fun h_66 hF => ?_
          refine oA 7 (.int .i64 0) ?_
          refine oV [(6, (newP h_2)), (7, .int .i64 0)] (n64 (oY ?_))
          obtain ⟨w6_69, e68, hF⟩ := obind_some hF
          exact lZ hF [.cell 6 30, .tmp 7] [.agg w6_69, .int .i64 0] (rY e68 (rT res_nil))
    cases t16 with
    | true =>
      replace hF := ifB_t hF
      refine WL.o (some 18) ?_
      refine WL.o (some 19) ?_
      refine WL.o (some 20) ?_
      refine oA 21 (.bool true) ?_
      exact lW _ (J17 _ _ hF)
    | false =>
      replace hF := ifB_f hF
      refine oA 18 (.int .i64 t1) ?_
      refine oA 19 (.int .i64 t2) ?_
      refine oB 20 hF fun t20 hF => ?_
      refine oA 21 (.bool t20) ?_
      exact lW _ (J17 _ _ hF)
  cases t11 with
  | true =>
    replace hF := ifB_t hF
    refine WL.o (some 13) ?_
    refine WL.o (some 14) ?_
    refine WL.o (some 15) ?_
    refine oA 16 (.bool true) ?_
    exact lW _ (J14 _ _ hF)
  | false =>
    replace hF := ifB_f hF
    refine oA 13 (.int .i64 t2) ?_
    refine oCb hc 14 hF fun t14 h_71 hF => ?_
    refine oB 15 hF fun t15 hF => ?_
    refine oA 16 (.bool t15) ?_
    exact lW _ (J14 _ _ hF)
noncomputable def ref05_Heal (call : CallF) (_ : Nat) (t0 : List AV) (t1 : Int) (t2 : Int) (h : AHeap) : R :=
  outK (opBox h 30 (some (.agg t0))) fun v3 h_2 =>
  lett (newH h_2 30 [.nsl, .nsl, .int .i64 0]) fun h_4 =>
  callN (call 39 [.int .i64 t1] h_4) fun r11 h_8 =>
  obind (avBool r11) fun t11 =>
  lett (!t11) fun (t12 : Bool) =>
  lett (fun (t17 : Bool) (h_12 : AHeap) =>
    lett (fun (t22 : Bool) (h_15 : AHeap) =>
      ifB t22
      (
        obind (ldRow h_15 3 v3) fun t23 =>
        obind (stRow h_15 3 t23 (newP h_2)) fun h_20 =>
        obind (ldRow h_20 3 (newP h_2)) fun w6 =>
        some (.ret (.tup [.agg w6, .int .i64 2]), h_20))
      (
        obind (ldRow h_15 3 v3) fun t24 =>
        callN (call 40 [.agg t24, .int .i64 t1, .int .i64 t2] h_15) fun r27 h_25 =>
        obind (avInt .i64 r27) fun t27 =>
        lett (decide (t27 < 0)) fun (t29 : Bool) =>
        ifB t29
        (
          obind (ldRow h_25 3 v3) fun t30 =>
          obind (stRow h_25 3 t30 (newP h_2)) fun h_33 =>
          obind (ldRow h_33 3 (newP h_2)) fun w6_36 =>
          some (.ret (.tup [.agg w6_36, .int .i64 0]), h_33))
        (
          obind (fldP 0 v3) fun t31 =>
          obind (ldCell h_25 t31) fun v32 =>
          obind (fldP 2 v3) fun t33 =>
          obind (ldCell h_25 t33) fun v34 =>
          obind (avInt .i64 v34) fun t34 =>
          obind (bldS Try.prog 30 [(0, v32), (2, .int .i64 t34)]) fun t35 =>
          lett (newH h_25 30 [.nsl, .nsl, .int .i64 0]) fun h_44 =>
          obind (stRow h_44 3 t35 (newP h_25)) fun h_46 =>
          obind (ldCell h_46 (AV.ptr (AHeap.next h_25) 1)) fun v37 =>
          obind (fldP 1 v3) fun t38 =>
          obind (ldCell h_46 t38) fun v39 =>
          outK (sliceA Try.prog h_46 28 v39 none (some (.int .i64 t27))) fun v41 h_52 =>
          outK (opAppend Try.prog h_52 28 28 v37 v41) fun v42 h_54 =>
          obind (stRow h_54 1 (AV.cells v42) (AV.ptr (AHeap.next h_25) 1)) fun h_56 =>
          obind (ldCell h_56 (AV.ptr (AHeap.next h_25) 1)) fun v45 =>
          obind (fldP 1 v3) fun t46 =>
          obind (ldCell h_56 t46) fun v47 =>
          lett (IntKind.i64.wrap (t27 + 1)) fun (t49 : Int) =>
          outK (sliceA Try.prog h_56 28 v47 (some (.int .i64 t49)) none) fun v50 h_63 =>
          outK (opAppend Try.prog h_63 28 28 v45 v50) fun v51 h_65 =>
          obind (stRow h_65 1 (AV.cells v51) (AV.ptr (AHeap.next h_25) 1)) fun h_67 =>
          obind (ldRow h_67 3 (newP h_25)) fun t53 =>
          obind (stRow h_67 3 t53 (newP h_2)) fun h_71 =>
          obind (ldRow h_71 3 (newP h_2)) fun w6_74 =>
          some (.ret (.tup [.agg w6_74, .int .i64 0]), h_71)))) fun j22 =>
    ifB t17
    (
      j22 true h_12)
    (
      lett ((t1 : Int) == t2) fun (t21 : Bool) =>
      j22 t21 h_12)) fun j17 =>
  ifB t12
  (
    j17 true h_8)
  (
    callN (call 39 [.int .i64 t2] h_8) fun r15 h_76 =>
    obind (avBool r15) fun t15 =>
    lett (!t15) fun (t16 : Bool) =>
    j17 t16 h_76)
set_option maxHeartbeats 4000000 in
set_option maxRecDepth 20000 in
theorem ref05_Heal_ok {call : CallF} (hc : SaysAll Try.prog call) {n : Nat} {t0 : List AV} {t1 : Int} {t2 : Int} {h : AHeap} {rR : ARes} {hR : AHeap} (hF : ref05_Heal call n t0 t1 t2 h = some (rR, hR)) : Says Try.prog 28 [.agg t0, .int .i64 t1, .int .i64 t2] h rR hR := by
  unfold ref05_Heal at hF
  refine sO Try.func28 fun w0 m0 => ?_
  refine wW [(0, .agg t0), (1, .int .i64 t1), (2, .int .i64 t2)] ?_
  refine oG fun n1 => W.r ?_
  refine oK 3 hF fun v3 h_2 hF => ?_
  refine oN 6 hF fun h_4 hF => ?_
  refine oA 7 (.int .i64 0) ?_
  refine oV [(1, .int .i64 t1), (2, .int .i64 t2), (3, v3), (6, (newP h_2))] (n1 ?_)
  refine oH fun n6 q6 => ?_
  refine W.s (fun K7 n7 e7 q7 p7 => ?_)
  refine W.r ?_
  refine oA 10 (.int .i64 t1) ?_
  refine oCb hc 11 hF fun t11 h_8 hF => ?_
  refine oB 12 hF fun t12 hF => ?_
  refine oA 13 (.bool t12) ?_
  obtain ⟨j17, e13, hF⟩ := lett_some hF
  have J14 : ∀ (t17 : Bool) (h_12 : AHeap), j17 t17 h_12 = some (rR, hR) → WL Try.prog w0 m0 (Func.ntmps Try.f28) (Code.ops (Code.p1 (Code.p1 (Code.p2 (codeOf Try.f28))))) 8 K7 [(1, .int .i64 t1), (2, .int .i64 t2), (3, v3), (6, (newP h_2)), (17, .bool t17)] [] h_12 := by
    intro t17 h_12 hF
    rw [e13] at hF
    refine oA 18 (.bool t17) ?_
    obtain ⟨j22, e16, hF⟩ := lett_some hF
    have J17 : ∀ (t22 : Bool) (h_15 : AHeap), j22 t22 h_15 = some (rR, hR) → WL Try.prog w0 m0 (Func.ntmps Try.f28) (Code.ops (Code.p1 (Code.p1 (Code.p2 (codeOf Try.f28))))) 13 K7 [(1, .int .i64 t1), (2, .int .i64 t2), (3, v3), (6, (newP h_2)), (22, .bool t22)] [] h_15 := by
      intro t22 h_15 hF
      rw [e16] at hF
      refine oV [(1, .int .i64 t1), (2, .int .i64 t2), (3, v3), (6, (newP h_2)), (22, .bool t22)] (n7 ?_)
      cases t22 with
      | true =>
        refine oT hF fun hF => ?_
        refine oG fun n18 => W.r ?_
        refine oR 23 30 hF fun t23 hF => ?_
        refine oW 30 (.agg t23) hF fun h_20 hF => ?_
        refine oA 7 (.int .i64 2) ?_
        refine oV [(6, (newP h_2)), (7, .int .i64 2)] (n18 (oY (q6 ?_)))
        obtain ⟨w6, e22, hF⟩ := obind_some hF
        exact lZ hF [.cell 6 30, .tmp 7] [.agg w6, .int .i64 2] (rY e22 (rT res_nil))
      | false =>
        refine oU hF fun hF => ?_
        refine oZ (n6 ?_)
        refine oG fun n23 => W.r ?_
        refine oR 24 30 hF fun t24 hF => ?_
        refine oA 25 (.int .i64 t1) ?_
        refine oA 26 (.int .i64 t2) ?_
        refine oCi hc 27 hF fun t27 h_25 hF => ?_
        refine oA 8 (.int .i64 t27) ?_
        refine oV [(3, v3), (6, (newP h_2)), (8, .int .i64 t27)] (n23 ?_)
        refine oH fun n28 q28 => ?_
        refine oG fun n29 => W.r ?_
        refine oA 28 (.int .i64 t27) ?_
        refine oB 29 hF fun t29 hF => ?_
        refine oV [(3, v3), (6, (newP h_2)), (8, .int .i64 t27), (29, .bool t29)] (n29 ?_)
        cases t29 with
        | true =>
          refine oT hF fun hF => ?_
          refine oG fun n31 => W.r ?_
          refine oR 30 30 hF fun t30 hF => ?_
          refine oW 30 (.agg t30) hF fun h_33 hF => ?_
          refine oA 7 (.int .i64 0) ?_
          refine oV [(6, (newP h_2)), (7, .int .i64 0)] (n31 (oY (q28 ?_)))
          obtain ⟨w6_36, e35, hF⟩ := obind_some hF
          exact lZ hF [.cell 6 30, .tmp 7] [.agg w6_36, .int .i64 0] (rY e35 (rT res_nil))
        | false =>
          refine oU hF fun hF => ?_
          refine oZ (n28 ?_)
          refine oG fun n37 => W.r ?_
          refine oF 31 30 0 hF fun t31 hF => ?_
          refine oL 32 27 hF fun v32 hF => ?_
          refine oF 33 30 2 hF fun t33 hF => ?_
          refine oLi 34 3 hF fun t34 hF => ?_
          obtain ⟨t35, e43, hF⟩ := obind_some hF
          refine WL.val (d := (some 35)) (v := .agg t35) (h' := h_25) (by kernel_rfl) (by kernel_rfl) (bld_ok (by kernel_rfl) e43) ?_
          refine oN 9 hF fun h_44 hF => ?_
          refine oW 30 (.agg t35) hF fun h_46 hF => ?_
          refine oV [(3, v3), (6, (newP h_2)), (8, .int .i64 t27), (9, (newP h_25))] (n37 ?_)
          refine oG fun n48 => ?_
          refine W.draw (by kernel_rfl) (hc.ok w0) (plan := [0, 1, 2, 3, 4, 5, 6, 7, 8]) (by kernel_rfl) (by kernel_rfl) (by kernel_rfl) ?_
          refine WD.a 0 (some 36) (AV.ptr (AHeap.next h_25) 1) h_46 ?_
          obtain ⟨v37, e49, hF⟩ := obind_some hF
          refine WD.b 1 (some 37) v37 h_46 (load_cell (P := Try.prog) (h := h_46) (t := 28) (by kernel_rfl) e49) ?_
          obtain ⟨t38, e50, hF⟩ := obind_some hF
          refine WD.b 0 (some 38) t38 h_46 (field_ptr (P := Try.prog) (h := h_46) (s := 30) (f := 1) (by kernel_rfl) e50) ?_
          obtain ⟨v39, e51, hF⟩ := obind_some hF
          refine WD.b 1 (some 39) v39 h_46 (load_cell (P := Try.prog) (h := h_46) (t := 28) (by kernel_rfl) e51) ?_
          refine WD.a 0 (some 40) (.int .i64 t27) h_46 ?_
          obtain ⟨v41, h_52, e53, hF⟩ := outK_some hF
          refine WD.b 0 (some 41) v41 h_52 e53 ?_
          obtain ⟨v42, h_54, e55, hF⟩ := outK_some hF
          refine WD.val (d := (some 42)) (v := v42) (h' := h_54) (by kernel_rfl) (by kernel_rfl) (Eq.trans (by kernel_rfl) e55) (k := 2) (by kernel_rfl) (fun _ => (by kernel_rfl)) (by decide) ?_
          refine WD.a 0 (some 43) (AV.ptr (AHeap.next h_25) 1) h_54 ?_
          obtain ⟨h_56, e57, hF⟩ := obind_some hF
          refine WD.eff (h' := h_56) (by kernel_rfl) (by kernel_rfl) (Eq.trans (by kernel_rfl) (store_row (P := Try.prog) (h := h_54) (t := 28) (v := v42) (by kernel_rfl) (by kernel_rfl) e57)) (k := 2) (by kernel_rfl) (fun _ => (by kernel_rfl)) (by decide) ?_
          refine WD.nil ?_
          refine gW [(3, v3), (6, (newP h_2)), (8, .int .i64 t27), (9, (newP h_25))] (n48 ?_)
          refine oG fun n58 => ?_
          refine W.draw (by kernel_rfl) (hc.ok w0) (plan := [0, 1, 2, 3, 4, 5, 6, 7, 8, 9]) (by kernel_rfl) (by kernel_rfl) (by kernel_rfl) ?_
          refine WD.a 0 (some 44) (AV.ptr (AHeap.next h_25) 1) h_56 ?_
          obtain ⟨v45, e59, hF⟩ := obind_some hF
          refine WD.b 1 (some 45) v45 h_56 (load_cell (P := Try.prog) (h := h_56) (t := 28) (by kernel_rfl) e59) ?_
          obtain ⟨t46, e60, hF⟩ := obind_some hF
          refine WD.b 0 (some 46) t46 h_56 (field_ptr (P := Try.prog) (h := h_56) (s := 30) (f := 1) (by kernel_rfl) e60) ?_
          obtain ⟨v47, e61, hF⟩ := obind_some hF
          refine WD.b 1 (some 47) v47 h_56 (load_cell (P := Try.prog) (h := h_56) (t := 28) (by kernel_rfl) e61) ?_
          refine WD.a 0 (some 48) (.int .i64 t27) h_56 ?_
          obtain ⟨t49, e62, hF⟩ := lett_some hF
          refine WD.val (d := (some 49)) (v := .int .i64 t49) (h' := h_56) (by kernel_rfl) (by kernel_rfl) (val_of (AV.int .i64) e62 (by kernel_rfl)) (k := 0) (by kernel_rfl) (fun e => absurd e (by decide)) (by decide) ?_
          obtain ⟨v50, h_63, e64, hF⟩ := outK_some hF
          refine WD.b 0 (some 50) v50 h_63 e64 ?_
          obtain ⟨v51, h_65, e66, hF⟩ := outK_some hF
          refine WD.val (d := (some 51)) (v := v51) (h' := h_65) (by kernel_rfl) (by kernel_rfl) (Eq.trans (by kernel_rfl) e66) (k := 2) (by kernel_rfl) (fun _ => (by kernel_rfl)) (by decide) ?_
          refine WD.a 0 (some 52) (AV.ptr (AHeap.next h_25) 1) h_65 ?_
          obtain ⟨h_67, e68, hF⟩ := obind_some hF
          refine WD.eff (h' := h_67) (by kernel_rfl) (by kernel_rfl) (Eq.trans (by kernel_rfl) (store_row (P := Try.prog) (h := h_65) (t := 28) (v := v51) (by kernel_rfl) (by kernel_rfl) e68)) (k := 2) (by kernel_rfl) (fun _ => (by kernel_rfl)) (by decide) ?_
          refine WD.nil ?_
          refine gW [(6, (newP h_2)), (9, (newP h_25))] (n58 ?_)
          refine oG fun n69 => W.r ?_
          refine oR 53 30 hF fun t53 hF => ?_
          refine oW 30 (.agg t53) hF fun h_71 hF => ?_
          refine oA 7 (.int .i64 0) ?_
          refine oV [(6, (newP h_2)), (7, .int .i64 0)] (n69 (oY ?_))
          obtain ⟨w6_74, e73, hF⟩ := obind_some hF
          exact lZ hF [.cell 6 30, .tmp 7] [.agg w6_74, .int .i64 0] (rY e73 (rT res_nil))
    cases t17 with
    | true =>
      replace hF := ifB_t hF
      refine WL.o (some 19) ?_
      refine WL.o (some 20) ?_
      refine WL.o (some 21) ?_
      refine oA 22 (.bool true) ?_
      exact lW _ (J17 _ _ hF)
    | false =>
      replace hF := ifB_f hF
      refine oA 19 (.int .i64 t1) ?_
      refine oA 20 (.int .i64 t2) ?_
      refine oB 21 hF fun t21 hF => ?_
      refine oA 22 (.bool t21) ?_
      exact lW _ (J17 _ _ hF)
  cases t12 with
  | true =>
    replace hF := ifB_t hF
    refine WL.o (some 14) ?_
    refine WL.o (some 15) ?_
    refine WL.o (some 16) ?_
    refine oA 17 (.bool true) ?_
    exact lW _ (J14 _ _ hF)
  | false =>
    replace hF := ifB_f hF
    refine oA 14 (.int .i64 t2) ?_
    refine oCb hc 15 hF fun t15 h_76 hF => ?_
    refine oB 16 hF fun t16 hF => ?_
    refine oA 17 (.bool t16) ?_
    exact lW _ (J14 _ _ hF)
noncomputable def law05_model (call : CallF) (_ : Nat) (t0 : List AV) (t1 : List AV) (h : AHeap) : R :=
  outK (opBox h 30 (some (.agg t0))) fun v2 h_2 =>
  outK (opBox h_2 39 (some (.agg t1))) fun v3 h_4 =>
  lett (newH h_4 30 [.nsl, .nsl, .int .i64 0]) fun h_6 =>
  lett (newH h_6 35 [.int .i64 0, .int .i64 0, .int .i64 0, .int .i64 0, .str 0 0, .int .i64 0]) fun h_8 =>
  lett (newH h_8 35 [.int .i64 0, .int .i64 0, .int .i64 0, .int .i64 0, .str 0 0, .int .i64 0]) fun h_11 =>
  obind (stRow h_11 6 ([.int .i64 0, .int .i64 0, .int .i64 0, .int .i64 0, .str 0 0, .int .i64 0] : List AV) (newP h_8)) fun h_13 =>
  obind (fldP 0 v3) fun t8 =>
  obind (ldCell h_13 t8) fun v9 =>
  obind (avInt .i64 v9) fun t9 =>
  lett ((t9 : Int) == 1) fun (t11 : Bool) =>
  lett (fun  (h_24 : AHeap) =>
    obind (ldRow h_24 3 v2) fun t85 =>
    obind (ldRow h_24 6 (newP h_8)) fun t86 =>
    obind (stRow h_24 3 t85 (newP h_4)) fun h_28 =>
    chk (reLoad Try.prog h_28 35 (newP h_8) (.agg t86) && (true && true)) <|
    obind (stRow h_28 6 t86 (newP h_6)) fun h_31 =>
    obind (ldRow h_31 3 (newP h_4)) fun w4 =>
    obind (ldRow h_31 6 (newP h_6)) fun w5 =>
    some (.ret (.tup [.agg w4, .agg w5]), h_31)) fun k23 =>
  ifB t11
  (
    obind (ldRow h_13 3 v2) fun t13 =>
    obind (fldP 1 v3) fun t14 =>
    obind (ldCell h_13 t14) fun v15 =>
    obind (avInt .i64 v15) fun t15 =>
    obind (fldP 2 v3) fun t16 =>
    obind (ldCell h_13 t16) fun v17 =>
    obind (avInt .i64 v17) fun t17 =>
    obind (fldP 3 v3) fun t18 =>
    obind (ldCell h_13 t18) fun v19 =>
    obind (avStr v19) fun t19 =>
    callN (call 24 [.agg t13, .int .i64 t15, .int .i64 t17, strA t19] h_13) fun r20 h_45 =>
    obind (extT 0 r20) fun v21 =>
    obind (avAgg v21) fun t21 =>
    obind (extT 1 r20) fun v22 =>
    obind (avInt .i64 v22) fun t22 =>
    obind (extT 2 r20) fun v23 =>
    obind (avInt .i64 v23) fun t23 =>
    obind (stRow h_45 3 t21 v2) fun h_53 =>
    obind (stRow h_53 1 [.int .i64 t22] (AV.ptr (AHeap.next h_8) 0)) fun h_55 =>
    obind (stRow h_55 1 [.int .i64 t23] (AV.ptr (AHeap.next h_8) 5)) fun h_57 =>
    k23 h_57)
  (
    lett ((t9 : Int) == 2) fun (t27 : Bool) =>
    lett (fun  (h_62 : AHeap) =>
      k23 h_62) fun k61 =>
    ifB t27
    (
      obind (ldRow h_13 3 v2) fun t29 =>
      obind (fldP 1 v3) fun t30 =>
      obind (ldCell h_13 t30) fun v31 =>
      obind (avInt .i64 v31) fun t31 =>
      callN (call 25 [.agg t29, .int .i64 t31] h_13) fun r32 h_67 =>
      obind (extT 0 r32) fun v33 =>
      obind (avAgg v33) fun t33 =>
      obind (extT 1 r32) fun v34 =>
      obind (avAgg v34) fun t34 =>
      obind (extT 2 r32) fun v35 =>
      obind (avInt .i64 v35) fun t35 =>
      obind (stRow h_67 3 t33 v2) fun h_75 =>
      obind (stRow h_75 4 t34 (AV.ptr (AHeap.next h_8) 1)) fun h_77 =>
      obind (stRow h_77 1 [.int .i64 t35] (AV.ptr (AHeap.next h_8) 5)) fun h_79 =>
      k61 h_79)
    (
      lett ((t9 : Int) == 3) fun (t39 : Bool) =>
      lett (fun  (h_84 : AHeap) =>
        k61 h_84) fun k83 =>
      ifB t39
      (
        obind (ldRow h_13 3 v2) fun t41 =>
        obind (fldP 1 v3) fun t42 =>
        obind (ldCell h_13 t42) fun v43 =>
        obind (avInt .i64 v43) fun t43 =>
        callN (call 25 [.agg t41, .int .i64 t43] h_13) fun r44 h_89 =>
        obind (extT 0 r44) fun v45 =>
        obind (avAgg v45) fun t45 =>
        obind (extT 1 r44) fun v46 =>
        obind (avAgg v46) fun _ =>
        obind (extT 2 r44) fun v47 =>
        obind (avInt .i64 v47) fun t47 =>
        obind (stRow h_89 3 t45 v2) fun h_97 =>
        obind (stRow h_97 1 [.int .i64 t47] (AV.ptr (AHeap.next h_8) 5)) fun h_99 =>
        k83 h_99)
      (
        lett ((t9 : Int) == 4) fun (t50 : Bool) =>
        lett (fun  (h_104 : AHeap) =>
          k83 h_104) fun k103 =>
        ifB t50
        (
          obind (ldRow h_13 3 v2) fun t52 =>
          obind (fldP 1 v3) fun t53 =>
          obind (ldCell h_13 t53) fun v54 =>
          obind (avInt .i64 v54) fun t54 =>
          callN (call 26 [.agg t52, .int .i64 t54] h_13) fun r55 h_109 =>
          obind (extT 0 r55) fun v56 =>
          obind (avAgg v56) fun t56 =>
          obind (extT 1 r55) fun v57 =>
          obind (avInt .i64 v57) fun t57 =>
          obind (extT 2 r55) fun v58 =>
          obind (avInt .i64 v58) fun t58 =>
          obind (stRow h_109 3 t56 v2) fun h_117 =>
          obind (stRow h_117 1 [.int .i64 t57] (AV.ptr (AHeap.next h_8) 0)) fun h_119 =>
          obind (stRow h_119 1 [.int .i64 t58] (AV.ptr (AHeap.next h_8) 5)) fun h_121 =>
          k103 h_121)
        (
          lett ((t9 : Int) == 5) fun (t62 : Bool) =>
          lett (fun  (h_126 : AHeap) =>
            k103 h_126) fun k125 =>
          ifB t62
          (
            obind (ldRow h_13 3 v2) fun t64 =>
            obind (fldP 1 v3) fun t65 =>
            obind (ldCell h_13 t65) fun v66 =>
            obind (avInt .i64 v66) fun t66 =>
            obind (fldP 2 v3) fun t67 =>
            obind (ldCell h_13 t67) fun v68 =>
            obind (avInt .i64 v68) fun t68 =>
            callN (call 27 [.agg t64, .int .i64 t66, .int .i64 t68] h_13) fun r69 h_134 =>
            obind (extT 0 r69) fun v70 =>
            obind (avAgg v70) fun t70 =>
            obind (extT 1 r69) fun v71 =>
            obind (avInt .i64 v71) fun t71 =>
            obind (stRow h_134 3 t70 v2) fun h_140 =>
            obind (stRow h_140 1 [.int .i64 t71] (AV.ptr (AHeap.next h_8) 5)) fun h_142 =>
            k125 h_142)
          (
            lett ((t9 : Int) == 6) fun (t74 : Bool) =>
            lett (fun  (h_147 : AHeap) =>
              k125 h_147) fun k146 =>
            ifB t74
            (
              obind (ldRow h_13 3 v2) fun t76 =>
              obind (fldP 1 v3) fun t77 =>
              obind (ldCell h_13 t77) fun v78 =>
              obind (avInt .i64 v78) fun t78 =>
              obind (fldP 2 v3) fun t79 =>
              obind (ldCell h_13 t79) fun v80 =>
              obind (avInt .i64 v80) fun t80 =>
              callN (call 28 [.agg t76, .int .i64 t78, .int .i64 t80] h_13) fun r81 h_155 =>
              obind (extT 0 r81) fun v82 =>
              obind (avAgg v82) fun t82 =>
              obind (extT 1 r81) fun v83 =>
              obind (avInt .i64 v83) fun t83 =>
              obind (stRow h_155 3 t82 v2) fun h_161 =>
              obind (stRow h_161 1 [.int .i64 t83] (AV.ptr (AHeap.next h_8) 5)) fun h_163 =>
              k146 h_163)
            (
              k146 h_13))))))
set_option maxHeartbeats 4000000 in
set_option maxRecDepth 20000 in
theorem law05_model_ok {call : CallF} (hc : SaysAll Try.prog call) {n : Nat} {t0 : List AV} {t1 : List AV} {h : AHeap} {rR : ARes} {hR : AHeap} (hF : law05_model call n t0 t1 h = some (rR, hR)) : Says Try.prog 13 [.agg t0, .agg t1] h rR hR := by
  unfold law05_model at hF
  refine sO Try.func13 fun w0 m0 => ?_
  refine wW [(0, .agg t0), (1, .agg t1)] ?_
  refine oG fun n1 => W.r ?_
  refine oK 2 hF fun v2 h_2 hF => ?_
  refine oK 3 hF fun v3 h_4 hF => ?_
  refine oN 4 hF fun h_6 hF => ?_
  refine oN 5 hF fun h_8 hF => ?_
  refine oV [(2, v2), (3, v3), (4, (newP h_4)), (5, (newP h_6))] (n1 ?_)
  refine oG fun n10 => W.r ?_
  refine oA 7 (.agg ([.int .i64 0, .int .i64 0, .int .i64 0, .int .i64 0, .str 0 0, .int .i64 0] : List AV)) ?_
  refine oN 6 hF fun h_11 hF => ?_
  refine oW 35 (.agg ([.int .i64 0, .int .i64 0, .int .i64 0, .int .i64 0, .str 0 0, .int .i64 0] : List AV)) hF fun h_13 hF => ?_
  refine oV [(2, v2), (3, v3), (4, (newP h_4)), (5, (newP h_6)), (6, (newP h_8))] (n10 ?_)
  refine oG fun n15 => ?_
  refine oG fun n16 => W.r ?_
  refine oF 8 39 0 hF fun t8 hF => ?_
  refine oLi 9 3 hF fun t9 hF => ?_
  refine oV [(2, v2), (3, v3), (4, (newP h_4)), (5, (newP h_6)), (6, (newP h_8)), (9, .int .i64 t9)] (n16 ?_)
  refine W.blockK (by kernel_rfl) (fun K20 n20 s20 o20 q20 p20 => ?_)
  refine oG fun n21 => W.r ?_
  refine oB 11 hF fun t11 hF => ?_
  refine oA 10 (.bool t11) ?_
  refine oV [(2, v2), (3, v3), (4, (newP h_4)), (5, (newP h_6)), (6, (newP h_8)), (9, .int .i64 t9), (10, .bool t11)] (n21 ?_)
  obtain ⟨k23, e23, hF⟩ := lett_some hF
  have J23 : ∀  (h_24 : AHeap), k23 h_24 = some (rR, hR) → Go w0 m0 (Func.ntmps Try.f13) (K20 .normal) [(2, v2), (4, (newP h_4)), (5, (newP h_6)), (6, (newP h_8))] [] h_24 := by
    intro  h_24 hF
    rw [e23] at hF
    refine n20 (n15 ?_)
    refine oG fun n25 => ?_
    refine W.draw (by kernel_rfl) (hc.ok w0) (plan := [0, 1, 2, 3]) (by kernel_rfl) (by kernel_rfl) (by kernel_rfl) ?_
    obtain ⟨t85, e26, hF⟩ := obind_some hF
    refine WD.b 1 (some 85) (.agg t85) h_24 (load_row (P := Try.prog) (h := h_24) (t := 30) (by kernel_rfl) (by kernel_rfl) e26) ?_
    obtain ⟨t86, e27, hF⟩ := obind_some hF
    refine WD.b 1 (some 86) (.agg t86) h_24 (load_row (P := Try.prog) (h := h_24) (t := 35) (by kernel_rfl) (by kernel_rfl) e27) ?_
    obtain ⟨h_28, e29, hF⟩ := obind_some hF
    obtain ⟨k30, hF⟩ := chk_some hF
    refine WD.eff (h' := h_28) (by kernel_rfl) (by kernel_rfl) (Eq.trans (by kernel_rfl) (store_row (P := Try.prog) (h := h_24) (t := 30) (v := (.agg t85)) (by kernel_rfl) (by kernel_rfl) e29)) (k := 2) (by kernel_rfl) (fun _ => (Eq.trans (by kernel_rfl) k30)) (by decide) ?_
    obtain ⟨h_31, e32, hF⟩ := obind_some hF
    refine WD.eff (h' := h_31) (by kernel_rfl) (by kernel_rfl) (Eq.trans (by kernel_rfl) (store_row (P := Try.prog) (h := h_28) (t := 35) (v := (.agg t86)) (by kernel_rfl) (by kernel_rfl) e32)) (k := 2) (by kernel_rfl) (fun _ => (by kernel_rfl)) (by decide) ?_
    refine WD.nil ?_
    refine gW [(4, (newP h_4)), (5, (newP h_6))] (n25 (oY ?_))
    obtain ⟨w4, e33, hF⟩ := obind_some hF
    obtain ⟨w5, e34, hF⟩ := obind_some hF
    exact lZ hF [.cell 4 30, .cell 5 35] [.agg w4, .agg w5] (rY e33 (rY e34 res_nil))
  cases t11 with
  | true =>
    refine oT hF fun hF => ?_
    refine W.r ?_
    refine oR 13 30 hF fun t13 hF => ?_
    refine oF 14 39 1 hF fun t14 hF => ?_
    refine oLi 15 3 hF fun t15 hF => ?_
    refine oF 16 39 2 hF fun t16 hF => ?_
    refine oLi 17 3 hF fun t17 hF => ?_
    refine oF 18 39 3 hF fun t18 hF => ?_
    refine oLs 19 9 hF fun t19 hF => ?_
    refine oC hc (some 20) hF fun r20 h_45 hF => ?_
    refine oA 12 r20 ?_
    refine oEa 21 hF fun t21 hF => ?_
    refine oEi 22 hF fun t22 hF => ?_
    refine oEi 23 hF fun t23 hF => ?_
    refine oW 30 (.agg t21) hF fun h_53 hF => ?_
    refine oA 24 (AV.ptr (AHeap.next h_8) 0) ?_
    refine oW 3 (.int .i64 t22) hF fun h_55 hF => ?_
    refine oA 25 (AV.ptr (AHeap.next h_8) 5) ?_
    refine oW 33 (.int .i64 t23) hF fun h_57 hF => ?_
    refine oV [(2, v2), (4, (newP h_4)), (5, (newP h_6)), (6, (newP h_8))] ?_
    exact gW _ (J23 _ hF)
  | false =>
    refine oU hF fun hF => ?_
    refine oG fun n59 => W.r ?_
    refine oB 27 hF fun t27 hF => ?_
    refine oA 26 (.bool t27) ?_
    refine oV [(2, v2), (3, v3), (4, (newP h_4)), (5, (newP h_6)), (6, (newP h_8)), (9, .int .i64 t9), (26, .bool t27)] (n59 ?_)
    obtain ⟨k61, e61, hF⟩ := lett_some hF
    have J61 : ∀  (h_62 : AHeap), k61 h_62 = some (rR, hR) → Go w0 m0 (Func.ntmps Try.f13) (K20 .normal) [(2, v2), (4, (newP h_4)), (5, (newP h_6)), (6, (newP h_8))] [] h_62 := by
      intro  h_62 hF
      rw [e61] at hF
      exact gW _ (J23 _ hF)
    cases t27 with
    | true =>
      refine oT hF fun hF => ?_
      refine W.r ?_
      refine oR 29 30 hF fun t29 hF => ?_
      refine oF 30 39 1 hF fun t30 hF => ?_
      refine oLi 31 3 hF fun t31 hF => ?_
      refine oC hc (some 32) hF fun r32 h_67 hF => ?_
      refine oA 28 r32 ?_
      refine oEa 33 hF fun t33 hF => ?_
      refine oEa 34 hF fun t34 hF => ?_
      refine oEi 35 hF fun t35 hF => ?_
      refine oW 30 (.agg t33) hF fun h_75 hF => ?_
      refine oA 36 (AV.ptr (AHeap.next h_8) 1) ?_
      refine oW 32 (.agg t34) hF fun h_77 hF => ?_
      refine oA 37 (AV.ptr (AHeap.next h_8) 5) ?_
      refine oW 33 (.int .i64 t35) hF fun h_79 hF => ?_
      refine oV [(2, v2), (4, (newP h_4)), (5, (newP h_6)), (6, (newP h_8))] ?_
      exact gW _ (J61 _ hF)
    | false =>
      refine oU hF fun hF => ?_
      refine oG fun n81 => W.r ?_
      refine oB 39 hF fun t39 hF => ?_
      refine oA 38 (.bool t39) ?_
      refine oV [(2, v2), (3, v3), (4, (newP h_4)), (5, (newP h_6)), (6, (newP h_8)), (9, .int .i64 t9), (38, .bool t39)] (n81 ?_)
      obtain ⟨k83, e83, hF⟩ := lett_some hF
      have J83 : ∀  (h_84 : AHeap), k83 h_84 = some (rR, hR) → Go w0 m0 (Func.ntmps Try.f13) (K20 .normal) [(2, v2), (4, (newP h_4)), (5, (newP h_6)), (6, (newP h_8))] [] h_84 := by
        intro  h_84 hF
        rw [e83] at hF
        exact gW _ (J61 _ hF)
      cases t39 with
      | true =>
        refine oT hF fun hF => ?_
        refine W.r ?_
        refine oR 41 30 hF fun t41 hF => ?_
        refine oF 42 39 1 hF fun t42 hF => ?_
        refine oLi 43 3 hF fun t43 hF => ?_
        refine oC hc (some 44) hF fun r44 h_89 hF => ?_
        refine oA 40 r44 ?_
        refine oEa 45 hF fun t45 hF => ?_
        refine oEa 46 hF fun t46 hF => ?_
        refine oEi 47 hF fun t47 hF => ?_
        refine oW 30 (.agg t45) hF fun h_97 hF => ?_
        refine oA 48 (AV.ptr (AHeap.next h_8) 5) ?_
        refine oW 33 (.int .i64 t47) hF fun h_99 hF => ?_
        refine oV [(2, v2), (4, (newP h_4)), (5, (newP h_6)), (6, (newP h_8))] ?_
        exact gW _ (J83 _ hF)
      | false =>
        refine oU hF fun hF => ?_
        refine oG fun n101 => W.r ?_
        refine oB 50 hF fun t50 hF => ?_
        refine oA 49 (.bool t50) ?_
        refine oV [(2, v2), (3, v3), (4, (newP h_4)), (5, (newP h_6)), (6, (newP h_8)), (9, .int .i64 t9), (49, .bool t50)] (n101 ?_)
        obtain ⟨k103, e103, hF⟩ := lett_some hF
        have J103 : ∀  (h_104 : AHeap), k103 h_104 = some (rR, hR) → Go w0 m0 (Func.ntmps Try.f13) (K20 .normal) [(2, v2), (4, (newP h_4)), (5, (newP h_6)), (6, (newP h_8))] [] h_104 := by
          intro  h_104 hF
          rw [e103] at hF
          exact gW _ (J83 _ hF)
        cases t50 with
        | true =>
          refine oT hF fun hF => ?_
          refine W.r ?_
          refine oR 52 30 hF fun t52 hF => ?_
          refine oF 53 39 1 hF fun t53 hF => ?_
          refine oLi 54 3 hF fun t54 hF => ?_
          refine oC hc (some 55) hF fun r55 h_109 hF => ?_
          refine oA 51 r55 ?_
          refine oEa 56 hF fun t56 hF => ?_
          refine oEi 57 hF fun t57 hF => ?_
          refine oEi 58 hF fun t58 hF => ?_
          refine oW 30 (.agg t56) hF fun h_117 hF => ?_
          refine oA 59 (AV.ptr (AHeap.next h_8) 0) ?_
          refine oW 3 (.int .i64 t57) hF fun h_119 hF => ?_
          refine oA 60 (AV.ptr (AHeap.next h_8) 5) ?_
          refine oW 33 (.int .i64 t58) hF fun h_121 hF => ?_
          refine oV [(2, v2), (4, (newP h_4)), (5, (newP h_6)), (6, (newP h_8))] ?_
          exact gW _ (J103 _ hF)
        | false =>
          refine oU hF fun hF => ?_
          refine oG fun n123 => W.r ?_
          refine oB 62 hF fun t62 hF => ?_
          refine oA 61 (.bool t62) ?_
          refine oV [(2, v2), (3, v3), (4, (newP h_4)), (5, (newP h_6)), (6, (newP h_8)), (9, .int .i64 t9), (61, .bool t62)] (n123 ?_)
          obtain ⟨k125, e125, hF⟩ := lett_some hF
          have J125 : ∀  (h_126 : AHeap), k125 h_126 = some (rR, hR) → Go w0 m0 (Func.ntmps Try.f13) (K20 .normal) [(2, v2), (4, (newP h_4)), (5, (newP h_6)), (6, (newP h_8))] [] h_126 := by
            intro  h_126 hF
            rw [e125] at hF
            exact gW _ (J103 _ hF)
          cases t62 with
          | true =>
            refine oT hF fun hF => ?_
            refine W.r ?_
            refine oR 64 30 hF fun t64 hF => ?_
            refine oF 65 39 1 hF fun t65 hF => ?_
            refine oLi 66 3 hF fun t66 hF => ?_
            refine oF 67 39 2 hF fun t67 hF => ?_
            refine oLi 68 3 hF fun t68 hF => ?_
            refine oC hc (some 69) hF fun r69 h_134 hF => ?_
            refine oA 63 r69 ?_
            refine oEa 70 hF fun t70 hF => ?_
            refine oEi 71 hF fun t71 hF => ?_
            refine oW 30 (.agg t70) hF fun h_140 hF => ?_
            refine oA 72 (AV.ptr (AHeap.next h_8) 5) ?_
            refine oW 33 (.int .i64 t71) hF fun h_142 hF => ?_
            refine oV [(2, v2), (4, (newP h_4)), (5, (newP h_6)), (6, (newP h_8))] ?_
            exact gW _ (J125 _ hF)
          | false =>
            refine oU hF fun hF => ?_
            refine oG fun n144 => W.r ?_
            refine oB 74 hF fun t74 hF => ?_
            refine oA 73 (.bool t74) ?_
            refine oV [(2, v2), (3, v3), (4, (newP h_4)), (5, (newP h_6)), (6, (newP h_8)), (73, .bool t74)] (n144 ?_)
            obtain ⟨k146, e146, hF⟩ := lett_some hF
            have J146 : ∀  (h_147 : AHeap), k146 h_147 = some (rR, hR) → Go w0 m0 (Func.ntmps Try.f13) (K20 .normal) [(2, v2), (4, (newP h_4)), (5, (newP h_6)), (6, (newP h_8))] [] h_147 := by
              intro  h_147 hF
              rw [e146] at hF
              exact gW _ (J125 _ hF)
            cases t74 with
            | true =>
              refine oT hF fun hF => ?_
              refine W.r ?_
              refine oR 76 30 hF fun t76 hF => ?_
              refine oF 77 39 1 hF fun t77 hF => ?_
              refine oLi 78 3 hF fun t78 hF => ?_
              refine oF 79 39 2 hF fun t79 hF => ?_
              refine oLi 80 3 hF fun t80 hF => ?_
              refine oC hc (some 81) hF fun r81 h_155 hF => ?_
              refine oA 75 r81 ?_
              refine oEa 82 hF fun t82 hF => ?_
              refine oEi 83 hF fun t83 hF => ?_
              refine oW 30 (.agg t82) hF fun h_161 hF => ?_
              refine oA 84 (AV.ptr (AHeap.next h_8) 5) ?_
              refine oW 33 (.int .i64 t83) hF fun h_163 hF => ?_
              refine oV [(2, v2), (4, (newP h_4)), (5, (newP h_6)), (6, (newP h_8))] ?_
              exact gW _ (J146 _ hF)
            | false =>
              refine oU hF fun hF => ?_
              refine oZ ?_
              exact gW _ (J146 _ hF)
end Go.Proofs.Ythdkfofkghpmcaa
