/- Plain functions in place of the program's, and that their calls come to what they say. -/
import Derived.Test.YtikaeeaepnflnaaFrame
import Derived.Test.YtikaeeaepnflnaaAbs54
namespace Go.Proofs.Ytikaeeaepnflnaa
open Go.RowKit Abs

noncomputable def ref01_Number_L0b (v8 : AV) (k9 : AHeap → R) (self : Int → Int → AHeap → R) (t0_16 : Int) (t6 : Int) (h_17 : AHeap) : R :=
  lett (decide (t6 ≥ 0)) fun (t12 : Bool) =>
  ifB t12
  (
    obind (remI .u64 t0_16 256) fun t18 =>
    lett (IntKind.u8.wrap t18) fun (t19 : Int) =>
    obind (idxP 1 v8 t6) fun t20 =>
    obind (stRow h_17 1 [.int .u8 t19] t20) fun h_27 =>
    obind (quoI .u64 t0_16 256) fun t22 =>
    lett (IntKind.i64.wrap (t6 - 1)) fun (t14 : Int) =>
    self t22 t14 h_27)
  (
    k9 h_17)
noncomputable def ref01_Number_L0 (v8 : AV) (k9 : AHeap → R) : Nat → Int → Int → AHeap → R := iterR (fun _ _ _ => none) (ref01_Number_L0b v8 k9)
theorem ref01_Number_L0_s (v8 : AV) (k9 : AHeap → R) (m : Nat) : ref01_Number_L0 v8 k9 (m + 1) = ref01_Number_L0b v8 k9 (ref01_Number_L0 v8 k9 m) := rfl
noncomputable def ref01_Number (_ : CallF) (n : Nat) (t0 : Int) (t1 : Int) (h : AHeap) : R :=
  outK (opMakeSlice Try.prog h 31 (some (.int .i64 t1)) (some (.int .i64 t1))) fun v8 h_3 =>
  lett (IntKind.i64.wrap (t1 - 1)) fun (t10 : Int) =>
  lett (fun  (h_10 : AHeap) =>
    outK (opConv Try.prog h_10 31 9 (some v8)) fun v24 h_12 =>
    obind (avStr v24) fun t24 =>
    some (.ret (strA t24), h_12)) fun k9 =>
  ref01_Number_L0 v8 k9 n t0 t10 h_3
set_option maxHeartbeats 4000000 in
set_option maxRecDepth 20000 in
theorem ref01_Number_ok {call : CallF} (_ : SaysAll Try.prog call) {n : Nat} {t0 : Int} {t1 : Int} {h : AHeap} {rR : ARes} {hR : AHeap} (hF : ref01_Number call n t0 t1 h = some (rR, hR)) : Says Try.prog 23 [.int .u64 t0, .int .i64 t1] h rR hR := by
  unfold ref01_Number at hF
  refine sO Try.func23 fun w0 m0 => ?_
  refine wW [(0, .int .u64 t0), (1, .int .i64 t1)] ?_
  refine oG fun n1 => W.r ?_
  refine oA 4 (strA ([] : Bytes)) ?_
  refine oV [(0, .int .u64 t0), (1, .int .i64 t1)] (n1 ?_)
  refine oG fun n2 => W.r ?_
  refine oA 7 (.int .i64 t1) ?_
  refine oK 8 hF fun v8 h_3 hF => ?_
  refine oA 5 v8 ?_
  refine oV [(0, .int .u64 t0), (1, .int .i64 t1), (5, v8)] (n2 ?_)
  refine W.s (fun K5 n5 e5 q5 p5 => ?_)
  refine oG fun n6 => W.r ?_
  refine oA 9 (.int .i64 t1) ?_
  refine oI 10 .i64 hF fun t10 hF => ?_
  refine oA 6 (.int .i64 t10) ?_
  refine oV [(0, .int .u64 t0), (5, v8), (6, .int .i64 t10)] (n6 ?_)
  obtain ⟨k9, e9, hF⟩ := lett_some hF
  have J9 : ∀  (h_10 : AHeap), k9 h_10 = some (rR, hR) → Go w0 m0 (Func.ntmps Try.f23) (K5 .normal) [(5, v8)] [] h_10 := by
    intro  h_10 hF
    rw [e9] at hF
    refine n5 ?_
    refine oG fun n11 => W.r ?_
    refine oA 23 v8 ?_
    replace hF := outK_some hF; obtain ⟨v24, h_12, e13, hF⟩ := hF
    replace hF := obind_some hF; obtain ⟨t24, c14, hF⟩ := hF
    have c14 := avStr_some c14
    subst c14
    refine WL.b (some 24) (strA t24) h_12 e13 ?_
    refine oA 4 (strA t24) ?_
    refine oV [(4, strA t24)] (n11 (oY ?_))
    exact lZ hF [.tmp 4] [strA t24] (rT res_nil)
  refine W.blockK (by kernel_rfl) (fun K8 n8 s8 o8 q8 p8 => ?_)
  refine W.loopK (by kernel_rfl) (fun I15 K15 b15 n15 e15 q15 p15 => ?_)
  have L15 : ∀ (m : Nat) (t0_16 : Int) (t6 : Int) (h_17 : AHeap), ref01_Number_L0 v8 k9 m t0_16 t6 h_17 = some (rR, hR) → Go w0 m0 (Func.ntmps Try.f23) I15 [(0, .int .u64 t0_16), (5, v8), (6, .int .i64 t6)] [] h_17 := by
    intro m
    induction m with
    | zero => intro t0_16 t6 h_17 hF; cases hF
    | succ m ih15 =>
      intro t0_16 t6 h_17 hF
      rw [ref01_Number_L0_s] at hF; unfold ref01_Number_L0b at hF
      refine b15 ?_
      refine W.s (fun K18 n18 e18 q18 p18 => ?_)
      refine oG fun n19 => W.r ?_
      refine oA 11 (.int .i64 t6) ?_
      refine oB 12 hF fun t12 hF => ?_
      refine oV [(0, .int .u64 t0_16), (5, v8), (6, .int .i64 t6), (12, .bool t12)] (n19 ?_)
      cases t12 with
      | true =>
        refine oT hF fun hF => ?_
        refine oZ (n18 ?_)
        refine oG fun n21 => ?_
        refine W.blockK (by kernel_rfl) (fun K22 n22 s22 o22 q22 p22 => ?_)
        refine oG fun n23 => W.r ?_
        refine oA 15 v8 ?_
        refine oA 16 (.int .i64 t6) ?_
        refine oA 17 (.int .u64 t0_16) ?_
        obtain ⟨t18, e24, hF⟩ := obind_some hF
        refine WL.b (some 18) (.int .u64 t18) h_17 (rem_int (P := Try.prog) (h := h_17) (t := 52) (lit := true) e24) ?_
        refine oI 19 .u8 hF fun t19 hF => ?_
        refine oP 20 31 5 .i64 hF fun t20 hF => ?_
        refine oW 5 (.int .u8 t19) hF fun h_27 hF => ?_
        refine oV [(0, .int .u64 t0_16), (5, v8), (6, .int .i64 t6)] (n23 (W.r ?_))
        refine oA 21 (.int .u64 t0_16) ?_
        obtain ⟨t22, e29, hF⟩ := obind_some hF
        refine WL.b (some 22) (.int .u64 t22) h_27 (quo_int (P := Try.prog) (h := h_27) (t := 52) (lit := true) e29) ?_
        refine oA 0 (.int .u64 t22) ?_
        refine oV [(0, .int .u64 t22), (5, v8), (6, .int .i64 t6)] (n22 (n21 (W.r ?_)))
        refine oA 13 (.int .i64 t6) ?_
        refine oI 14 .i64 hF fun t14 hF => ?_
        refine oA 6 (.int .i64 t14) ?_
        refine oV [(0, .int .u64 t22), (5, v8), (6, .int .i64 t14)] (n15 ?_)
        exact gW _ (ih15 _ _ _ hF)
      | false =>
        refine oU hF fun hF => ?_
        refine W.exit (by kernel_rfl) ?_
        refine e18 (e15 ?_)
        refine s8 (by kernel_rfl) ?_
        exact gW _ (J9 _ hF)
  exact gW _ (L15 _ _ _ _ hF)
noncomputable def ref02_Of (call : CallF) (_ : Nat) (t0 : Bytes) (h : AHeap) : R :=
  callN (call 29 [.int .u32 0, strA t0] h) fun r4 h_3 =>
  obind (avInt .u32 r4) fun t4 =>
  some (.ret (.int .u32 t4), h_3)
set_option maxHeartbeats 4000000 in
set_option maxRecDepth 20000 in
theorem ref02_Of_ok {call : CallF} (hc : SaysAll Try.prog call) {n : Nat} {t0 : Bytes} {h : AHeap} {rR : ARes} {hR : AHeap} (hF : ref02_Of call n t0 h = some (rR, hR)) : Says Try.prog 24 [strA t0] h rR hR := by
  unfold ref02_Of at hF
  refine sO Try.func24 fun w0 m0 => ?_
  refine wW [(0, strA t0)] ?_
  refine oG fun n1 => W.r ?_
  refine oA 2 (.int .u32 0) ?_
  refine oV [(0, strA t0)] (n1 ?_)
  refine oG fun n2 => W.r ?_
  refine oA 3 (strA t0) ?_
  refine oCi hc 4 hF fun t4 h_3 hF => ?_
  refine oA 2 (.int .u32 t4) ?_
  refine oV [(2, .int .u32 t4)] (n2 (oY ?_))
  exact lZ hF [.tmp 2] [.int .u32 t4] (rT res_nil)
noncomputable def ref02_More_L1b (call : CallF) (k24 : Int → AHeap → R) (self : Int → Int → Int → AHeap → R) (t5_29 : Int) (t7 : Int) (t8 : Int) (h_30 : AHeap) : R :=
  lett (decide (t8 < 8)) fun (t22 : Bool) =>
  ifB t22
  (
    obind (remI .u32 t7 2) fun t27 =>
    callN (call 33 [.int .u32 t5_29, .int .u32 t27] h_30) fun r28 h_38 =>
    obind (avInt .u32 r28) fun t28 =>
    obind (quoI .u32 t7 2) fun t30 =>
    lett (IntKind.i64.wrap (t8 + 1)) fun (t24 : Int) =>
    self t28 t30 t24 h_38)
  (
    k24 t5_29 h_30)
noncomputable def ref02_More_L1 (call : CallF) (k24 : Int → AHeap → R) : Nat → Int → Int → Int → AHeap → R := iterR (fun _ _ _ _ => none) (ref02_More_L1b call k24)
theorem ref02_More_L1_s (call : CallF) (k24 : Int → AHeap → R) (m : Nat) : ref02_More_L1 call k24 (m + 1) = ref02_More_L1b call k24 (ref02_More_L1 call k24 m) := rfl
noncomputable def ref02_More_L0b (call : CallF) (n : Nat) (t1 : Bytes) (k7 : Int → AHeap → R) (self : Int → Int → AHeap → R) (t5_12 : Int) (t6 : Int) (h_13 : AHeap) : R :=
  lett (decide (t6 < (lenS t1))) fun (t14 : Bool) =>
  ifB t14
  (
    obind (idxS t1 t6) fun t19 =>
    lett (IntKind.u32.wrap t19) fun (t20 : Int) =>
    lett (fun (t5_25 : Int) (h_26 : AHeap) =>
      lett (IntKind.i64.wrap (t6 + 1)) fun (t16 : Int) =>
      self t5_25 t16 h_26) fun k24 =>
    ref02_More_L1 call k24 n t5_12 t20 0 h_13)
  (
    k7 t5_12 h_13)
noncomputable def ref02_More_L0 (call : CallF) (n : Nat) (t1 : Bytes) (k7 : Int → AHeap → R) : Nat → Int → Int → AHeap → R := iterR (fun _ _ _ => none) (ref02_More_L0b call n t1 k7)
theorem ref02_More_L0_s (call : CallF) (n : Nat) (t1 : Bytes) (k7 : Int → AHeap → R) (m : Nat) : ref02_More_L0 call n t1 k7 (m + 1) = ref02_More_L0b call n t1 k7 (ref02_More_L0 call n t1 k7 m) := rfl
noncomputable def ref02_More (call : CallF) (n : Nat) (t0 : Int) (t1 : Bytes) (h : AHeap) : R :=
  lett (comI .u32 t0) fun (t10 : Int) =>
  lett (fun (t5 : Int) (h_8 : AHeap) =>
    lett (comI .u32 t5) fun (t32 : Int) =>
    some (.ret (.int .u32 t32), h_8)) fun k7 =>
  ref02_More_L0 call n t1 k7 n t10 0 h
set_option maxHeartbeats 4000000 in
set_option maxRecDepth 20000 in
theorem ref02_More_ok {call : CallF} (hc : SaysAll Try.prog call) {n : Nat} {t0 : Int} {t1 : Bytes} {h : AHeap} {rR : ARes} {hR : AHeap} (hF : ref02_More call n t0 t1 h = some (rR, hR)) : Says Try.prog 29 [.int .u32 t0, strA t1] h rR hR := by
  unfold ref02_More at hF
  refine sO Try.func29 fun w0 m0 => ?_
  refine wW [(0, .int .u32 t0), (1, strA t1)] ?_
  refine oG fun n1 => W.r ?_
  refine oA 4 (.int .u32 0) ?_
  refine oV [(0, .int .u32 t0), (1, strA t1)] (n1 ?_)
  refine oG fun n2 => W.r ?_
  refine oA 9 (.int .u32 t0) ?_
  refine oI 10 .u32 hF fun t10 hF => ?_
  refine oA 5 (.int .u32 t10) ?_
  refine oV [(1, strA t1), (5, .int .u32 t10)] (n2 ?_)
  refine W.s (fun K4 n4 e4 q4 p4 => ?_)
  refine oG fun n5 => W.r ?_
  refine oA 6 (.int .i64 0) ?_
  refine oV [(1, strA t1), (5, .int .u32 t10), (6, .int .i64 0)] (n5 ?_)
  obtain ⟨k7, e7, hF⟩ := lett_some hF
  have J7 : ∀ (t5 : Int) (h_8 : AHeap), k7 t5 h_8 = some (rR, hR) → Go w0 m0 (Func.ntmps Try.f29) (K4 .normal) [(5, .int .u32 t5)] [] h_8 := by
    intro t5 h_8 hF
    rw [e7] at hF
    refine n4 ?_
    refine oG fun n9 => W.r ?_
    refine oA 31 (.int .u32 t5) ?_
    refine oI 32 .u32 hF fun t32 hF => ?_
    refine oA 4 (.int .u32 t32) ?_
    refine oV [(4, .int .u32 t32)] (n9 (oY ?_))
    exact lZ hF [.tmp 4] [.int .u32 t32] (rT res_nil)
  refine W.blockK (by kernel_rfl) (fun K6 n6 s6 o6 q6 p6 => ?_)
  refine W.loopK (by kernel_rfl) (fun I11 K11 b11 n11 e11 q11 p11 => ?_)
  have L11 : ∀ (m : Nat) (t5_12 : Int) (t6 : Int) (h_13 : AHeap), ref02_More_L0 call n t1 k7 m t5_12 t6 h_13 = some (rR, hR) → Go w0 m0 (Func.ntmps Try.f29) I11 [(1, strA t1), (5, .int .u32 t5_12), (6, .int .i64 t6)] [] h_13 := by
    intro m
    induction m with
    | zero => intro t5_12 t6 h_13 hF; cases hF
    | succ m ih11 =>
      intro t5_12 t6 h_13 hF
      rw [ref02_More_L0_s] at hF; unfold ref02_More_L0b at hF
      refine b11 ?_
      refine W.s (fun K14 n14 e14 q14 p14 => ?_)
      refine oG fun n15 => W.r ?_
      refine oA 11 (.int .i64 t6) ?_
      refine oA 12 (strA t1) ?_
      refine oA 13 (.int .i64 (lenS t1)) ?_
      refine oB 14 hF fun t14 hF => ?_
      refine oV [(1, strA t1), (5, .int .u32 t5_12), (6, .int .i64 t6), (14, .bool t14)] (n15 ?_)
      cases t14 with
      | true =>
        refine oT hF fun hF => ?_
        refine oZ (n14 ?_)
        refine oG fun n17 => ?_
        refine W.blockK (by kernel_rfl) (fun K18 n18 s18 o18 q18 p18 => ?_)
        refine oG fun n19 => W.r ?_
        refine oA 17 (strA t1) ?_
        refine oA 18 (.int .i64 t6) ?_
        refine oX 19 9 .i64 hF fun t19 hF => ?_
        refine oI 20 .u32 hF fun t20 hF => ?_
        refine oA 7 (.int .u32 t20) ?_
        refine oV [(1, strA t1), (5, .int .u32 t5_12), (6, .int .i64 t6), (7, .int .u32 t20)] (n19 ?_)
        refine oG fun n22 => W.r ?_
        refine oA 8 (.int .i64 0) ?_
        refine oV [(1, strA t1), (5, .int .u32 t5_12), (6, .int .i64 t6), (7, .int .u32 t20), (8, .int .i64 0)] (n22 ?_)
        obtain ⟨k24, e24, hF⟩ := lett_some hF
        have J24 : ∀ (t5_25 : Int) (h_26 : AHeap), k24 t5_25 h_26 = some (rR, hR) → Go w0 m0 (Func.ntmps Try.f29) (K18 .normal) [(1, strA t1), (5, .int .u32 t5_25), (6, .int .i64 t6)] [] h_26 := by
          intro t5_25 h_26 hF
          rw [e24] at hF
          refine n18 (n17 (W.r ?_))
          refine oA 15 (.int .i64 t6) ?_
          refine oI 16 .i64 hF fun t16 hF => ?_
          refine oA 6 (.int .i64 t16) ?_
          refine oV [(1, strA t1), (5, .int .u32 t5_25), (6, .int .i64 t16)] (n11 ?_)
          exact gW _ (ih11 _ _ _ hF)
        refine W.blockK (by kernel_rfl) (fun K23 n23 s23 o23 q23 p23 => ?_)
        refine W.loopK (by kernel_rfl) (fun I28 K28 b28 n28 e28 q28 p28 => ?_)
        have L28 : ∀ (m : Nat) (t5_29 : Int) (t7 : Int) (t8 : Int) (h_30 : AHeap), ref02_More_L1 call k24 m t5_29 t7 t8 h_30 = some (rR, hR) → Go w0 m0 (Func.ntmps Try.f29) I28 [(1, strA t1), (5, .int .u32 t5_29), (6, .int .i64 t6), (7, .int .u32 t7), (8, .int .i64 t8)] [] h_30 := by
          intro m
          induction m with
          | zero => intro t5_29 t7 t8 h_30 hF; cases hF
          | succ m ih28 =>
            intro t5_29 t7 t8 h_30 hF
            rw [ref02_More_L1_s] at hF; unfold ref02_More_L1b at hF
            refine b28 ?_
            refine W.s (fun K31 n31 e31 q31 p31 => ?_)
            refine oG fun n32 => W.r ?_
            refine oA 21 (.int .i64 t8) ?_
            refine oB 22 hF fun t22 hF => ?_
            refine oV [(1, strA t1), (5, .int .u32 t5_29), (6, .int .i64 t6), (7, .int .u32 t7), (8, .int .i64 t8), (22, .bool t22)] (n32 ?_)
            cases t22 with
            | true =>
              refine oT hF fun hF => ?_
              refine oZ (n31 ?_)
              refine oG fun n34 => ?_
              refine W.blockK (by kernel_rfl) (fun K35 n35 s35 o35 q35 p35 => ?_)
              refine oG fun n36 => W.r ?_
              refine oA 25 (.int .u32 t5_29) ?_
              refine oA 26 (.int .u32 t7) ?_
              obtain ⟨t27, e37, hF⟩ := obind_some hF
              refine WL.b (some 27) (.int .u32 t27) h_30 (rem_int (P := Try.prog) (h := h_30) (t := 47) (lit := true) e37) ?_
              refine oCi hc 28 hF fun t28 h_38 hF => ?_
              refine oA 5 (.int .u32 t28) ?_
              refine oV [(1, strA t1), (5, .int .u32 t28), (6, .int .i64 t6), (7, .int .u32 t7), (8, .int .i64 t8)] (n36 (W.r ?_))
              refine oA 29 (.int .u32 t7) ?_
              obtain ⟨t30, e41, hF⟩ := obind_some hF
              refine WL.b (some 30) (.int .u32 t30) h_38 (quo_int (P := Try.prog) (h := h_38) (t := 47) (lit := true) e41) ?_
              refine oA 7 (.int .u32 t30) ?_
              refine oV [(1, strA t1), (5, .int .u32 t28), (6, .int .i64 t6), (7, .int .u32 t30), (8, .int .i64 t8)] (n35 (n34 (W.r ?_)))
              refine oA 23 (.int .i64 t8) ?_
              refine oI 24 .i64 hF fun t24 hF => ?_
              refine oA 8 (.int .i64 t24) ?_
              refine oV [(1, strA t1), (5, .int .u32 t28), (6, .int .i64 t6), (7, .int .u32 t30), (8, .int .i64 t24)] (n28 ?_)
              exact gW _ (ih28 _ _ _ _ hF)
            | false =>
              refine oU hF fun hF => ?_
              refine W.exit (by kernel_rfl) ?_
              refine e31 (e28 ?_)
              refine s23 (by kernel_rfl) ?_
              exact gW _ (J24 _ _ hF)
        exact gW _ (L28 _ _ _ _ _ hF)
      | false =>
        refine oU hF fun hF => ?_
        refine W.exit (by kernel_rfl) ?_
        refine e14 (e11 ?_)
        refine s6 (by kernel_rfl) ?_
        exact gW _ (J7 _ _ hF)
  exact gW _ (L11 _ _ _ _ hF)
noncomputable def ref02_step (_ : CallF) (_ : Nat) (t0 : Int) (t1 : Int) (h : AHeap) : R :=
  lett (IntKind.u32.wrap (t0 + t1)) fun (t8 : Int) =>
  obind (remI .u32 t8 2) fun t9 =>
  obind (quoI .u32 t0 2) fun t11 =>
  lett ((t9 : Int) == 1) fun (t13 : Bool) =>
  lett (fun (t0_11 : Int) (h_12 : AHeap) =>
    some (.ret (.int .u32 t0_11), h_12)) fun k10 =>
  ifB t13
  (
    lett (xorI .u32 t11 2197175160) fun (t15 : Int) =>
    k10 t15 h)
  (
    k10 t11 h)
set_option maxHeartbeats 4000000 in
set_option maxRecDepth 20000 in
theorem ref02_step_ok {call : CallF} (_ : SaysAll Try.prog call) {n : Nat} {t0 : Int} {t1 : Int} {h : AHeap} {rR : ARes} {hR : AHeap} (hF : ref02_step call n t0 t1 h = some (rR, hR)) : Says Try.prog 33 [.int .u32 t0, .int .u32 t1] h rR hR := by
  unfold ref02_step at hF
  refine sO Try.func33 fun w0 m0 => ?_
  refine wW [(0, .int .u32 t0), (1, .int .u32 t1)] ?_
  refine oG fun n1 => W.r ?_
  refine oA 4 (.int .u32 0) ?_
  refine oV [(0, .int .u32 t0), (1, .int .u32 t1)] (n1 ?_)
  refine oG fun n2 => W.r ?_
  refine oA 6 (.int .u32 t0) ?_
  refine oA 7 (.int .u32 t1) ?_
  refine oI 8 .u32 hF fun t8 hF => ?_
  obtain ⟨t9, e4, hF⟩ := obind_some hF
  refine WL.b (some 9) (.int .u32 t9) h (rem_int (P := Try.prog) (h := h) (t := 47) (lit := true) e4) ?_
  refine oA 5 (.int .u32 t9) ?_
  refine oV [(0, .int .u32 t0), (5, .int .u32 t9)] (n2 ?_)
  refine oG fun n5 => W.r ?_
  refine oA 10 (.int .u32 t0) ?_
  obtain ⟨t11, e6, hF⟩ := obind_some hF
  refine WL.b (some 11) (.int .u32 t11) h (quo_int (P := Try.prog) (h := h) (t := 47) (lit := true) e6) ?_
  refine oA 0 (.int .u32 t11) ?_
  refine oV [(0, .int .u32 t11), (5, .int .u32 t9)] (n5 ?_)
  refine W.s (fun K7 n7 e7 q7 p7 => ?_)
  refine oG fun n8 => W.r ?_
  refine oA 12 (.int .u32 t9) ?_
  refine oB 13 hF fun t13 hF => ?_
  refine oV [(0, .int .u32 t11), (13, .bool t13)] (n8 ?_)
  obtain ⟨k10, e10, hF⟩ := lett_some hF
  have J10 : ∀ (t0_11 : Int) (h_12 : AHeap), k10 t0_11 h_12 = some (rR, hR) → Go w0 m0 (Func.ntmps Try.f33) (K7 .normal) [(0, .int .u32 t0_11)] [] h_12 := by
    intro t0_11 h_12 hF
    rw [e10] at hF
    refine n7 ?_
    refine oG fun n13 => W.r ?_
    refine oA 16 (.int .u32 t0_11) ?_
    refine oA 4 (.int .u32 t0_11) ?_
    refine oV [(4, .int .u32 t0_11)] (n13 (oY ?_))
    exact lZ hF [.tmp 4] [.int .u32 t0_11] (rT res_nil)
  cases t13 with
  | true =>
    refine oT hF fun hF => ?_
    refine W.r ?_
    refine oA 14 (.int .u32 t11) ?_
    refine oI 15 .u32 hF fun t15 hF => ?_
    refine oA 0 (.int .u32 t15) ?_
    refine oV [(0, .int .u32 t15)] ?_
    exact gW _ (J10 _ _ hF)
  | false =>
    refine oU hF fun hF => ?_
    refine oZ ?_
    exact gW _ (J10 _ _ hF)
noncomputable def ref03_Put (call : CallF) (_ : Nat) (t0 : Bytes) (h : AHeap) : R :=
  lett (IntKind.u64.wrap (lenS t0)) fun (t6 : Int) =>
  callN (call 23 [.int .u64 t6, .int .i64 4] h) fun r7 h_4 =>
  obind (avStr r7) fun t7 =>
  callN (call 24 [strA t7] h_4) fun r10 h_8 =>
  obind (avInt .u32 r10) fun t10 =>
  lett (IntKind.u64.wrap t10) fun (t11 : Int) =>
  callN (call 23 [.int .u64 t11, .int .i64 4] h_8) fun r12 h_12 =>
  obind (avStr r12) fun t12 =>
  obind (addS t7 t12) fun t13 =>
  obind (addS t13 t0) fun t15 =>
  callN (call 24 [strA t0] h_12) fun r17 h_17 =>
  obind (avInt .u32 r17) fun t17 =>
  lett (IntKind.u64.wrap t17) fun (t18 : Int) =>
  callN (call 23 [.int .u64 t18, .int .i64 4] h_17) fun r19 h_21 =>
  obind (avStr r19) fun t19 =>
  obind (addS t15 t19) fun t20 =>
  some (.ret (strA t20), h_21)
set_option maxHeartbeats 4000000 in
set_option maxRecDepth 20000 in
theorem ref03_Put_ok {call : CallF} (hc : SaysAll Try.prog call) {n : Nat} {t0 : Bytes} {h : AHeap} {rR : ARes} {hR : AHeap} (hF : ref03_Put call n t0 h = some (rR, hR)) : Says Try.prog 13 [strA t0] h rR hR := by
  unfold ref03_Put at hF
  refine sO Try.func13 fun w0 m0 => ?_
  refine wW [(0, strA t0)] ?_
  refine oG fun n1 => W.r ?_
  refine oA 2 (strA ([] : Bytes)) ?_
  refine oV [(0, strA t0)] (n1 ?_)
  refine oG fun n2 => W.r ?_
  refine oA 4 (strA t0) ?_
  refine oA 5 (.int .i64 (lenS t0)) ?_
  refine oI 6 .u64 hF fun t6 hF => ?_
  refine oCs hc 7 hF fun t7 h_4 hF => ?_
  refine oA 3 (strA t7) ?_
  refine oV [(0, strA t0), (3, strA t7)] (n2 ?_)
  refine oG fun n7 => W.r ?_
  refine oA 8 (strA t7) ?_
  refine oA 9 (strA t7) ?_
  refine oCi hc 10 hF fun t10 h_8 hF => ?_
  refine oI 11 .u64 hF fun t11 hF => ?_
  refine oCs hc 12 hF fun t12 h_12 hF => ?_
  obtain ⟨t13, e15, hF⟩ := obind_some hF
  refine WL.b (some 13) (strA t13) h_12 (add_str (P := Try.prog) (h := h_12) (t := 9) (lit := false) e15) ?_
  refine oA 14 (strA t0) ?_
  obtain ⟨t15, e16, hF⟩ := obind_some hF
  refine WL.b (some 15) (strA t15) h_12 (add_str (P := Try.prog) (h := h_12) (t := 9) (lit := false) e16) ?_
  refine oA 16 (strA t0) ?_
  refine oCi hc 17 hF fun t17 h_17 hF => ?_
  refine oI 18 .u64 hF fun t18 hF => ?_
  refine oCs hc 19 hF fun t19 h_21 hF => ?_
  obtain ⟨t20, e24, hF⟩ := obind_some hF
  refine WL.b (some 20) (strA t20) h_21 (add_str (P := Try.prog) (h := h_21) (t := 9) (lit := false) e24) ?_
  refine oA 2 (strA t20) ?_
  refine oV [(2, strA t20)] (n7 (oY ?_))
  exact lZ hF [.tmp 2] [strA t20] (rT res_nil)
noncomputable def ref03_Take (call : CallF) (_ : Nat) (t0 : Bytes) (h : AHeap) : R :=
  lett (decide ((lenS t0) < 8)) fun (t9 : Bool) =>
  ifB t9
  (
    some (.ret (.tup [strA ([] : Bytes), .int .i64 0, .int .i64 30]), h))
  (
    obind (idxS t0 0) fun t11 =>
    lett (IntKind.i64.wrap t11) fun (t12 : Int) =>
    lett (IntKind.i64.wrap (t12 * 16777216)) fun (t13 : Int) =>
    obind (idxS t0 1) fun t15 =>
    lett (IntKind.i64.wrap t15) fun (t16 : Int) =>
    lett (IntKind.i64.wrap (t16 * 65536)) fun (t17 : Int) =>
    lett (IntKind.i64.wrap (t13 + t17)) fun (t18 : Int) =>
    obind (idxS t0 2) fun t20 =>
    lett (IntKind.i64.wrap t20) fun (t21 : Int) =>
    lett (IntKind.i64.wrap (t21 * 256)) fun (t22 : Int) =>
    lett (IntKind.i64.wrap (t18 + t22)) fun (t23 : Int) =>
    obind (idxS t0 3) fun t25 =>
    lett (IntKind.i64.wrap t25) fun (t26 : Int) =>
    lett (IntKind.i64.wrap (t23 + t26)) fun (t27 : Int) =>
    lett (fun (t39 : Bool) (h_24 : AHeap) =>
      ifB t39
      (
        some (.ret (.tup [strA ([] : Bytes), .int .i64 0, .int .i64 7]), h_24))
      (
        lett (IntKind.i64.wrap (t27 + 12)) fun (t43 : Int) =>
        lett (decide ((lenS t0) < t43)) fun (t44 : Bool) =>
        ifB t44
        (
          some (.ret (.tup [strA ([] : Bytes), .int .i64 0, .int .i64 30]), h_24))
        (
          lett (IntKind.i64.wrap (8 + t27)) fun (t47 : Int) =>
          obind (sliceS t0 8 t47) fun t48 =>
          lett (IntKind.i64.wrap (t27 + 12)) fun (t53 : Int) =>
          obind (sliceS t0 0 t53) fun t54 =>
          callN (call 13 [strA t48] h_24) fun r50 h_38 =>
          obind (avStr r50) fun t50 =>
          lett (!eqS t50 t54) fun (t55 : Bool) =>
          ifB t55
          (
            some (.ret (.tup [strA ([] : Bytes), .int .i64 0, .int .i64 7]), h_38))
          (
            lett (IntKind.i64.wrap (t27 + 12)) fun (t58 : Int) =>
            some (.ret (.tup [strA t48, .int .i64 t58, .int .i64 0]), h_38))))) fun k23 =>
    lett (decide (t27 > 4096)) fun (t29 : Bool) =>
    ifB t29
    (
      k23 true h)
    (
      obind (sliceS t0 0 4) fun t32 =>
      obind (sliceS t0 4 8) fun t37 =>
      callN (call 24 [strA t32] h) fun r33 h_48 =>
      obind (avInt .u32 r33) fun t33 =>
      lett (IntKind.u64.wrap t33) fun (t34 : Int) =>
      callN (call 23 [.int .u64 t34, .int .i64 4] h_48) fun r35 h_52 =>
      obind (avStr r35) fun t35 =>
      lett (!eqS t35 t37) fun (t38 : Bool) =>
      k23 t38 h_52))
set_option maxHeartbeats 4000000 in
set_option maxRecDepth 20000 in
theorem ref03_Take_ok {call : CallF} (hc : SaysAll Try.prog call) {n : Nat} {t0 : Bytes} {h : AHeap} {rR : ARes} {hR : AHeap} (hF : ref03_Take call n t0 h = some (rR, hR)) : Says Try.prog 14 [strA t0] h rR hR := by
  unfold ref03_Take at hF
  refine sO Try.func14 fun w0 m0 => ?_
  refine wW [(0, strA t0)] ?_
  refine oG fun n1 => W.r ?_
  refine oA 2 (strA ([] : Bytes)) ?_
  refine oA 3 (.int .i64 0) ?_
  refine oA 4 (.int .i64 0) ?_
  refine oV [(0, strA t0)] (n1 ?_)
  refine oH fun n2 q2 => ?_
  refine oG fun n3 => W.r ?_
  refine oA 7 (strA t0) ?_
  refine oA 8 (.int .i64 (lenS t0)) ?_
  refine oB 9 hF fun t9 hF => ?_
  refine oV [(0, strA t0), (9, .bool t9)] (n3 ?_)
  cases t9 with
  | true =>
    refine oT hF fun hF => ?_
    refine oG fun n5 => W.r ?_
    refine oA 2 (strA ([] : Bytes)) ?_
    refine oA 3 (.int .i64 0) ?_
    refine oA 4 (.int .i64 30) ?_
    refine oV [(2, strA ([] : Bytes)), (3, .int .i64 0), (4, .int .i64 30)] (n5 (oY (q2 ?_)))
    exact lZ hF [.tmp 2, .tmp 3, .tmp 4] [strA ([] : Bytes), .int .i64 0, .int .i64 30] (rT (rT (rT res_nil)))
  | false =>
    refine oU hF fun hF => ?_
    refine oZ (n2 ?_)
    refine oG fun n6 => ?_
    refine W.draw (by kernel_rfl) (hc.ok w0) (plan := [0, 1, 2, 3, 4, 5, 6, 7, 8, 9, 10, 11, 12, 13, 14, 15, 16, 17, 18]) (by kernel_rfl) (by kernel_rfl) (by kernel_rfl) ?_
    refine WD.a 0 (some 10) (strA t0) h ?_
    obtain ⟨t11, e7, hF⟩ := obind_some hF
    refine WD.b 0 (some 11) (.int .u8 t11) h (index_str (P := Try.prog) (h := h) (t := 9) (k := .i64) (by kernel_rfl) e7) ?_
    obtain ⟨t12, e8, hF⟩ := lett_some hF
    refine WD.val (d := (some 12)) (v := .int .i64 t12) (h' := h) (by kernel_rfl) (by kernel_rfl) (val_of (AV.int .i64) e8 (by kernel_rfl)) (k := 0) (by kernel_rfl) (fun e => absurd e (by decide)) (by decide) ?_
    obtain ⟨t13, e9, hF⟩ := lett_some hF
    refine WD.val (d := (some 13)) (v := .int .i64 t13) (h' := h) (by kernel_rfl) (by kernel_rfl) (val_of (AV.int .i64) e9 (by kernel_rfl)) (k := 0) (by kernel_rfl) (fun e => absurd e (by decide)) (by decide) ?_
    refine WD.a 0 (some 14) (strA t0) h ?_
    obtain ⟨t15, e10, hF⟩ := obind_some hF
    refine WD.b 0 (some 15) (.int .u8 t15) h (index_str (P := Try.prog) (h := h) (t := 9) (k := .i64) (by kernel_rfl) e10) ?_
    obtain ⟨t16, e11, hF⟩ := lett_some hF
    refine WD.val (d := (some 16)) (v := .int .i64 t16) (h' := h) (by kernel_rfl) (by kernel_rfl) (val_of (AV.int .i64) e11 (by kernel_rfl)) (k := 0) (by kernel_rfl) (fun e => absurd e (by decide)) (by decide) ?_
    obtain ⟨t17, e12, hF⟩ := lett_some hF
    refine WD.val (d := (some 17)) (v := .int .i64 t17) (h' := h) (by kernel_rfl) (by kernel_rfl) (val_of (AV.int .i64) e12 (by kernel_rfl)) (k := 0) (by kernel_rfl) (fun e => absurd e (by decide)) (by decide) ?_
    obtain ⟨t18, e13, hF⟩ := lett_some hF
    refine WD.val (d := (some 18)) (v := .int .i64 t18) (h' := h) (by kernel_rfl) (by kernel_rfl) (val_of (AV.int .i64) e13 (by kernel_rfl)) (k := 0) (by kernel_rfl) (fun e => absurd e (by decide)) (by decide) ?_
    refine WD.a 0 (some 19) (strA t0) h ?_
    obtain ⟨t20, e14, hF⟩ := obind_some hF
    refine WD.b 0 (some 20) (.int .u8 t20) h (index_str (P := Try.prog) (h := h) (t := 9) (k := .i64) (by kernel_rfl) e14) ?_
    obtain ⟨t21, e15, hF⟩ := lett_some hF
    refine WD.val (d := (some 21)) (v := .int .i64 t21) (h' := h) (by kernel_rfl) (by kernel_rfl) (val_of (AV.int .i64) e15 (by kernel_rfl)) (k := 0) (by kernel_rfl) (fun e => absurd e (by decide)) (by decide) ?_
    obtain ⟨t22, e16, hF⟩ := lett_some hF
    refine WD.val (d := (some 22)) (v := .int .i64 t22) (h' := h) (by kernel_rfl) (by kernel_rfl) (val_of (AV.int .i64) e16 (by kernel_rfl)) (k := 0) (by kernel_rfl) (fun e => absurd e (by decide)) (by decide) ?_
    obtain ⟨t23, e17, hF⟩ := lett_some hF
    refine WD.val (d := (some 23)) (v := .int .i64 t23) (h' := h) (by kernel_rfl) (by kernel_rfl) (val_of (AV.int .i64) e17 (by kernel_rfl)) (k := 0) (by kernel_rfl) (fun e => absurd e (by decide)) (by decide) ?_
    refine WD.a 0 (some 24) (strA t0) h ?_
    obtain ⟨t25, e18, hF⟩ := obind_some hF
    refine WD.b 0 (some 25) (.int .u8 t25) h (index_str (P := Try.prog) (h := h) (t := 9) (k := .i64) (by kernel_rfl) e18) ?_
    obtain ⟨t26, e19, hF⟩ := lett_some hF
    refine WD.val (d := (some 26)) (v := .int .i64 t26) (h' := h) (by kernel_rfl) (by kernel_rfl) (val_of (AV.int .i64) e19 (by kernel_rfl)) (k := 0) (by kernel_rfl) (fun e => absurd e (by decide)) (by decide) ?_
    obtain ⟨t27, e20, hF⟩ := lett_some hF
    refine WD.val (d := (some 27)) (v := .int .i64 t27) (h' := h) (by kernel_rfl) (by kernel_rfl) (val_of (AV.int .i64) e20 (by kernel_rfl)) (k := 0) (by kernel_rfl) (fun e => absurd e (by decide)) (by decide) ?_
    refine WD.a 0 (some 5) (.int .i64 t27) h ?_
    refine WD.nil ?_
    refine gW [(0, strA t0), (5, .int .i64 t27)] (n6 ?_)
    refine oH fun n21 q21 => ?_
    refine W.s (fun K22 n22 e22 q22 p22 => ?_)
    obtain ⟨k23, e23, hF⟩ := lett_some hF
    have J23 : ∀ (t39 : Bool) (h_24 : AHeap), k23 t39 h_24 = some (rR, hR) → Go w0 m0 (Func.ntmps Try.f14) (K22 .normal) [(0, strA t0), (5, .int .i64 t27), (39, .bool t39)] [] h_24 := by
      intro t39 h_24 hF
      rw [e23] at hF
      refine n22 ?_
      cases t39 with
      | true =>
        refine oT hF fun hF => ?_
        refine oG fun n25 => W.r ?_
        refine oA 2 (strA ([] : Bytes)) ?_
        refine oA 3 (.int .i64 0) ?_
        refine oA 4 (.int .i64 7) ?_
        refine oV [(2, strA ([] : Bytes)), (3, .int .i64 0), (4, .int .i64 7)] (n25 (oY (q21 ?_)))
        exact lZ hF [.tmp 2, .tmp 3, .tmp 4] [strA ([] : Bytes), .int .i64 0, .int .i64 7] (rT (rT (rT res_nil)))
      | false =>
        refine oU hF fun hF => ?_
        refine oZ (n21 ?_)
        refine oH fun n26 q26 => ?_
        refine oG fun n27 => W.r ?_
        refine oA 40 (strA t0) ?_
        refine oA 41 (.int .i64 (lenS t0)) ?_
        refine oA 42 (.int .i64 t27) ?_
        refine oI 43 .i64 hF fun t43 hF => ?_
        refine oB 44 hF fun t44 hF => ?_
        refine oV [(0, strA t0), (5, .int .i64 t27), (44, .bool t44)] (n27 ?_)
        cases t44 with
        | true =>
          refine oT hF fun hF => ?_
          refine oG fun n30 => W.r ?_
          refine oA 2 (strA ([] : Bytes)) ?_
          refine oA 3 (.int .i64 0) ?_
          refine oA 4 (.int .i64 30) ?_
          refine oV [(2, strA ([] : Bytes)), (3, .int .i64 0), (4, .int .i64 30)] (n30 (oY (q26 ?_)))
          exact lZ hF [.tmp 2, .tmp 3, .tmp 4] [strA ([] : Bytes), .int .i64 0, .int .i64 30] (rT (rT (rT res_nil)))
        | false =>
          refine oU hF fun hF => ?_
          refine oZ (n26 ?_)
          refine oG fun n31 => W.r ?_
          refine oA 45 (strA t0) ?_
          refine oA 46 (.int .i64 t27) ?_
          refine oI 47 .i64 hF fun t47 hF => ?_
          obtain ⟨t48, e33, hF⟩ := obind_some hF
          refine WL.b (some 48) (strA t48) h_24 (slice_str (P := Try.prog) (h := h_24) (t := 9) (A := (some (.int .i64 8))) (B := (some (.int .i64 t47))) (by kernel_rfl) (.inl ⟨_, rfl⟩) (.inl ⟨_, rfl⟩) e33) ?_
          refine oA 6 (strA t48) ?_
          refine oV [(0, strA t0), (5, .int .i64 t27), (6, strA t48)] (n31 ?_)
          refine oH fun n34 q34 => ?_
          refine oG fun n35 => ?_
          refine W.draw (by kernel_rfl) (hc.ok w0) (plan := [0, 2, 3, 4, 5, 1, 6]) (by kernel_rfl) (by kernel_rfl) (by kernel_rfl) ?_
          refine WD.a 0 (some 49) (strA t48) h_24 ?_
          refine WD.a 0 (some 51) (strA t0) h_24 ?_
          refine WD.a 0 (some 52) (.int .i64 t27) h_24 ?_
          obtain ⟨t53, e36, hF⟩ := lett_some hF
          refine WD.val (d := (some 53)) (v := .int .i64 t53) (h' := h_24) (by kernel_rfl) (by kernel_rfl) (val_of (AV.int .i64) e36 (by kernel_rfl)) (k := 0) (by kernel_rfl) (fun e => absurd e (by decide)) (by decide) ?_
          obtain ⟨t54, e37, hF⟩ := obind_some hF
          refine WD.b 0 (some 54) (strA t54) h_24 (slice_str (P := Try.prog) (h := h_24) (t := 9) (A := none) (B := (some (.int .i64 t53))) (by kernel_rfl) (.inr ⟨rfl, rfl⟩) (.inl ⟨_, rfl⟩) e37) ?_
          replace hF := callN_some hF; obtain ⟨r50, h_38, e39, hF⟩ := hF
          replace hF := obind_some hF; obtain ⟨t50, c40, hF⟩ := hF
          have c40 := avStr_some c40
          subst c40
          refine WD.call (d := (some 50)) (by kernel_rfl) (by kernel_rfl) (by kernel_rfl) e39 (k := 2) (by kernel_rfl) (fun _ => (by kernel_rfl)) (by decide) ?_
          obtain ⟨t55, e41, hF⟩ := lett_some hF
          refine WD.val (d := (some 55)) (v := .bool t55) (h' := h_38) (by kernel_rfl) (by kernel_rfl) (val_of AV.bool e41 (by kernel_rfl)) (k := 0) (by kernel_rfl) (fun e => absurd e (by decide)) (by decide) ?_
          refine WD.nil ?_
          refine gW [(5, .int .i64 t27), (6, strA t48), (55, .bool t55)] (n35 ?_)
          cases t55 with
          | true =>
            refine oT hF fun hF => ?_
            refine oG fun n42 => W.r ?_
            refine oA 2 (strA ([] : Bytes)) ?_
            refine oA 3 (.int .i64 0) ?_
            refine oA 4 (.int .i64 7) ?_
            refine oV [(2, strA ([] : Bytes)), (3, .int .i64 0), (4, .int .i64 7)] (n42 (oY (q34 ?_)))
            exact lZ hF [.tmp 2, .tmp 3, .tmp 4] [strA ([] : Bytes), .int .i64 0, .int .i64 7] (rT (rT (rT res_nil)))
          | false =>
            refine oU hF fun hF => ?_
            refine oZ (n34 ?_)
            refine oG fun n43 => W.r ?_
            refine oA 56 (strA t48) ?_
            refine oA 57 (.int .i64 t27) ?_
            refine oI 58 .i64 hF fun t58 hF => ?_
            refine oA 2 (strA t48) ?_
            refine oA 3 (.int .i64 t58) ?_
            refine oA 4 (.int .i64 0) ?_
            refine oV [(2, strA t48), (3, .int .i64 t58), (4, .int .i64 0)] (n43 (oY ?_))
            exact lZ hF [.tmp 2, .tmp 3, .tmp 4] [strA t48, .int .i64 t58, .int .i64 0] (rT (rT (rT res_nil)))
    refine W.draw (by kernel_rfl) (hc.ok w0) (plan := [0, 1, 2, 3, 4, 8, 9, 5, 6, 7, 10, 11]) (by kernel_rfl) (by kernel_rfl) (by kernel_rfl) ?_
    refine WD.a 0 (some 28) (.int .i64 t27) h ?_
    obtain ⟨t29, e45, hF⟩ := lett_some hF
    refine WD.val (d := (some 29)) (v := .bool t29) (h' := h) (by kernel_rfl) (by kernel_rfl) (val_of AV.bool e45 (by kernel_rfl)) (k := 0) (by kernel_rfl) (fun e => absurd e (by decide)) (by decide) ?_
    refine WD.a 0 (some 30) (.bool t29) h ?_
    cases t29 with
    | true =>
      replace hF := ifB_t hF
      refine oD 0 (some 31) ?_
      refine oD 0 (some 32) ?_
      refine oD 0 (some 36) ?_
      refine oD 0 (some 37) ?_
      refine WD.not (d := (some 33)) (by kernel_rfl) (by kernel_rfl) (k := 2) (by kernel_rfl) (fun _ => (by kernel_rfl)) (by decide) ?_
      refine oD 0 (some 34) ?_
      refine WD.not (d := (some 35)) (by kernel_rfl) (by kernel_rfl) (k := 2) (by kernel_rfl) (fun _ => (by kernel_rfl)) (by decide) ?_
      refine oD 0 (some 38) ?_
      refine WD.a 0 (some 39) (.bool true) h ?_
      refine WD.nil ?_
      exact gW _ (J23 _ _ hF)
    | false =>
      replace hF := ifB_f hF
      refine WD.a 0 (some 31) (strA t0) h ?_
      obtain ⟨t32, e46, hF⟩ := obind_some hF
      refine WD.b 0 (some 32) (strA t32) h (slice_str (P := Try.prog) (h := h) (t := 9) (A := none) (B := (some (.int .i64 4))) (by kernel_rfl) (.inr ⟨rfl, rfl⟩) (.inl ⟨_, rfl⟩) e46) ?_
      refine WD.a 0 (some 36) (strA t0) h ?_
      obtain ⟨t37, e47, hF⟩ := obind_some hF
      refine WD.b 0 (some 37) (strA t37) h (slice_str (P := Try.prog) (h := h) (t := 9) (A := (some (.int .i64 4))) (B := (some (.int .i64 8))) (by kernel_rfl) (.inl ⟨_, rfl⟩) (.inl ⟨_, rfl⟩) e47) ?_
      replace hF := callN_some hF; obtain ⟨r33, h_48, e49, hF⟩ := hF
      replace hF := obind_some hF; obtain ⟨t33, c50, hF⟩ := hF
      have c50 := avInt_some c50
      subst c50
      refine WD.call (d := (some 33)) (by kernel_rfl) (by kernel_rfl) (by kernel_rfl) e49 (k := 2) (by kernel_rfl) (fun _ => (by kernel_rfl)) (by decide) ?_
      obtain ⟨t34, e51, hF⟩ := lett_some hF
      refine WD.val (d := (some 34)) (v := .int .u64 t34) (h' := h_48) (by kernel_rfl) (by kernel_rfl) (val_of (AV.int .u64) e51 (by kernel_rfl)) (k := 0) (by kernel_rfl) (fun e => absurd e (by decide)) (by decide) ?_
      replace hF := callN_some hF; obtain ⟨r35, h_52, e53, hF⟩ := hF
      replace hF := obind_some hF; obtain ⟨t35, c54, hF⟩ := hF
      have c54 := avStr_some c54
      subst c54
      refine WD.call (d := (some 35)) (by kernel_rfl) (by kernel_rfl) (by kernel_rfl) e53 (k := 2) (by kernel_rfl) (fun _ => (by kernel_rfl)) (by decide) ?_
      obtain ⟨t38, e55, hF⟩ := lett_some hF
      refine WD.val (d := (some 38)) (v := .bool t38) (h' := h_52) (by kernel_rfl) (by kernel_rfl) (val_of AV.bool e55 (by kernel_rfl)) (k := 0) (by kernel_rfl) (fun e => absurd e (by decide)) (by decide) ?_
      refine WD.a 0 (some 39) (.bool t38) h_52 ?_
      refine WD.nil ?_
      exact gW _ (J23 _ _ hF)
noncomputable def ref03_Scan_L0b (call : CallF) (t0 : Bytes) (self : AV → Int → AHeap → R) (t4 : AV) (t5 : Int) (h_6 : AHeap) : R :=
  obind (sliceS t0 t5 (lenS t0)) fun t12 =>
  callN (call 14 [strA t12] h_6) fun r13 h_10 =>
  obind (extT 0 r13) fun v14 =>
  obind (avStr v14) fun t14 =>
  obind (extT 1 r13) fun v15 =>
  obind (avInt .i64 v15) fun t15 =>
  obind (extT 2 r13) fun v16 =>
  obind (avInt .i64 v16) fun t16 =>
  lett ((t16 : Int) != 0) fun (t18 : Bool) =>
  ifB t18
  (
    some (.ret (.tup [t4, .int .i64 t5]), h_10))
  (
    outK (bldSl Try.prog h_10 28 1 [(0, strA t14)]) fun v23 h_23 =>
    outK (opAppend Try.prog h_23 28 28 t4 v23) fun v24 h_25 =>
    lett (IntKind.i64.wrap (t5 + t15)) fun (t27 : Int) =>
    self v24 t27 h_25)
noncomputable def ref03_Scan_L0 (call : CallF) (t0 : Bytes) : Nat → AV → Int → AHeap → R := iterR (fun _ _ _ => none) (ref03_Scan_L0b call t0)
theorem ref03_Scan_L0_s (call : CallF) (t0 : Bytes) (m : Nat) : ref03_Scan_L0 call t0 (m + 1) = ref03_Scan_L0b call t0 (ref03_Scan_L0 call t0 m) := rfl
noncomputable def ref03_Scan (call : CallF) (n : Nat) (t0 : Bytes) (h : AHeap) : R :=
  ref03_Scan_L0 call t0 n AV.nsl 0 h
set_option maxHeartbeats 4000000 in
set_option maxRecDepth 20000 in
theorem ref03_Scan_ok {call : CallF} (hc : SaysAll Try.prog call) {n : Nat} {t0 : Bytes} {h : AHeap} {rR : ARes} {hR : AHeap} (hF : ref03_Scan call n t0 h = some (rR, hR)) : Says Try.prog 15 [strA t0] h rR hR := by
  unfold ref03_Scan at hF
  refine sO Try.func15 fun w0 m0 => ?_
  refine wW [(0, strA t0)] ?_
  refine oG fun n1 => W.r ?_
  refine oA 2 AV.nsl ?_
  refine oA 3 (.int .i64 0) ?_
  refine oV [(0, strA t0)] (n1 ?_)
  refine oG fun n2 => W.r ?_
  refine oA 4 AV.nsl ?_
  refine oV [(0, strA t0), (4, AV.nsl)] (n2 ?_)
  refine oG fun n3 => W.r ?_
  refine oA 5 (.int .i64 0) ?_
  refine oV [(0, strA t0), (4, AV.nsl), (5, .int .i64 0)] (n3 ?_)
  refine W.blockK (by kernel_rfl) (fun K4 n4 s4 o4 q4 p4 => ?_)
  refine W.loopK (by kernel_rfl) (fun I5 K5 b5 n5 e5 q5 p5 => ?_)
  have L5 : ∀ (m : Nat) (t4 : AV) (t5 : Int) (h_6 : AHeap), ref03_Scan_L0 call t0 m t4 t5 h_6 = some (rR, hR) → Go w0 m0 (Func.ntmps Try.f15) I5 [(0, strA t0), (4, t4), (5, .int .i64 t5)] [] h_6 := by
    intro m
    induction m with
    | zero => intro t4 t5 h_6 hF; cases hF
    | succ m ih5 =>
      intro t4 t5 h_6 hF
      rw [ref03_Scan_L0_s] at hF; unfold ref03_Scan_L0b at hF
      refine b5 ?_
      refine W.blockK (by kernel_rfl) (fun K7 n7 s7 o7 q7 p7 => ?_)
      refine oG fun n8 => W.r ?_
      refine oA 10 (strA t0) ?_
      refine oA 11 (.int .i64 t5) ?_
      obtain ⟨t12, e9, hF⟩ := obind_some hF
      refine WL.b (some 12) (strA t12) h_6 (slice_str (P := Try.prog) (h := h_6) (t := 9) (A := (some (.int .i64 t5))) (B := none) (by kernel_rfl) (.inl ⟨_, rfl⟩) (.inr ⟨rfl, rfl⟩) e9) ?_
      refine oC hc (some 13) hF fun r13 h_10 hF => ?_
      refine oA 9 r13 ?_
      refine oEs 14 hF fun t14 hF => ?_
      refine oEi 15 hF fun t15 hF => ?_
      refine oEi 16 hF fun t16 hF => ?_
      refine oA 6 (strA t14) ?_
      refine oA 7 (.int .i64 t15) ?_
      refine oA 8 (.int .i64 t16) ?_
      refine oV [(0, strA t0), (4, t4), (5, .int .i64 t5), (6, strA t14), (7, .int .i64 t15), (8, .int .i64 t16)] (n8 ?_)
      refine oH fun n18 q18 => ?_
      refine oG fun n19 => W.r ?_
      refine oA 17 (.int .i64 t16) ?_
      refine oB 18 hF fun t18 hF => ?_
      refine oV [(0, strA t0), (4, t4), (5, .int .i64 t5), (6, strA t14), (7, .int .i64 t15), (18, .bool t18)] (n19 ?_)
      cases t18 with
      | true =>
        refine oT hF fun hF => ?_
        refine oG fun n21 => W.r ?_
        refine oA 19 t4 ?_
        refine oA 20 (.int .i64 t5) ?_
        refine oA 2 t4 ?_
        refine oA 3 (.int .i64 t5) ?_
        refine oV [(2, t4), (3, .int .i64 t5)] (n21 (oY (q18 (q7 (q5 (q4 ?_))))))
        exact lZ hF [.tmp 2, .tmp 3] [t4, .int .i64 t5] (rT (rT res_nil))
      | false =>
        refine oU hF fun hF => ?_
        refine oZ (n18 ?_)
        refine oG fun n22 => W.r ?_
        refine oA 21 t4 ?_
        refine oA 22 (strA t14) ?_
        refine oK 23 hF fun v23 h_23 hF => ?_
        refine oK 24 hF fun v24 h_25 hF => ?_
        refine oA 4 v24 ?_
        refine oV [(0, strA t0), (4, v24), (5, .int .i64 t5), (7, .int .i64 t15)] (n22 (W.r ?_))
        refine oA 25 (.int .i64 t5) ?_
        refine oA 26 (.int .i64 t15) ?_
        refine oI 27 .i64 hF fun t27 hF => ?_
        refine oA 5 (.int .i64 t27) ?_
        refine oV [(0, strA t0), (4, v24), (5, .int .i64 t27)] (n7 (n5 ?_))
        exact gW _ (ih5 _ _ _ hF)
  exact gW _ (L5 _ _ _ _ hF)
noncomputable def slices_Equal___string_string__L0b (t0 : AV) (t1 : AV) (t12 : Int) (k12 : AHeap → R) (self : Int → AHeap → R) (t13 : Int) (h_16 : AHeap) : R :=
  lett (decide (t13 < t12)) fun (t14 : Bool) =>
  ifB t14
  (
    obind (idxP 1 t0 t13) fun t18 =>
    obind (ldCell h_16 t18) fun v19 =>
    obind (avStr v19) fun t19 =>
    obind (idxP 1 t1 t13) fun t22 =>
    obind (ldCell h_16 t22) fun v23 =>
    obind (avStr v23) fun t23 =>
    lett (!eqS t19 t23) fun (t24 : Bool) =>
    ifB t24
    (
      some (.ret (.bool false), h_16))
    (
      lett (IntKind.i64.wrap (t13 + 1)) fun (t25 : Int) =>
      self t25 h_16))
  (
    k12 h_16)
noncomputable def slices_Equal___string_string__L0 (t0 : AV) (t1 : AV) (t12 : Int) (k12 : AHeap → R) : Nat → Int → AHeap → R := iterR (fun _ _ => none) (slices_Equal___string_string__L0b t0 t1 t12 k12)
theorem slices_Equal___string_string__L0_s (t0 : AV) (t1 : AV) (t12 : Int) (k12 : AHeap → R) (m : Nat) : slices_Equal___string_string__L0 t0 t1 t12 k12 (m + 1) = slices_Equal___string_string__L0b t0 t1 t12 k12 (slices_Equal___string_string__L0 t0 t1 t12 k12 m) := rfl
noncomputable def slices_Equal___string_string_ (_ : CallF) (n : Nat) (t0 : AV) (t1 : AV) (h : AHeap) : R :=
  obind (lenL t0) fun t7 =>
  obind (lenL t1) fun t9 =>
  lett ((t7 : Int) != t9) fun (t10 : Bool) =>
  ifB t10
  (
    some (.ret (.bool false), h))
  (
    obind (lenL t0) fun t12 =>
    lett (fun  (h_13 : AHeap) =>
      some (.ret (.bool true), h_13)) fun k12 =>
    slices_Equal___string_string__L0 t0 t1 t12 k12 n 0 h)
set_option maxHeartbeats 4000000 in
set_option maxRecDepth 20000 in
theorem slices_Equal___string_string__ok {call : CallF} (hc : SaysAll Try.prog call) {n : Nat} {t0 : AV} {t1 : AV} {h : AHeap} {rR : ARes} {hR : AHeap} (hF : slices_Equal___string_string_ call n t0 t1 h = some (rR, hR)) : Says Try.prog 12 [t0, t1] h rR hR := by
  unfold slices_Equal___string_string_ at hF
  refine sO Try.func12 fun w0 m0 => ?_
  refine wW [(0, t0), (1, t1)] ?_
  refine oG fun n1 => W.r ?_
  refine oA 4 (.bool false) ?_
  refine oV [(0, t0), (1, t1)] (n1 ?_)
  refine oH fun n2 q2 => ?_
  refine oG fun n3 => W.r ?_
  refine oA 6 t0 ?_
  refine oM 7 28 9 hF fun t7 hF => ?_
  refine oA 8 t1 ?_
  refine oM 9 28 9 hF fun t9 hF => ?_
  refine oB 10 hF fun t10 hF => ?_
  refine oV [(0, t0), (1, t1), (10, .bool t10)] (n3 ?_)
  cases t10 with
  | true =>
    refine oT hF fun hF => ?_
    refine oG fun n7 => W.r ?_
    refine oA 4 (.bool false) ?_
    refine oV [(4, .bool false)] (n7 (oY (q2 ?_)))
    exact lZ hF [.tmp 4] [.bool false] (rT res_nil)
  | false =>
    refine oU hF fun hF => ?_
    refine oZ (n2 ?_)
    refine W.s (fun K8 n8 e8 q8 p8 => ?_)
    refine oG fun n9 => W.r ?_
    refine oA 11 t0 ?_
    refine oM 12 28 9 hF fun t12 hF => ?_
    refine oA 13 (.int .i64 0) ?_
    refine oV [(0, t0), (1, t1), (12, .int .i64 t12), (13, .int .i64 0)] (n9 ?_)
    obtain ⟨k12, e12, hF⟩ := lett_some hF
    have J12 : ∀  (h_13 : AHeap), k12 h_13 = some (rR, hR) → Go w0 m0 (Func.ntmps Try.f12) (K8 .normal) [] [] h_13 := by
      intro  h_13 hF
      rw [e12] at hF
      refine n8 ?_
      refine oG fun n14 => W.r ?_
      refine oA 4 (.bool true) ?_
      refine oV [(4, .bool true)] (n14 (oY ?_))
      exact lZ hF [.tmp 4] [.bool true] (rT res_nil)
    refine W.blockK (by kernel_rfl) (fun K11 n11 s11 o11 q11 p11 => ?_)
    refine W.loopK (by kernel_rfl) (fun I15 K15 b15 n15 e15 q15 p15 => ?_)
    have L15 : ∀ (m : Nat) (t13 : Int) (h_16 : AHeap), slices_Equal___string_string__L0 t0 t1 t12 k12 m t13 h_16 = some (rR, hR) → Go w0 m0 (Func.ntmps Try.f12) I15 [(0, t0), (1, t1), (12, .int .i64 t12), (13, .int .i64 t13)] [] h_16 := by
      intro m
      induction m with
      | zero => intro t13 h_16 hF; cases hF
      | succ m ih15 =>
        intro t13 h_16 hF
        rw [slices_Equal___string_string__L0_s] at hF; unfold slices_Equal___string_string__L0b at hF
        refine b15 ?_
        refine oG fun n17 => W.r ?_
        refine oB 14 hF fun t14 hF => ?_
        refine oV [(0, t0), (1, t1), (12, .int .i64 t12), (13, .int .i64 t13), (14, .bool t14)] (n17 ?_)
        refine W.s (fun K19 n19 e19 q19 p19 => ?_)
        cases t14 with
        | true =>
          refine oT hF fun hF => ?_
          refine oZ (n19 ?_)
          refine oH fun n20 q20 => ?_
          refine W.blockK (by kernel_rfl) (fun K21 n21 s21 o21 q21 p21 => ?_)
          refine oG fun n22 => W.r ?_
          refine oA 15 (.int .i64 t13) ?_
          refine oA 5 (.int .i64 t13) ?_
          refine oV [(0, t0), (1, t1), (5, .int .i64 t13), (12, .int .i64 t12), (13, .int .i64 t13)] (n22 ?_)
          refine oG fun n23 => ?_
          refine W.draw (by kernel_rfl) (hc.ok w0) (plan := [0, 1, 2, 3, 4, 5, 6, 7, 8]) (by kernel_rfl) (by kernel_rfl) (by kernel_rfl) ?_
          refine WD.a 0 (some 16) t0 h_16 ?_
          refine WD.a 0 (some 17) (.int .i64 t13) h_16 ?_
          obtain ⟨t18, e24, hF⟩ := obind_some hF
          refine WD.b 0 (some 18) t18 h_16 (index_row (P := Try.prog) (h := h_16) (t := 28) (e' := 9) (k := .i64) (by kernel_rfl) (by kernel_rfl) (by kernel_rfl) e24) ?_
          replace hF := obind_some hF; obtain ⟨v19, e25, hF⟩ := hF
          replace hF := obind_some hF; obtain ⟨t19, c26, hF⟩ := hF
          have c26 := avStr_some c26
          subst c26
          refine WD.b 1 (some 19) (strA t19) h_16 (load_cell (P := Try.prog) (h := h_16) (t := 9) (by kernel_rfl) e25) ?_
          refine WD.a 0 (some 20) t1 h_16 ?_
          refine WD.a 0 (some 21) (.int .i64 t13) h_16 ?_
          obtain ⟨t22, e27, hF⟩ := obind_some hF
          refine WD.b 0 (some 22) t22 h_16 (index_row (P := Try.prog) (h := h_16) (t := 28) (e' := 9) (k := .i64) (by kernel_rfl) (by kernel_rfl) (by kernel_rfl) e27) ?_
          replace hF := obind_some hF; obtain ⟨v23, e28, hF⟩ := hF
          replace hF := obind_some hF; obtain ⟨t23, c29, hF⟩ := hF
          have c29 := avStr_some c29
          subst c29
          refine WD.b 1 (some 23) (strA t23) h_16 (load_cell (P := Try.prog) (h := h_16) (t := 9) (by kernel_rfl) e28) ?_
          obtain ⟨t24, e30, hF⟩ := lett_some hF
          refine WD.val (d := (some 24)) (v := .bool t24) (h' := h_16) (by kernel_rfl) (by kernel_rfl) (val_of AV.bool e30 (by kernel_rfl)) (k := 0) (by kernel_rfl) (fun e => absurd e (by decide)) (by decide) ?_
          refine WD.nil ?_
          refine gW [(0, t0), (1, t1), (12, .int .i64 t12), (13, .int .i64 t13), (24, .bool t24)] (n23 ?_)
          cases t24 with
          | true =>
            refine oT hF fun hF => ?_
            refine oG fun n31 => W.r ?_
            refine oA 4 (.bool false) ?_
            refine oV [(4, .bool false)] (n31 (oY (q21 (q20 (q15 (q11 (q8 ?_)))))))
            exact lZ hF [.tmp 4] [.bool false] (rT res_nil)
          | false =>
            refine oU hF fun hF => ?_
            refine oZ (n21 (n20 (W.r ?_)))
            refine oI 25 .i64 hF fun t25 hF => ?_
            refine oA 13 (.int .i64 t25) ?_
            refine oV [(0, t0), (1, t1), (12, .int .i64 t12), (13, .int .i64 t25)] (n15 ?_)
            exact gW _ (ih15 _ _ hF)
        | false =>
          refine oU hF fun hF => ?_
          refine W.exit (by kernel_rfl) ?_
          refine e19 (e15 ?_)
          refine s11 (by kernel_rfl) ?_
          exact gW _ (J12 _ hF)
    exact gW _ (L15 _ _ _ hF)
noncomputable def law03_works (call : CallF) (_ : Nat)  (h : AHeap) : R :=
  callN (call 9 [strA ([97, 98] : Bytes)] h) fun r8 h_3 =>
  obind (extT 0 r8) fun v9 =>
  obind (avStr v9) fun t9 =>
  obind (extT 1 r8) fun v10 =>
  obind (avInt .i64 v10) fun t10 =>
  obind (addS t9 ([120] : Bytes)) fun t13 =>
  callN (call 10 [strA t13] h_3) fun r14 h_11 =>
  obind (extT 0 r14) fun v15 =>
  obind (avStr v15) fun t15 =>
  obind (extT 1 r14) fun v16 =>
  obind (avInt .i64 v16) fun t16 =>
  obind (extT 2 r14) fun v17 =>
  obind (avInt .i64 v17) fun t17 =>
  callN (call 16 [strA t9] h_11) fun r19 h_20 =>
  lett ((t10 : Int) == 0) fun (t21 : Bool) =>
  lett (fun (t26 : Bool) (h_24 : AHeap) =>
    lett (fun (t30 : Bool) (h_27 : AHeap) =>
      lett (fun (t34 : Bool) (h_30 : AHeap) =>
        lett (fun (t38 : Bool) (h_33 : AHeap) =>
          lett (fun (t42 : Bool) (h_36 : AHeap) =>
            some (.ret (.bool t42), h_36)) fun j42 =>
          ifB t38
          (
            outK (opBin Try.prog h_33 .neq 38 true (some r19) (some AV.nfn)) fun v41 h_39 =>
            obind (avBool v41) fun t41 =>
            j42 t41 h_39)
          (
            j42 false h_33)) fun j38 =>
        ifB t34
        (
          lett ((t17 : Int) == 0) fun (t37 : Bool) =>
          j38 t37 h_30)
        (
          j38 false h_30)) fun j34 =>
      ifB t30
      (
        lett ((t16 : Int) == 14) fun (t33 : Bool) =>
        j34 t33 h_27)
      (
        j34 false h_27)) fun j30 =>
    ifB t26
    (
      lett (eqS t15 ([97, 98] : Bytes)) fun (t29 : Bool) =>
      j30 t29 h_24)
    (
      j30 false h_24)) fun j26 =>
  ifB t21
  (
    lett (((lenS t9) : Int) == 14) fun (t25 : Bool) =>
    j26 t25 h_20)
  (
    j26 false h_20)
set_option maxHeartbeats 4000000 in
set_option maxRecDepth 20000 in
theorem law03_works_ok {call : CallF} (hc : SaysAll Try.prog call) {n : Nat}  {h : AHeap} {rR : ARes} {hR : AHeap} (hF : law03_works call n  h = some (rR, hR)) : Says Try.prog 8 [] h rR hR := by
  unfold law03_works at hF
  refine sO Try.func8 fun w0 m0 => ?_
  refine wW [] ?_
  refine oG fun n1 => W.r ?_
  refine oA 0 (.bool false) ?_
  refine oV [] (n1 ?_)
  refine oG fun n2 => W.r ?_
  refine oC hc (some 8) hF fun r8 h_3 hF => ?_
  refine oA 7 r8 ?_
  refine oEs 9 hF fun t9 hF => ?_
  refine oEi 10 hF fun t10 hF => ?_
  refine oA 1 (strA t9) ?_
  refine oA 2 (.int .i64 t10) ?_
  refine oV [(1, strA t9), (2, .int .i64 t10)] (n2 ?_)
  refine oG fun n9 => W.r ?_
  refine oA 12 (strA t9) ?_
  obtain ⟨t13, e10, hF⟩ := obind_some hF
  refine WL.b (some 13) (strA t13) h_3 (add_str (P := Try.prog) (h := h_3) (t := 9) (lit := true) e10) ?_
  refine oC hc (some 14) hF fun r14 h_11 hF => ?_
  refine oA 11 r14 ?_
  refine oEs 15 hF fun t15 hF => ?_
  refine oEi 16 hF fun t16 hF => ?_
  refine oEi 17 hF fun t17 hF => ?_
  refine oA 3 (strA t15) ?_
  refine oA 4 (.int .i64 t16) ?_
  refine oA 5 (.int .i64 t17) ?_
  refine oV [(1, strA t9), (2, .int .i64 t10), (3, strA t15), (4, .int .i64 t16), (5, .int .i64 t17)] (n9 ?_)
  refine oG fun n19 => W.r ?_
  refine oA 18 (strA t9) ?_
  refine oC hc (some 19) hF fun r19 h_20 hF => ?_
  refine oA 6 r19 ?_
  refine oV [(1, strA t9), (2, .int .i64 t10), (3, strA t15), (4, .int .i64 t16), (5, .int .i64 t17), (6, r19)] (n19 ?_)
  refine W.s (fun K22 n22 e22 q22 p22 => ?_)
  refine W.r ?_
  refine oA 20 (.int .i64 t10) ?_
  refine oB 21 hF fun t21 hF => ?_
  refine oA 22 (.bool t21) ?_
  obtain ⟨j26, e25, hF⟩ := lett_some hF
  have J26 : ∀ (t26 : Bool) (h_24 : AHeap), j26 t26 h_24 = some (rR, hR) → WL Try.prog w0 m0 (Func.ntmps Try.f8) (Code.ops (Code.p1 (Code.p2 (Code.p2 (Code.p2 (Code.p2 (codeOf Try.f8))))))) 7 K22 [(3, strA t15), (4, .int .i64 t16), (5, .int .i64 t17), (6, r19), (26, .bool t26)] [] h_24 := by
    intro t26 h_24 hF
    rw [e25] at hF
    refine oA 27 (.bool t26) ?_
    obtain ⟨j30, e28, hF⟩ := lett_some hF
    have J29 : ∀ (t30 : Bool) (h_27 : AHeap), j30 t30 h_27 = some (rR, hR) → WL Try.prog w0 m0 (Func.ntmps Try.f8) (Code.ops (Code.p1 (Code.p2 (Code.p2 (Code.p2 (Code.p2 (codeOf Try.f8))))))) 11 K22 [(4, .int .i64 t16), (5, .int .i64 t17), (6, r19), (30, .bool t30)] [] h_27 := by
      intro t30 h_27 hF
      rw [e28] at hF
      refine oA 31 (.bool t30) ?_
      obtain ⟨j34, e31, hF⟩ := lett_some hF
      have J32 : ∀ (t34 : Bool) (h_30 : AHeap), j34 t34 h_30 = some (rR, hR) → WL Try.prog w0 m0 (Func.ntmps Try.f8) (Code.ops (Code.p1 (Code.p2 (Code.p2 (Code.p2 (Code.p2 (codeOf Try.f8))))))) 15 K22 [(5, .int .i64 t17), (6, r19), (34, .bool t34)] [] h_30 := by
        intro t34 h_30 hF
        rw [e31] at hF
        refine oA 35 (.bool t34) ?_
        obtain ⟨j38, e34, hF⟩ := lett_some hF
        have J35 : ∀ (t38 : Bool) (h_33 : AHeap), j38 t38 h_33 = some (rR, hR) → WL Try.prog w0 m0 (Func.ntmps Try.f8) (Code.ops (Code.p1 (Code.p2 (Code.p2 (Code.p2 (Code.p2 (codeOf Try.f8))))))) 19 K22 [(6, r19), (38, .bool t38)] [] h_33 := by
          intro t38 h_33 hF
          rw [e34] at hF
          refine oA 39 (.bool t38) ?_
          obtain ⟨j42, e37, hF⟩ := lett_some hF
          have J38 : ∀ (t42 : Bool) (h_36 : AHeap), j42 t42 h_36 = some (rR, hR) → WL Try.prog w0 m0 (Func.ntmps Try.f8) (Code.ops (Code.p1 (Code.p2 (Code.p2 (Code.p2 (Code.p2 (codeOf Try.f8))))))) 23 K22 [(42, .bool t42)] [] h_36 := by
            intro t42 h_36 hF
            rw [e37] at hF
            refine oA 0 (.bool t42) ?_
            refine oV [(0, .bool t42)] (n22 (oY ?_))
            exact lZ hF [.tmp 0] [.bool t42] (rT res_nil)
          cases t38 with
          | true =>
            replace hF := ifB_t hF
            refine oA 40 r19 ?_
            replace hF := outK_some hF; obtain ⟨v41, h_39, e40, hF⟩ := hF
            replace hF := obind_some hF; obtain ⟨t41, c41, hF⟩ := hF
            have c41 := avBool_some c41
            subst c41
            refine WL.b (some 41) (.bool t41) h_39 e40 ?_
            refine oA 42 (.bool t41) ?_
            exact lW _ (J38 _ _ hF)
          | false =>
            replace hF := ifB_f hF
            refine WL.o (some 40) ?_
            refine WL.o (some 41) ?_
            refine oA 42 (.bool false) ?_
            exact lW _ (J38 _ _ hF)
        cases t34 with
        | true =>
          replace hF := ifB_t hF
          refine oA 36 (.int .i64 t17) ?_
          refine oB 37 hF fun t37 hF => ?_
          refine oA 38 (.bool t37) ?_
          exact lW _ (J35 _ _ hF)
        | false =>
          replace hF := ifB_f hF
          refine WL.o (some 36) ?_
          refine WL.o (some 37) ?_
          refine oA 38 (.bool false) ?_
          exact lW _ (J35 _ _ hF)
      cases t30 with
      | true =>
        replace hF := ifB_t hF
        refine oA 32 (.int .i64 t16) ?_
        refine oB 33 hF fun t33 hF => ?_
        refine oA 34 (.bool t33) ?_
        exact lW _ (J32 _ _ hF)
      | false =>
        replace hF := ifB_f hF
        refine WL.o (some 32) ?_
        refine WL.o (some 33) ?_
        refine oA 34 (.bool false) ?_
        exact lW _ (J32 _ _ hF)
    cases t26 with
    | true =>
      replace hF := ifB_t hF
      refine oA 28 (strA t15) ?_
      refine oB 29 hF fun t29 hF => ?_
      refine oA 30 (.bool t29) ?_
      exact lW _ (J29 _ _ hF)
    | false =>
      replace hF := ifB_f hF
      refine WL.o (some 28) ?_
      refine WL.o (some 29) ?_
      refine oA 30 (.bool false) ?_
      exact lW _ (J29 _ _ hF)
  cases t21 with
  | true =>
    replace hF := ifB_t hF
    refine oA 23 (strA t9) ?_
    refine oA 24 (.int .i64 (lenS t9)) ?_
    refine oB 25 hF fun t25 hF => ?_
    refine oA 26 (.bool t25) ?_
    exact lW _ (J26 _ _ hF)
  | false =>
    replace hF := ifB_f hF
    refine WL.o (some 23) ?_
    refine WL.o (some 24) ?_
    refine WL.o (some 25) ?_
    refine oA 26 (.bool false) ?_
    exact lW _ (J26 _ _ hF)
end Go.Proofs.Ytikaeeaepnflnaa
